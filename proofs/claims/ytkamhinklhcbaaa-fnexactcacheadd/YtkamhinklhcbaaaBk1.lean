/- What the law's szBlock, toBlock, eqBlock, markBlock, heldBlock do. -/
import Derived.Test.YtkamhinklhcbaaaBk0
import Derived.Test.YtkamhinklhcbaaaRwO
namespace Go.Proofs.Ytkamhinklhcbaaa
open Go.RowKit
set_option linter.unusedVariables false

set_option maxHeartbeats 400000 in
theorem szInsS_any (a : Option Addr) (n c : Nat) (w : World) (hn : n ≤ maxLen) :
    Calls Try.prog 70 #[.slice a n c, .int .i64 1048576] w fun e w' => e = .returned (.int .i64 (if n ≤ 1048576 then 1048576 - (n : Int) else -1)) ∧ w' = w := by
  unfold maxLen at hn
  by_cases h : n ≤ 1048576
  · have hd : ¬ ((1048576 : Int) - n < 0) := by omega
    go_enter Try.func70, Try.ntmps70
    go_wp2
    go_ret
    exact ⟨rfl, rfl⟩
  · have hd : (1048576 : Int) - n < 0 := by omega
    go_enter Try.func70, Try.ntmps70
    go_wp2
    go_ret
    exact ⟨rfl, rfl⟩

set_option maxHeartbeats 400000 in
theorem szBlock_any (st : Int) (a : Option Addr) (n c : Nat) (w : World) (hn : n ≤ maxLen) :
    Calls Try.prog 30 #[.agg #[.int .i64 st, .slice a n c], .int .i64 1048576] w fun e w' => e = .returned (.int .i64 (if n ≤ 1048576 then 1048576 - (n : Int) else -1)) ∧ Below w.heap.size w w' := by
  have bA := bel_alloc (Below.refl w.heap.size w) (.cells #[.int .i64 st, .slice a n c] 56)
  go_enter Try.func30, Try.ntmps30
  go_wp2_with fail
  refine (szInsS_any a n c _ hn).mono ?_
  rintro e w1 ⟨rfl, h⟩
  subst h
  by_cases h : n ≤ 1048576
  · rw [if_pos h]
    have hd : ¬ ((1048576 : Int) - n < 0) := by omega
    go_wp2
    go_ret
    exact ⟨rfl, bA⟩
  · rw [if_neg h]
    go_wp2
    go_ret
    exact ⟨rfl, bA⟩

set_option maxHeartbeats 400000 in
theorem toBlock_any (st : Int) (a : Option Addr) (c n : Nat) (d : Nat → XD) (w : World) (hn : n ≤ 1048576) (ha : IR w a n d) :
    Calls Try.prog 31 #[.agg #[.int .i64 st, .slice a n c]] w fun e w' => ∃ a' c', e = .returned (.agg #[.int .i64 st, .slice a' n c']) ∧ IOw w' w.heap.size a' c' n d ∧ Below w.heap.size w w' := by
  have bA := bel_alloc (bel_alloc (bel_alloc (Below.refl w.heap.size w) (.cells #[.int .i64 st, .slice a n c] 56)) (.cells #[.int .i64 0, .slice none 0 0] 27)) (.cells #[.int .i64 st, .slice none 0 0] 27)
  go_enter Try.func31, Try.ntmps31
  go_wp2_with fail
  refine (toInsS_any a c n d _ hn (ha.below bA)).mono ?_
  rintro e w1 ⟨a1, c1, rfl, o1, b1⟩
  obtain ⟨hc, hf⟩ := bcell b1
  have hz : w.heap.size + 3 ≤ w1.heap.size := by have := b1.size; simp at this; omega
  have B : Below w.heap.size w w1 := bel_trans bA b1
  have hlt : Hid (∀ j, (Value.slice a1 n c1).ownBlock = some j → w.heap.size + 3 ≤ j) := fun j h => by have := (World.ownsRow.lt o1 j h).1; simp at this; exact this
  have HO : Hid _ := o1
  clear bA b1 ha o1
  go_wp2
  refine bodyPost_ret (v := .agg #[.int .i64 st, .slice a1 n c1]) (by simp [results, Try.results31, go_sem, hc]) rfl ⟨_, _, rfl, ?_, ?_⟩
  · show World.ownsRow _ _ _ _ _ _ _
    repeat refine owns_setCell ?_ ?_ _
    · exact owns_base HO.out (by simp; omega)
    all_goals (intro j h; have := hlt.out j h; simp; omega)
  · repeat refine bel_setCell ?_ _ _ ?_
    · exact B
    all_goals (simp; try omega)

set_option maxHeartbeats 400000 in
theorem eqBlock_any (st : Int) (a b : Option Addr) (ca cb n : Nat) (d : Nat → XD) (w : World) (ha : IR w a n d) (hb : IR w b n d) :
    Calls Try.prog 32 #[.agg #[.int .i64 st, .slice a n ca], .agg #[.int .i64 st, .slice b n cb]] w fun e w' => e = .returned (.bool true) ∧ Below w.heap.size w w' := by
  have bA := bel_alloc (bel_alloc (Below.refl w.heap.size w) (.cells #[.int .i64 st, .slice a n ca] 27)) (.cells #[.int .i64 st, .slice b n cb] 27)
  go_enter Try.func32, Try.ntmps32
  go_wp2_with fail
  refine (eqInsS_any a b ca cb n d _ (ha.below bA) (hb.below bA)).mono ?_
  rintro e w1 ⟨rfl, b1⟩
  have B := bel_trans bA b1
  clear bA b1 ha hb
  go_wp2
  go_ret
  exact ⟨rfl, B⟩

set_option maxHeartbeats 400000 in
theorem markBlock_any (st : Int) (lo n : Nat) (a : Option Addr) (c : Nat) (d : Nat → XD) (k0 : Int) (w : World) (h0 : 0 ≤ k0) (h1 : k0 ≤ 4611686018427387904) (hn : n ≤ 1048577) (hown : IOw w lo a c n d) :
    Calls Try.prog 34 #[.agg #[.int .i64 st, .slice a n c], .int .i64 k0] w fun e w' => e = .returned (.int .i64 (k0 + 5 * (n : Int))) ∧ IOw w' lo a c n (mI k0) ∧ Only w w' (fun b => blk (a, c) = some b) := by
  have bA := bel_alloc (Below.refl w.heap.size w) (.cells #[.int .i64 st, .slice a n c] 27)
  go_enter Try.func34, Try.ntmps34
  go_wp2_with fail
  refine (markInsS_any lo n a c d k0 _ h0 h1 hn (hown.below bA)).mono ?_
  rintro e w1 ⟨rfl, o1, k1⟩
  have K := Only.of bA k1
  clear k1 bA hown
  go_wp2
  go_ret
  exact ⟨rfl, o1, K⟩

end Go.Proofs.Ytkamhinklhcbaaa
