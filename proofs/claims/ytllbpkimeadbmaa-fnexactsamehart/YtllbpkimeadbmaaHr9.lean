/- What the law's small functions over harts do: szHart, toHart, eqHart, markHart, heldHart; when a hart is right; what the specification's HartOk, HartNew, l9Copy, Target answer. -/
import Derived.Test.YtllbpkimeadbmaaInts
import Derived.Test.YtllbpkimeadbmaaOkB
import Derived.Test.YtllbpkimeadbmaaFrm
namespace Go.Proofs.Ytllbpkimeadbmaa
open Go.RowKit
set_option linter.unusedVariables false

set_option maxHeartbeats 400000 in
theorem szHart_big (pc st : Int) (a : Option Addr) (n c : Nat) (w : World) (h : 1048576 < n) (hn : n ≤ maxLen) :
    Calls Try.prog 4 #[.agg #[.slice a n c, .int .i64 pc, .int .i64 st], .int .i64 1048576] w fun e w' => e = .returned (.int .i64 (-1)) ∧ Below w.heap.size w w' := by
  unfold maxLen at hn
  go_enter Try.func4, Try.ntmps4
  go_wp2
  go_ret
  exact ⟨rfl, (Below.refl _ _).alloc (Nat.le_refl _) _⟩

set_option maxHeartbeats 400000 in
theorem szHart_small (pc st : Int) (a : Option Addr) (n c : Nat) (w : World) (h : n ≤ 1048576) :
    Calls Try.prog 4 #[.agg #[.slice a n c, .int .i64 pc, .int .i64 st], .int .i64 1048576] w fun e w' => e = .returned (.int .i64 (1048576 - n)) ∧ Below w.heap.size w w' := by
  go_enter Try.func4, Try.ntmps4
  go_wp2
  go_ret
  exact ⟨rfl, (Below.refl _ _).alloc (Nat.le_refl _) _⟩

set_option maxHeartbeats 400000 in
theorem toHart_any (pc st : Int) (a : Option Addr) (c : Nat) (xs : List Int) (w : World) (hsm : xs.length ≤ 1048576) (ha : Row .i64 w a xs) :
    Calls Try.prog 6 #[.agg #[.slice a xs.length c, .int .i64 pc, .int .i64 st]] w fun e w' => ∃ v, e = .returned (.agg #[v, .int .i64 pc, .int .i64 st]) ∧ w'.ownsRow w.heap.size 3 1 v xs.length (xs.map (Value.int .i64)) ∧ Below w.heap.size w w' := by
  go_enter Try.func6, Try.ntmps6
  go_wp2_with fail
  have bA := bel_alloc (bel_alloc (bel_alloc (Below.refl w.heap.size w) (.cells #[.slice a xs.length c, .int .i64 pc, .int .i64 st] 24)) (.cells #[.slice none 0 0, .int .i64 0, .int .i64 0] 27)) (.cells #[.slice none 0 0, .int .i64 0, .int .i64 0] 27)
  refine (toIntS_any a c xs _ hsm (ha.below bA)).mono ?_
  rintro e w1 ⟨v, rfl, o1, b1⟩
  obtain ⟨hc, hf⟩ := bcell b1
  have hz : w.heap.size + 3 ≤ w1.heap.size := by have := b1.size; simp at this; omega
  have B : Below w.heap.size w w1 := bel_trans bA b1
  have hlt : Hid (∀ j, v.ownBlock = some j → w.heap.size + 3 ≤ j) := fun j h => by have := (o1.lt j h).1; simp at this; exact this
  obtain ⟨a1, c1, rfl⟩ := owns_slice o1
  clear bA b1 ha
  go_wp2
  refine bodyPost_ret (v := .agg #[.slice a1 xs.length c1, .int .i64 pc, .int .i64 st]) (by simp [results, Try.results6, go_sem, hc]) rfl ⟨_, rfl, ?_, ?_⟩
  · repeat refine owns_setCell ?_ ?_ _
    · exact owns_base o1 (by simp; omega)
    all_goals (intro j h; have := hlt.out j h; simp; omega)
  · repeat refine bel_setCell ?_ _ _ ?_
    · exact B
    all_goals (simp; try omega)

set_option maxHeartbeats 400000 in
theorem eqHart_any (pc st : Int) (a b : Option Addr) (ca cb : Nat) (xs : List Int) (w : World) (ha : Row .i64 w a xs) (hb : Row .i64 w b xs) :
    Calls Try.prog 8 #[.agg #[.slice a xs.length ca, .int .i64 pc, .int .i64 st], .agg #[.slice b xs.length cb, .int .i64 pc, .int .i64 st]] w fun e w' => e = .returned (.bool true) ∧ Below w.heap.size w w' := by
  go_enter Try.func8, Try.ntmps8
  go_wp2_with fail
  have bA := bel_alloc (bel_alloc (Below.refl w.heap.size w) (.cells #[.slice a xs.length ca, .int .i64 pc, .int .i64 st] 27)) (.cells #[.slice b xs.length cb, .int .i64 pc, .int .i64 st] 27)
  refine (eqIntS_any a b ca cb xs _ (ha.below bA) (hb.below bA)).mono ?_
  rintro e w1 ⟨rfl, d1, rfl⟩
  go_wp2
  go_ret
  exact ⟨rfl, below_drewN bA d1⟩


end Go.Proofs.Ytllbpkimeadbmaa
