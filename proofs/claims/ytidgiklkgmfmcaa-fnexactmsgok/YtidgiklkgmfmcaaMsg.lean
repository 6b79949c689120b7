/- What the law's small functions over messages do: szMsg, toMsg, eqMsg. -/
import Derived.Test.YtidgiklkgmfmcaaInts
namespace Go.Proofs.Ytidgiklkgmfmcaa
open Go.RowKit
set_option linter.unusedVariables false

/-- A message's value. -/
def msgV (k p : Int) (o : Bool) (l : Value) : Value := .agg #[.int .i64 k, .int .i64 p, .bool o, l]

set_option maxHeartbeats 400000 in
theorem szMsg_big (k p : Int) (o : Bool) (a : Option Addr) (n c : Nat) (w : World) (h : 1048576 < n) (hn : n ≤ maxLen) :
    Calls Try.prog 7 #[.agg #[.int .i64 k, .int .i64 p, .bool o, .slice a n c], .int .i64 1048576] w fun e w' => e = .returned (.int .i64 (-1)) ∧ Below w.heap.size w w' := by
  unfold maxLen at hn
  go_enter Try.func7, Try.ntmps7
  go_wp2
  go_ret
  exact ⟨rfl, (Below.refl _ _).alloc (Nat.le_refl _) _⟩

set_option maxHeartbeats 400000 in
theorem szMsg_small (k p : Int) (o : Bool) (a : Option Addr) (n c : Nat) (w : World) (h : n ≤ 1048576) :
    Calls Try.prog 7 #[.agg #[.int .i64 k, .int .i64 p, .bool o, .slice a n c], .int .i64 1048576] w fun e w' => e = .returned (.int .i64 (1048576 - n)) ∧ Below w.heap.size w w' := by
  go_enter Try.func7, Try.ntmps7
  go_wp2
  go_ret
  exact ⟨rfl, (Below.refl _ _).alloc (Nat.le_refl _) _⟩

set_option maxHeartbeats 400000 in
theorem toMsg_any (k p : Int) (o : Bool) (a : Option Addr) (c : Nat) (xs : List Int) (w : World) (hsm : xs.length ≤ 1048576) (ha : Row .i64 w a xs) :
    Calls Try.prog 9 #[.agg #[.int .i64 k, .int .i64 p, .bool o, .slice a xs.length c]] w fun e w' => ∃ v, e = .returned (.agg #[.int .i64 k, .int .i64 p, .bool o, v]) ∧ w'.ownsRow w.heap.size 3 1 v xs.length (xs.map (Value.int .i64)) ∧ Below w.heap.size w w' := by
  go_enter Try.func9, Try.ntmps9
  go_wp2_with fail
  have bA := bel_alloc (bel_alloc (bel_alloc (Below.refl w.heap.size w) (.cells #[.int .i64 k, .int .i64 p, .bool o, .slice a xs.length c] 24)) (.cells #[.int .i64 0, .int .i64 0, .bool false, .slice none 0 0] 27)) (.cells #[.int .i64 k, .int .i64 p, .bool o, .slice none 0 0] 27)
  refine (toIntS_any a c xs _ hsm (ha.below bA)).mono ?_
  rintro e w1 ⟨v, rfl, o1, b1⟩
  obtain ⟨hc, hf⟩ := bcell b1
  have hz : w.heap.size + 3 ≤ w1.heap.size := by have := b1.size; simp at this; omega
  have B : Below w.heap.size w w1 := bel_trans bA b1
  have hlt : Hid (∀ j, v.ownBlock = some j → w.heap.size + 3 ≤ j) := fun j h => by have := (o1.lt j h).1; simp at this; exact this
  obtain ⟨a1, c1, rfl⟩ := owns_slice o1
  clear bA b1 ha
  go_wp2
  refine bodyPost_ret (v := .agg #[.int .i64 k, .int .i64 p, .bool o, .slice a1 xs.length c1]) (by simp [results, Try.results9, go_sem, hc]) rfl ⟨_, rfl, ?_, ?_⟩
  · refine owns_setCell (owns_setCell (owns_setCell (owns_setCell (owns_setCell (owns_base o1 ?_) ?_ _) ?_ _) ?_ _) ?_ _) ?_ _
    · simp; omega
    all_goals (intro j h; have := hlt.out j h; simp; omega)
  · refine bel_setCell (bel_setCell (bel_setCell (bel_setCell (bel_setCell B _ _ ?_) _ _ ?_) _ _ ?_) _ _ ?_) _ _ ?_
    all_goals (simp; try omega)

set_option maxHeartbeats 400000 in
theorem eqMsg_any (k p : Int) (o : Bool) (a b : Option Addr) (ca cb : Nat) (xs : List Int) (w : World) (ha : Row .i64 w a xs) (hb : Row .i64 w b xs) :
    Calls Try.prog 11 #[.agg #[.int .i64 k, .int .i64 p, .bool o, .slice a xs.length ca], .agg #[.int .i64 k, .int .i64 p, .bool o, .slice b xs.length cb]] w fun e w' => e = .returned (.bool true) ∧ Below w.heap.size w w' := by
  go_enter Try.func11, Try.ntmps11
  go_wp2_with fail
  have bA := bel_alloc (bel_alloc (Below.refl w.heap.size w) (.cells #[.int .i64 k, .int .i64 p, .bool o, .slice a xs.length ca] 27)) (.cells #[.int .i64 k, .int .i64 p, .bool o, .slice b xs.length cb] 27)
  refine (eqIntS_any a b ca cb xs _ (ha.below bA) (hb.below bA)).mono ?_
  rintro e w1 ⟨rfl, d1, rfl⟩
  go_wp2
  go_ret
  exact ⟨rfl, below_drewN bA d1⟩

set_option maxHeartbeats 400000 in
theorem markMsg_any (k p : Int) (o : Bool) (base n : Nat) (a : Option Addr) (c : Nat) (k0 : Int) (xs : List Value) (w : World) (h0 : 0 ≤ k0) (h1 : k0 ≤ 1000000) (hn : n ≤ 1048576) (hown : w.ownsRow base 3 1 (.slice a n c) n xs) :
    Calls Try.prog 22 #[.agg #[.int .i64 k, .int .i64 p, .bool o, .slice a n c], .int .i64 k0] w fun e w' => e = .returned (.int .i64 (k0 + n)) ∧ w'.ownsRow base 3 1 (.slice a n c) n ((mki k0 n).map (Value.int .i64)) ∧ w.grownBy w' (Value.slice a n c).ownBlock := by
  go_enter Try.func22, Try.ntmps22
  go_wp2_with fail
  refine (markIntS_any base n _ k0 xs _ h0 (by omega) (by omega) (hown.alloc _)).mono ?_
  rintro e w1 ⟨rfl, o1, g1⟩
  have g := grownBy_trans (World.grownBy_alloc w (.cells #[.int .i64 k, .int .i64 p, .bool o, .slice a n c] 27) (Value.slice a n c).ownBlock) g1
  clear g1
  go_wp2
  go_ret
  exact ⟨rfl, o1, g⟩
end Go.Proofs.Ytidgiklkgmfmcaa
