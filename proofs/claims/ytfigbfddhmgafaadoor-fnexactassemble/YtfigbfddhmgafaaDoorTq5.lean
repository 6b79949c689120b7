/- What impl's opOf answers. -/
import Derived.Test.YtfigbfddhmgafaaDoorTqw
namespace Go.Proofs.YtfigbfddhmgafaaDoor
open Go.RowKit
set_option linter.unusedVariables false

theorem nmL_op {i : Nat} (h : 1 ≤ i) : nmL i = nameT i := by unfold nmL; rw [if_neg (by omega)]
theorem nm_hit {op : Nat} (h1 : 1 ≤ op) (h2 : op ≤ 10) : nmOp (nameT op) 10 = op := by
  obtain ⟨a1, a2, a3, a4, a5, a6, a7, a8, a9, a10⟩ := nm_of
  rcases op_ten h1 h2 with rfl | rfl | rfl | rfl | rfl | rfl | rfl | rfl | rfl | rfl <;> assumption
theorem nm_miss {s : List UInt8} : ∀ k : Nat, (∀ j : Nat, 1 ≤ j → j ≤ k → ¬ nameT j = s) → nmOp s k = 0
  | 0, _ => rfl
  | k + 1, h => by
    unfold nmOp
    rw [nmL_op (by omega), if_neg (h (k + 1) (by omega) (by omega))]
    exact nm_miss k fun j h1 h2 => h j h1 (by omega)
theorem ret_op {x y : Int} {a b : Bool} (h1 : x = y) (h2 : a = b) : Ending.returned (.tuple #[.int .i64 x, .bool a]) = .returned (.tuple #[.int .i64 y, .bool b]) := by rw [h1, h2]
set_option maxRecDepth 100000 in
set_option maxHeartbeats 4000000 in
theorem opOf_any (s : List UInt8) (w : World) : Calls Tryd.prog 29 #[txt s] w fun e w' => e = .returned (.tuple #[.int .i64 (nmOp s 10 : Nat), .bool (decide (nmOp s 10 ≠ 0))]) ∧ Below w.heap.size w w' := by
  go_enter Tryd.func29, Tryd.ntmps29
  go_wp2
  go_loopw [4] (fun v wr => ∃ i : Nat, 1 ≤ i ∧ i ≤ 11 ∧ v = .int .i64 i ∧ (∀ j : Nat, 1 ≤ j → j < i → ¬ nameT j = s) ∧ Below w.heap.size w wr) (fun v _ => 11 - (intOf v).toNat)
  case atStart => exact ⟨1, by omega, by omega, rfl, fun (j : Nat) h1 h2 => by omega, Below.refl _ _⟩
  case round =>
    obtain ⟨i, h1, h2, rfl, hall, B⟩ := hrel
    have HA : Hid (∀ j : Nat, 1 ≤ j → j < i → ¬ nameT j = s) := hall
    clear hall
    by_cases h10 : i ≤ 10
    · have hi : (i : Int) ≤ 10 := by omega
      by_cases he : nameT i = s
      · have HV : Hid (nmOp s 10 = i) := by rw [← he]; exact nm_hit h1 h10
        have heq : (nameT i == s) = true := by rw [he]; simp
        clear he
        go_wp2_with (go_at_call 22; refine (wordingOf_any i h1 h10 _).mono ?_; rintro e w1 ⟨rfl, b1⟩)
        change (?K : Act → World → Prop) (Act.put ?a ?d (txt (nameT i))) ?w
        go_wp2
        go_ret2
        exact ⟨ret_op (by rw [HV.out]) (by rw [HV.out]; simp; omega), bel_trans B b1⟩
      · have heq : (nameT i == s) = false := by simp [he]
        have HE : Hid (¬ nameT i = s) := he
        clear he
        go_wp2_with (go_at_call 22; refine (wordingOf_any i h1 h10 _).mono ?_; rintro e w1 ⟨rfl, b1⟩)
        change (?K2 : Act → World → Prop) (Act.put ?a2 ?d2 (txt (nameT i))) ?w2
        go_wp2
        go_roundw
        case rel => exact ⟨i + 1, by omega, by omega, by go_num, fun j h3 h4 => by
          by_cases e : j = i
          · rw [e]; exact HE.out
          · exact HA.out j h3 (by omega), bel_trans B b1⟩
        case measure => simp [intOf]; omega
    · have hi : ¬ (i : Int) ≤ 10 := by omega
      have HV : Hid (nmOp s 10 = 0) := nm_miss 10 fun (j : Nat) h3 h4 => HA.out j h3 (by omega)
      go_wp2
      go_ret2
      exact ⟨ret_op (by rw [HV.out]; rfl) (by rw [HV.out]; rfl), B⟩
end Go.Proofs.YtfigbfddhmgafaaDoor
