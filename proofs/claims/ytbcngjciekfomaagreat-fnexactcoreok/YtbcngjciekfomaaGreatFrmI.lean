/- What impl's small functions over frames do: noWords, empty, isState, isPlace. -/
import Derived.Test.YtbcngjciekfomaaGreatHr9
import Derived.Test.YtbcngjciekfomaaGreatPacket
import Derived.Deep.RegionWith
import Derived.BigRegion
import Derived.Deep.RegionHeld3
import Derived.Deep.DeepCutAuto
namespace Go.Proofs.YtbcngjciekfomaaGreat
open Go.RowKit
set_option linter.unusedVariables false

set_option maxHeartbeats 400000 in
theorem noWords_any (w : World) :
    Calls Tryz.prog 114 #[] w fun e w' => e = .returned (.agg #[.int .i64 (-1), .int .i64 0, .int .i64 0, .int .i64 0]) ∧ Below w.heap.size w w' := by
  go_enter Tryz.func114, Tryz.ntmps114
  go_wp2
  refine bodyPost_ret (v := .agg #[.int .i64 (-1), .int .i64 0, .int .i64 0, .int .i64 0]) (by simp [results, Tryz.results114, go_sem]) rfl ⟨rfl, ?_⟩
  exact bel_alloc (Below.refl _ _) _

set_option maxHeartbeats 1000000 in
theorem arr_eq (a b c d a' b' c' d' : Int) (w : World) : (Op.equalIn 10000 153 (.agg #[.int .i64 a, .int .i64 b, .int .i64 c, .int .i64 d]) (.agg #[.int .i64 a', .int .i64 b', .int .i64 c', .int .i64 d'])).run Tryz.prog w = .ok (a == a' && (b == b' && (c == c' && d == d'))) w := by
  have u3 := Tryz.underlying3
  have a3 := Tryz.isAgg3
  have z3 := Tryz.sizeOf3
  rw [show (10000 : Nat) = 9999 + 1 from rfl, Op.equalIn]
  simp only [Sem.run_bind, run_underlying Tryz.underlying153, Result.andThen_ok]
  simp only [Std.Legacy.Range.forIn_eq_forIn_range', Std.Legacy.Range.size, Nat.sub_zero, Nat.add_sub_cancel, Nat.div_one, List.range'_succ, List.range'_zero, List.forIn_cons, List.forIn_nil]
  go_simp
  by_cases h1 : a = a' <;> by_cases h2 : b = b' <;> by_cases h3 : c = c' <;> by_cases h4 : d = d' <;> simp [h1, h2, h3, h4]

set_option maxRecDepth 100000 in
set_option maxHeartbeats 1000000 in
theorem empty_yes (s : Int) (q : Bool) (w : World) :
    Calls Tryz.prog 116 #[.agg #[.int .i64 s, .int .i64 (-1), .int .i64 0, .int .i64 0, .int .i64 0, .bool q]] w fun e w' => e = .returned (.bool true) ∧ Below w.heap.size w w' := by
  have bA := bel_alloc (Below.refl w.heap.size w) (.cells #[.int .i64 s, .int .i64 (-1), .int .i64 0, .int .i64 0, .int .i64 0, .bool q] 157)
  have heq := arr_eq (-1) 0 0 0 (-1) 0 0 0
  go_enter Tryz.func116, Tryz.ntmps116
  go_wp2_with fail
  go_region_with (go_at_call 114; refine (noWords_any _).mono ?_; rintro e w1 ⟨rfl, b1⟩; have b1 := bel_undrew b1; obtain ⟨hc, hf⟩ := bcell b1)
  all_goals
    have B := bel_trans bA b1
    go_wp2
    go_ret
    exact ⟨rfl, B⟩

set_option maxRecDepth 100000 in
set_option maxHeartbeats 1000000 in
theorem empty_no (s : Int) (q : Bool) (c0 c1 c2 c3 : Int) (w : World) (h0 : 0 ≤ c0) :
    Calls Tryz.prog 116 #[.agg #[.int .i64 s, .int .i64 c0, .int .i64 c1, .int .i64 c2, .int .i64 c3, .bool q]] w fun e w' => e = .returned (.bool false) ∧ Below w.heap.size w w' := by
  have bA := bel_alloc (Below.refl w.heap.size w) (.cells #[.int .i64 s, .int .i64 c0, .int .i64 c1, .int .i64 c2, .int .i64 c3, .bool q] 157)
  have heq : ∀ W, (Op.equalIn 10000 153 (.agg #[.int .i64 c0, .int .i64 c1, .int .i64 c2, .int .i64 c3]) (.agg #[.int .i64 (-1), .int .i64 0, .int .i64 0, .int .i64 0])).run Tryz.prog W = .ok false W := fun W => by
    rw [arr_eq]
    have hne : (c0 == -1) = false := by simp; omega
    rw [hne]
    rfl
  go_enter Tryz.func116, Tryz.ntmps116
  go_wp2_with fail
  go_region_with (go_at_call 114; refine (noWords_any _).mono ?_; rintro e w1 ⟨rfl, b1⟩; have b1 := bel_undrew b1; obtain ⟨hc, hf⟩ := bcell b1)
  all_goals
    have B := bel_trans bA b1
    go_wp2
    go_ret
    exact ⟨rfl, B⟩

def stateB (s : Int) : Bool := decide (0 ≤ s ∧ s ≤ 2)
set_option maxHeartbeats 400000 in
theorem isState_any (s : Int) (w : World) :
    Calls Tryz.prog 115 #[.int .i64 s] w fun e w' => e = .returned (.bool (stateB s)) ∧ w' = w := by
  by_cases h0 : s = 0
  · subst h0
    go_enter Tryz.func115, Tryz.ntmps115
    go_wp2
    go_ret
    exact ⟨rfl, rfl⟩
  by_cases h1 : s = 1
  · subst h1
    go_enter Tryz.func115, Tryz.ntmps115
    go_wp2
    go_ret
    exact ⟨rfl, rfl⟩
  by_cases h2 : s = 2
  · subst h2
    go_enter Tryz.func115, Tryz.ntmps115
    go_wp2
    go_ret
    exact ⟨rfl, rfl⟩
  have hd : Hid (stateB s = false) := by show _ = _; unfold stateB; simp; omega
  have b0 : (s == 0) = false := by simp [h0]
  have b1 : (s == 1) = false := by simp [h1]
  have b2 : (s == 2) = false := by simp [h2]
  clear h0 h1 h2
  go_enter Tryz.func115, Tryz.ntmps115
  go_wp2
  go_ret
  rw [hd.out]
  exact ⟨rfl, rfl⟩

end Go.Proofs.YtbcngjciekfomaaGreat
