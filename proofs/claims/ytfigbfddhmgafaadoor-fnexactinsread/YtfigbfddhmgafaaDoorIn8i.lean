/- What impl's InsOk, Code, Decode and Ends answer (a table of method expressions by op; structs compared). -/
import Derived.Test.YtfigbfddhmgafaaDoorIn8d
import Derived.Laws.EntriesVeiled
import Derived.Deep.RegionWith
import Derived.BigRegion
import Derived.Deep.RegionHeld3
import Derived.Deep.DeepCutAuto
namespace Go.Proofs.YtfigbfddhmgafaaDoor
open Go.RowKit
set_option linter.unusedVariables false

set_option maxHeartbeats 1000000 in
theorem isOp_any (x : Int) (w : World) : Calls Tryd.prog 37 #[.int .i64 x] w fun e w' => e = .returned (.bool (inB x 1 10)) ∧ w' = w := by
  have HV : Hid (inB x 1 10 = decide (1 ≤ x ∧ x ≤ 10)) := by show _ = _; rfl
  by_cases h1 : 1 ≤ x
  · by_cases h2 : x ≤ 10
    · go_enter Tryd.func37, Tryd.ntmps37
      go_wp2
      go_ret
      exact ⟨ret_bool (by rw [HV.out]; simp [h1, h2]), rfl⟩
    · go_enter Tryd.func37, Tryd.ntmps37
      go_wp2
      go_ret
      exact ⟨ret_bool (by rw [HV.out]; simp [h1, h2]), rfl⟩
  · go_enter Tryd.func37, Tryd.ntmps37
    go_wp2
    go_ret
    exact ⟨ret_bool (by rw [HV.out]; simp; omega), rfl⟩

set_option maxHeartbeats 1000000 in
theorem isReg_any (x : Int) (w : World) : Calls Tryd.prog 38 #[.int .i64 x] w fun e w' => e = .returned (.bool (inB x 0 3)) ∧ w' = w := by
  have HV : Hid (inB x 0 3 = decide (0 ≤ x ∧ x ≤ 3)) := by show _ = _; rfl
  by_cases h1 : 0 ≤ x
  · by_cases h2 : x < 4
    · go_enter Tryd.func38, Tryd.ntmps38
      go_wp2
      go_ret
      exact ⟨ret_bool (by rw [HV.out]; simp; omega), rfl⟩
    · go_enter Tryd.func38, Tryd.ntmps38
      go_wp2
      go_ret
      exact ⟨ret_bool (by rw [HV.out]; simp; omega), rfl⟩
  · go_enter Tryd.func38, Tryd.ntmps38
    go_wp2
    go_ret
    exact ⟨ret_bool (by rw [HV.out]; simp; omega), rfl⟩

set_option maxHeartbeats 1000000 in
theorem isOff_any (x : Int) (w : World) : Calls Tryd.prog 39 #[.int .i64 x] w fun e w' => e = .returned (.bool (inB x 0 63)) ∧ w' = w := by
  have HV : Hid (inB x 0 63 = decide (0 ≤ x ∧ x ≤ 63)) := by show _ = _; rfl
  by_cases h1 : 0 ≤ x
  · by_cases h2 : x < 64
    · go_enter Tryd.func39, Tryd.ntmps39
      go_wp2
      go_ret
      exact ⟨ret_bool (by rw [HV.out]; simp; omega), rfl⟩
    · go_enter Tryd.func39, Tryd.ntmps39
      go_wp2
      go_ret
      exact ⟨ret_bool (by rw [HV.out]; simp; omega), rfl⟩
  · go_enter Tryd.func39, Tryd.ntmps39
    go_wp2
    go_ret
    exact ⟨ret_bool (by rw [HV.out]; simp; omega), rfl⟩

abbrev leftV : Array Value := #[.nilFunc, .func (.func 45) #[] #[], .func (.func 46) #[] #[], .func (.func 47) #[] #[], .func (.func 47) #[] #[], .func (.func 48) #[] #[], .func (.func 49) #[] #[], .func (.func 50) #[] #[], .func (.func 51) #[] #[], .func (.func 52) #[] #[], .func (.func 46) #[] #[]]

set_option maxHeartbeats 1000000 in
theorem left_any (w : World) : Calls Tryd.prog 40 #[] w fun e w' => e = .returned (.agg leftV) ∧ Below w.heap.size w w' := by
  go_enter Tryd.func40, Tryd.ntmps40
  go_wp2
  refine bodyPost_ret (v := .agg leftV) (by simp [results, Tryd.results40, go_sem]) rfl ⟨rfl, ?_⟩
  exact bel_alloc (Below.refl _ _) _

set_option maxHeartbeats 1000000 in
theorem onlyRN_any (op r a b n : Int) (w : World) : Calls Tryd.prog 45 #[.agg (icells op r a b n)] w fun e w' => e = .returned (.agg (icells op r 0 0 n)) ∧ Below w.heap.size w w' := by
  go_enter Tryd.func45, Tryd.ntmps45
  go_wp2
  refine bodyPost_ret (v := .agg (icells op r 0 0 n)) (by simp [results, Tryd.results45, go_sem]) rfl ⟨rfl, ?_⟩
  exact bel_alloc (bel_alloc (Below.refl _ _) _) _

set_option maxHeartbeats 1000000 in
theorem onlyRAB_any (op r a b n : Int) (w : World) : Calls Tryd.prog 46 #[.agg (icells op r a b n)] w fun e w' => e = .returned (.agg (icells op r a b 0)) ∧ Below w.heap.size w w' := by
  go_enter Tryd.func46, Tryd.ntmps46
  go_wp2
  refine bodyPost_ret (v := .agg (icells op r a b 0)) (by simp [results, Tryd.results46, go_sem]) rfl ⟨rfl, ?_⟩
  exact bel_alloc (bel_alloc (Below.refl _ _) _) _

set_option maxHeartbeats 1000000 in
theorem onlyRAN_any (op r a b n : Int) (w : World) : Calls Tryd.prog 47 #[.agg (icells op r a b n)] w fun e w' => e = .returned (.agg (icells op r a 0 n)) ∧ Below w.heap.size w w' := by
  go_enter Tryd.func47, Tryd.ntmps47
  go_wp2
  refine bodyPost_ret (v := .agg (icells op r a 0 n)) (by simp [results, Tryd.results47, go_sem]) rfl ⟨rfl, ?_⟩
  exact bel_alloc (bel_alloc (Below.refl _ _) _) _

set_option maxHeartbeats 1000000 in
theorem onlyABN_any (op r a b n : Int) (w : World) : Calls Tryd.prog 48 #[.agg (icells op r a b n)] w fun e w' => e = .returned (.agg (icells op 0 a b n)) ∧ Below w.heap.size w w' := by
  go_enter Tryd.func48, Tryd.ntmps48
  go_wp2
  refine bodyPost_ret (v := .agg (icells op 0 a b n)) (by simp [results, Tryd.results48, go_sem]) rfl ⟨rfl, ?_⟩
  exact bel_alloc (bel_alloc (Below.refl _ _) _) _

set_option maxHeartbeats 1000000 in
theorem onlyRABN_any (op r a b n : Int) (w : World) : Calls Tryd.prog 49 #[.agg (icells op r a b n)] w fun e w' => e = .returned (.agg (icells op r a b n)) ∧ Below w.heap.size w w' := by
  go_enter Tryd.func49, Tryd.ntmps49
  go_wp2
  refine bodyPost_ret (v := .agg (icells op r a b n)) (by simp [results, Tryd.results49, go_sem]) rfl ⟨rfl, ?_⟩
  exact bel_alloc (bel_alloc (Below.refl _ _) _) _

set_option maxHeartbeats 1000000 in
theorem onlyAN_any (op r a b n : Int) (w : World) : Calls Tryd.prog 50 #[.agg (icells op r a b n)] w fun e w' => e = .returned (.agg (icells op 0 a 0 n)) ∧ Below w.heap.size w w' := by
  go_enter Tryd.func50, Tryd.ntmps50
  go_wp2
  refine bodyPost_ret (v := .agg (icells op 0 a 0 n)) (by simp [results, Tryd.results50, go_sem]) rfl ⟨rfl, ?_⟩
  exact bel_alloc (bel_alloc (Below.refl _ _) _) _

set_option maxHeartbeats 1000000 in
theorem onlyN_any (op r a b n : Int) (w : World) : Calls Tryd.prog 51 #[.agg (icells op r a b n)] w fun e w' => e = .returned (.agg (icells op 0 0 0 n)) ∧ Below w.heap.size w w' := by
  go_enter Tryd.func51, Tryd.ntmps51
  go_wp2
  refine bodyPost_ret (v := .agg (icells op 0 0 0 n)) (by simp [results, Tryd.results51, go_sem]) rfl ⟨rfl, ?_⟩
  exact bel_alloc (bel_alloc (Below.refl _ _) _) _

set_option maxHeartbeats 1000000 in
theorem onlyOp_any (op r a b n : Int) (w : World) : Calls Tryd.prog 52 #[.agg (icells op r a b n)] w fun e w' => e = .returned (.agg (icells op 0 0 0 0)) ∧ Below w.heap.size w w' := by
  go_enter Tryd.func52, Tryd.ntmps52
  go_wp2
  refine bodyPost_ret (v := .agg (icells op 0 0 0 0)) (by simp [results, Tryd.results52, go_sem]) rfl ⟨rfl, ?_⟩
  exact bel_alloc (bel_alloc (Below.refl _ _) _) _

set_option maxHeartbeats 1000000 in
theorem ins_eq (a b c d e a' b' c' d' e' : Int) (w : World) : (Op.equalIn 10000 25 (.agg (icells a b c d e)) (.agg (icells a' b' c' d' e'))).run Tryd.prog w = .ok (a == a' && (b == b' && (c == c' && (d == d' && e == e')))) w := by
  have u3 := Tryd.underlying3
  have a3 := Tryd.isAgg3
  have z3 := Tryd.sizeOf3
  rw [show (10000 : Nat) = 9999 + 1 from rfl, Op.equalIn]
  simp only [Sem.run_bind, run_underlying Tryd.underlying25, Result.andThen_ok]
  go_simp
  by_cases h1 : a = a' <;> by_cases h2 : b = b' <;> by_cases h3 : c = c' <;> by_cases h4 : d = d' <;> by_cases h5 : e = e' <;> simp [h1, h2, h3, h4, h5]


set_option maxRecDepth 100000 in
set_option maxHeartbeats 1000000 in
theorem left_at (k : Nat) (hk : k < 11) (W : World) : (Instr.index 60 (.agg leftV) (.int .i64 k)).run Tryd.prog W = .ok (leftV.getD k .nilFunc) W := by
  have hd : 0 ≤ (k : Int) ∧ (k : Int) < (11 : Nat) := by omega
  have z3 := Tryd.sizeOf59
  have g3 := Tryd.isAgg59
  unfold Instr.index
  simp only [Sem.run_bind, run_underlying Tryd.underlying60, Result.andThen_ok]
  go_simp
  intro h
  omega
end Go.Proofs.YtfigbfddhmgafaaDoor
