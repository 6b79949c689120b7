/- What impl's InsOk, Code, Decode and Ends answer (a table of method expressions by op; structs compared). -/
import Derived.Test.YtafikmpgmnhgcaaIn8d
import Derived.Laws.EntriesVeiled
import Derived.Deep.RegionWith
import Derived.BigRegion
import Derived.Deep.RegionHeld3
import Derived.Deep.DeepCutAuto
namespace Go.Proofs.Ytafikmpgmnhgcaa
open Go.RowKit
set_option linter.unusedVariables false

set_option maxHeartbeats 1000000 in
theorem isOp_any (x : Int) (w : World) : Calls Try.prog 69 #[.int .i64 x] w fun e w' => e = .returned (.bool (inB x 1 10)) ∧ w' = w := by
  have HV : Hid (inB x 1 10 = decide (1 ≤ x ∧ x ≤ 10)) := by show _ = _; rfl
  by_cases h1 : 1 ≤ x
  · by_cases h2 : x ≤ 10
    · go_enter Try.func69, Try.ntmps69
      go_wp2
      go_ret
      exact ⟨ret_bool (by rw [HV.out]; simp [h1, h2]), rfl⟩
    · go_enter Try.func69, Try.ntmps69
      go_wp2
      go_ret
      exact ⟨ret_bool (by rw [HV.out]; simp [h1, h2]), rfl⟩
  · go_enter Try.func69, Try.ntmps69
    go_wp2
    go_ret
    exact ⟨ret_bool (by rw [HV.out]; simp; omega), rfl⟩

set_option maxHeartbeats 1000000 in
theorem isReg_any (x : Int) (w : World) : Calls Try.prog 70 #[.int .i64 x] w fun e w' => e = .returned (.bool (inB x 0 3)) ∧ w' = w := by
  have HV : Hid (inB x 0 3 = decide (0 ≤ x ∧ x ≤ 3)) := by show _ = _; rfl
  by_cases h1 : 0 ≤ x
  · by_cases h2 : x < 4
    · go_enter Try.func70, Try.ntmps70
      go_wp2
      go_ret
      exact ⟨ret_bool (by rw [HV.out]; simp; omega), rfl⟩
    · go_enter Try.func70, Try.ntmps70
      go_wp2
      go_ret
      exact ⟨ret_bool (by rw [HV.out]; simp; omega), rfl⟩
  · go_enter Try.func70, Try.ntmps70
    go_wp2
    go_ret
    exact ⟨ret_bool (by rw [HV.out]; simp; omega), rfl⟩

set_option maxHeartbeats 1000000 in
theorem isOff_any (x : Int) (w : World) : Calls Try.prog 71 #[.int .i64 x] w fun e w' => e = .returned (.bool (inB x 0 63)) ∧ w' = w := by
  have HV : Hid (inB x 0 63 = decide (0 ≤ x ∧ x ≤ 63)) := by show _ = _; rfl
  by_cases h1 : 0 ≤ x
  · by_cases h2 : x < 64
    · go_enter Try.func71, Try.ntmps71
      go_wp2
      go_ret
      exact ⟨ret_bool (by rw [HV.out]; simp; omega), rfl⟩
    · go_enter Try.func71, Try.ntmps71
      go_wp2
      go_ret
      exact ⟨ret_bool (by rw [HV.out]; simp; omega), rfl⟩
  · go_enter Try.func71, Try.ntmps71
    go_wp2
    go_ret
    exact ⟨ret_bool (by rw [HV.out]; simp; omega), rfl⟩

abbrev leftV : Array Value := #[.nilFunc, .func (.func 73) #[] #[], .func (.func 74) #[] #[], .func (.func 75) #[] #[], .func (.func 75) #[] #[], .func (.func 76) #[] #[], .func (.func 77) #[] #[], .func (.func 78) #[] #[], .func (.func 79) #[] #[], .func (.func 80) #[] #[], .func (.func 74) #[] #[]]

set_option maxHeartbeats 1000000 in
theorem left_any (w : World) : Calls Try.prog 72 #[] w fun e w' => e = .returned (.agg leftV) ∧ Below w.heap.size w w' := by
  go_enter Try.func72, Try.ntmps72
  go_wp2
  refine bodyPost_ret (v := .agg leftV) (by simp [results, Try.results72, go_sem]) rfl ⟨rfl, ?_⟩
  exact bel_alloc (Below.refl _ _) _

set_option maxHeartbeats 1000000 in
theorem onlyRN_any (op r a b n : Int) (w : World) : Calls Try.prog 73 #[.agg (icells op r a b n)] w fun e w' => e = .returned (.agg (icells op r 0 0 n)) ∧ Below w.heap.size w w' := by
  go_enter Try.func73, Try.ntmps73
  go_wp2
  refine bodyPost_ret (v := .agg (icells op r 0 0 n)) (by simp [results, Try.results73, go_sem]) rfl ⟨rfl, ?_⟩
  exact bel_alloc (bel_alloc (Below.refl _ _) _) _

set_option maxHeartbeats 1000000 in
theorem onlyRAB_any (op r a b n : Int) (w : World) : Calls Try.prog 74 #[.agg (icells op r a b n)] w fun e w' => e = .returned (.agg (icells op r a b 0)) ∧ Below w.heap.size w w' := by
  go_enter Try.func74, Try.ntmps74
  go_wp2
  refine bodyPost_ret (v := .agg (icells op r a b 0)) (by simp [results, Try.results74, go_sem]) rfl ⟨rfl, ?_⟩
  exact bel_alloc (bel_alloc (Below.refl _ _) _) _

set_option maxHeartbeats 1000000 in
theorem onlyRAN_any (op r a b n : Int) (w : World) : Calls Try.prog 75 #[.agg (icells op r a b n)] w fun e w' => e = .returned (.agg (icells op r a 0 n)) ∧ Below w.heap.size w w' := by
  go_enter Try.func75, Try.ntmps75
  go_wp2
  refine bodyPost_ret (v := .agg (icells op r a 0 n)) (by simp [results, Try.results75, go_sem]) rfl ⟨rfl, ?_⟩
  exact bel_alloc (bel_alloc (Below.refl _ _) _) _

set_option maxHeartbeats 1000000 in
theorem onlyABN_any (op r a b n : Int) (w : World) : Calls Try.prog 76 #[.agg (icells op r a b n)] w fun e w' => e = .returned (.agg (icells op 0 a b n)) ∧ Below w.heap.size w w' := by
  go_enter Try.func76, Try.ntmps76
  go_wp2
  refine bodyPost_ret (v := .agg (icells op 0 a b n)) (by simp [results, Try.results76, go_sem]) rfl ⟨rfl, ?_⟩
  exact bel_alloc (bel_alloc (Below.refl _ _) _) _

set_option maxHeartbeats 1000000 in
theorem onlyRABN_any (op r a b n : Int) (w : World) : Calls Try.prog 77 #[.agg (icells op r a b n)] w fun e w' => e = .returned (.agg (icells op r a b n)) ∧ Below w.heap.size w w' := by
  go_enter Try.func77, Try.ntmps77
  go_wp2
  refine bodyPost_ret (v := .agg (icells op r a b n)) (by simp [results, Try.results77, go_sem]) rfl ⟨rfl, ?_⟩
  exact bel_alloc (bel_alloc (Below.refl _ _) _) _

set_option maxHeartbeats 1000000 in
theorem onlyAN_any (op r a b n : Int) (w : World) : Calls Try.prog 78 #[.agg (icells op r a b n)] w fun e w' => e = .returned (.agg (icells op 0 a 0 n)) ∧ Below w.heap.size w w' := by
  go_enter Try.func78, Try.ntmps78
  go_wp2
  refine bodyPost_ret (v := .agg (icells op 0 a 0 n)) (by simp [results, Try.results78, go_sem]) rfl ⟨rfl, ?_⟩
  exact bel_alloc (bel_alloc (Below.refl _ _) _) _

set_option maxHeartbeats 1000000 in
theorem onlyN_any (op r a b n : Int) (w : World) : Calls Try.prog 79 #[.agg (icells op r a b n)] w fun e w' => e = .returned (.agg (icells op 0 0 0 n)) ∧ Below w.heap.size w w' := by
  go_enter Try.func79, Try.ntmps79
  go_wp2
  refine bodyPost_ret (v := .agg (icells op 0 0 0 n)) (by simp [results, Try.results79, go_sem]) rfl ⟨rfl, ?_⟩
  exact bel_alloc (bel_alloc (Below.refl _ _) _) _

set_option maxHeartbeats 1000000 in
theorem onlyOp_any (op r a b n : Int) (w : World) : Calls Try.prog 80 #[.agg (icells op r a b n)] w fun e w' => e = .returned (.agg (icells op 0 0 0 0)) ∧ Below w.heap.size w w' := by
  go_enter Try.func80, Try.ntmps80
  go_wp2
  refine bodyPost_ret (v := .agg (icells op 0 0 0 0)) (by simp [results, Try.results80, go_sem]) rfl ⟨rfl, ?_⟩
  exact bel_alloc (bel_alloc (Below.refl _ _) _) _

set_option maxHeartbeats 1000000 in
theorem ins_eq (a b c d e a' b' c' d' e' : Int) (w : World) : (Op.equalIn 10000 79 (.agg (icells a b c d e)) (.agg (icells a' b' c' d' e'))).run Try.prog w = .ok (a == a' && (b == b' && (c == c' && (d == d' && e == e')))) w := by
  have u3 := Try.underlying3
  have a3 := Try.isAgg3
  have z3 := Try.sizeOf3
  rw [show (10000 : Nat) = 9999 + 1 from rfl, Op.equalIn]
  simp only [Sem.run_bind, run_underlying Try.underlying79, Result.andThen_ok]
  go_simp
  by_cases h1 : a = a' <;> by_cases h2 : b = b' <;> by_cases h3 : c = c' <;> by_cases h4 : d = d' <;> by_cases h5 : e = e' <;> simp [h1, h2, h3, h4, h5]


set_option maxRecDepth 100000 in
set_option maxHeartbeats 1000000 in
theorem left_at (k : Nat) (hk : k < 11) (W : World) : (Instr.index 90 (.agg leftV) (.int .i64 k)).run Try.prog W = .ok (leftV.getD k .nilFunc) W := by
  have hd : 0 ≤ (k : Int) ∧ (k : Int) < (11 : Nat) := by omega
  have z3 := Try.sizeOf89
  have g3 := Try.isAgg89
  unfold Instr.index
  simp only [Sem.run_bind, run_underlying Try.underlying90, Result.andThen_ok]
  go_simp
  intro h
  omega
end Go.Proofs.Ytafikmpgmnhgcaa
