/- What impl's InsOk, Code, Decode and Ends answer (a table of method expressions by op; structs compared). -/
import Derived.Test.YtkamhinklhcbaaaIn8d
import Derived.Laws.EntriesVeiled
import Derived.Deep.RegionWith
import Derived.BigRegion
import Derived.Deep.RegionHeld3
import Derived.Deep.DeepCutAuto
namespace Go.Proofs.Ytkamhinklhcbaaa
open Go.RowKit
set_option linter.unusedVariables false

set_option maxHeartbeats 1000000 in
theorem isOp_any (x : Int) (w : World) : Calls Try.prog 92 #[.int .i64 x] w fun e w' => e = .returned (.bool (inB x 1 10)) ∧ w' = w := by
  have HV : Hid (inB x 1 10 = decide (1 ≤ x ∧ x ≤ 10)) := by show _ = _; rfl
  by_cases h1 : 1 ≤ x
  · by_cases h2 : x ≤ 10
    · go_enter Try.func92, Try.ntmps92
      go_wp2
      go_ret
      exact ⟨ret_bool (by rw [HV.out]; simp [h1, h2]), rfl⟩
    · go_enter Try.func92, Try.ntmps92
      go_wp2
      go_ret
      exact ⟨ret_bool (by rw [HV.out]; simp [h1, h2]), rfl⟩
  · go_enter Try.func92, Try.ntmps92
    go_wp2
    go_ret
    exact ⟨ret_bool (by rw [HV.out]; simp; omega), rfl⟩

set_option maxHeartbeats 1000000 in
theorem isReg_any (x : Int) (w : World) : Calls Try.prog 93 #[.int .i64 x] w fun e w' => e = .returned (.bool (inB x 0 3)) ∧ w' = w := by
  have HV : Hid (inB x 0 3 = decide (0 ≤ x ∧ x ≤ 3)) := by show _ = _; rfl
  by_cases h1 : 0 ≤ x
  · by_cases h2 : x < 4
    · go_enter Try.func93, Try.ntmps93
      go_wp2
      go_ret
      exact ⟨ret_bool (by rw [HV.out]; simp; omega), rfl⟩
    · go_enter Try.func93, Try.ntmps93
      go_wp2
      go_ret
      exact ⟨ret_bool (by rw [HV.out]; simp; omega), rfl⟩
  · go_enter Try.func93, Try.ntmps93
    go_wp2
    go_ret
    exact ⟨ret_bool (by rw [HV.out]; simp; omega), rfl⟩

set_option maxHeartbeats 1000000 in
theorem isOff_any (x : Int) (w : World) : Calls Try.prog 94 #[.int .i64 x] w fun e w' => e = .returned (.bool (inB x 0 63)) ∧ w' = w := by
  have HV : Hid (inB x 0 63 = decide (0 ≤ x ∧ x ≤ 63)) := by show _ = _; rfl
  by_cases h1 : 0 ≤ x
  · by_cases h2 : x < 64
    · go_enter Try.func94, Try.ntmps94
      go_wp2
      go_ret
      exact ⟨ret_bool (by rw [HV.out]; simp; omega), rfl⟩
    · go_enter Try.func94, Try.ntmps94
      go_wp2
      go_ret
      exact ⟨ret_bool (by rw [HV.out]; simp; omega), rfl⟩
  · go_enter Try.func94, Try.ntmps94
    go_wp2
    go_ret
    exact ⟨ret_bool (by rw [HV.out]; simp; omega), rfl⟩

abbrev leftV : Array Value := #[.nilFunc, .func (.func 111) #[] #[], .func (.func 112) #[] #[], .func (.func 113) #[] #[], .func (.func 113) #[] #[], .func (.func 114) #[] #[], .func (.func 115) #[] #[], .func (.func 116) #[] #[], .func (.func 117) #[] #[], .func (.func 118) #[] #[], .func (.func 112) #[] #[]]

set_option maxHeartbeats 1000000 in
theorem left_any (w : World) : Calls Try.prog 95 #[] w fun e w' => e = .returned (.agg leftV) ∧ Below w.heap.size w w' := by
  go_enter Try.func95, Try.ntmps95
  go_wp2
  refine bodyPost_ret (v := .agg leftV) (by simp [results, Try.results95, go_sem]) rfl ⟨rfl, ?_⟩
  exact bel_alloc (Below.refl _ _) _

set_option maxHeartbeats 1000000 in
theorem onlyRN_any (op r a b n : Int) (w : World) : Calls Try.prog 111 #[.agg (icells op r a b n)] w fun e w' => e = .returned (.agg (icells op r 0 0 n)) ∧ Below w.heap.size w w' := by
  go_enter Try.func111, Try.ntmps111
  go_wp2
  refine bodyPost_ret (v := .agg (icells op r 0 0 n)) (by simp [results, Try.results111, go_sem]) rfl ⟨rfl, ?_⟩
  exact bel_alloc (bel_alloc (Below.refl _ _) _) _

set_option maxHeartbeats 1000000 in
theorem onlyRAB_any (op r a b n : Int) (w : World) : Calls Try.prog 112 #[.agg (icells op r a b n)] w fun e w' => e = .returned (.agg (icells op r a b 0)) ∧ Below w.heap.size w w' := by
  go_enter Try.func112, Try.ntmps112
  go_wp2
  refine bodyPost_ret (v := .agg (icells op r a b 0)) (by simp [results, Try.results112, go_sem]) rfl ⟨rfl, ?_⟩
  exact bel_alloc (bel_alloc (Below.refl _ _) _) _

set_option maxHeartbeats 1000000 in
theorem onlyRAN_any (op r a b n : Int) (w : World) : Calls Try.prog 113 #[.agg (icells op r a b n)] w fun e w' => e = .returned (.agg (icells op r a 0 n)) ∧ Below w.heap.size w w' := by
  go_enter Try.func113, Try.ntmps113
  go_wp2
  refine bodyPost_ret (v := .agg (icells op r a 0 n)) (by simp [results, Try.results113, go_sem]) rfl ⟨rfl, ?_⟩
  exact bel_alloc (bel_alloc (Below.refl _ _) _) _

set_option maxHeartbeats 1000000 in
theorem onlyABN_any (op r a b n : Int) (w : World) : Calls Try.prog 114 #[.agg (icells op r a b n)] w fun e w' => e = .returned (.agg (icells op 0 a b n)) ∧ Below w.heap.size w w' := by
  go_enter Try.func114, Try.ntmps114
  go_wp2
  refine bodyPost_ret (v := .agg (icells op 0 a b n)) (by simp [results, Try.results114, go_sem]) rfl ⟨rfl, ?_⟩
  exact bel_alloc (bel_alloc (Below.refl _ _) _) _

set_option maxHeartbeats 1000000 in
theorem onlyRABN_any (op r a b n : Int) (w : World) : Calls Try.prog 115 #[.agg (icells op r a b n)] w fun e w' => e = .returned (.agg (icells op r a b n)) ∧ Below w.heap.size w w' := by
  go_enter Try.func115, Try.ntmps115
  go_wp2
  refine bodyPost_ret (v := .agg (icells op r a b n)) (by simp [results, Try.results115, go_sem]) rfl ⟨rfl, ?_⟩
  exact bel_alloc (bel_alloc (Below.refl _ _) _) _

set_option maxHeartbeats 1000000 in
theorem onlyAN_any (op r a b n : Int) (w : World) : Calls Try.prog 116 #[.agg (icells op r a b n)] w fun e w' => e = .returned (.agg (icells op 0 a 0 n)) ∧ Below w.heap.size w w' := by
  go_enter Try.func116, Try.ntmps116
  go_wp2
  refine bodyPost_ret (v := .agg (icells op 0 a 0 n)) (by simp [results, Try.results116, go_sem]) rfl ⟨rfl, ?_⟩
  exact bel_alloc (bel_alloc (Below.refl _ _) _) _

set_option maxHeartbeats 1000000 in
theorem onlyN_any (op r a b n : Int) (w : World) : Calls Try.prog 117 #[.agg (icells op r a b n)] w fun e w' => e = .returned (.agg (icells op 0 0 0 n)) ∧ Below w.heap.size w w' := by
  go_enter Try.func117, Try.ntmps117
  go_wp2
  refine bodyPost_ret (v := .agg (icells op 0 0 0 n)) (by simp [results, Try.results117, go_sem]) rfl ⟨rfl, ?_⟩
  exact bel_alloc (bel_alloc (Below.refl _ _) _) _

set_option maxHeartbeats 1000000 in
theorem onlyOp_any (op r a b n : Int) (w : World) : Calls Try.prog 118 #[.agg (icells op r a b n)] w fun e w' => e = .returned (.agg (icells op 0 0 0 0)) ∧ Below w.heap.size w w' := by
  go_enter Try.func118, Try.ntmps118
  go_wp2
  refine bodyPost_ret (v := .agg (icells op 0 0 0 0)) (by simp [results, Try.results118, go_sem]) rfl ⟨rfl, ?_⟩
  exact bel_alloc (bel_alloc (Below.refl _ _) _) _

set_option maxHeartbeats 1000000 in
theorem ins_eq (a b c d e a' b' c' d' e' : Int) (w : World) : (Op.equalIn 10000 38 (.agg (icells a b c d e)) (.agg (icells a' b' c' d' e'))).run Try.prog w = .ok (a == a' && (b == b' && (c == c' && (d == d' && e == e')))) w := by
  have u3 := Try.underlying3
  have a3 := Try.isAgg3
  have z3 := Try.sizeOf3
  rw [show (10000 : Nat) = 9999 + 1 from rfl, Op.equalIn]
  simp only [Sem.run_bind, run_underlying Try.underlying38, Result.andThen_ok]
  go_simp
  by_cases h1 : a = a' <;> by_cases h2 : b = b' <;> by_cases h3 : c = c' <;> by_cases h4 : d = d' <;> by_cases h5 : e = e' <;> simp [h1, h2, h3, h4, h5]


set_option maxRecDepth 100000 in
set_option maxHeartbeats 1000000 in
theorem left_at (k : Nat) (hk : k < 11) (W : World) : (Instr.index 113 (.agg leftV) (.int .i64 k)).run Try.prog W = .ok (leftV.getD k .nilFunc) W := by
  have hd : 0 ≤ (k : Int) ∧ (k : Int) < (11 : Nat) := by omega
  have z3 := Try.sizeOf112
  have g3 := Try.isAgg112
  unfold Instr.index
  simp only [Sem.run_bind, run_underlying Try.underlying113, Result.andThen_ok]
  go_simp
  intro h
  omega
end Go.Proofs.Ytkamhinklhcbaaa
