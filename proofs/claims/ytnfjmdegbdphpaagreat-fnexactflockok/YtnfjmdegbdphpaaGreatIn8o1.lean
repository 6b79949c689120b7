/- In8i and In8o2 and In8o1: see the heads of the parts. -/
import Derived.Test.YtnfjmdegbdphpaaGreatIn8d
import Derived.Laws.EntriesVeiled
import Derived.Deep.RegionWith
import Derived.BigRegion
import Derived.Deep.RegionHeld3
import Derived.Deep.DeepCutAuto
/- What impl's InsOk, Code, Decode and Ends answer (a table of method expressions by op; structs compared). -/
namespace Go.Proofs.YtnfjmdegbdphpaaGreat
open Go.RowKit
set_option linter.unusedVariables false

set_option maxHeartbeats 1000000 in
theorem isOp_any (x : Int) (w : World) : Calls Tryz.prog 129 #[.int .i64 x] w fun e w' => e = .returned (.bool (inB x 1 10)) ∧ w' = w := by
  have HV : Hid (inB x 1 10 = decide (1 ≤ x ∧ x ≤ 10)) := by show _ = _; rfl
  by_cases h1 : 1 ≤ x
  · by_cases h2 : x ≤ 10
    · go_enter Tryz.func129, Tryz.ntmps129
      go_wp2
      go_ret
      exact ⟨ret_bool (by rw [HV.out]; simp [h1, h2]), rfl⟩
    · go_enter Tryz.func129, Tryz.ntmps129
      go_wp2
      go_ret
      exact ⟨ret_bool (by rw [HV.out]; simp [h1, h2]), rfl⟩
  · go_enter Tryz.func129, Tryz.ntmps129
    go_wp2
    go_ret
    exact ⟨ret_bool (by rw [HV.out]; simp; omega), rfl⟩

set_option maxHeartbeats 1000000 in
theorem isReg_any (x : Int) (w : World) : Calls Tryz.prog 130 #[.int .i64 x] w fun e w' => e = .returned (.bool (inB x 0 3)) ∧ w' = w := by
  have HV : Hid (inB x 0 3 = decide (0 ≤ x ∧ x ≤ 3)) := by show _ = _; rfl
  by_cases h1 : 0 ≤ x
  · by_cases h2 : x < 4
    · go_enter Tryz.func130, Tryz.ntmps130
      go_wp2
      go_ret
      exact ⟨ret_bool (by rw [HV.out]; simp; omega), rfl⟩
    · go_enter Tryz.func130, Tryz.ntmps130
      go_wp2
      go_ret
      exact ⟨ret_bool (by rw [HV.out]; simp; omega), rfl⟩
  · go_enter Tryz.func130, Tryz.ntmps130
    go_wp2
    go_ret
    exact ⟨ret_bool (by rw [HV.out]; simp; omega), rfl⟩

set_option maxHeartbeats 1000000 in
theorem isOff_any (x : Int) (w : World) : Calls Tryz.prog 131 #[.int .i64 x] w fun e w' => e = .returned (.bool (inB x 0 63)) ∧ w' = w := by
  have HV : Hid (inB x 0 63 = decide (0 ≤ x ∧ x ≤ 63)) := by show _ = _; rfl
  by_cases h1 : 0 ≤ x
  · by_cases h2 : x < 64
    · go_enter Tryz.func131, Tryz.ntmps131
      go_wp2
      go_ret
      exact ⟨ret_bool (by rw [HV.out]; simp; omega), rfl⟩
    · go_enter Tryz.func131, Tryz.ntmps131
      go_wp2
      go_ret
      exact ⟨ret_bool (by rw [HV.out]; simp; omega), rfl⟩
  · go_enter Tryz.func131, Tryz.ntmps131
    go_wp2
    go_ret
    exact ⟨ret_bool (by rw [HV.out]; simp; omega), rfl⟩

abbrev leftV : Array Value := #[.nilFunc, .func (.func 146) #[] #[], .func (.func 147) #[] #[], .func (.func 148) #[] #[], .func (.func 148) #[] #[], .func (.func 149) #[] #[], .func (.func 150) #[] #[], .func (.func 151) #[] #[], .func (.func 152) #[] #[], .func (.func 153) #[] #[], .func (.func 147) #[] #[]]

set_option maxHeartbeats 1000000 in
theorem left_any (w : World) : Calls Tryz.prog 132 #[] w fun e w' => e = .returned (.agg leftV) ∧ Below w.heap.size w w' := by
  go_enter Tryz.func132, Tryz.ntmps132
  go_wp2
  refine bodyPost_ret (v := .agg leftV) (by simp [results, Tryz.results132, go_sem]) rfl ⟨rfl, ?_⟩
  exact bel_alloc (Below.refl _ _) _

set_option maxHeartbeats 1000000 in
theorem onlyRN_any (op r a b n : Int) (w : World) : Calls Tryz.prog 146 #[.agg (icells op r a b n)] w fun e w' => e = .returned (.agg (icells op r 0 0 n)) ∧ Below w.heap.size w w' := by
  go_enter Tryz.func146, Tryz.ntmps146
  go_wp2
  refine bodyPost_ret (v := .agg (icells op r 0 0 n)) (by simp [results, Tryz.results146, go_sem]) rfl ⟨rfl, ?_⟩
  exact bel_alloc (bel_alloc (Below.refl _ _) _) _

set_option maxHeartbeats 1000000 in
theorem onlyRAB_any (op r a b n : Int) (w : World) : Calls Tryz.prog 147 #[.agg (icells op r a b n)] w fun e w' => e = .returned (.agg (icells op r a b 0)) ∧ Below w.heap.size w w' := by
  go_enter Tryz.func147, Tryz.ntmps147
  go_wp2
  refine bodyPost_ret (v := .agg (icells op r a b 0)) (by simp [results, Tryz.results147, go_sem]) rfl ⟨rfl, ?_⟩
  exact bel_alloc (bel_alloc (Below.refl _ _) _) _

set_option maxHeartbeats 1000000 in
theorem onlyRAN_any (op r a b n : Int) (w : World) : Calls Tryz.prog 148 #[.agg (icells op r a b n)] w fun e w' => e = .returned (.agg (icells op r a 0 n)) ∧ Below w.heap.size w w' := by
  go_enter Tryz.func148, Tryz.ntmps148
  go_wp2
  refine bodyPost_ret (v := .agg (icells op r a 0 n)) (by simp [results, Tryz.results148, go_sem]) rfl ⟨rfl, ?_⟩
  exact bel_alloc (bel_alloc (Below.refl _ _) _) _

set_option maxHeartbeats 1000000 in
theorem onlyABN_any (op r a b n : Int) (w : World) : Calls Tryz.prog 149 #[.agg (icells op r a b n)] w fun e w' => e = .returned (.agg (icells op 0 a b n)) ∧ Below w.heap.size w w' := by
  go_enter Tryz.func149, Tryz.ntmps149
  go_wp2
  refine bodyPost_ret (v := .agg (icells op 0 a b n)) (by simp [results, Tryz.results149, go_sem]) rfl ⟨rfl, ?_⟩
  exact bel_alloc (bel_alloc (Below.refl _ _) _) _

set_option maxHeartbeats 1000000 in
theorem onlyRABN_any (op r a b n : Int) (w : World) : Calls Tryz.prog 150 #[.agg (icells op r a b n)] w fun e w' => e = .returned (.agg (icells op r a b n)) ∧ Below w.heap.size w w' := by
  go_enter Tryz.func150, Tryz.ntmps150
  go_wp2
  refine bodyPost_ret (v := .agg (icells op r a b n)) (by simp [results, Tryz.results150, go_sem]) rfl ⟨rfl, ?_⟩
  exact bel_alloc (bel_alloc (Below.refl _ _) _) _

set_option maxHeartbeats 1000000 in
theorem onlyAN_any (op r a b n : Int) (w : World) : Calls Tryz.prog 151 #[.agg (icells op r a b n)] w fun e w' => e = .returned (.agg (icells op 0 a 0 n)) ∧ Below w.heap.size w w' := by
  go_enter Tryz.func151, Tryz.ntmps151
  go_wp2
  refine bodyPost_ret (v := .agg (icells op 0 a 0 n)) (by simp [results, Tryz.results151, go_sem]) rfl ⟨rfl, ?_⟩
  exact bel_alloc (bel_alloc (Below.refl _ _) _) _

set_option maxHeartbeats 1000000 in
theorem onlyN_any (op r a b n : Int) (w : World) : Calls Tryz.prog 152 #[.agg (icells op r a b n)] w fun e w' => e = .returned (.agg (icells op 0 0 0 n)) ∧ Below w.heap.size w w' := by
  go_enter Tryz.func152, Tryz.ntmps152
  go_wp2
  refine bodyPost_ret (v := .agg (icells op 0 0 0 n)) (by simp [results, Tryz.results152, go_sem]) rfl ⟨rfl, ?_⟩
  exact bel_alloc (bel_alloc (Below.refl _ _) _) _

set_option maxHeartbeats 1000000 in
theorem onlyOp_any (op r a b n : Int) (w : World) : Calls Tryz.prog 153 #[.agg (icells op r a b n)] w fun e w' => e = .returned (.agg (icells op 0 0 0 0)) ∧ Below w.heap.size w w' := by
  go_enter Tryz.func153, Tryz.ntmps153
  go_wp2
  refine bodyPost_ret (v := .agg (icells op 0 0 0 0)) (by simp [results, Tryz.results153, go_sem]) rfl ⟨rfl, ?_⟩
  exact bel_alloc (bel_alloc (Below.refl _ _) _) _

set_option maxHeartbeats 1000000 in
theorem ins_eq (a b c d e a' b' c' d' e' : Int) (w : World) : (Op.equalIn 10000 152 (.agg (icells a b c d e)) (.agg (icells a' b' c' d' e'))).run Tryz.prog w = .ok (a == a' && (b == b' && (c == c' && (d == d' && e == e')))) w := by
  have u3 := Tryz.underlying3
  have a3 := Tryz.isAgg3
  have z3 := Tryz.sizeOf3
  rw [show (10000 : Nat) = 9999 + 1 from rfl, Op.equalIn]
  simp only [Sem.run_bind, run_underlying Tryz.underlying152, Result.andThen_ok]
  go_simp
  by_cases h1 : a = a' <;> by_cases h2 : b = b' <;> by_cases h3 : c = c' <;> by_cases h4 : d = d' <;> by_cases h5 : e = e' <;> simp [h1, h2, h3, h4, h5]


set_option maxRecDepth 100000 in
set_option maxHeartbeats 1000000 in
theorem left_at (k : Nat) (hk : k < 11) (W : World) : (Instr.index 216 (.agg leftV) (.int .i64 k)).run Tryz.prog W = .ok (leftV.getD k .nilFunc) W := by
  have hd : 0 ≤ (k : Int) ∧ (k : Int) < (11 : Nat) := by omega
  have z3 := Tryz.sizeOf215
  have g3 := Tryz.isAgg215
  unfold Instr.index
  simp only [Sem.run_bind, run_underlying Tryz.underlying216, Result.andThen_ok]
  go_simp
  intro h
  omega
end Go.Proofs.YtnfjmdegbdphpaaGreat

/- What impl.InsOk answers at the ops [5, 6, 7] where all fields are in their bounds (written by mki8i.py). -/
namespace Go.Proofs.YtnfjmdegbdphpaaGreat
open Go.RowKit
set_option linter.unusedVariables false

set_option maxRecDepth 100000 in
set_option maxHeartbeats 8000000 in
theorem insOk_op5 (r a b n : Int) (w : World) (H1 : Hid (inB r 0 3 = true)) (H2 : Hid (inB a 0 3 = true)) (H3 : Hid (inB b 0 3 = true)) (H4 : Hid (inB n 0 63 = true)) : Calls Tryz.prog 104 #[.agg (icells 5 r a b n)] w fun e w' => e = .returned (.bool (insB 5 r a b n)) ∧ Below w.heap.size w w' := by
  have B := bel_alloc (Below.refl w.heap.size w) (.cells (icells 5 r a b n) 152)
  have X := Box.new w (icells 5 r a b n) 152
  have H0 : Hid (inB 5 1 10 = true) := by show _ = _; rfl
  have HE : ∀ W, (Op.equalIn 10000 152 (.agg (icells 5 r a b n)) (.agg (icells 5 0 a b n))).run Tryz.prog W = .ok (insB 5 r a b n) W := fun W => by
    rw [ins_eq]
    unfold insB fldB
    rw [H0.out, H1.out, H2.out, H3.out, H4.out]
    simp [hasR, hasA, hasB, hasN]
  obtain ⟨z, hz⟩ : ∃ z, insB 5 r a b n = z := ⟨_, rfl⟩
  rw [hz] at HE ⊢
  clear hz
  go_enter Tryz.func104, Tryz.ntmps104
  go_wp2_with fail
  refine (isOp_any 5 _).mono ?_
  rintro e w1 ⟨rfl, h⟩
  replace h := h.symm
  subst h
  rw [H0.out]
  go_wp2_with fail
  refine (isReg_any r _).mono ?_
  rintro e w2 ⟨rfl, h⟩
  replace h := h.symm
  subst h
  rw [H1.out]
  go_wp2_with fail
  refine (isReg_any a _).mono ?_
  rintro e w3 ⟨rfl, h⟩
  replace h := h.symm
  subst h
  rw [H2.out]
  go_wp2_with fail
  refine (isReg_any b _).mono ?_
  rintro e w4 ⟨rfl, h⟩
  replace h := h.symm
  subst h
  rw [H3.out]
  go_wp2_with fail
  refine (isOff_any n _).mono ?_
  rintro e w5 ⟨rfl, h⟩
  replace h := h.symm
  subst h
  rw [H4.out]
  have HL : ∀ W, (Instr.index 216 (.agg leftV) (.int .i64 5)).run Tryz.prog W = .ok (.func (.func 149) #[] #[]) W := fun W => left_at 5 (by decide) W
  go_wp2_with fail
  go_region_with (go_at_call 132; refine (left_any _).mono ?_; rintro e w6 ⟨rfl, b1⟩; have b1 := bel_undrew b1; have X1 := X.below b1; have B1 := bel_trans B b1; obtain ⟨x0, x1, x2, x3, x4, xz⟩ := X1.at5i; clear b1)
  all_goals
    clear X B
    go_wp2_with fail
    go_region_with (go_at_call 149; refine (onlyABN_any 5 r a b n _).mono ?_; rintro e w7 ⟨rfl, b1⟩; have b1 := bel_undrew b1; have X2 := X1.below b1; have B2 := bel_trans B1 b1; clear x0 x1 x2 x3 x4 xz; obtain ⟨x0, x1, x2, x3, x4, xz⟩ := X2.at5i; clear b1)
    all_goals
      go_wp2
      go_ret
      exact ⟨rfl, B2⟩
      
set_option maxRecDepth 100000 in
set_option maxHeartbeats 8000000 in
theorem insOk_op6 (r a b n : Int) (w : World) (H1 : Hid (inB r 0 3 = true)) (H2 : Hid (inB a 0 3 = true)) (H3 : Hid (inB b 0 3 = true)) (H4 : Hid (inB n 0 63 = true)) : Calls Tryz.prog 104 #[.agg (icells 6 r a b n)] w fun e w' => e = .returned (.bool (insB 6 r a b n)) ∧ Below w.heap.size w w' := by
  have B := bel_alloc (Below.refl w.heap.size w) (.cells (icells 6 r a b n) 152)
  have X := Box.new w (icells 6 r a b n) 152
  have H0 : Hid (inB 6 1 10 = true) := by show _ = _; rfl
  have HE : ∀ W, (Op.equalIn 10000 152 (.agg (icells 6 r a b n)) (.agg (icells 6 r a b n))).run Tryz.prog W = .ok (insB 6 r a b n) W := fun W => by
    rw [ins_eq]
    unfold insB fldB
    rw [H0.out, H1.out, H2.out, H3.out, H4.out]
    simp [hasR, hasA, hasB, hasN]
  obtain ⟨z, hz⟩ : ∃ z, insB 6 r a b n = z := ⟨_, rfl⟩
  rw [hz] at HE ⊢
  clear hz
  go_enter Tryz.func104, Tryz.ntmps104
  go_wp2_with fail
  refine (isOp_any 6 _).mono ?_
  rintro e w1 ⟨rfl, h⟩
  replace h := h.symm
  subst h
  rw [H0.out]
  go_wp2_with fail
  refine (isReg_any r _).mono ?_
  rintro e w2 ⟨rfl, h⟩
  replace h := h.symm
  subst h
  rw [H1.out]
  go_wp2_with fail
  refine (isReg_any a _).mono ?_
  rintro e w3 ⟨rfl, h⟩
  replace h := h.symm
  subst h
  rw [H2.out]
  go_wp2_with fail
  refine (isReg_any b _).mono ?_
  rintro e w4 ⟨rfl, h⟩
  replace h := h.symm
  subst h
  rw [H3.out]
  go_wp2_with fail
  refine (isOff_any n _).mono ?_
  rintro e w5 ⟨rfl, h⟩
  replace h := h.symm
  subst h
  rw [H4.out]
  have HL : ∀ W, (Instr.index 216 (.agg leftV) (.int .i64 6)).run Tryz.prog W = .ok (.func (.func 150) #[] #[]) W := fun W => left_at 6 (by decide) W
  go_wp2_with fail
  go_region_with (go_at_call 132; refine (left_any _).mono ?_; rintro e w6 ⟨rfl, b1⟩; have b1 := bel_undrew b1; have X1 := X.below b1; have B1 := bel_trans B b1; obtain ⟨x0, x1, x2, x3, x4, xz⟩ := X1.at5i; clear b1)
  all_goals
    clear X B
    go_wp2_with fail
    go_region_with (go_at_call 150; refine (onlyRABN_any 6 r a b n _).mono ?_; rintro e w7 ⟨rfl, b1⟩; have b1 := bel_undrew b1; have X2 := X1.below b1; have B2 := bel_trans B1 b1; clear x0 x1 x2 x3 x4 xz; obtain ⟨x0, x1, x2, x3, x4, xz⟩ := X2.at5i; clear b1)
    all_goals
      go_wp2
      go_ret
      exact ⟨rfl, B2⟩
      
set_option maxRecDepth 100000 in
set_option maxHeartbeats 8000000 in
theorem insOk_op7 (r a b n : Int) (w : World) (H1 : Hid (inB r 0 3 = true)) (H2 : Hid (inB a 0 3 = true)) (H3 : Hid (inB b 0 3 = true)) (H4 : Hid (inB n 0 63 = true)) : Calls Tryz.prog 104 #[.agg (icells 7 r a b n)] w fun e w' => e = .returned (.bool (insB 7 r a b n)) ∧ Below w.heap.size w w' := by
  have B := bel_alloc (Below.refl w.heap.size w) (.cells (icells 7 r a b n) 152)
  have X := Box.new w (icells 7 r a b n) 152
  have H0 : Hid (inB 7 1 10 = true) := by show _ = _; rfl
  have HE : ∀ W, (Op.equalIn 10000 152 (.agg (icells 7 r a b n)) (.agg (icells 7 0 a 0 n))).run Tryz.prog W = .ok (insB 7 r a b n) W := fun W => by
    rw [ins_eq]
    unfold insB fldB
    rw [H0.out, H1.out, H2.out, H3.out, H4.out]
    simp [hasR, hasA, hasB, hasN]
  obtain ⟨z, hz⟩ : ∃ z, insB 7 r a b n = z := ⟨_, rfl⟩
  rw [hz] at HE ⊢
  clear hz
  go_enter Tryz.func104, Tryz.ntmps104
  go_wp2_with fail
  refine (isOp_any 7 _).mono ?_
  rintro e w1 ⟨rfl, h⟩
  replace h := h.symm
  subst h
  rw [H0.out]
  go_wp2_with fail
  refine (isReg_any r _).mono ?_
  rintro e w2 ⟨rfl, h⟩
  replace h := h.symm
  subst h
  rw [H1.out]
  go_wp2_with fail
  refine (isReg_any a _).mono ?_
  rintro e w3 ⟨rfl, h⟩
  replace h := h.symm
  subst h
  rw [H2.out]
  go_wp2_with fail
  refine (isReg_any b _).mono ?_
  rintro e w4 ⟨rfl, h⟩
  replace h := h.symm
  subst h
  rw [H3.out]
  go_wp2_with fail
  refine (isOff_any n _).mono ?_
  rintro e w5 ⟨rfl, h⟩
  replace h := h.symm
  subst h
  rw [H4.out]
  have HL : ∀ W, (Instr.index 216 (.agg leftV) (.int .i64 7)).run Tryz.prog W = .ok (.func (.func 151) #[] #[]) W := fun W => left_at 7 (by decide) W
  go_wp2_with fail
  go_region_with (go_at_call 132; refine (left_any _).mono ?_; rintro e w6 ⟨rfl, b1⟩; have b1 := bel_undrew b1; have X1 := X.below b1; have B1 := bel_trans B b1; obtain ⟨x0, x1, x2, x3, x4, xz⟩ := X1.at5i; clear b1)
  all_goals
    clear X B
    go_wp2_with fail
    go_region_with (go_at_call 151; refine (onlyAN_any 7 r a b n _).mono ?_; rintro e w7 ⟨rfl, b1⟩; have b1 := bel_undrew b1; have X2 := X1.below b1; have B2 := bel_trans B1 b1; clear x0 x1 x2 x3 x4 xz; obtain ⟨x0, x1, x2, x3, x4, xz⟩ := X2.at5i; clear b1)
    all_goals
      go_wp2
      go_ret
      exact ⟨rfl, B2⟩
      
end Go.Proofs.YtnfjmdegbdphpaaGreat

/- What impl.InsOk answers at the ops [1, 2, 3, 4] where all fields are in their bounds (written by mki8i.py). -/
namespace Go.Proofs.YtnfjmdegbdphpaaGreat
open Go.RowKit
set_option linter.unusedVariables false

set_option maxRecDepth 100000 in
set_option maxHeartbeats 8000000 in
theorem insOk_op1 (r a b n : Int) (w : World) (H1 : Hid (inB r 0 3 = true)) (H2 : Hid (inB a 0 3 = true)) (H3 : Hid (inB b 0 3 = true)) (H4 : Hid (inB n 0 63 = true)) : Calls Tryz.prog 104 #[.agg (icells 1 r a b n)] w fun e w' => e = .returned (.bool (insB 1 r a b n)) ∧ Below w.heap.size w w' := by
  have B := bel_alloc (Below.refl w.heap.size w) (.cells (icells 1 r a b n) 152)
  have X := Box.new w (icells 1 r a b n) 152
  have H0 : Hid (inB 1 1 10 = true) := by show _ = _; rfl
  have HE : ∀ W, (Op.equalIn 10000 152 (.agg (icells 1 r a b n)) (.agg (icells 1 r 0 0 n))).run Tryz.prog W = .ok (insB 1 r a b n) W := fun W => by
    rw [ins_eq]
    unfold insB fldB
    rw [H0.out, H1.out, H2.out, H3.out, H4.out]
    simp [hasR, hasA, hasB, hasN]
  obtain ⟨z, hz⟩ : ∃ z, insB 1 r a b n = z := ⟨_, rfl⟩
  rw [hz] at HE ⊢
  clear hz
  go_enter Tryz.func104, Tryz.ntmps104
  go_wp2_with fail
  refine (isOp_any 1 _).mono ?_
  rintro e w1 ⟨rfl, h⟩
  replace h := h.symm
  subst h
  rw [H0.out]
  go_wp2_with fail
  refine (isReg_any r _).mono ?_
  rintro e w2 ⟨rfl, h⟩
  replace h := h.symm
  subst h
  rw [H1.out]
  go_wp2_with fail
  refine (isReg_any a _).mono ?_
  rintro e w3 ⟨rfl, h⟩
  replace h := h.symm
  subst h
  rw [H2.out]
  go_wp2_with fail
  refine (isReg_any b _).mono ?_
  rintro e w4 ⟨rfl, h⟩
  replace h := h.symm
  subst h
  rw [H3.out]
  go_wp2_with fail
  refine (isOff_any n _).mono ?_
  rintro e w5 ⟨rfl, h⟩
  replace h := h.symm
  subst h
  rw [H4.out]
  have HL : ∀ W, (Instr.index 216 (.agg leftV) (.int .i64 1)).run Tryz.prog W = .ok (.func (.func 146) #[] #[]) W := fun W => left_at 1 (by decide) W
  go_wp2_with fail
  go_region_with (go_at_call 132; refine (left_any _).mono ?_; rintro e w6 ⟨rfl, b1⟩; have b1 := bel_undrew b1; have X1 := X.below b1; have B1 := bel_trans B b1; obtain ⟨x0, x1, x2, x3, x4, xz⟩ := X1.at5i; clear b1)
  all_goals
    clear X B
    go_wp2_with fail
    go_region_with (go_at_call 146; refine (onlyRN_any 1 r a b n _).mono ?_; rintro e w7 ⟨rfl, b1⟩; have b1 := bel_undrew b1; have X2 := X1.below b1; have B2 := bel_trans B1 b1; clear x0 x1 x2 x3 x4 xz; obtain ⟨x0, x1, x2, x3, x4, xz⟩ := X2.at5i; clear b1)
    all_goals
      go_wp2
      go_ret
      exact ⟨rfl, B2⟩
      
set_option maxRecDepth 100000 in
set_option maxHeartbeats 8000000 in
theorem insOk_op2 (r a b n : Int) (w : World) (H1 : Hid (inB r 0 3 = true)) (H2 : Hid (inB a 0 3 = true)) (H3 : Hid (inB b 0 3 = true)) (H4 : Hid (inB n 0 63 = true)) : Calls Tryz.prog 104 #[.agg (icells 2 r a b n)] w fun e w' => e = .returned (.bool (insB 2 r a b n)) ∧ Below w.heap.size w w' := by
  have B := bel_alloc (Below.refl w.heap.size w) (.cells (icells 2 r a b n) 152)
  have X := Box.new w (icells 2 r a b n) 152
  have H0 : Hid (inB 2 1 10 = true) := by show _ = _; rfl
  have HE : ∀ W, (Op.equalIn 10000 152 (.agg (icells 2 r a b n)) (.agg (icells 2 r a b 0))).run Tryz.prog W = .ok (insB 2 r a b n) W := fun W => by
    rw [ins_eq]
    unfold insB fldB
    rw [H0.out, H1.out, H2.out, H3.out, H4.out]
    simp [hasR, hasA, hasB, hasN]
  obtain ⟨z, hz⟩ : ∃ z, insB 2 r a b n = z := ⟨_, rfl⟩
  rw [hz] at HE ⊢
  clear hz
  go_enter Tryz.func104, Tryz.ntmps104
  go_wp2_with fail
  refine (isOp_any 2 _).mono ?_
  rintro e w1 ⟨rfl, h⟩
  replace h := h.symm
  subst h
  rw [H0.out]
  go_wp2_with fail
  refine (isReg_any r _).mono ?_
  rintro e w2 ⟨rfl, h⟩
  replace h := h.symm
  subst h
  rw [H1.out]
  go_wp2_with fail
  refine (isReg_any a _).mono ?_
  rintro e w3 ⟨rfl, h⟩
  replace h := h.symm
  subst h
  rw [H2.out]
  go_wp2_with fail
  refine (isReg_any b _).mono ?_
  rintro e w4 ⟨rfl, h⟩
  replace h := h.symm
  subst h
  rw [H3.out]
  go_wp2_with fail
  refine (isOff_any n _).mono ?_
  rintro e w5 ⟨rfl, h⟩
  replace h := h.symm
  subst h
  rw [H4.out]
  have HL : ∀ W, (Instr.index 216 (.agg leftV) (.int .i64 2)).run Tryz.prog W = .ok (.func (.func 147) #[] #[]) W := fun W => left_at 2 (by decide) W
  go_wp2_with fail
  go_region_with (go_at_call 132; refine (left_any _).mono ?_; rintro e w6 ⟨rfl, b1⟩; have b1 := bel_undrew b1; have X1 := X.below b1; have B1 := bel_trans B b1; obtain ⟨x0, x1, x2, x3, x4, xz⟩ := X1.at5i; clear b1)
  all_goals
    clear X B
    go_wp2_with fail
    go_region_with (go_at_call 147; refine (onlyRAB_any 2 r a b n _).mono ?_; rintro e w7 ⟨rfl, b1⟩; have b1 := bel_undrew b1; have X2 := X1.below b1; have B2 := bel_trans B1 b1; clear x0 x1 x2 x3 x4 xz; obtain ⟨x0, x1, x2, x3, x4, xz⟩ := X2.at5i; clear b1)
    all_goals
      go_wp2
      go_ret
      exact ⟨rfl, B2⟩
      
set_option maxRecDepth 100000 in
set_option maxHeartbeats 8000000 in
theorem insOk_op3 (r a b n : Int) (w : World) (H1 : Hid (inB r 0 3 = true)) (H2 : Hid (inB a 0 3 = true)) (H3 : Hid (inB b 0 3 = true)) (H4 : Hid (inB n 0 63 = true)) : Calls Tryz.prog 104 #[.agg (icells 3 r a b n)] w fun e w' => e = .returned (.bool (insB 3 r a b n)) ∧ Below w.heap.size w w' := by
  have B := bel_alloc (Below.refl w.heap.size w) (.cells (icells 3 r a b n) 152)
  have X := Box.new w (icells 3 r a b n) 152
  have H0 : Hid (inB 3 1 10 = true) := by show _ = _; rfl
  have HE : ∀ W, (Op.equalIn 10000 152 (.agg (icells 3 r a b n)) (.agg (icells 3 r a 0 n))).run Tryz.prog W = .ok (insB 3 r a b n) W := fun W => by
    rw [ins_eq]
    unfold insB fldB
    rw [H0.out, H1.out, H2.out, H3.out, H4.out]
    simp [hasR, hasA, hasB, hasN]
  obtain ⟨z, hz⟩ : ∃ z, insB 3 r a b n = z := ⟨_, rfl⟩
  rw [hz] at HE ⊢
  clear hz
  go_enter Tryz.func104, Tryz.ntmps104
  go_wp2_with fail
  refine (isOp_any 3 _).mono ?_
  rintro e w1 ⟨rfl, h⟩
  replace h := h.symm
  subst h
  rw [H0.out]
  go_wp2_with fail
  refine (isReg_any r _).mono ?_
  rintro e w2 ⟨rfl, h⟩
  replace h := h.symm
  subst h
  rw [H1.out]
  go_wp2_with fail
  refine (isReg_any a _).mono ?_
  rintro e w3 ⟨rfl, h⟩
  replace h := h.symm
  subst h
  rw [H2.out]
  go_wp2_with fail
  refine (isReg_any b _).mono ?_
  rintro e w4 ⟨rfl, h⟩
  replace h := h.symm
  subst h
  rw [H3.out]
  go_wp2_with fail
  refine (isOff_any n _).mono ?_
  rintro e w5 ⟨rfl, h⟩
  replace h := h.symm
  subst h
  rw [H4.out]
  have HL : ∀ W, (Instr.index 216 (.agg leftV) (.int .i64 3)).run Tryz.prog W = .ok (.func (.func 148) #[] #[]) W := fun W => left_at 3 (by decide) W
  go_wp2_with fail
  go_region_with (go_at_call 132; refine (left_any _).mono ?_; rintro e w6 ⟨rfl, b1⟩; have b1 := bel_undrew b1; have X1 := X.below b1; have B1 := bel_trans B b1; obtain ⟨x0, x1, x2, x3, x4, xz⟩ := X1.at5i; clear b1)
  all_goals
    clear X B
    go_wp2_with fail
    go_region_with (go_at_call 148; refine (onlyRAN_any 3 r a b n _).mono ?_; rintro e w7 ⟨rfl, b1⟩; have b1 := bel_undrew b1; have X2 := X1.below b1; have B2 := bel_trans B1 b1; clear x0 x1 x2 x3 x4 xz; obtain ⟨x0, x1, x2, x3, x4, xz⟩ := X2.at5i; clear b1)
    all_goals
      go_wp2
      go_ret
      exact ⟨rfl, B2⟩
      
set_option maxRecDepth 100000 in
set_option maxHeartbeats 8000000 in
theorem insOk_op4 (r a b n : Int) (w : World) (H1 : Hid (inB r 0 3 = true)) (H2 : Hid (inB a 0 3 = true)) (H3 : Hid (inB b 0 3 = true)) (H4 : Hid (inB n 0 63 = true)) : Calls Tryz.prog 104 #[.agg (icells 4 r a b n)] w fun e w' => e = .returned (.bool (insB 4 r a b n)) ∧ Below w.heap.size w w' := by
  have B := bel_alloc (Below.refl w.heap.size w) (.cells (icells 4 r a b n) 152)
  have X := Box.new w (icells 4 r a b n) 152
  have H0 : Hid (inB 4 1 10 = true) := by show _ = _; rfl
  have HE : ∀ W, (Op.equalIn 10000 152 (.agg (icells 4 r a b n)) (.agg (icells 4 r a 0 n))).run Tryz.prog W = .ok (insB 4 r a b n) W := fun W => by
    rw [ins_eq]
    unfold insB fldB
    rw [H0.out, H1.out, H2.out, H3.out, H4.out]
    simp [hasR, hasA, hasB, hasN]
  obtain ⟨z, hz⟩ : ∃ z, insB 4 r a b n = z := ⟨_, rfl⟩
  rw [hz] at HE ⊢
  clear hz
  go_enter Tryz.func104, Tryz.ntmps104
  go_wp2_with fail
  refine (isOp_any 4 _).mono ?_
  rintro e w1 ⟨rfl, h⟩
  replace h := h.symm
  subst h
  rw [H0.out]
  go_wp2_with fail
  refine (isReg_any r _).mono ?_
  rintro e w2 ⟨rfl, h⟩
  replace h := h.symm
  subst h
  rw [H1.out]
  go_wp2_with fail
  refine (isReg_any a _).mono ?_
  rintro e w3 ⟨rfl, h⟩
  replace h := h.symm
  subst h
  rw [H2.out]
  go_wp2_with fail
  refine (isReg_any b _).mono ?_
  rintro e w4 ⟨rfl, h⟩
  replace h := h.symm
  subst h
  rw [H3.out]
  go_wp2_with fail
  refine (isOff_any n _).mono ?_
  rintro e w5 ⟨rfl, h⟩
  replace h := h.symm
  subst h
  rw [H4.out]
  have HL : ∀ W, (Instr.index 216 (.agg leftV) (.int .i64 4)).run Tryz.prog W = .ok (.func (.func 148) #[] #[]) W := fun W => left_at 4 (by decide) W
  go_wp2_with fail
  go_region_with (go_at_call 132; refine (left_any _).mono ?_; rintro e w6 ⟨rfl, b1⟩; have b1 := bel_undrew b1; have X1 := X.below b1; have B1 := bel_trans B b1; obtain ⟨x0, x1, x2, x3, x4, xz⟩ := X1.at5i; clear b1)
  all_goals
    clear X B
    go_wp2_with fail
    go_region_with (go_at_call 148; refine (onlyRAN_any 4 r a b n _).mono ?_; rintro e w7 ⟨rfl, b1⟩; have b1 := bel_undrew b1; have X2 := X1.below b1; have B2 := bel_trans B1 b1; clear x0 x1 x2 x3 x4 xz; obtain ⟨x0, x1, x2, x3, x4, xz⟩ := X2.at5i; clear b1)
    all_goals
      go_wp2
      go_ret
      exact ⟨rfl, B2⟩
      
end Go.Proofs.YtnfjmdegbdphpaaGreat
