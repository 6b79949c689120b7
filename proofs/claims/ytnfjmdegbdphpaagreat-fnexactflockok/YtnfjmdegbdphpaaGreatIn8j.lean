/- In8o3 and In8j: see the heads of the parts. -/
import Derived.Test.YtnfjmdegbdphpaaGreatIn8o1
/- What impl.InsOk answers at the ops [8, 9, 10] where all fields are in their bounds (written by mki8i.py). -/
namespace Go.Proofs.YtnfjmdegbdphpaaGreat
open Go.RowKit
set_option linter.unusedVariables false

set_option maxRecDepth 100000 in
set_option maxHeartbeats 8000000 in
theorem insOk_op8 (r a b n : Int) (w : World) (H1 : Hid (inB r 0 3 = true)) (H2 : Hid (inB a 0 3 = true)) (H3 : Hid (inB b 0 3 = true)) (H4 : Hid (inB n 0 63 = true)) : Calls Tryz.prog 104 #[.agg (icells 8 r a b n)] w fun e w' => e = .returned (.bool (insB 8 r a b n)) ∧ Below w.heap.size w w' := by
  have B := bel_alloc (Below.refl w.heap.size w) (.cells (icells 8 r a b n) 152)
  have X := Box.new w (icells 8 r a b n) 152
  have H0 : Hid (inB 8 1 10 = true) := by show _ = _; rfl
  have HE : ∀ W, (Op.equalIn 10000 152 (.agg (icells 8 r a b n)) (.agg (icells 8 0 0 0 n))).run Tryz.prog W = .ok (insB 8 r a b n) W := fun W => by
    rw [ins_eq]
    unfold insB fldB
    rw [H0.out, H1.out, H2.out, H3.out, H4.out]
    simp [hasR, hasA, hasB, hasN]
  obtain ⟨z, hz⟩ : ∃ z, insB 8 r a b n = z := ⟨_, rfl⟩
  rw [hz] at HE ⊢
  clear hz
  go_enter Tryz.func104, Tryz.ntmps104
  go_wp2_with fail
  refine (isOp_any 8 _).mono ?_
  rintro e w1 ⟨rfl, h⟩
  replace h := h.symm
  subst h
  rw [H0.out]
  go_wp2_with fail
  refine (isReg_any r _).mono ?_
  rintro e w2 ⟨rfl, h⟩
  replace h := h.symm
  subst h
  rw [H1.out]
  go_wp2_with fail
  refine (isReg_any a _).mono ?_
  rintro e w3 ⟨rfl, h⟩
  replace h := h.symm
  subst h
  rw [H2.out]
  go_wp2_with fail
  refine (isReg_any b _).mono ?_
  rintro e w4 ⟨rfl, h⟩
  replace h := h.symm
  subst h
  rw [H3.out]
  go_wp2_with fail
  refine (isOff_any n _).mono ?_
  rintro e w5 ⟨rfl, h⟩
  replace h := h.symm
  subst h
  rw [H4.out]
  have HL : ∀ W, (Instr.index 216 (.agg leftV) (.int .i64 8)).run Tryz.prog W = .ok (.func (.func 152) #[] #[]) W := fun W => left_at 8 (by decide) W
  go_wp2_with fail
  go_region_with (go_at_call 132; refine (left_any _).mono ?_; rintro e w6 ⟨rfl, b1⟩; have b1 := bel_undrew b1; have X1 := X.below b1; have B1 := bel_trans B b1; obtain ⟨x0, x1, x2, x3, x4, xz⟩ := X1.at5i; clear b1)
  all_goals
    clear X B
    go_wp2_with fail
    go_region_with (go_at_call 152; refine (onlyN_any 8 r a b n _).mono ?_; rintro e w7 ⟨rfl, b1⟩; have b1 := bel_undrew b1; have X2 := X1.below b1; have B2 := bel_trans B1 b1; clear x0 x1 x2 x3 x4 xz; obtain ⟨x0, x1, x2, x3, x4, xz⟩ := X2.at5i; clear b1)
    all_goals
      go_wp2
      go_ret
      exact ⟨rfl, B2⟩
      
set_option maxRecDepth 100000 in
set_option maxHeartbeats 8000000 in
theorem insOk_op9 (r a b n : Int) (w : World) (H1 : Hid (inB r 0 3 = true)) (H2 : Hid (inB a 0 3 = true)) (H3 : Hid (inB b 0 3 = true)) (H4 : Hid (inB n 0 63 = true)) : Calls Tryz.prog 104 #[.agg (icells 9 r a b n)] w fun e w' => e = .returned (.bool (insB 9 r a b n)) ∧ Below w.heap.size w w' := by
  have B := bel_alloc (Below.refl w.heap.size w) (.cells (icells 9 r a b n) 152)
  have X := Box.new w (icells 9 r a b n) 152
  have H0 : Hid (inB 9 1 10 = true) := by show _ = _; rfl
  have HE : ∀ W, (Op.equalIn 10000 152 (.agg (icells 9 r a b n)) (.agg (icells 9 0 0 0 0))).run Tryz.prog W = .ok (insB 9 r a b n) W := fun W => by
    rw [ins_eq]
    unfold insB fldB
    rw [H0.out, H1.out, H2.out, H3.out, H4.out]
    simp [hasR, hasA, hasB, hasN]
  obtain ⟨z, hz⟩ : ∃ z, insB 9 r a b n = z := ⟨_, rfl⟩
  rw [hz] at HE ⊢
  clear hz
  go_enter Tryz.func104, Tryz.ntmps104
  go_wp2_with fail
  refine (isOp_any 9 _).mono ?_
  rintro e w1 ⟨rfl, h⟩
  replace h := h.symm
  subst h
  rw [H0.out]
  go_wp2_with fail
  refine (isReg_any r _).mono ?_
  rintro e w2 ⟨rfl, h⟩
  replace h := h.symm
  subst h
  rw [H1.out]
  go_wp2_with fail
  refine (isReg_any a _).mono ?_
  rintro e w3 ⟨rfl, h⟩
  replace h := h.symm
  subst h
  rw [H2.out]
  go_wp2_with fail
  refine (isReg_any b _).mono ?_
  rintro e w4 ⟨rfl, h⟩
  replace h := h.symm
  subst h
  rw [H3.out]
  go_wp2_with fail
  refine (isOff_any n _).mono ?_
  rintro e w5 ⟨rfl, h⟩
  replace h := h.symm
  subst h
  rw [H4.out]
  have HL : ∀ W, (Instr.index 216 (.agg leftV) (.int .i64 9)).run Tryz.prog W = .ok (.func (.func 153) #[] #[]) W := fun W => left_at 9 (by decide) W
  go_wp2_with fail
  go_region_with (go_at_call 132; refine (left_any _).mono ?_; rintro e w6 ⟨rfl, b1⟩; have b1 := bel_undrew b1; have X1 := X.below b1; have B1 := bel_trans B b1; obtain ⟨x0, x1, x2, x3, x4, xz⟩ := X1.at5i; clear b1)
  all_goals
    clear X B
    go_wp2_with fail
    go_region_with (go_at_call 153; refine (onlyOp_any 9 r a b n _).mono ?_; rintro e w7 ⟨rfl, b1⟩; have b1 := bel_undrew b1; have X2 := X1.below b1; have B2 := bel_trans B1 b1; clear x0 x1 x2 x3 x4 xz; obtain ⟨x0, x1, x2, x3, x4, xz⟩ := X2.at5i; clear b1)
    all_goals
      go_wp2
      go_ret
      exact ⟨rfl, B2⟩
      
set_option maxRecDepth 100000 in
set_option maxHeartbeats 8000000 in
theorem insOk_op10 (r a b n : Int) (w : World) (H1 : Hid (inB r 0 3 = true)) (H2 : Hid (inB a 0 3 = true)) (H3 : Hid (inB b 0 3 = true)) (H4 : Hid (inB n 0 63 = true)) : Calls Tryz.prog 104 #[.agg (icells 10 r a b n)] w fun e w' => e = .returned (.bool (insB 10 r a b n)) ∧ Below w.heap.size w w' := by
  have B := bel_alloc (Below.refl w.heap.size w) (.cells (icells 10 r a b n) 152)
  have X := Box.new w (icells 10 r a b n) 152
  have H0 : Hid (inB 10 1 10 = true) := by show _ = _; rfl
  have HE : ∀ W, (Op.equalIn 10000 152 (.agg (icells 10 r a b n)) (.agg (icells 10 r a b 0))).run Tryz.prog W = .ok (insB 10 r a b n) W := fun W => by
    rw [ins_eq]
    unfold insB fldB
    rw [H0.out, H1.out, H2.out, H3.out, H4.out]
    simp [hasR, hasA, hasB, hasN]
  obtain ⟨z, hz⟩ : ∃ z, insB 10 r a b n = z := ⟨_, rfl⟩
  rw [hz] at HE ⊢
  clear hz
  go_enter Tryz.func104, Tryz.ntmps104
  go_wp2_with fail
  refine (isOp_any 10 _).mono ?_
  rintro e w1 ⟨rfl, h⟩
  replace h := h.symm
  subst h
  rw [H0.out]
  go_wp2_with fail
  refine (isReg_any r _).mono ?_
  rintro e w2 ⟨rfl, h⟩
  replace h := h.symm
  subst h
  rw [H1.out]
  go_wp2_with fail
  refine (isReg_any a _).mono ?_
  rintro e w3 ⟨rfl, h⟩
  replace h := h.symm
  subst h
  rw [H2.out]
  go_wp2_with fail
  refine (isReg_any b _).mono ?_
  rintro e w4 ⟨rfl, h⟩
  replace h := h.symm
  subst h
  rw [H3.out]
  go_wp2_with fail
  refine (isOff_any n _).mono ?_
  rintro e w5 ⟨rfl, h⟩
  replace h := h.symm
  subst h
  rw [H4.out]
  have HL : ∀ W, (Instr.index 216 (.agg leftV) (.int .i64 10)).run Tryz.prog W = .ok (.func (.func 147) #[] #[]) W := fun W => left_at 10 (by decide) W
  go_wp2_with fail
  go_region_with (go_at_call 132; refine (left_any _).mono ?_; rintro e w6 ⟨rfl, b1⟩; have b1 := bel_undrew b1; have X1 := X.below b1; have B1 := bel_trans B b1; obtain ⟨x0, x1, x2, x3, x4, xz⟩ := X1.at5i; clear b1)
  all_goals
    clear X B
    go_wp2_with fail
    go_region_with (go_at_call 147; refine (onlyRAB_any 10 r a b n _).mono ?_; rintro e w7 ⟨rfl, b1⟩; have b1 := bel_undrew b1; have X2 := X1.below b1; have B2 := bel_trans B1 b1; clear x0 x1 x2 x3 x4 xz; obtain ⟨x0, x1, x2, x3, x4, xz⟩ := X2.at5i; clear b1)
    all_goals
      go_wp2
      go_ret
      exact ⟨rfl, B2⟩
      
end Go.Proofs.YtnfjmdegbdphpaaGreat

/- What impl's InsOk, Code, Decode and Ends answer (written by mki8i.py). -/
namespace Go.Proofs.YtnfjmdegbdphpaaGreat
open Go.RowKit
set_option linter.unusedVariables false

set_option maxHeartbeats 1000000 in
theorem isWord8_any (x : Int) (w : World) : Calls Tryz.prog 71 #[.int .i64 x] w fun e w' => e = .returned (.bool (inB x 0 65535)) ∧ w' = w := by
  have HV : Hid (inB x 0 65535 = decide (0 ≤ x ∧ x ≤ 65535)) := by show _ = _; rfl
  by_cases h1 : 0 ≤ x
  · by_cases h2 : x ≤ 65535
    · go_enter Tryz.func71, Tryz.ntmps71
      go_wp2
      go_ret
      exact ⟨ret_bool (by rw [HV.out]; simp; omega), rfl⟩
    · go_enter Tryz.func71, Tryz.ntmps71
      go_wp2
      go_ret
      exact ⟨ret_bool (by rw [HV.out]; simp; omega), rfl⟩
  · go_enter Tryz.func71, Tryz.ntmps71
    go_wp2
    go_ret
    exact ⟨ret_bool (by rw [HV.out]; simp; omega), rfl⟩

set_option maxRecDepth 100000 in
set_option maxHeartbeats 8000000 in
theorem implInsOk_any (op r a b n : Int) (w : World) : Calls Tryz.prog 104 #[.agg (icells op r a b n)] w fun e w' => e = .returned (.bool (insB op r a b n)) ∧ Below w.heap.size w w' := by
  have B := bel_alloc (Below.refl w.heap.size w) (.cells (icells op r a b n) 152)
  have X := Box.new w (icells op r a b n) 152
  cases h0 : inB op 1 10
  · have H0 : Hid (inB op 1 10 = false) := h0
    have HV : Hid (insB op r a b n = false) := by show _ = _; unfold insB fldB; rw [h0]; simp
    clear h0
    go_enter Tryz.func104, Tryz.ntmps104
    go_wp2_with fail
    refine (isOp_any op _).mono ?_
    rintro e w1 ⟨rfl, h⟩
    replace h := h.symm
    subst h
    rw [H0.out]
    go_wp2
    go_ret
    exact ⟨ret_bool HV.out.symm, B⟩
  have H0 : Hid (inB op 1 10 = true) := h0
  cases h1 : inB r 0 3
  · have H1 : Hid (inB r 0 3 = false) := h1
    have HV : Hid (insB op r a b n = false) := by show _ = _; unfold insB fldB; rw [h1]; simp
    clear h1
    go_enter Tryz.func104, Tryz.ntmps104
    go_wp2_with fail
    refine (isOp_any op _).mono ?_
    rintro e w1 ⟨rfl, h⟩
    replace h := h.symm
    subst h
    rw [H0.out]
    go_wp2_with fail
    refine (isReg_any r _).mono ?_
    rintro e w2 ⟨rfl, h⟩
    replace h := h.symm
    subst h
    rw [H1.out]
    go_wp2
    go_ret
    exact ⟨ret_bool HV.out.symm, B⟩
  have H1 : Hid (inB r 0 3 = true) := h1
  clear h1
  cases h2 : inB a 0 3
  · have H2 : Hid (inB a 0 3 = false) := h2
    have HV : Hid (insB op r a b n = false) := by show _ = _; unfold insB fldB; rw [h2]; simp
    clear h2
    go_enter Tryz.func104, Tryz.ntmps104
    go_wp2_with fail
    refine (isOp_any op _).mono ?_
    rintro e w1 ⟨rfl, h⟩
    replace h := h.symm
    subst h
    rw [H0.out]
    go_wp2_with fail
    refine (isReg_any r _).mono ?_
    rintro e w2 ⟨rfl, h⟩
    replace h := h.symm
    subst h
    rw [H1.out]
    go_wp2_with fail
    refine (isReg_any a _).mono ?_
    rintro e w3 ⟨rfl, h⟩
    replace h := h.symm
    subst h
    rw [H2.out]
    go_wp2
    go_ret
    exact ⟨ret_bool HV.out.symm, B⟩
  have H2 : Hid (inB a 0 3 = true) := h2
  clear h2
  cases h3 : inB b 0 3
  · have H3 : Hid (inB b 0 3 = false) := h3
    have HV : Hid (insB op r a b n = false) := by show _ = _; unfold insB fldB; rw [h3]; simp
    clear h3
    go_enter Tryz.func104, Tryz.ntmps104
    go_wp2_with fail
    refine (isOp_any op _).mono ?_
    rintro e w1 ⟨rfl, h⟩
    replace h := h.symm
    subst h
    rw [H0.out]
    go_wp2_with fail
    refine (isReg_any r _).mono ?_
    rintro e w2 ⟨rfl, h⟩
    replace h := h.symm
    subst h
    rw [H1.out]
    go_wp2_with fail
    refine (isReg_any a _).mono ?_
    rintro e w3 ⟨rfl, h⟩
    replace h := h.symm
    subst h
    rw [H2.out]
    go_wp2_with fail
    refine (isReg_any b _).mono ?_
    rintro e w4 ⟨rfl, h⟩
    replace h := h.symm
    subst h
    rw [H3.out]
    go_wp2
    go_ret
    exact ⟨ret_bool HV.out.symm, B⟩
  have H3 : Hid (inB b 0 3 = true) := h3
  clear h3
  cases h4 : inB n 0 63
  · have H4 : Hid (inB n 0 63 = false) := h4
    have HV : Hid (insB op r a b n = false) := by show _ = _; unfold insB fldB; rw [h4]; simp
    clear h4
    go_enter Tryz.func104, Tryz.ntmps104
    go_wp2_with fail
    refine (isOp_any op _).mono ?_
    rintro e w1 ⟨rfl, h⟩
    replace h := h.symm
    subst h
    rw [H0.out]
    go_wp2_with fail
    refine (isReg_any r _).mono ?_
    rintro e w2 ⟨rfl, h⟩
    replace h := h.symm
    subst h
    rw [H1.out]
    go_wp2_with fail
    refine (isReg_any a _).mono ?_
    rintro e w3 ⟨rfl, h⟩
    replace h := h.symm
    subst h
    rw [H2.out]
    go_wp2_with fail
    refine (isReg_any b _).mono ?_
    rintro e w4 ⟨rfl, h⟩
    replace h := h.symm
    subst h
    rw [H3.out]
    go_wp2_with fail
    refine (isOff_any n _).mono ?_
    rintro e w5 ⟨rfl, h⟩
    replace h := h.symm
    subst h
    rw [H4.out]
    go_wp2
    go_ret
    exact ⟨ret_bool HV.out.symm, B⟩
  have H4 : Hid (inB n 0 63 = true) := h4
  clear h4
  rcases op_cases h0 with rfl | rfl | rfl | rfl | rfl | rfl | rfl | rfl | rfl | rfl
  · exact insOk_op1 r a b n w H1 H2 H3 H4
  · exact insOk_op2 r a b n w H1 H2 H3 H4
  · exact insOk_op3 r a b n w H1 H2 H3 H4
  · exact insOk_op4 r a b n w H1 H2 H3 H4
  · exact insOk_op5 r a b n w H1 H2 H3 H4
  · exact insOk_op6 r a b n w H1 H2 H3 H4
  · exact insOk_op7 r a b n w H1 H2 H3 H4
  · exact insOk_op8 r a b n w H1 H2 H3 H4
  · exact insOk_op9 r a b n w H1 H2 H3 H4
  · exact insOk_op10 r a b n w H1 H2 H3 H4


set_option maxRecDepth 100000 in
set_option maxHeartbeats 4000000 in
theorem implEnds_any (op r a b n : Int) (w : World) : Calls Tryz.prog 103 #[.agg (icells op r a b n)] w fun e w' => e = .returned (.bool (endsB op r a b n)) ∧ Below w.heap.size w w' := by
  have B := bel_alloc (Below.refl w.heap.size w) (.cells (icells op r a b n) 152)
  have X := Box.new w (icells op r a b n) 152
  have HV : Hid (endsB op r a b n = (!insB op r a b n || (op == 7 || (op == 8 || op == 9)))) := by show _ = _; rfl
  by_cases h7 : op = 7
  · subst h7
    go_enter Tryz.func103, Tryz.ntmps103
    go_wp2
    go_ret
    exact ⟨ret_bool (by rw [HV.out]; simp), B⟩
  by_cases h8 : op = 8
  · subst h8
    go_enter Tryz.func103, Tryz.ntmps103
    go_wp2
    go_ret
    exact ⟨ret_bool (by rw [HV.out]; simp), B⟩
  by_cases h9 : op = 9
  · subst h9
    go_enter Tryz.func103, Tryz.ntmps103
    go_wp2
    go_ret
    exact ⟨ret_bool (by rw [HV.out]; simp), B⟩
  have e7 : (op == 7) = false := by simpa using h7
  have e8 : (op == 8) = false := by simpa using h8
  have e9 : (op == 9) = false := by simpa using h9
  have HV2 : Hid (endsB op r a b n = !insB op r a b n) := by show _ = _; rw [HV.out, e7, e8, e9]; simp
  clear HV
  go_enter Tryz.func103, Tryz.ntmps103
  go_wp2_with fail
  refine (implInsOk_any op r a b n _).mono ?_
  rintro e w1 ⟨rfl, b1⟩
  replace B := bel_trans B b1
  clear X b1
  generalize hz : insB op r a b n = z
  have HZ : Hid (insB op r a b n = z) := hz
  clear hz
  go_wp2
  go_ret
  exact ⟨ret_bool (by rw [HV2.out, HZ.out]), B⟩

set_option maxRecDepth 100000 in
set_option maxHeartbeats 4000000 in
theorem implDecode_any (v : Int) (w : World) : Calls Tryz.prog 106 #[.int .i64 v] w fun e w' => e = .returned (.tuple #[.agg (decV v), .bool (decB v)]) ∧ Below w.heap.size w w' := by
  have B := bel_alloc (Below.refl w.heap.size w) (.cells (icells 0 0 0 0 0) 152)
  cases hb : inB v 0 65535
  · have HB : Hid (inB v 0 65535 = false) := hb
    have HV : Hid (decB v = false) := by show _ = _; unfold decB; rw [hb]; rfl
    have HW : Hid (decV v = icells 0 0 0 0 0) := by show _ = _; unfold decV; rw [HV.out]; rfl
    clear hb
    go_enter Tryz.func106, Tryz.ntmps106
    go_wp2_with fail
    refine (isWord8_any v _).mono ?_
    rintro e w1 ⟨rfl, h⟩
    subst h
    rw [HB.out]
    go_wp2
    refine bodyPost_ret (v := .tuple #[.agg (icells 0 0 0 0 0), .bool false]) (by simp [results, Tryz.results106, go_sem]) rfl ⟨by rw [HW.out, HV.out], ?_⟩
    first | exact B | (simpa using B) | exact bel_setCell (bel_setCell (bel_setCell (bel_setCell (bel_setCell B _ _ (Nat.le_refl _)) _ _ (Nat.le_refl _)) _ _ (Nat.le_refl _)) _ _ (Nat.le_refl _)) _ _ (Nat.le_refl _)
  · have HB : Hid (inB v 0 65535 = true) := hb
    obtain ⟨v0, v1⟩ : 0 ≤ v ∧ v ≤ 65535 := by simpa [inB] using hb
    obtain ⟨op, hop⟩ : ∃ x, v % 16 = x := ⟨_, rfl⟩
    obtain ⟨r, hr⟩ : ∃ x, v / 16 % 4 = x := ⟨_, rfl⟩
    obtain ⟨a, ha⟩ : ∃ x, v / 64 % 4 = x := ⟨_, rfl⟩
    obtain ⟨b, hbb⟩ : ∃ x, v / 256 % 4 = x := ⟨_, rfl⟩
    obtain ⟨n, hn⟩ : ∃ x, v / 1024 = x := ⟨_, rfl⟩
    have n0 : 0 ≤ n := by omega
    have n1 : n ≤ 63 := by omega
    have HD : Hid (decD v = (op, r, a, b, n)) := by show _ = _; unfold decD; rw [hop, hr, ha, hbb, hn]
    have HDB : Hid (decB v = insB op r a b n) := by show _ = _; unfold decB; rw [hb, HD.out]; rfl
    clear hb
    have B2 := bel_alloc B (.cells (icells op r a b n) 152)
    obtain ⟨X0, X1⟩ := Box.two w (icells 0 0 0 0 0) (icells op r a b n) 152 152
    cases hi : insB op r a b n
    · have HI : Hid (insB op r a b n = false) := hi
      have HW : Hid (decV v = icells 0 0 0 0 0) := by show _ = _; unfold decV; rw [HDB.out, hi]; rfl
      clear hi
      go_enter Tryz.func106, Tryz.ntmps106
      go_wp2_with fail
      refine (isWord8_any v _).mono ?_
      rintro e w1 ⟨rfl, h⟩
      subst h
      rw [HB.out]
      go_wp2_with fail
      refine (implInsOk_any op r a b n _).mono ?_
      rintro e w1 ⟨rfl, b1⟩
      rw [HI.out]
      obtain ⟨x0, x1, x2, x3, x4, xz⟩ := (X0.below b1).at5i
      have f0 := (X0.below b1).frozen 0
      have f1 := (X0.below b1).frozen 1
      have f2 := (X0.below b1).frozen 2
      have f3 := (X0.below b1).frozen 3
      have f4 := (X0.below b1).frozen 4
      have B3 := bel_trans B2 b1
      clear X0 X1 b1 B B2
      go_wp2
      refine bodyPost_ret (v := .tuple #[.agg (icells 0 0 0 0 0), .bool false]) (by simp [results, Tryz.results106, go_sem, x0, x1, x2, x3, x4]) rfl ⟨by rw [HW.out, HDB.out, HI.out], ?_⟩
      first | exact B3 | exact bel_setCell (bel_setCell (bel_setCell (bel_setCell (bel_setCell B3 _ _ (Nat.le_refl _)) _ _ (Nat.le_refl _)) _ _ (Nat.le_refl _)) _ _ (Nat.le_refl _)) _ _ (Nat.le_refl _)
    · have HI : Hid (insB op r a b n = true) := hi
      have HW : Hid (decV v = icells op r a b n) := by show _ = _; unfold decV; rw [HDB.out, hi, HD.out]; rfl
      clear hi
      go_enter Tryz.func106, Tryz.ntmps106
      go_wp2_with fail
      refine (isWord8_any v _).mono ?_
      rintro e w1 ⟨rfl, h⟩
      subst h
      rw [HB.out]
      go_wp2_with fail
      refine (implInsOk_any op r a b n _).mono ?_
      rintro e w1 ⟨rfl, b1⟩
      rw [HI.out]
      obtain ⟨x0, x1, x2, x3, x4, xz⟩ := (X0.below b1).at5i
      obtain ⟨y0, y1, y2, y3, y4, yz⟩ := (X1.below b1).at5i
      have f0 := (X0.below b1).frozen 0
      have f1 := (X0.below b1).frozen 1
      have f2 := (X0.below b1).frozen 2
      have f3 := (X0.below b1).frozen 3
      have f4 := (X0.below b1).frozen 4
      have B3 := bel_trans B2 b1
      clear X0 X1 b1 B B2
      go_wp2
      refine bodyPost_ret (v := .tuple #[.agg (icells op r a b n), .bool true]) (by simp [results, Tryz.results106, go_sem, x0, x1, x2, x3, x4]) rfl ⟨by rw [HW.out, HDB.out, HI.out], ?_⟩
      first | exact B3 | exact bel_setCell (bel_setCell (bel_setCell (bel_setCell (bel_setCell B3 _ _ (Nat.le_refl _)) _ _ (Nat.le_refl _)) _ _ (Nat.le_refl _)) _ _ (Nat.le_refl _)) _ _ (Nat.le_refl _)
end Go.Proofs.YtnfjmdegbdphpaaGreat
