/- What impl.InsOk answers at the ops [5, 6, 7] where all fields are in their bounds (written by mki8i.py). -/
import Derived.Test.YtfigbfddhmgafaaDoorIn8i
namespace Go.Proofs.YtfigbfddhmgafaaDoor
open Go.RowKit
set_option linter.unusedVariables false

set_option maxRecDepth 100000 in
set_option maxHeartbeats 8000000 in
theorem insOk_op5 (r a b n : Int) (w : World) (H1 : Hid (inB r 0 3 = true)) (H2 : Hid (inB a 0 3 = true)) (H3 : Hid (inB b 0 3 = true)) (H4 : Hid (inB n 0 63 = true)) : Calls Tryd.prog 21 #[.agg (icells 5 r a b n)] w fun e w' => e = .returned (.bool (insB 5 r a b n)) ∧ Below w.heap.size w w' := by
  have B := bel_alloc (Below.refl w.heap.size w) (.cells (icells 5 r a b n) 25)
  have X := Box.new w (icells 5 r a b n) 25
  have H0 : Hid (inB 5 1 10 = true) := by show _ = _; rfl
  have HE : ∀ W, (Op.equalIn 10000 25 (.agg (icells 5 r a b n)) (.agg (icells 5 0 a b n))).run Tryd.prog W = .ok (insB 5 r a b n) W := fun W => by
    rw [ins_eq]
    unfold insB fldB
    rw [H0.out, H1.out, H2.out, H3.out, H4.out]
    simp [hasR, hasA, hasB, hasN]
  obtain ⟨z, hz⟩ : ∃ z, insB 5 r a b n = z := ⟨_, rfl⟩
  rw [hz] at HE ⊢
  clear hz
  go_enter Tryd.func21, Tryd.ntmps21
  go_wp2_with fail
  refine (isOp_any 5 _).mono ?_
  rintro e w1 ⟨rfl, h⟩
  replace h := h.symm
  subst h
  rw [H0.out]
  go_wp2_with fail
  refine (isReg_any r _).mono ?_
  rintro e w2 ⟨rfl, h⟩
  replace h := h.symm
  subst h
  rw [H1.out]
  go_wp2_with fail
  refine (isReg_any a _).mono ?_
  rintro e w3 ⟨rfl, h⟩
  replace h := h.symm
  subst h
  rw [H2.out]
  go_wp2_with fail
  refine (isReg_any b _).mono ?_
  rintro e w4 ⟨rfl, h⟩
  replace h := h.symm
  subst h
  rw [H3.out]
  go_wp2_with fail
  refine (isOff_any n _).mono ?_
  rintro e w5 ⟨rfl, h⟩
  replace h := h.symm
  subst h
  rw [H4.out]
  have HL : ∀ W, (Instr.index 60 (.agg leftV) (.int .i64 5)).run Tryd.prog W = .ok (.func (.func 48) #[] #[]) W := fun W => left_at 5 (by decide) W
  go_wp2_with fail
  go_region_with (go_at_call 40; refine (left_any _).mono ?_; rintro e w6 ⟨rfl, b1⟩; have b1 := bel_undrew b1; have X1 := X.below b1; have B1 := bel_trans B b1; obtain ⟨x0, x1, x2, x3, x4, xz⟩ := X1.at5i; clear b1)
  all_goals
    clear X B
    go_wp2_with fail
    go_region_with (go_at_call 48; refine (onlyABN_any 5 r a b n _).mono ?_; rintro e w7 ⟨rfl, b1⟩; have b1 := bel_undrew b1; have X2 := X1.below b1; have B2 := bel_trans B1 b1; clear x0 x1 x2 x3 x4 xz; obtain ⟨x0, x1, x2, x3, x4, xz⟩ := X2.at5i; clear b1)
    all_goals
      go_wp2
      go_ret
      exact ⟨rfl, B2⟩
      
set_option maxRecDepth 100000 in
set_option maxHeartbeats 8000000 in
theorem insOk_op6 (r a b n : Int) (w : World) (H1 : Hid (inB r 0 3 = true)) (H2 : Hid (inB a 0 3 = true)) (H3 : Hid (inB b 0 3 = true)) (H4 : Hid (inB n 0 63 = true)) : Calls Tryd.prog 21 #[.agg (icells 6 r a b n)] w fun e w' => e = .returned (.bool (insB 6 r a b n)) ∧ Below w.heap.size w w' := by
  have B := bel_alloc (Below.refl w.heap.size w) (.cells (icells 6 r a b n) 25)
  have X := Box.new w (icells 6 r a b n) 25
  have H0 : Hid (inB 6 1 10 = true) := by show _ = _; rfl
  have HE : ∀ W, (Op.equalIn 10000 25 (.agg (icells 6 r a b n)) (.agg (icells 6 r a b n))).run Tryd.prog W = .ok (insB 6 r a b n) W := fun W => by
    rw [ins_eq]
    unfold insB fldB
    rw [H0.out, H1.out, H2.out, H3.out, H4.out]
    simp [hasR, hasA, hasB, hasN]
  obtain ⟨z, hz⟩ : ∃ z, insB 6 r a b n = z := ⟨_, rfl⟩
  rw [hz] at HE ⊢
  clear hz
  go_enter Tryd.func21, Tryd.ntmps21
  go_wp2_with fail
  refine (isOp_any 6 _).mono ?_
  rintro e w1 ⟨rfl, h⟩
  replace h := h.symm
  subst h
  rw [H0.out]
  go_wp2_with fail
  refine (isReg_any r _).mono ?_
  rintro e w2 ⟨rfl, h⟩
  replace h := h.symm
  subst h
  rw [H1.out]
  go_wp2_with fail
  refine (isReg_any a _).mono ?_
  rintro e w3 ⟨rfl, h⟩
  replace h := h.symm
  subst h
  rw [H2.out]
  go_wp2_with fail
  refine (isReg_any b _).mono ?_
  rintro e w4 ⟨rfl, h⟩
  replace h := h.symm
  subst h
  rw [H3.out]
  go_wp2_with fail
  refine (isOff_any n _).mono ?_
  rintro e w5 ⟨rfl, h⟩
  replace h := h.symm
  subst h
  rw [H4.out]
  have HL : ∀ W, (Instr.index 60 (.agg leftV) (.int .i64 6)).run Tryd.prog W = .ok (.func (.func 49) #[] #[]) W := fun W => left_at 6 (by decide) W
  go_wp2_with fail
  go_region_with (go_at_call 40; refine (left_any _).mono ?_; rintro e w6 ⟨rfl, b1⟩; have b1 := bel_undrew b1; have X1 := X.below b1; have B1 := bel_trans B b1; obtain ⟨x0, x1, x2, x3, x4, xz⟩ := X1.at5i; clear b1)
  all_goals
    clear X B
    go_wp2_with fail
    go_region_with (go_at_call 49; refine (onlyRABN_any 6 r a b n _).mono ?_; rintro e w7 ⟨rfl, b1⟩; have b1 := bel_undrew b1; have X2 := X1.below b1; have B2 := bel_trans B1 b1; clear x0 x1 x2 x3 x4 xz; obtain ⟨x0, x1, x2, x3, x4, xz⟩ := X2.at5i; clear b1)
    all_goals
      go_wp2
      go_ret
      exact ⟨rfl, B2⟩
      
set_option maxRecDepth 100000 in
set_option maxHeartbeats 8000000 in
theorem insOk_op7 (r a b n : Int) (w : World) (H1 : Hid (inB r 0 3 = true)) (H2 : Hid (inB a 0 3 = true)) (H3 : Hid (inB b 0 3 = true)) (H4 : Hid (inB n 0 63 = true)) : Calls Tryd.prog 21 #[.agg (icells 7 r a b n)] w fun e w' => e = .returned (.bool (insB 7 r a b n)) ∧ Below w.heap.size w w' := by
  have B := bel_alloc (Below.refl w.heap.size w) (.cells (icells 7 r a b n) 25)
  have X := Box.new w (icells 7 r a b n) 25
  have H0 : Hid (inB 7 1 10 = true) := by show _ = _; rfl
  have HE : ∀ W, (Op.equalIn 10000 25 (.agg (icells 7 r a b n)) (.agg (icells 7 0 a 0 n))).run Tryd.prog W = .ok (insB 7 r a b n) W := fun W => by
    rw [ins_eq]
    unfold insB fldB
    rw [H0.out, H1.out, H2.out, H3.out, H4.out]
    simp [hasR, hasA, hasB, hasN]
  obtain ⟨z, hz⟩ : ∃ z, insB 7 r a b n = z := ⟨_, rfl⟩
  rw [hz] at HE ⊢
  clear hz
  go_enter Tryd.func21, Tryd.ntmps21
  go_wp2_with fail
  refine (isOp_any 7 _).mono ?_
  rintro e w1 ⟨rfl, h⟩
  replace h := h.symm
  subst h
  rw [H0.out]
  go_wp2_with fail
  refine (isReg_any r _).mono ?_
  rintro e w2 ⟨rfl, h⟩
  replace h := h.symm
  subst h
  rw [H1.out]
  go_wp2_with fail
  refine (isReg_any a _).mono ?_
  rintro e w3 ⟨rfl, h⟩
  replace h := h.symm
  subst h
  rw [H2.out]
  go_wp2_with fail
  refine (isReg_any b _).mono ?_
  rintro e w4 ⟨rfl, h⟩
  replace h := h.symm
  subst h
  rw [H3.out]
  go_wp2_with fail
  refine (isOff_any n _).mono ?_
  rintro e w5 ⟨rfl, h⟩
  replace h := h.symm
  subst h
  rw [H4.out]
  have HL : ∀ W, (Instr.index 60 (.agg leftV) (.int .i64 7)).run Tryd.prog W = .ok (.func (.func 50) #[] #[]) W := fun W => left_at 7 (by decide) W
  go_wp2_with fail
  go_region_with (go_at_call 40; refine (left_any _).mono ?_; rintro e w6 ⟨rfl, b1⟩; have b1 := bel_undrew b1; have X1 := X.below b1; have B1 := bel_trans B b1; obtain ⟨x0, x1, x2, x3, x4, xz⟩ := X1.at5i; clear b1)
  all_goals
    clear X B
    go_wp2_with fail
    go_region_with (go_at_call 50; refine (onlyAN_any 7 r a b n _).mono ?_; rintro e w7 ⟨rfl, b1⟩; have b1 := bel_undrew b1; have X2 := X1.below b1; have B2 := bel_trans B1 b1; clear x0 x1 x2 x3 x4 xz; obtain ⟨x0, x1, x2, x3, x4, xz⟩ := X2.at5i; clear b1)
    all_goals
      go_wp2
      go_ret
      exact ⟨rfl, B2⟩
      
end Go.Proofs.YtfigbfddhmgafaaDoor
