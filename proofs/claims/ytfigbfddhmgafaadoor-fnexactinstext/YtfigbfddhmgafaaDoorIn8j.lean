/- What impl's InsOk, Code, Decode and Ends answer (written by mki8i.py). -/
import Derived.Test.YtfigbfddhmgafaaDoorIn8o1
import Derived.Test.YtfigbfddhmgafaaDoorIn8o2
import Derived.Test.YtfigbfddhmgafaaDoorIn8o3
namespace Go.Proofs.YtfigbfddhmgafaaDoor
open Go.RowKit
set_option linter.unusedVariables false

set_option maxHeartbeats 1000000 in
theorem isWord8_any (x : Int) (w : World) : Calls Tryd.prog 54 #[.int .i64 x] w fun e w' => e = .returned (.bool (inB x 0 65535)) ∧ w' = w := by
  have HV : Hid (inB x 0 65535 = decide (0 ≤ x ∧ x ≤ 65535)) := by show _ = _; rfl
  by_cases h1 : 0 ≤ x
  · by_cases h2 : x ≤ 65535
    · go_enter Tryd.func54, Tryd.ntmps54
      go_wp2
      go_ret
      exact ⟨ret_bool (by rw [HV.out]; simp; omega), rfl⟩
    · go_enter Tryd.func54, Tryd.ntmps54
      go_wp2
      go_ret
      exact ⟨ret_bool (by rw [HV.out]; simp; omega), rfl⟩
  · go_enter Tryd.func54, Tryd.ntmps54
    go_wp2
    go_ret
    exact ⟨ret_bool (by rw [HV.out]; simp; omega), rfl⟩

set_option maxRecDepth 100000 in
set_option maxHeartbeats 8000000 in
theorem implInsOk_any (op r a b n : Int) (w : World) : Calls Tryd.prog 21 #[.agg (icells op r a b n)] w fun e w' => e = .returned (.bool (insB op r a b n)) ∧ Below w.heap.size w w' := by
  have B := bel_alloc (Below.refl w.heap.size w) (.cells (icells op r a b n) 25)
  have X := Box.new w (icells op r a b n) 25
  cases h0 : inB op 1 10
  · have H0 : Hid (inB op 1 10 = false) := h0
    have HV : Hid (insB op r a b n = false) := by show _ = _; unfold insB fldB; rw [h0]; simp
    clear h0
    go_enter Tryd.func21, Tryd.ntmps21
    go_wp2_with fail
    refine (isOp_any op _).mono ?_
    rintro e w1 ⟨rfl, h⟩
    replace h := h.symm
    subst h
    rw [H0.out]
    go_wp2
    go_ret
    exact ⟨ret_bool HV.out.symm, B⟩
  have H0 : Hid (inB op 1 10 = true) := h0
  cases h1 : inB r 0 3
  · have H1 : Hid (inB r 0 3 = false) := h1
    have HV : Hid (insB op r a b n = false) := by show _ = _; unfold insB fldB; rw [h1]; simp
    clear h1
    go_enter Tryd.func21, Tryd.ntmps21
    go_wp2_with fail
    refine (isOp_any op _).mono ?_
    rintro e w1 ⟨rfl, h⟩
    replace h := h.symm
    subst h
    rw [H0.out]
    go_wp2_with fail
    refine (isReg_any r _).mono ?_
    rintro e w2 ⟨rfl, h⟩
    replace h := h.symm
    subst h
    rw [H1.out]
    go_wp2
    go_ret
    exact ⟨ret_bool HV.out.symm, B⟩
  have H1 : Hid (inB r 0 3 = true) := h1
  clear h1
  cases h2 : inB a 0 3
  · have H2 : Hid (inB a 0 3 = false) := h2
    have HV : Hid (insB op r a b n = false) := by show _ = _; unfold insB fldB; rw [h2]; simp
    clear h2
    go_enter Tryd.func21, Tryd.ntmps21
    go_wp2_with fail
    refine (isOp_any op _).mono ?_
    rintro e w1 ⟨rfl, h⟩
    replace h := h.symm
    subst h
    rw [H0.out]
    go_wp2_with fail
    refine (isReg_any r _).mono ?_
    rintro e w2 ⟨rfl, h⟩
    replace h := h.symm
    subst h
    rw [H1.out]
    go_wp2_with fail
    refine (isReg_any a _).mono ?_
    rintro e w3 ⟨rfl, h⟩
    replace h := h.symm
    subst h
    rw [H2.out]
    go_wp2
    go_ret
    exact ⟨ret_bool HV.out.symm, B⟩
  have H2 : Hid (inB a 0 3 = true) := h2
  clear h2
  cases h3 : inB b 0 3
  · have H3 : Hid (inB b 0 3 = false) := h3
    have HV : Hid (insB op r a b n = false) := by show _ = _; unfold insB fldB; rw [h3]; simp
    clear h3
    go_enter Tryd.func21, Tryd.ntmps21
    go_wp2_with fail
    refine (isOp_any op _).mono ?_
    rintro e w1 ⟨rfl, h⟩
    replace h := h.symm
    subst h
    rw [H0.out]
    go_wp2_with fail
    refine (isReg_any r _).mono ?_
    rintro e w2 ⟨rfl, h⟩
    replace h := h.symm
    subst h
    rw [H1.out]
    go_wp2_with fail
    refine (isReg_any a _).mono ?_
    rintro e w3 ⟨rfl, h⟩
    replace h := h.symm
    subst h
    rw [H2.out]
    go_wp2_with fail
    refine (isReg_any b _).mono ?_
    rintro e w4 ⟨rfl, h⟩
    replace h := h.symm
    subst h
    rw [H3.out]
    go_wp2
    go_ret
    exact ⟨ret_bool HV.out.symm, B⟩
  have H3 : Hid (inB b 0 3 = true) := h3
  clear h3
  cases h4 : inB n 0 63
  · have H4 : Hid (inB n 0 63 = false) := h4
    have HV : Hid (insB op r a b n = false) := by show _ = _; unfold insB fldB; rw [h4]; simp
    clear h4
    go_enter Tryd.func21, Tryd.ntmps21
    go_wp2_with fail
    refine (isOp_any op _).mono ?_
    rintro e w1 ⟨rfl, h⟩
    replace h := h.symm
    subst h
    rw [H0.out]
    go_wp2_with fail
    refine (isReg_any r _).mono ?_
    rintro e w2 ⟨rfl, h⟩
    replace h := h.symm
    subst h
    rw [H1.out]
    go_wp2_with fail
    refine (isReg_any a _).mono ?_
    rintro e w3 ⟨rfl, h⟩
    replace h := h.symm
    subst h
    rw [H2.out]
    go_wp2_with fail
    refine (isReg_any b _).mono ?_
    rintro e w4 ⟨rfl, h⟩
    replace h := h.symm
    subst h
    rw [H3.out]
    go_wp2_with fail
    refine (isOff_any n _).mono ?_
    rintro e w5 ⟨rfl, h⟩
    replace h := h.symm
    subst h
    rw [H4.out]
    go_wp2
    go_ret
    exact ⟨ret_bool HV.out.symm, B⟩
  have H4 : Hid (inB n 0 63 = true) := h4
  clear h4
  rcases op_cases h0 with rfl | rfl | rfl | rfl | rfl | rfl | rfl | rfl | rfl | rfl
  · exact insOk_op1 r a b n w H1 H2 H3 H4
  · exact insOk_op2 r a b n w H1 H2 H3 H4
  · exact insOk_op3 r a b n w H1 H2 H3 H4
  · exact insOk_op4 r a b n w H1 H2 H3 H4
  · exact insOk_op5 r a b n w H1 H2 H3 H4
  · exact insOk_op6 r a b n w H1 H2 H3 H4
  · exact insOk_op7 r a b n w H1 H2 H3 H4
  · exact insOk_op8 r a b n w H1 H2 H3 H4
  · exact insOk_op9 r a b n w H1 H2 H3 H4
  · exact insOk_op10 r a b n w H1 H2 H3 H4

set_option maxRecDepth 100000 in
set_option maxHeartbeats 4000000 in
theorem implCode_any (op r a b n : Int) (w : World) : Calls Tryd.prog 44 #[.agg (icells op r a b n)] w fun e w' => e = .returned (.tuple #[.int .i64 (if insB op r a b n then codeW op r a b n else 0), .bool (insB op r a b n)]) ∧ Below w.heap.size w w' := by
  have B := bel_alloc (Below.refl w.heap.size w) (.cells (icells op r a b n) 25)
  have X := Box.new w (icells op r a b n) 25
  cases hb : insB op r a b n
  · have HB : Hid (insB op r a b n = false) := hb
    clear hb
    go_enter Tryd.func44, Tryd.ntmps44
    go_wp2_with fail
    refine (implInsOk_any op r a b n _).mono ?_
    rintro e w1 ⟨rfl, b1⟩
    rw [HB.out]
    replace B := bel_trans B b1
    clear X b1
    go_wp2
    refine bodyPost_ret (v := .tuple #[.int .i64 0, .bool false]) (by simp [results, Tryd.results44, go_sem]) rfl ⟨rfl, B⟩
  · have HB : Hid (insB op r a b n = true) := hb
    obtain ⟨⟨o1, o2⟩, ⟨r1, r2⟩, ⟨a1, a2⟩, ⟨b1', b2'⟩, ⟨n1, n2⟩⟩ := ins_le hb
    clear hb
    go_enter Tryd.func44, Tryd.ntmps44
    go_wp2_with fail
    refine (implInsOk_any op r a b n _).mono ?_
    rintro e w1 ⟨rfl, b1⟩
    rw [HB.out]
    obtain ⟨x0, x1, x2, x3, x4, xz⟩ := (X.below b1).at5i
    replace B := bel_trans B b1
    clear X b1
    go_wp2
    refine bodyPost_ret (v := .tuple #[.int .i64 (codeW op r a b n), .bool true]) (by simp [results, Tryd.results44, go_sem, codeW]) rfl ⟨rfl, B⟩


end Go.Proofs.YtfigbfddhmgafaaDoor
