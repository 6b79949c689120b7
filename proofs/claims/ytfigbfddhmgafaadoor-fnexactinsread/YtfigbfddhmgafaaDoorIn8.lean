/- What the specification's InsOk, Code, Decode and Ends answer (written by mki8.py). -/
import Derived.Test.YtfigbfddhmgafaaDoorSeq
import Derived.Test.YtfigbfddhmgafaaDoorBox
import Derived.Test.YtfigbfddhmgafaaDoorSpecIn
import Derived.Test.YtfigbfddhmgafaaDoorBase2
namespace Go.Proofs.YtfigbfddhmgafaaDoor
open Go.RowKit
set_option linter.unusedVariables false

/-- What an op has; what is right. -/
def hasR (op : Int) : Bool := op == 1 || (op == 2 || (op == 3 || (op == 4 || (op == 6 || op == 10))))
def hasA (op : Int) : Bool := op == 2 || (op == 3 || (op == 4 || (op == 5 || (op == 6 || (op == 7 || op == 10)))))
def hasB (op : Int) : Bool := op == 2 || (op == 5 || (op == 6 || op == 10))
def hasN (op : Int) : Bool := op == 1 || (op == 3 || (op == 4 || (op == 5 || (op == 6 || (op == 7 || op == 8)))))
def fldB (x most : Int) (h : Bool) : Bool := inB x 0 most && (h || x == 0)
def insB (op r a b n : Int) : Bool := inB op 1 10 && (fldB r 3 (hasR op) && (fldB a 3 (hasA op) && (fldB b 3 (hasB op) && fldB n 63 (hasN op))))
def tab (op : Int) : Int := if inB op 1 10 then [0, 9, 7, 11, 11, 14, 15, 10, 8, 0, 7].getD op.toNat 0 else 0
abbrev icells (op r a b n : Int) : Array Value := #[.int .i64 op, .int .i64 r, .int .i64 a, .int .i64 b, .int .i64 n]
theorem op_cases {op : Int} (h : inB op 1 10 = true) : op = 1 ∨ op = 2 ∨ op = 3 ∨ op = 4 ∨ op = 5 ∨ op = 6 ∨ op = 7 ∨ op = 8 ∨ op = 9 ∨ op = 10 := by
  have : 1 ≤ op ∧ op ≤ 10 := by simpa [inB] using h
  omega
theorem Box.at5i {w : World} {m : Nat} {c0 c1 c2 c3 c4 : Value} {t : TypeId} (h : Box w m #[c0, c1, c2, c3, c4] t) :
    w.cell? ⟨m, 0, none⟩ = some c0 ∧ w.cell? ⟨m, 1, none⟩ = some c1 ∧ w.cell? ⟨m, 2, none⟩ = some c2 ∧ w.cell? ⟨m, 3, none⟩ = some c3 ∧ w.cell? ⟨m, 4, none⟩ = some c4 ∧ m < w.heap.size :=
  ⟨by rw [h.cell]; rfl, by rw [h.cell]; rfl, by rw [h.cell]; rfl, by rw [h.cell]; rfl, by rw [h.cell]; rfl, h.lt⟩

theorem specIn_8 (x lo hi : Int) (w : World) :
    Calls Tryd.prog 33 #[.int .i64 x, .int .i64 lo, .int .i64 hi] w fun e w' => e = .returned (.bool (inB x lo hi)) ∧ w' = w := specIn_any x lo hi w

set_option maxHeartbeats 1000000 in
theorem l8Field_any (x most : Int) (h : Bool) (w : World) : Calls Tryd.prog 36 #[.int .i64 x, .int .i64 most, .bool h] w fun e w' => e = .returned (.bool (fldB x most h)) ∧ w' = w := by
  cases hb : inB x 0 most
  · have HV : Hid (fldB x most h = false) := by show _ = _; unfold fldB; rw [hb]; rfl
    have HB : Hid (inB x 0 most = false) := hb
    clear hb
    go_enter Tryd.func36, Tryd.ntmps36
    go_wp2_with fail
    refine (specIn_8 x 0 most _).mono ?_
    rintro e w1 ⟨rfl, h⟩
    subst h
    rw [HB.out]
    go_wp2
    go_ret
    exact ⟨ret_bool HV.out.symm, rfl⟩
  · have HB : Hid (inB x 0 most = true) := hb
    cases h
    · by_cases h0 : x = 0
      · subst h0
        have HV : Hid (fldB 0 most false = true) := by show _ = _; unfold fldB; rw [hb]; rfl
        clear hb
        go_enter Tryd.func36, Tryd.ntmps36
        go_wp2_with fail
        refine (specIn_8 0 0 most _).mono ?_
        rintro e w1 ⟨rfl, h⟩
        subst h
        rw [HB.out]
        go_wp2
        go_ret
        exact ⟨ret_bool HV.out.symm, rfl⟩
      · have e0 : (x == 0) = false := by simpa using h0
        have HV : Hid (fldB x most false = false) := by show _ = _; unfold fldB; rw [hb, e0]; rfl
        clear hb
        go_enter Tryd.func36, Tryd.ntmps36
        go_wp2_with fail
        refine (specIn_8 x 0 most _).mono ?_
        rintro e w1 ⟨rfl, h⟩
        subst h
        rw [HB.out]
        go_wp2
        go_ret
        exact ⟨ret_bool HV.out.symm, rfl⟩
    · have HV : Hid (fldB x most true = true) := by show _ = _; unfold fldB; rw [hb]; rfl
      clear hb
      go_enter Tryd.func36, Tryd.ntmps36
      go_wp2_with fail
      refine (specIn_8 x 0 most _).mono ?_
      rintro e w1 ⟨rfl, h⟩
      subst h
      rw [HB.out]
      go_wp2
      go_ret
      exact ⟨ret_bool HV.out.symm, rfl⟩

set_option maxRecDepth 100000 in
set_option maxHeartbeats 4000000 in
theorem l8Has_any (op : Int) (w : World) : Calls Tryd.prog 18 #[.int .i64 op] w fun e w' => e = .returned (.int .i64 (tab op)) ∧ Below w.heap.size w w' := by
  cases hb : inB op 1 10
  · have HB : Hid (inB op 1 10 = false) := hb
    have HV : Hid (tab op = 0) := by show _ = _; unfold tab; rw [hb]; rfl
    clear hb
    go_enter Tryd.func18, Tryd.ntmps18
    go_wp2_with fail
    refine (specIn_8 op 1 10 _).mono ?_
    rintro e w1 ⟨rfl, h⟩
    subst h
    rw [HB.out]
    go_wp2
    go_ret
    exact ⟨ret_int HV.out.symm, Below.refl _ _⟩
  · have B := bel_alloc (Below.refl w.heap.size w) (.cells #[.int .i64 0, .int .i64 9, .int .i64 7, .int .i64 11, .int .i64 11, .int .i64 14, .int .i64 15, .int .i64 10, .int .i64 8, .int .i64 0, .int .i64 7] 3)
    rcases op_cases hb with rfl | rfl | rfl | rfl | rfl | rfl | rfl | rfl | rfl | rfl
    all_goals
      go_enter Tryd.func18, Tryd.ntmps18
      go_wp2_with fail
      refine (specIn_8 _ 1 10 _).mono ?_
      rintro e w1 ⟨rfl, h⟩
      subst h
      rw [hb]
      go_wp2
      go_ret
      exact ⟨rfl, B⟩

set_option maxRecDepth 100000 in
set_option maxHeartbeats 8000000 in
theorem specInsOk_any (op r a b n : Int) (w : World) : Calls Tryd.prog 17 #[.agg (icells op r a b n)] w fun e w' => e = .returned (.bool (insB op r a b n)) ∧ Below w.heap.size w w' := by
  have B := bel_alloc (Below.refl w.heap.size w) (.cells (icells op r a b n) 25)
  have X := Box.new w (icells op r a b n) 25
  cases hb : inB op 1 10
  · have HB : Hid (inB op 1 10 = false) := hb
    have HV : Hid (insB op r a b n = false) := by show _ = _; unfold insB; rw [hb]; rfl
    clear hb
    go_enter Tryd.func17, Tryd.ntmps17
    go_wp2_with fail
    refine (l8Has_any op _).mono ?_
    rintro e w1 ⟨rfl, b1⟩
    obtain ⟨x0, x1, x2, x3, x4, xz⟩ := (X.below b1).at5i
    replace B := bel_trans B b1
    clear X b1
    go_wp2_with fail
    refine (specIn_8 op 1 10 _).mono ?_
    rintro e w2 ⟨rfl, h⟩
    replace h := h.symm
    subst h
    rw [HB.out]
    go_wp2
    go_ret
    exact ⟨ret_bool HV.out.symm, B⟩
  · rcases op_cases hb with rfl | rfl | rfl | rfl | rfl | rfl | rfl | rfl | rfl | rfl
    · have hR : hasR 1 = true := rfl
      have hA : hasA 1 = false := rfl
      have hB : hasB 1 = false := rfl
      have hN : hasN 1 = true := rfl
      have HV : Hid (insB 1 r a b n = (fldB r 3 true && (fldB a 3 false && (fldB b 3 false && fldB n 63 true)))) := by show _ = _; unfold insB; rw [hb, hR, hA, hB, hN]; rfl
      have HB : Hid (inB 1 1 10 = true) := hb
      clear hb hR hA hB hN
      go_enter Tryd.func17, Tryd.ntmps17
      go_wp2_with fail
      refine (l8Has_any 1 _).mono ?_
      rintro e w1 ⟨rfl, b1⟩
      rw [show tab 1 = 9 from rfl]
      obtain ⟨x0, x1, x2, x3, x4, xz⟩ := (X.below b1).at5i
      replace B := bel_trans B b1
      clear X b1
      go_wp2_with fail
      refine (specIn_8 1 1 10 _).mono ?_
      rintro e w2 ⟨rfl, h⟩
      replace h := h.symm
      subst h
      rw [HB.out]
      go_wp2_with fail
      refine (l8Field_any r 3 true _).mono ?_
      rintro e w2 ⟨rfl, h⟩
      replace h := h.symm
      subst h
      cases h0 : fldB r 3 true
      · have H0 : Hid (fldB r 3 true = false) := h0
        clear h0
        go_wp2
        go_ret
        exact ⟨ret_bool (by rw [HV.out, H0.out]; rfl), B⟩
      have H0 : Hid (fldB r 3 true = true) := h0
      clear h0
      go_wp2_with fail
      refine (l8Field_any a 3 false _).mono ?_
      rintro e w2 ⟨rfl, h⟩
      replace h := h.symm
      subst h
      cases h1 : fldB a 3 false
      · have H1 : Hid (fldB a 3 false = false) := h1
        clear h1
        go_wp2
        go_ret
        exact ⟨ret_bool (by rw [HV.out, H0.out, H1.out]; rfl), B⟩
      have H1 : Hid (fldB a 3 false = true) := h1
      clear h1
      go_wp2_with fail
      refine (l8Field_any b 3 false _).mono ?_
      rintro e w2 ⟨rfl, h⟩
      replace h := h.symm
      subst h
      cases h2 : fldB b 3 false
      · have H2 : Hid (fldB b 3 false = false) := h2
        clear h2
        go_wp2
        go_ret
        exact ⟨ret_bool (by rw [HV.out, H0.out, H1.out, H2.out]; rfl), B⟩
      have H2 : Hid (fldB b 3 false = true) := h2
      clear h2
      go_wp2_with fail
      refine (l8Field_any n 63 true _).mono ?_
      rintro e w2 ⟨rfl, h⟩
      replace h := h.symm
      subst h
      generalize hz : fldB n 63 true = z
      have HZ : Hid (fldB n 63 true = z) := hz
      clear hz
      go_wp2
      go_ret
      exact ⟨ret_bool (by rw [HV.out, H0.out, H1.out, H2.out, HZ.out]; simp), B⟩
    · have hR : hasR 2 = true := rfl
      have hA : hasA 2 = true := rfl
      have hB : hasB 2 = true := rfl
      have hN : hasN 2 = false := rfl
      have HV : Hid (insB 2 r a b n = (fldB r 3 true && (fldB a 3 true && (fldB b 3 true && fldB n 63 false)))) := by show _ = _; unfold insB; rw [hb, hR, hA, hB, hN]; rfl
      have HB : Hid (inB 2 1 10 = true) := hb
      clear hb hR hA hB hN
      go_enter Tryd.func17, Tryd.ntmps17
      go_wp2_with fail
      refine (l8Has_any 2 _).mono ?_
      rintro e w1 ⟨rfl, b1⟩
      rw [show tab 2 = 7 from rfl]
      obtain ⟨x0, x1, x2, x3, x4, xz⟩ := (X.below b1).at5i
      replace B := bel_trans B b1
      clear X b1
      go_wp2_with fail
      refine (specIn_8 2 1 10 _).mono ?_
      rintro e w2 ⟨rfl, h⟩
      replace h := h.symm
      subst h
      rw [HB.out]
      go_wp2_with fail
      refine (l8Field_any r 3 true _).mono ?_
      rintro e w2 ⟨rfl, h⟩
      replace h := h.symm
      subst h
      cases h0 : fldB r 3 true
      · have H0 : Hid (fldB r 3 true = false) := h0
        clear h0
        go_wp2
        go_ret
        exact ⟨ret_bool (by rw [HV.out, H0.out]; rfl), B⟩
      have H0 : Hid (fldB r 3 true = true) := h0
      clear h0
      go_wp2_with fail
      refine (l8Field_any a 3 true _).mono ?_
      rintro e w2 ⟨rfl, h⟩
      replace h := h.symm
      subst h
      cases h1 : fldB a 3 true
      · have H1 : Hid (fldB a 3 true = false) := h1
        clear h1
        go_wp2
        go_ret
        exact ⟨ret_bool (by rw [HV.out, H0.out, H1.out]; rfl), B⟩
      have H1 : Hid (fldB a 3 true = true) := h1
      clear h1
      go_wp2_with fail
      refine (l8Field_any b 3 true _).mono ?_
      rintro e w2 ⟨rfl, h⟩
      replace h := h.symm
      subst h
      cases h2 : fldB b 3 true
      · have H2 : Hid (fldB b 3 true = false) := h2
        clear h2
        go_wp2
        go_ret
        exact ⟨ret_bool (by rw [HV.out, H0.out, H1.out, H2.out]; rfl), B⟩
      have H2 : Hid (fldB b 3 true = true) := h2
      clear h2
      go_wp2_with fail
      refine (l8Field_any n 63 false _).mono ?_
      rintro e w2 ⟨rfl, h⟩
      replace h := h.symm
      subst h
      generalize hz : fldB n 63 false = z
      have HZ : Hid (fldB n 63 false = z) := hz
      clear hz
      go_wp2
      go_ret
      exact ⟨ret_bool (by rw [HV.out, H0.out, H1.out, H2.out, HZ.out]; simp), B⟩
    · have hR : hasR 3 = true := rfl
      have hA : hasA 3 = true := rfl
      have hB : hasB 3 = false := rfl
      have hN : hasN 3 = true := rfl
      have HV : Hid (insB 3 r a b n = (fldB r 3 true && (fldB a 3 true && (fldB b 3 false && fldB n 63 true)))) := by show _ = _; unfold insB; rw [hb, hR, hA, hB, hN]; rfl
      have HB : Hid (inB 3 1 10 = true) := hb
      clear hb hR hA hB hN
      go_enter Tryd.func17, Tryd.ntmps17
      go_wp2_with fail
      refine (l8Has_any 3 _).mono ?_
      rintro e w1 ⟨rfl, b1⟩
      rw [show tab 3 = 11 from rfl]
      obtain ⟨x0, x1, x2, x3, x4, xz⟩ := (X.below b1).at5i
      replace B := bel_trans B b1
      clear X b1
      go_wp2_with fail
      refine (specIn_8 3 1 10 _).mono ?_
      rintro e w2 ⟨rfl, h⟩
      replace h := h.symm
      subst h
      rw [HB.out]
      go_wp2_with fail
      refine (l8Field_any r 3 true _).mono ?_
      rintro e w2 ⟨rfl, h⟩
      replace h := h.symm
      subst h
      cases h0 : fldB r 3 true
      · have H0 : Hid (fldB r 3 true = false) := h0
        clear h0
        go_wp2
        go_ret
        exact ⟨ret_bool (by rw [HV.out, H0.out]; rfl), B⟩
      have H0 : Hid (fldB r 3 true = true) := h0
      clear h0
      go_wp2_with fail
      refine (l8Field_any a 3 true _).mono ?_
      rintro e w2 ⟨rfl, h⟩
      replace h := h.symm
      subst h
      cases h1 : fldB a 3 true
      · have H1 : Hid (fldB a 3 true = false) := h1
        clear h1
        go_wp2
        go_ret
        exact ⟨ret_bool (by rw [HV.out, H0.out, H1.out]; rfl), B⟩
      have H1 : Hid (fldB a 3 true = true) := h1
      clear h1
      go_wp2_with fail
      refine (l8Field_any b 3 false _).mono ?_
      rintro e w2 ⟨rfl, h⟩
      replace h := h.symm
      subst h
      cases h2 : fldB b 3 false
      · have H2 : Hid (fldB b 3 false = false) := h2
        clear h2
        go_wp2
        go_ret
        exact ⟨ret_bool (by rw [HV.out, H0.out, H1.out, H2.out]; rfl), B⟩
      have H2 : Hid (fldB b 3 false = true) := h2
      clear h2
      go_wp2_with fail
      refine (l8Field_any n 63 true _).mono ?_
      rintro e w2 ⟨rfl, h⟩
      replace h := h.symm
      subst h
      generalize hz : fldB n 63 true = z
      have HZ : Hid (fldB n 63 true = z) := hz
      clear hz
      go_wp2
      go_ret
      exact ⟨ret_bool (by rw [HV.out, H0.out, H1.out, H2.out, HZ.out]; simp), B⟩
    · have hR : hasR 4 = true := rfl
      have hA : hasA 4 = true := rfl
      have hB : hasB 4 = false := rfl
      have hN : hasN 4 = true := rfl
      have HV : Hid (insB 4 r a b n = (fldB r 3 true && (fldB a 3 true && (fldB b 3 false && fldB n 63 true)))) := by show _ = _; unfold insB; rw [hb, hR, hA, hB, hN]; rfl
      have HB : Hid (inB 4 1 10 = true) := hb
      clear hb hR hA hB hN
      go_enter Tryd.func17, Tryd.ntmps17
      go_wp2_with fail
      refine (l8Has_any 4 _).mono ?_
      rintro e w1 ⟨rfl, b1⟩
      rw [show tab 4 = 11 from rfl]
      obtain ⟨x0, x1, x2, x3, x4, xz⟩ := (X.below b1).at5i
      replace B := bel_trans B b1
      clear X b1
      go_wp2_with fail
      refine (specIn_8 4 1 10 _).mono ?_
      rintro e w2 ⟨rfl, h⟩
      replace h := h.symm
      subst h
      rw [HB.out]
      go_wp2_with fail
      refine (l8Field_any r 3 true _).mono ?_
      rintro e w2 ⟨rfl, h⟩
      replace h := h.symm
      subst h
      cases h0 : fldB r 3 true
      · have H0 : Hid (fldB r 3 true = false) := h0
        clear h0
        go_wp2
        go_ret
        exact ⟨ret_bool (by rw [HV.out, H0.out]; rfl), B⟩
      have H0 : Hid (fldB r 3 true = true) := h0
      clear h0
      go_wp2_with fail
      refine (l8Field_any a 3 true _).mono ?_
      rintro e w2 ⟨rfl, h⟩
      replace h := h.symm
      subst h
      cases h1 : fldB a 3 true
      · have H1 : Hid (fldB a 3 true = false) := h1
        clear h1
        go_wp2
        go_ret
        exact ⟨ret_bool (by rw [HV.out, H0.out, H1.out]; rfl), B⟩
      have H1 : Hid (fldB a 3 true = true) := h1
      clear h1
      go_wp2_with fail
      refine (l8Field_any b 3 false _).mono ?_
      rintro e w2 ⟨rfl, h⟩
      replace h := h.symm
      subst h
      cases h2 : fldB b 3 false
      · have H2 : Hid (fldB b 3 false = false) := h2
        clear h2
        go_wp2
        go_ret
        exact ⟨ret_bool (by rw [HV.out, H0.out, H1.out, H2.out]; rfl), B⟩
      have H2 : Hid (fldB b 3 false = true) := h2
      clear h2
      go_wp2_with fail
      refine (l8Field_any n 63 true _).mono ?_
      rintro e w2 ⟨rfl, h⟩
      replace h := h.symm
      subst h
      generalize hz : fldB n 63 true = z
      have HZ : Hid (fldB n 63 true = z) := hz
      clear hz
      go_wp2
      go_ret
      exact ⟨ret_bool (by rw [HV.out, H0.out, H1.out, H2.out, HZ.out]; simp), B⟩
    · have hR : hasR 5 = false := rfl
      have hA : hasA 5 = true := rfl
      have hB : hasB 5 = true := rfl
      have hN : hasN 5 = true := rfl
      have HV : Hid (insB 5 r a b n = (fldB r 3 false && (fldB a 3 true && (fldB b 3 true && fldB n 63 true)))) := by show _ = _; unfold insB; rw [hb, hR, hA, hB, hN]; rfl
      have HB : Hid (inB 5 1 10 = true) := hb
      clear hb hR hA hB hN
      go_enter Tryd.func17, Tryd.ntmps17
      go_wp2_with fail
      refine (l8Has_any 5 _).mono ?_
      rintro e w1 ⟨rfl, b1⟩
      rw [show tab 5 = 14 from rfl]
      obtain ⟨x0, x1, x2, x3, x4, xz⟩ := (X.below b1).at5i
      replace B := bel_trans B b1
      clear X b1
      go_wp2_with fail
      refine (specIn_8 5 1 10 _).mono ?_
      rintro e w2 ⟨rfl, h⟩
      replace h := h.symm
      subst h
      rw [HB.out]
      go_wp2_with fail
      refine (l8Field_any r 3 false _).mono ?_
      rintro e w2 ⟨rfl, h⟩
      replace h := h.symm
      subst h
      cases h0 : fldB r 3 false
      · have H0 : Hid (fldB r 3 false = false) := h0
        clear h0
        go_wp2
        go_ret
        exact ⟨ret_bool (by rw [HV.out, H0.out]; rfl), B⟩
      have H0 : Hid (fldB r 3 false = true) := h0
      clear h0
      go_wp2_with fail
      refine (l8Field_any a 3 true _).mono ?_
      rintro e w2 ⟨rfl, h⟩
      replace h := h.symm
      subst h
      cases h1 : fldB a 3 true
      · have H1 : Hid (fldB a 3 true = false) := h1
        clear h1
        go_wp2
        go_ret
        exact ⟨ret_bool (by rw [HV.out, H0.out, H1.out]; rfl), B⟩
      have H1 : Hid (fldB a 3 true = true) := h1
      clear h1
      go_wp2_with fail
      refine (l8Field_any b 3 true _).mono ?_
      rintro e w2 ⟨rfl, h⟩
      replace h := h.symm
      subst h
      cases h2 : fldB b 3 true
      · have H2 : Hid (fldB b 3 true = false) := h2
        clear h2
        go_wp2
        go_ret
        exact ⟨ret_bool (by rw [HV.out, H0.out, H1.out, H2.out]; rfl), B⟩
      have H2 : Hid (fldB b 3 true = true) := h2
      clear h2
      go_wp2_with fail
      refine (l8Field_any n 63 true _).mono ?_
      rintro e w2 ⟨rfl, h⟩
      replace h := h.symm
      subst h
      generalize hz : fldB n 63 true = z
      have HZ : Hid (fldB n 63 true = z) := hz
      clear hz
      go_wp2
      go_ret
      exact ⟨ret_bool (by rw [HV.out, H0.out, H1.out, H2.out, HZ.out]; simp), B⟩
    · have hR : hasR 6 = true := rfl
      have hA : hasA 6 = true := rfl
      have hB : hasB 6 = true := rfl
      have hN : hasN 6 = true := rfl
      have HV : Hid (insB 6 r a b n = (fldB r 3 true && (fldB a 3 true && (fldB b 3 true && fldB n 63 true)))) := by show _ = _; unfold insB; rw [hb, hR, hA, hB, hN]; rfl
      have HB : Hid (inB 6 1 10 = true) := hb
      clear hb hR hA hB hN
      go_enter Tryd.func17, Tryd.ntmps17
      go_wp2_with fail
      refine (l8Has_any 6 _).mono ?_
      rintro e w1 ⟨rfl, b1⟩
      rw [show tab 6 = 15 from rfl]
      obtain ⟨x0, x1, x2, x3, x4, xz⟩ := (X.below b1).at5i
      replace B := bel_trans B b1
      clear X b1
      go_wp2_with fail
      refine (specIn_8 6 1 10 _).mono ?_
      rintro e w2 ⟨rfl, h⟩
      replace h := h.symm
      subst h
      rw [HB.out]
      go_wp2_with fail
      refine (l8Field_any r 3 true _).mono ?_
      rintro e w2 ⟨rfl, h⟩
      replace h := h.symm
      subst h
      cases h0 : fldB r 3 true
      · have H0 : Hid (fldB r 3 true = false) := h0
        clear h0
        go_wp2
        go_ret
        exact ⟨ret_bool (by rw [HV.out, H0.out]; rfl), B⟩
      have H0 : Hid (fldB r 3 true = true) := h0
      clear h0
      go_wp2_with fail
      refine (l8Field_any a 3 true _).mono ?_
      rintro e w2 ⟨rfl, h⟩
      replace h := h.symm
      subst h
      cases h1 : fldB a 3 true
      · have H1 : Hid (fldB a 3 true = false) := h1
        clear h1
        go_wp2
        go_ret
        exact ⟨ret_bool (by rw [HV.out, H0.out, H1.out]; rfl), B⟩
      have H1 : Hid (fldB a 3 true = true) := h1
      clear h1
      go_wp2_with fail
      refine (l8Field_any b 3 true _).mono ?_
      rintro e w2 ⟨rfl, h⟩
      replace h := h.symm
      subst h
      cases h2 : fldB b 3 true
      · have H2 : Hid (fldB b 3 true = false) := h2
        clear h2
        go_wp2
        go_ret
        exact ⟨ret_bool (by rw [HV.out, H0.out, H1.out, H2.out]; rfl), B⟩
      have H2 : Hid (fldB b 3 true = true) := h2
      clear h2
      go_wp2_with fail
      refine (l8Field_any n 63 true _).mono ?_
      rintro e w2 ⟨rfl, h⟩
      replace h := h.symm
      subst h
      generalize hz : fldB n 63 true = z
      have HZ : Hid (fldB n 63 true = z) := hz
      clear hz
      go_wp2
      go_ret
      exact ⟨ret_bool (by rw [HV.out, H0.out, H1.out, H2.out, HZ.out]; simp), B⟩
    · have hR : hasR 7 = false := rfl
      have hA : hasA 7 = true := rfl
      have hB : hasB 7 = false := rfl
      have hN : hasN 7 = true := rfl
      have HV : Hid (insB 7 r a b n = (fldB r 3 false && (fldB a 3 true && (fldB b 3 false && fldB n 63 true)))) := by show _ = _; unfold insB; rw [hb, hR, hA, hB, hN]; rfl
      have HB : Hid (inB 7 1 10 = true) := hb
      clear hb hR hA hB hN
      go_enter Tryd.func17, Tryd.ntmps17
      go_wp2_with fail
      refine (l8Has_any 7 _).mono ?_
      rintro e w1 ⟨rfl, b1⟩
      rw [show tab 7 = 10 from rfl]
      obtain ⟨x0, x1, x2, x3, x4, xz⟩ := (X.below b1).at5i
      replace B := bel_trans B b1
      clear X b1
      go_wp2_with fail
      refine (specIn_8 7 1 10 _).mono ?_
      rintro e w2 ⟨rfl, h⟩
      replace h := h.symm
      subst h
      rw [HB.out]
      go_wp2_with fail
      refine (l8Field_any r 3 false _).mono ?_
      rintro e w2 ⟨rfl, h⟩
      replace h := h.symm
      subst h
      cases h0 : fldB r 3 false
      · have H0 : Hid (fldB r 3 false = false) := h0
        clear h0
        go_wp2
        go_ret
        exact ⟨ret_bool (by rw [HV.out, H0.out]; rfl), B⟩
      have H0 : Hid (fldB r 3 false = true) := h0
      clear h0
      go_wp2_with fail
      refine (l8Field_any a 3 true _).mono ?_
      rintro e w2 ⟨rfl, h⟩
      replace h := h.symm
      subst h
      cases h1 : fldB a 3 true
      · have H1 : Hid (fldB a 3 true = false) := h1
        clear h1
        go_wp2
        go_ret
        exact ⟨ret_bool (by rw [HV.out, H0.out, H1.out]; rfl), B⟩
      have H1 : Hid (fldB a 3 true = true) := h1
      clear h1
      go_wp2_with fail
      refine (l8Field_any b 3 false _).mono ?_
      rintro e w2 ⟨rfl, h⟩
      replace h := h.symm
      subst h
      cases h2 : fldB b 3 false
      · have H2 : Hid (fldB b 3 false = false) := h2
        clear h2
        go_wp2
        go_ret
        exact ⟨ret_bool (by rw [HV.out, H0.out, H1.out, H2.out]; rfl), B⟩
      have H2 : Hid (fldB b 3 false = true) := h2
      clear h2
      go_wp2_with fail
      refine (l8Field_any n 63 true _).mono ?_
      rintro e w2 ⟨rfl, h⟩
      replace h := h.symm
      subst h
      generalize hz : fldB n 63 true = z
      have HZ : Hid (fldB n 63 true = z) := hz
      clear hz
      go_wp2
      go_ret
      exact ⟨ret_bool (by rw [HV.out, H0.out, H1.out, H2.out, HZ.out]; simp), B⟩
    · have hR : hasR 8 = false := rfl
      have hA : hasA 8 = false := rfl
      have hB : hasB 8 = false := rfl
      have hN : hasN 8 = true := rfl
      have HV : Hid (insB 8 r a b n = (fldB r 3 false && (fldB a 3 false && (fldB b 3 false && fldB n 63 true)))) := by show _ = _; unfold insB; rw [hb, hR, hA, hB, hN]; rfl
      have HB : Hid (inB 8 1 10 = true) := hb
      clear hb hR hA hB hN
      go_enter Tryd.func17, Tryd.ntmps17
      go_wp2_with fail
      refine (l8Has_any 8 _).mono ?_
      rintro e w1 ⟨rfl, b1⟩
      rw [show tab 8 = 8 from rfl]
      obtain ⟨x0, x1, x2, x3, x4, xz⟩ := (X.below b1).at5i
      replace B := bel_trans B b1
      clear X b1
      go_wp2_with fail
      refine (specIn_8 8 1 10 _).mono ?_
      rintro e w2 ⟨rfl, h⟩
      replace h := h.symm
      subst h
      rw [HB.out]
      go_wp2_with fail
      refine (l8Field_any r 3 false _).mono ?_
      rintro e w2 ⟨rfl, h⟩
      replace h := h.symm
      subst h
      cases h0 : fldB r 3 false
      · have H0 : Hid (fldB r 3 false = false) := h0
        clear h0
        go_wp2
        go_ret
        exact ⟨ret_bool (by rw [HV.out, H0.out]; rfl), B⟩
      have H0 : Hid (fldB r 3 false = true) := h0
      clear h0
      go_wp2_with fail
      refine (l8Field_any a 3 false _).mono ?_
      rintro e w2 ⟨rfl, h⟩
      replace h := h.symm
      subst h
      cases h1 : fldB a 3 false
      · have H1 : Hid (fldB a 3 false = false) := h1
        clear h1
        go_wp2
        go_ret
        exact ⟨ret_bool (by rw [HV.out, H0.out, H1.out]; rfl), B⟩
      have H1 : Hid (fldB a 3 false = true) := h1
      clear h1
      go_wp2_with fail
      refine (l8Field_any b 3 false _).mono ?_
      rintro e w2 ⟨rfl, h⟩
      replace h := h.symm
      subst h
      cases h2 : fldB b 3 false
      · have H2 : Hid (fldB b 3 false = false) := h2
        clear h2
        go_wp2
        go_ret
        exact ⟨ret_bool (by rw [HV.out, H0.out, H1.out, H2.out]; rfl), B⟩
      have H2 : Hid (fldB b 3 false = true) := h2
      clear h2
      go_wp2_with fail
      refine (l8Field_any n 63 true _).mono ?_
      rintro e w2 ⟨rfl, h⟩
      replace h := h.symm
      subst h
      generalize hz : fldB n 63 true = z
      have HZ : Hid (fldB n 63 true = z) := hz
      clear hz
      go_wp2
      go_ret
      exact ⟨ret_bool (by rw [HV.out, H0.out, H1.out, H2.out, HZ.out]; simp), B⟩
    · have hR : hasR 9 = false := rfl
      have hA : hasA 9 = false := rfl
      have hB : hasB 9 = false := rfl
      have hN : hasN 9 = false := rfl
      have HV : Hid (insB 9 r a b n = (fldB r 3 false && (fldB a 3 false && (fldB b 3 false && fldB n 63 false)))) := by show _ = _; unfold insB; rw [hb, hR, hA, hB, hN]; rfl
      have HB : Hid (inB 9 1 10 = true) := hb
      clear hb hR hA hB hN
      go_enter Tryd.func17, Tryd.ntmps17
      go_wp2_with fail
      refine (l8Has_any 9 _).mono ?_
      rintro e w1 ⟨rfl, b1⟩
      rw [show tab 9 = 0 from rfl]
      obtain ⟨x0, x1, x2, x3, x4, xz⟩ := (X.below b1).at5i
      replace B := bel_trans B b1
      clear X b1
      go_wp2_with fail
      refine (specIn_8 9 1 10 _).mono ?_
      rintro e w2 ⟨rfl, h⟩
      replace h := h.symm
      subst h
      rw [HB.out]
      go_wp2_with fail
      refine (l8Field_any r 3 false _).mono ?_
      rintro e w2 ⟨rfl, h⟩
      replace h := h.symm
      subst h
      cases h0 : fldB r 3 false
      · have H0 : Hid (fldB r 3 false = false) := h0
        clear h0
        go_wp2
        go_ret
        exact ⟨ret_bool (by rw [HV.out, H0.out]; rfl), B⟩
      have H0 : Hid (fldB r 3 false = true) := h0
      clear h0
      go_wp2_with fail
      refine (l8Field_any a 3 false _).mono ?_
      rintro e w2 ⟨rfl, h⟩
      replace h := h.symm
      subst h
      cases h1 : fldB a 3 false
      · have H1 : Hid (fldB a 3 false = false) := h1
        clear h1
        go_wp2
        go_ret
        exact ⟨ret_bool (by rw [HV.out, H0.out, H1.out]; rfl), B⟩
      have H1 : Hid (fldB a 3 false = true) := h1
      clear h1
      go_wp2_with fail
      refine (l8Field_any b 3 false _).mono ?_
      rintro e w2 ⟨rfl, h⟩
      replace h := h.symm
      subst h
      cases h2 : fldB b 3 false
      · have H2 : Hid (fldB b 3 false = false) := h2
        clear h2
        go_wp2
        go_ret
        exact ⟨ret_bool (by rw [HV.out, H0.out, H1.out, H2.out]; rfl), B⟩
      have H2 : Hid (fldB b 3 false = true) := h2
      clear h2
      go_wp2_with fail
      refine (l8Field_any n 63 false _).mono ?_
      rintro e w2 ⟨rfl, h⟩
      replace h := h.symm
      subst h
      generalize hz : fldB n 63 false = z
      have HZ : Hid (fldB n 63 false = z) := hz
      clear hz
      go_wp2
      go_ret
      exact ⟨ret_bool (by rw [HV.out, H0.out, H1.out, H2.out, HZ.out]; simp), B⟩
    · have hR : hasR 10 = true := rfl
      have hA : hasA 10 = true := rfl
      have hB : hasB 10 = true := rfl
      have hN : hasN 10 = false := rfl
      have HV : Hid (insB 10 r a b n = (fldB r 3 true && (fldB a 3 true && (fldB b 3 true && fldB n 63 false)))) := by show _ = _; unfold insB; rw [hb, hR, hA, hB, hN]; rfl
      have HB : Hid (inB 10 1 10 = true) := hb
      clear hb hR hA hB hN
      go_enter Tryd.func17, Tryd.ntmps17
      go_wp2_with fail
      refine (l8Has_any 10 _).mono ?_
      rintro e w1 ⟨rfl, b1⟩
      rw [show tab 10 = 7 from rfl]
      obtain ⟨x0, x1, x2, x3, x4, xz⟩ := (X.below b1).at5i
      replace B := bel_trans B b1
      clear X b1
      go_wp2_with fail
      refine (specIn_8 10 1 10 _).mono ?_
      rintro e w2 ⟨rfl, h⟩
      replace h := h.symm
      subst h
      rw [HB.out]
      go_wp2_with fail
      refine (l8Field_any r 3 true _).mono ?_
      rintro e w2 ⟨rfl, h⟩
      replace h := h.symm
      subst h
      cases h0 : fldB r 3 true
      · have H0 : Hid (fldB r 3 true = false) := h0
        clear h0
        go_wp2
        go_ret
        exact ⟨ret_bool (by rw [HV.out, H0.out]; rfl), B⟩
      have H0 : Hid (fldB r 3 true = true) := h0
      clear h0
      go_wp2_with fail
      refine (l8Field_any a 3 true _).mono ?_
      rintro e w2 ⟨rfl, h⟩
      replace h := h.symm
      subst h
      cases h1 : fldB a 3 true
      · have H1 : Hid (fldB a 3 true = false) := h1
        clear h1
        go_wp2
        go_ret
        exact ⟨ret_bool (by rw [HV.out, H0.out, H1.out]; rfl), B⟩
      have H1 : Hid (fldB a 3 true = true) := h1
      clear h1
      go_wp2_with fail
      refine (l8Field_any b 3 true _).mono ?_
      rintro e w2 ⟨rfl, h⟩
      replace h := h.symm
      subst h
      cases h2 : fldB b 3 true
      · have H2 : Hid (fldB b 3 true = false) := h2
        clear h2
        go_wp2
        go_ret
        exact ⟨ret_bool (by rw [HV.out, H0.out, H1.out, H2.out]; rfl), B⟩
      have H2 : Hid (fldB b 3 true = true) := h2
      clear h2
      go_wp2_with fail
      refine (l8Field_any n 63 false _).mono ?_
      rintro e w2 ⟨rfl, h⟩
      replace h := h.symm
      subst h
      generalize hz : fldB n 63 false = z
      have HZ : Hid (fldB n 63 false = z) := hz
      clear hz
      go_wp2
      go_ret
      exact ⟨ret_bool (by rw [HV.out, H0.out, H1.out, H2.out, HZ.out]; simp), B⟩

def codeW (op r a b n : Int) : Int := op + 16 * r + 64 * a + 256 * b + 1024 * n
theorem fld_le {x most : Int} {h : Bool} (hx : fldB x most h = true) : 0 ≤ x ∧ x ≤ most := by
  unfold fldB inB at hx
  simp only [Bool.and_eq_true, decide_eq_true_eq] at hx
  exact hx.1
theorem ins_le {op r a b n : Int} (h : insB op r a b n = true) : (1 ≤ op ∧ op ≤ 10) ∧ (0 ≤ r ∧ r ≤ 3) ∧ (0 ≤ a ∧ a ≤ 3) ∧ (0 ≤ b ∧ b ≤ 3) ∧ (0 ≤ n ∧ n ≤ 63) := by
  unfold insB at h
  simp only [Bool.and_eq_true] at h
  obtain ⟨h1, h2, h3, h4, h5⟩ := h
  exact ⟨by simpa [inB] using h1, fld_le h2, fld_le h3, fld_le h4, fld_le h5⟩

set_option maxRecDepth 100000 in
set_option maxHeartbeats 4000000 in
theorem specCode_any (op r a b n : Int) (w : World) : Calls Tryd.prog 32 #[.agg (icells op r a b n)] w fun e w' => e = .returned (.tuple #[.int .i64 (if insB op r a b n then codeW op r a b n else 0), .bool (insB op r a b n)]) ∧ Below w.heap.size w w' := by
  have B := bel_alloc (Below.refl w.heap.size w) (.cells (icells op r a b n) 25)
  have X := Box.new w (icells op r a b n) 25
  cases hb : insB op r a b n
  · have HB : Hid (insB op r a b n = false) := hb
    clear hb
    go_enter Tryd.func32, Tryd.ntmps32
    go_wp2_with fail
    refine (specInsOk_any op r a b n _).mono ?_
    rintro e w1 ⟨rfl, b1⟩
    rw [HB.out]
    replace B := bel_trans B b1
    clear X b1
    go_wp2
    refine bodyPost_ret (v := .tuple #[.int .i64 0, .bool false]) (by simp [results, Tryd.results32, go_sem]) rfl ⟨rfl, B⟩
  · have HB : Hid (insB op r a b n = true) := hb
    obtain ⟨⟨o1, o2⟩, ⟨r1, r2⟩, ⟨a1, a2⟩, ⟨b1', b2'⟩, ⟨n1, n2⟩⟩ := ins_le hb
    clear hb
    go_enter Tryd.func32, Tryd.ntmps32
    go_wp2_with fail
    refine (specInsOk_any op r a b n _).mono ?_
    rintro e w1 ⟨rfl, b1⟩
    rw [HB.out]
    obtain ⟨x0, x1, x2, x3, x4, xz⟩ := (X.below b1).at5i
    replace B := bel_trans B b1
    clear X b1
    go_wp2
    refine bodyPost_ret (v := .tuple #[.int .i64 (codeW op r a b n), .bool true]) (by simp [results, Tryd.results32, go_sem, codeW]) rfl ⟨rfl, B⟩

end Go.Proofs.YtfigbfddhmgafaaDoor
