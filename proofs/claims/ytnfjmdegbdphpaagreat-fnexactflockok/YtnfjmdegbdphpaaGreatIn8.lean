/- SpecIn and Seq and In8: see the heads of the parts. -/
import Derived.Test.YtnfjmdegbdphpaaGreatRows
import Derived.Test.YtnfjmdegbdphpaaGreatKeep
/- What the specification's l1In does. -/
namespace Go.Proofs.YtnfjmdegbdphpaaGreat
open Go.RowKit

set_option maxHeartbeats 400000 in
theorem specIn_any (x lo hi : Int) (w : World) :
    Calls Tryz.prog 22 #[.int .i64 x, .int .i64 lo, .int .i64 hi] w fun e w' => e = .returned (.bool (decide (lo ≤ x ∧ x ≤ hi))) ∧ w' = w := by
  by_cases h0 : lo ≤ x
  · by_cases h1 : x ≤ hi
    · have hd : decide (lo ≤ x ∧ x ≤ hi) = true := by simp [h0, h1]
      rw [hd]
      go_enter Tryz.func22, Tryz.ntmps22
      go_wp2
      go_ret
      exact ⟨rfl, rfl⟩
    · have hd : decide (lo ≤ x ∧ x ≤ hi) = false := by simp [h1]
      rw [hd]
      have h1' : hi < x := by omega
      go_enter Tryz.func22, Tryz.ntmps22
      go_wp2
      go_ret
      exact ⟨rfl, rfl⟩
  · have hd : decide (lo ≤ x ∧ x ≤ hi) = false := by simp [h0]
    rw [hd]
    have h1' : x < lo := by omega
    go_enter Tryz.func22, Tryz.ntmps22
    go_wp2
    go_ret
    exact ⟨rfl, rfl⟩

end Go.Proofs.YtnfjmdegbdphpaaGreat

/- What isSeq does. -/
namespace Go.Proofs.YtnfjmdegbdphpaaGreat
open Go.RowKit
set_option linter.unusedVariables false

def inB (x lo hi : Int) : Bool := decide (lo ≤ x ∧ x ≤ hi)

theorem isSeq_any (n : Int) (w : World) :
    Calls Tryz.prog 60 #[.int .i64 n] w fun e w' => e = .returned (.bool (inB n 0 100000)) ∧ w' = w := by
  by_cases h0 : 0 ≤ n
  · by_cases h1 : n ≤ 100000
    · have hd : inB n 0 100000 = true := by simp [inB, h0, h1]
      rw [hd]
      go_enter Tryz.func60, Tryz.ntmps60
      go_wp2
      go_ret
      exact ⟨rfl, rfl⟩
    · have hd : inB n 0 100000 = false := by simp [inB, h1]
      rw [hd]
      have h1' : 100000 < n := by omega
      go_enter Tryz.func60, Tryz.ntmps60
      go_wp2
      go_ret
      exact ⟨rfl, rfl⟩
  · have hd : inB n 0 100000 = false := by simp [inB, h0]
    rw [hd]
    have h1' : n < 0 := by omega
    go_enter Tryz.func60, Tryz.ntmps60
    go_wp2
    go_ret
    exact ⟨rfl, rfl⟩
end Go.Proofs.YtnfjmdegbdphpaaGreat

/- What the specification's InsOk, Code, Decode and Ends answer (written by mki8.py). -/
namespace Go.Proofs.YtnfjmdegbdphpaaGreat
open Go.RowKit
set_option linter.unusedVariables false

/-- What an op has; what is right. -/
def hasR (op : Int) : Bool := op == 1 || (op == 2 || (op == 3 || (op == 4 || (op == 6 || op == 10))))
def hasA (op : Int) : Bool := op == 2 || (op == 3 || (op == 4 || (op == 5 || (op == 6 || (op == 7 || op == 10)))))
def hasB (op : Int) : Bool := op == 2 || (op == 5 || (op == 6 || op == 10))
def hasN (op : Int) : Bool := op == 1 || (op == 3 || (op == 4 || (op == 5 || (op == 6 || (op == 7 || op == 8)))))
def fldB (x most : Int) (h : Bool) : Bool := inB x 0 most && (h || x == 0)
def insB (op r a b n : Int) : Bool := inB op 1 10 && (fldB r 3 (hasR op) && (fldB a 3 (hasA op) && (fldB b 3 (hasB op) && fldB n 63 (hasN op))))
def tab (op : Int) : Int := if inB op 1 10 then [0, 9, 7, 11, 11, 14, 15, 10, 8, 0, 7].getD op.toNat 0 else 0
abbrev icells (op r a b n : Int) : Array Value := #[.int .i64 op, .int .i64 r, .int .i64 a, .int .i64 b, .int .i64 n]
theorem op_cases {op : Int} (h : inB op 1 10 = true) : op = 1 ∨ op = 2 ∨ op = 3 ∨ op = 4 ∨ op = 5 ∨ op = 6 ∨ op = 7 ∨ op = 8 ∨ op = 9 ∨ op = 10 := by
  have : 1 ≤ op ∧ op ≤ 10 := by simpa [inB] using h
  omega
theorem Box.at5i {w : World} {m : Nat} {c0 c1 c2 c3 c4 : Value} {t : TypeId} (h : Box w m #[c0, c1, c2, c3, c4] t) :
    w.cell? ⟨m, 0, none⟩ = some c0 ∧ w.cell? ⟨m, 1, none⟩ = some c1 ∧ w.cell? ⟨m, 2, none⟩ = some c2 ∧ w.cell? ⟨m, 3, none⟩ = some c3 ∧ w.cell? ⟨m, 4, none⟩ = some c4 ∧ m < w.heap.size :=
  ⟨by rw [h.cell]; rfl, by rw [h.cell]; rfl, by rw [h.cell]; rfl, by rw [h.cell]; rfl, by rw [h.cell]; rfl, h.lt⟩
theorem specIn_8 (x lo hi : Int) (w : World) :
    Calls Tryz.prog 22 #[.int .i64 x, .int .i64 lo, .int .i64 hi] w fun e w' => e = .returned (.bool (inB x lo hi)) ∧ w' = w := specIn_any x lo hi w

set_option maxHeartbeats 1000000 in
theorem l8Field_any (x most : Int) (h : Bool) (w : World) : Calls Tryz.prog 120 #[.int .i64 x, .int .i64 most, .bool h] w fun e w' => e = .returned (.bool (fldB x most h)) ∧ w' = w := by
  cases hb : inB x 0 most
  · have HV : Hid (fldB x most h = false) := by show _ = _; unfold fldB; rw [hb]; rfl
    have HB : Hid (inB x 0 most = false) := hb
    clear hb
    go_enter Tryz.func120, Tryz.ntmps120
    go_wp2_with fail
    refine (specIn_8 x 0 most _).mono ?_
    rintro e w1 ⟨rfl, h⟩
    subst h
    rw [HB.out]
    go_wp2
    go_ret
    exact ⟨ret_bool HV.out.symm, rfl⟩
  · have HB : Hid (inB x 0 most = true) := hb
    cases h
    · by_cases h0 : x = 0
      · subst h0
        have HV : Hid (fldB 0 most false = true) := by show _ = _; unfold fldB; rw [hb]; rfl
        clear hb
        go_enter Tryz.func120, Tryz.ntmps120
        go_wp2_with fail
        refine (specIn_8 0 0 most _).mono ?_
        rintro e w1 ⟨rfl, h⟩
        subst h
        rw [HB.out]
        go_wp2
        go_ret
        exact ⟨ret_bool HV.out.symm, rfl⟩
      · have e0 : (x == 0) = false := by simpa using h0
        have HV : Hid (fldB x most false = false) := by show _ = _; unfold fldB; rw [hb, e0]; rfl
        clear hb
        go_enter Tryz.func120, Tryz.ntmps120
        go_wp2_with fail
        refine (specIn_8 x 0 most _).mono ?_
        rintro e w1 ⟨rfl, h⟩
        subst h
        rw [HB.out]
        go_wp2
        go_ret
        exact ⟨ret_bool HV.out.symm, rfl⟩
    · have HV : Hid (fldB x most true = true) := by show _ = _; unfold fldB; rw [hb]; rfl
      clear hb
      go_enter Tryz.func120, Tryz.ntmps120
      go_wp2_with fail
      refine (specIn_8 x 0 most _).mono ?_
      rintro e w1 ⟨rfl, h⟩
      subst h
      rw [HB.out]
      go_wp2
      go_ret
      exact ⟨ret_bool HV.out.symm, rfl⟩

set_option maxRecDepth 100000 in
set_option maxHeartbeats 4000000 in
theorem l8Has_any (op : Int) (w : World) : Calls Tryz.prog 119 #[.int .i64 op] w fun e w' => e = .returned (.int .i64 (tab op)) ∧ Below w.heap.size w w' := by
  cases hb : inB op 1 10
  · have HB : Hid (inB op 1 10 = false) := hb
    have HV : Hid (tab op = 0) := by show _ = _; unfold tab; rw [hb]; rfl
    clear hb
    go_enter Tryz.func119, Tryz.ntmps119
    go_wp2_with fail
    refine (specIn_8 op 1 10 _).mono ?_
    rintro e w1 ⟨rfl, h⟩
    subst h
    rw [HB.out]
    go_wp2
    go_ret
    exact ⟨ret_int HV.out.symm, Below.refl _ _⟩
  · have B := bel_alloc (Below.refl w.heap.size w) (.cells #[.int .i64 0, .int .i64 9, .int .i64 7, .int .i64 11, .int .i64 11, .int .i64 14, .int .i64 15, .int .i64 10, .int .i64 8, .int .i64 0, .int .i64 7] 3)
    rcases op_cases hb with rfl | rfl | rfl | rfl | rfl | rfl | rfl | rfl | rfl | rfl
    all_goals
      go_enter Tryz.func119, Tryz.ntmps119
      go_wp2_with fail
      refine (specIn_8 _ 1 10 _).mono ?_
      rintro e w1 ⟨rfl, h⟩
      subst h
      rw [hb]
      go_wp2
      go_ret
      exact ⟨rfl, B⟩

set_option maxRecDepth 100000 in
set_option maxHeartbeats 8000000 in
theorem specInsOk_any (op r a b n : Int) (w : World) : Calls Tryz.prog 89 #[.agg (icells op r a b n)] w fun e w' => e = .returned (.bool (insB op r a b n)) ∧ Below w.heap.size w w' := by
  have B := bel_alloc (Below.refl w.heap.size w) (.cells (icells op r a b n) 152)
  have X := Box.new w (icells op r a b n) 152
  cases hb : inB op 1 10
  · have HB : Hid (inB op 1 10 = false) := hb
    have HV : Hid (insB op r a b n = false) := by show _ = _; unfold insB; rw [hb]; rfl
    clear hb
    go_enter Tryz.func89, Tryz.ntmps89
    go_wp2_with fail
    refine (l8Has_any op _).mono ?_
    rintro e w1 ⟨rfl, b1⟩
    obtain ⟨x0, x1, x2, x3, x4, xz⟩ := (X.below b1).at5i
    replace B := bel_trans B b1
    clear X b1
    go_wp2_with fail
    refine (specIn_8 op 1 10 _).mono ?_
    rintro e w2 ⟨rfl, h⟩
    replace h := h.symm
    subst h
    rw [HB.out]
    go_wp2
    go_ret
    exact ⟨ret_bool HV.out.symm, B⟩
  · rcases op_cases hb with rfl | rfl | rfl | rfl | rfl | rfl | rfl | rfl | rfl | rfl
    · have hR : hasR 1 = true := rfl
      have hA : hasA 1 = false := rfl
      have hB : hasB 1 = false := rfl
      have hN : hasN 1 = true := rfl
      have HV : Hid (insB 1 r a b n = (fldB r 3 true && (fldB a 3 false && (fldB b 3 false && fldB n 63 true)))) := by show _ = _; unfold insB; rw [hb, hR, hA, hB, hN]; rfl
      have HB : Hid (inB 1 1 10 = true) := hb
      clear hb hR hA hB hN
      go_enter Tryz.func89, Tryz.ntmps89
      go_wp2_with fail
      refine (l8Has_any 1 _).mono ?_
      rintro e w1 ⟨rfl, b1⟩
      rw [show tab 1 = 9 from rfl]
      obtain ⟨x0, x1, x2, x3, x4, xz⟩ := (X.below b1).at5i
      replace B := bel_trans B b1
      clear X b1
      go_wp2_with fail
      refine (specIn_8 1 1 10 _).mono ?_
      rintro e w2 ⟨rfl, h⟩
      replace h := h.symm
      subst h
      rw [HB.out]
      go_wp2_with fail
      refine (l8Field_any r 3 true _).mono ?_
      rintro e w2 ⟨rfl, h⟩
      replace h := h.symm
      subst h
      cases h0 : fldB r 3 true
      · have H0 : Hid (fldB r 3 true = false) := h0
        clear h0
        go_wp2
        go_ret
        exact ⟨ret_bool (by rw [HV.out, H0.out]; rfl), B⟩
      have H0 : Hid (fldB r 3 true = true) := h0
      clear h0
      go_wp2_with fail
      refine (l8Field_any a 3 false _).mono ?_
      rintro e w2 ⟨rfl, h⟩
      replace h := h.symm
      subst h
      cases h1 : fldB a 3 false
      · have H1 : Hid (fldB a 3 false = false) := h1
        clear h1
        go_wp2
        go_ret
        exact ⟨ret_bool (by rw [HV.out, H0.out, H1.out]; rfl), B⟩
      have H1 : Hid (fldB a 3 false = true) := h1
      clear h1
      go_wp2_with fail
      refine (l8Field_any b 3 false _).mono ?_
      rintro e w2 ⟨rfl, h⟩
      replace h := h.symm
      subst h
      cases h2 : fldB b 3 false
      · have H2 : Hid (fldB b 3 false = false) := h2
        clear h2
        go_wp2
        go_ret
        exact ⟨ret_bool (by rw [HV.out, H0.out, H1.out, H2.out]; rfl), B⟩
      have H2 : Hid (fldB b 3 false = true) := h2
      clear h2
      go_wp2_with fail
      refine (l8Field_any n 63 true _).mono ?_
      rintro e w2 ⟨rfl, h⟩
      replace h := h.symm
      subst h
      generalize hz : fldB n 63 true = z
      have HZ : Hid (fldB n 63 true = z) := hz
      clear hz
      go_wp2
      go_ret
      exact ⟨ret_bool (by rw [HV.out, H0.out, H1.out, H2.out, HZ.out]; simp), B⟩
    · have hR : hasR 2 = true := rfl
      have hA : hasA 2 = true := rfl
      have hB : hasB 2 = true := rfl
      have hN : hasN 2 = false := rfl
      have HV : Hid (insB 2 r a b n = (fldB r 3 true && (fldB a 3 true && (fldB b 3 true && fldB n 63 false)))) := by show _ = _; unfold insB; rw [hb, hR, hA, hB, hN]; rfl
      have HB : Hid (inB 2 1 10 = true) := hb
      clear hb hR hA hB hN
      go_enter Tryz.func89, Tryz.ntmps89
      go_wp2_with fail
      refine (l8Has_any 2 _).mono ?_
      rintro e w1 ⟨rfl, b1⟩
      rw [show tab 2 = 7 from rfl]
      obtain ⟨x0, x1, x2, x3, x4, xz⟩ := (X.below b1).at5i
      replace B := bel_trans B b1
      clear X b1
      go_wp2_with fail
      refine (specIn_8 2 1 10 _).mono ?_
      rintro e w2 ⟨rfl, h⟩
      replace h := h.symm
      subst h
      rw [HB.out]
      go_wp2_with fail
      refine (l8Field_any r 3 true _).mono ?_
      rintro e w2 ⟨rfl, h⟩
      replace h := h.symm
      subst h
      cases h0 : fldB r 3 true
      · have H0 : Hid (fldB r 3 true = false) := h0
        clear h0
        go_wp2
        go_ret
        exact ⟨ret_bool (by rw [HV.out, H0.out]; rfl), B⟩
      have H0 : Hid (fldB r 3 true = true) := h0
      clear h0
      go_wp2_with fail
      refine (l8Field_any a 3 true _).mono ?_
      rintro e w2 ⟨rfl, h⟩
      replace h := h.symm
      subst h
      cases h1 : fldB a 3 true
      · have H1 : Hid (fldB a 3 true = false) := h1
        clear h1
        go_wp2
        go_ret
        exact ⟨ret_bool (by rw [HV.out, H0.out, H1.out]; rfl), B⟩
      have H1 : Hid (fldB a 3 true = true) := h1
      clear h1
      go_wp2_with fail
      refine (l8Field_any b 3 true _).mono ?_
      rintro e w2 ⟨rfl, h⟩
      replace h := h.symm
      subst h
      cases h2 : fldB b 3 true
      · have H2 : Hid (fldB b 3 true = false) := h2
        clear h2
        go_wp2
        go_ret
        exact ⟨ret_bool (by rw [HV.out, H0.out, H1.out, H2.out]; rfl), B⟩
      have H2 : Hid (fldB b 3 true = true) := h2
      clear h2
      go_wp2_with fail
      refine (l8Field_any n 63 false _).mono ?_
      rintro e w2 ⟨rfl, h⟩
      replace h := h.symm
      subst h
      generalize hz : fldB n 63 false = z
      have HZ : Hid (fldB n 63 false = z) := hz
      clear hz
      go_wp2
      go_ret
      exact ⟨ret_bool (by rw [HV.out, H0.out, H1.out, H2.out, HZ.out]; simp), B⟩
    · have hR : hasR 3 = true := rfl
      have hA : hasA 3 = true := rfl
      have hB : hasB 3 = false := rfl
      have hN : hasN 3 = true := rfl
      have HV : Hid (insB 3 r a b n = (fldB r 3 true && (fldB a 3 true && (fldB b 3 false && fldB n 63 true)))) := by show _ = _; unfold insB; rw [hb, hR, hA, hB, hN]; rfl
      have HB : Hid (inB 3 1 10 = true) := hb
      clear hb hR hA hB hN
      go_enter Tryz.func89, Tryz.ntmps89
      go_wp2_with fail
      refine (l8Has_any 3 _).mono ?_
      rintro e w1 ⟨rfl, b1⟩
      rw [show tab 3 = 11 from rfl]
      obtain ⟨x0, x1, x2, x3, x4, xz⟩ := (X.below b1).at5i
      replace B := bel_trans B b1
      clear X b1
      go_wp2_with fail
      refine (specIn_8 3 1 10 _).mono ?_
      rintro e w2 ⟨rfl, h⟩
      replace h := h.symm
      subst h
      rw [HB.out]
      go_wp2_with fail
      refine (l8Field_any r 3 true _).mono ?_
      rintro e w2 ⟨rfl, h⟩
      replace h := h.symm
      subst h
      cases h0 : fldB r 3 true
      · have H0 : Hid (fldB r 3 true = false) := h0
        clear h0
        go_wp2
        go_ret
        exact ⟨ret_bool (by rw [HV.out, H0.out]; rfl), B⟩
      have H0 : Hid (fldB r 3 true = true) := h0
      clear h0
      go_wp2_with fail
      refine (l8Field_any a 3 true _).mono ?_
      rintro e w2 ⟨rfl, h⟩
      replace h := h.symm
      subst h
      cases h1 : fldB a 3 true
      · have H1 : Hid (fldB a 3 true = false) := h1
        clear h1
        go_wp2
        go_ret
        exact ⟨ret_bool (by rw [HV.out, H0.out, H1.out]; rfl), B⟩
      have H1 : Hid (fldB a 3 true = true) := h1
      clear h1
      go_wp2_with fail
      refine (l8Field_any b 3 false _).mono ?_
      rintro e w2 ⟨rfl, h⟩
      replace h := h.symm
      subst h
      cases h2 : fldB b 3 false
      · have H2 : Hid (fldB b 3 false = false) := h2
        clear h2
        go_wp2
        go_ret
        exact ⟨ret_bool (by rw [HV.out, H0.out, H1.out, H2.out]; rfl), B⟩
      have H2 : Hid (fldB b 3 false = true) := h2
      clear h2
      go_wp2_with fail
      refine (l8Field_any n 63 true _).mono ?_
      rintro e w2 ⟨rfl, h⟩
      replace h := h.symm
      subst h
      generalize hz : fldB n 63 true = z
      have HZ : Hid (fldB n 63 true = z) := hz
      clear hz
      go_wp2
      go_ret
      exact ⟨ret_bool (by rw [HV.out, H0.out, H1.out, H2.out, HZ.out]; simp), B⟩
    · have hR : hasR 4 = true := rfl
      have hA : hasA 4 = true := rfl
      have hB : hasB 4 = false := rfl
      have hN : hasN 4 = true := rfl
      have HV : Hid (insB 4 r a b n = (fldB r 3 true && (fldB a 3 true && (fldB b 3 false && fldB n 63 true)))) := by show _ = _; unfold insB; rw [hb, hR, hA, hB, hN]; rfl
      have HB : Hid (inB 4 1 10 = true) := hb
      clear hb hR hA hB hN
      go_enter Tryz.func89, Tryz.ntmps89
      go_wp2_with fail
      refine (l8Has_any 4 _).mono ?_
      rintro e w1 ⟨rfl, b1⟩
      rw [show tab 4 = 11 from rfl]
      obtain ⟨x0, x1, x2, x3, x4, xz⟩ := (X.below b1).at5i
      replace B := bel_trans B b1
      clear X b1
      go_wp2_with fail
      refine (specIn_8 4 1 10 _).mono ?_
      rintro e w2 ⟨rfl, h⟩
      replace h := h.symm
      subst h
      rw [HB.out]
      go_wp2_with fail
      refine (l8Field_any r 3 true _).mono ?_
      rintro e w2 ⟨rfl, h⟩
      replace h := h.symm
      subst h
      cases h0 : fldB r 3 true
      · have H0 : Hid (fldB r 3 true = false) := h0
        clear h0
        go_wp2
        go_ret
        exact ⟨ret_bool (by rw [HV.out, H0.out]; rfl), B⟩
      have H0 : Hid (fldB r 3 true = true) := h0
      clear h0
      go_wp2_with fail
      refine (l8Field_any a 3 true _).mono ?_
      rintro e w2 ⟨rfl, h⟩
      replace h := h.symm
      subst h
      cases h1 : fldB a 3 true
      · have H1 : Hid (fldB a 3 true = false) := h1
        clear h1
        go_wp2
        go_ret
        exact ⟨ret_bool (by rw [HV.out, H0.out, H1.out]; rfl), B⟩
      have H1 : Hid (fldB a 3 true = true) := h1
      clear h1
      go_wp2_with fail
      refine (l8Field_any b 3 false _).mono ?_
      rintro e w2 ⟨rfl, h⟩
      replace h := h.symm
      subst h
      cases h2 : fldB b 3 false
      · have H2 : Hid (fldB b 3 false = false) := h2
        clear h2
        go_wp2
        go_ret
        exact ⟨ret_bool (by rw [HV.out, H0.out, H1.out, H2.out]; rfl), B⟩
      have H2 : Hid (fldB b 3 false = true) := h2
      clear h2
      go_wp2_with fail
      refine (l8Field_any n 63 true _).mono ?_
      rintro e w2 ⟨rfl, h⟩
      replace h := h.symm
      subst h
      generalize hz : fldB n 63 true = z
      have HZ : Hid (fldB n 63 true = z) := hz
      clear hz
      go_wp2
      go_ret
      exact ⟨ret_bool (by rw [HV.out, H0.out, H1.out, H2.out, HZ.out]; simp), B⟩
    · have hR : hasR 5 = false := rfl
      have hA : hasA 5 = true := rfl
      have hB : hasB 5 = true := rfl
      have hN : hasN 5 = true := rfl
      have HV : Hid (insB 5 r a b n = (fldB r 3 false && (fldB a 3 true && (fldB b 3 true && fldB n 63 true)))) := by show _ = _; unfold insB; rw [hb, hR, hA, hB, hN]; rfl
      have HB : Hid (inB 5 1 10 = true) := hb
      clear hb hR hA hB hN
      go_enter Tryz.func89, Tryz.ntmps89
      go_wp2_with fail
      refine (l8Has_any 5 _).mono ?_
      rintro e w1 ⟨rfl, b1⟩
      rw [show tab 5 = 14 from rfl]
      obtain ⟨x0, x1, x2, x3, x4, xz⟩ := (X.below b1).at5i
      replace B := bel_trans B b1
      clear X b1
      go_wp2_with fail
      refine (specIn_8 5 1 10 _).mono ?_
      rintro e w2 ⟨rfl, h⟩
      replace h := h.symm
      subst h
      rw [HB.out]
      go_wp2_with fail
      refine (l8Field_any r 3 false _).mono ?_
      rintro e w2 ⟨rfl, h⟩
      replace h := h.symm
      subst h
      cases h0 : fldB r 3 false
      · have H0 : Hid (fldB r 3 false = false) := h0
        clear h0
        go_wp2
        go_ret
        exact ⟨ret_bool (by rw [HV.out, H0.out]; rfl), B⟩
      have H0 : Hid (fldB r 3 false = true) := h0
      clear h0
      go_wp2_with fail
      refine (l8Field_any a 3 true _).mono ?_
      rintro e w2 ⟨rfl, h⟩
      replace h := h.symm
      subst h
      cases h1 : fldB a 3 true
      · have H1 : Hid (fldB a 3 true = false) := h1
        clear h1
        go_wp2
        go_ret
        exact ⟨ret_bool (by rw [HV.out, H0.out, H1.out]; rfl), B⟩
      have H1 : Hid (fldB a 3 true = true) := h1
      clear h1
      go_wp2_with fail
      refine (l8Field_any b 3 true _).mono ?_
      rintro e w2 ⟨rfl, h⟩
      replace h := h.symm
      subst h
      cases h2 : fldB b 3 true
      · have H2 : Hid (fldB b 3 true = false) := h2
        clear h2
        go_wp2
        go_ret
        exact ⟨ret_bool (by rw [HV.out, H0.out, H1.out, H2.out]; rfl), B⟩
      have H2 : Hid (fldB b 3 true = true) := h2
      clear h2
      go_wp2_with fail
      refine (l8Field_any n 63 true _).mono ?_
      rintro e w2 ⟨rfl, h⟩
      replace h := h.symm
      subst h
      generalize hz : fldB n 63 true = z
      have HZ : Hid (fldB n 63 true = z) := hz
      clear hz
      go_wp2
      go_ret
      exact ⟨ret_bool (by rw [HV.out, H0.out, H1.out, H2.out, HZ.out]; simp), B⟩
    · have hR : hasR 6 = true := rfl
      have hA : hasA 6 = true := rfl
      have hB : hasB 6 = true := rfl
      have hN : hasN 6 = true := rfl
      have HV : Hid (insB 6 r a b n = (fldB r 3 true && (fldB a 3 true && (fldB b 3 true && fldB n 63 true)))) := by show _ = _; unfold insB; rw [hb, hR, hA, hB, hN]; rfl
      have HB : Hid (inB 6 1 10 = true) := hb
      clear hb hR hA hB hN
      go_enter Tryz.func89, Tryz.ntmps89
      go_wp2_with fail
      refine (l8Has_any 6 _).mono ?_
      rintro e w1 ⟨rfl, b1⟩
      rw [show tab 6 = 15 from rfl]
      obtain ⟨x0, x1, x2, x3, x4, xz⟩ := (X.below b1).at5i
      replace B := bel_trans B b1
      clear X b1
      go_wp2_with fail
      refine (specIn_8 6 1 10 _).mono ?_
      rintro e w2 ⟨rfl, h⟩
      replace h := h.symm
      subst h
      rw [HB.out]
      go_wp2_with fail
      refine (l8Field_any r 3 true _).mono ?_
      rintro e w2 ⟨rfl, h⟩
      replace h := h.symm
      subst h
      cases h0 : fldB r 3 true
      · have H0 : Hid (fldB r 3 true = false) := h0
        clear h0
        go_wp2
        go_ret
        exact ⟨ret_bool (by rw [HV.out, H0.out]; rfl), B⟩
      have H0 : Hid (fldB r 3 true = true) := h0
      clear h0
      go_wp2_with fail
      refine (l8Field_any a 3 true _).mono ?_
      rintro e w2 ⟨rfl, h⟩
      replace h := h.symm
      subst h
      cases h1 : fldB a 3 true
      · have H1 : Hid (fldB a 3 true = false) := h1
        clear h1
        go_wp2
        go_ret
        exact ⟨ret_bool (by rw [HV.out, H0.out, H1.out]; rfl), B⟩
      have H1 : Hid (fldB a 3 true = true) := h1
      clear h1
      go_wp2_with fail
      refine (l8Field_any b 3 true _).mono ?_
      rintro e w2 ⟨rfl, h⟩
      replace h := h.symm
      subst h
      cases h2 : fldB b 3 true
      · have H2 : Hid (fldB b 3 true = false) := h2
        clear h2
        go_wp2
        go_ret
        exact ⟨ret_bool (by rw [HV.out, H0.out, H1.out, H2.out]; rfl), B⟩
      have H2 : Hid (fldB b 3 true = true) := h2
      clear h2
      go_wp2_with fail
      refine (l8Field_any n 63 true _).mono ?_
      rintro e w2 ⟨rfl, h⟩
      replace h := h.symm
      subst h
      generalize hz : fldB n 63 true = z
      have HZ : Hid (fldB n 63 true = z) := hz
      clear hz
      go_wp2
      go_ret
      exact ⟨ret_bool (by rw [HV.out, H0.out, H1.out, H2.out, HZ.out]; simp), B⟩
    · have hR : hasR 7 = false := rfl
      have hA : hasA 7 = true := rfl
      have hB : hasB 7 = false := rfl
      have hN : hasN 7 = true := rfl
      have HV : Hid (insB 7 r a b n = (fldB r 3 false && (fldB a 3 true && (fldB b 3 false && fldB n 63 true)))) := by show _ = _; unfold insB; rw [hb, hR, hA, hB, hN]; rfl
      have HB : Hid (inB 7 1 10 = true) := hb
      clear hb hR hA hB hN
      go_enter Tryz.func89, Tryz.ntmps89
      go_wp2_with fail
      refine (l8Has_any 7 _).mono ?_
      rintro e w1 ⟨rfl, b1⟩
      rw [show tab 7 = 10 from rfl]
      obtain ⟨x0, x1, x2, x3, x4, xz⟩ := (X.below b1).at5i
      replace B := bel_trans B b1
      clear X b1
      go_wp2_with fail
      refine (specIn_8 7 1 10 _).mono ?_
      rintro e w2 ⟨rfl, h⟩
      replace h := h.symm
      subst h
      rw [HB.out]
      go_wp2_with fail
      refine (l8Field_any r 3 false _).mono ?_
      rintro e w2 ⟨rfl, h⟩
      replace h := h.symm
      subst h
      cases h0 : fldB r 3 false
      · have H0 : Hid (fldB r 3 false = false) := h0
        clear h0
        go_wp2
        go_ret
        exact ⟨ret_bool (by rw [HV.out, H0.out]; rfl), B⟩
      have H0 : Hid (fldB r 3 false = true) := h0
      clear h0
      go_wp2_with fail
      refine (l8Field_any a 3 true _).mono ?_
      rintro e w2 ⟨rfl, h⟩
      replace h := h.symm
      subst h
      cases h1 : fldB a 3 true
      · have H1 : Hid (fldB a 3 true = false) := h1
        clear h1
        go_wp2
        go_ret
        exact ⟨ret_bool (by rw [HV.out, H0.out, H1.out]; rfl), B⟩
      have H1 : Hid (fldB a 3 true = true) := h1
      clear h1
      go_wp2_with fail
      refine (l8Field_any b 3 false _).mono ?_
      rintro e w2 ⟨rfl, h⟩
      replace h := h.symm
      subst h
      cases h2 : fldB b 3 false
      · have H2 : Hid (fldB b 3 false = false) := h2
        clear h2
        go_wp2
        go_ret
        exact ⟨ret_bool (by rw [HV.out, H0.out, H1.out, H2.out]; rfl), B⟩
      have H2 : Hid (fldB b 3 false = true) := h2
      clear h2
      go_wp2_with fail
      refine (l8Field_any n 63 true _).mono ?_
      rintro e w2 ⟨rfl, h⟩
      replace h := h.symm
      subst h
      generalize hz : fldB n 63 true = z
      have HZ : Hid (fldB n 63 true = z) := hz
      clear hz
      go_wp2
      go_ret
      exact ⟨ret_bool (by rw [HV.out, H0.out, H1.out, H2.out, HZ.out]; simp), B⟩
    · have hR : hasR 8 = false := rfl
      have hA : hasA 8 = false := rfl
      have hB : hasB 8 = false := rfl
      have hN : hasN 8 = true := rfl
      have HV : Hid (insB 8 r a b n = (fldB r 3 false && (fldB a 3 false && (fldB b 3 false && fldB n 63 true)))) := by show _ = _; unfold insB; rw [hb, hR, hA, hB, hN]; rfl
      have HB : Hid (inB 8 1 10 = true) := hb
      clear hb hR hA hB hN
      go_enter Tryz.func89, Tryz.ntmps89
      go_wp2_with fail
      refine (l8Has_any 8 _).mono ?_
      rintro e w1 ⟨rfl, b1⟩
      rw [show tab 8 = 8 from rfl]
      obtain ⟨x0, x1, x2, x3, x4, xz⟩ := (X.below b1).at5i
      replace B := bel_trans B b1
      clear X b1
      go_wp2_with fail
      refine (specIn_8 8 1 10 _).mono ?_
      rintro e w2 ⟨rfl, h⟩
      replace h := h.symm
      subst h
      rw [HB.out]
      go_wp2_with fail
      refine (l8Field_any r 3 false _).mono ?_
      rintro e w2 ⟨rfl, h⟩
      replace h := h.symm
      subst h
      cases h0 : fldB r 3 false
      · have H0 : Hid (fldB r 3 false = false) := h0
        clear h0
        go_wp2
        go_ret
        exact ⟨ret_bool (by rw [HV.out, H0.out]; rfl), B⟩
      have H0 : Hid (fldB r 3 false = true) := h0
      clear h0
      go_wp2_with fail
      refine (l8Field_any a 3 false _).mono ?_
      rintro e w2 ⟨rfl, h⟩
      replace h := h.symm
      subst h
      cases h1 : fldB a 3 false
      · have H1 : Hid (fldB a 3 false = false) := h1
        clear h1
        go_wp2
        go_ret
        exact ⟨ret_bool (by rw [HV.out, H0.out, H1.out]; rfl), B⟩
      have H1 : Hid (fldB a 3 false = true) := h1
      clear h1
      go_wp2_with fail
      refine (l8Field_any b 3 false _).mono ?_
      rintro e w2 ⟨rfl, h⟩
      replace h := h.symm
      subst h
      cases h2 : fldB b 3 false
      · have H2 : Hid (fldB b 3 false = false) := h2
        clear h2
        go_wp2
        go_ret
        exact ⟨ret_bool (by rw [HV.out, H0.out, H1.out, H2.out]; rfl), B⟩
      have H2 : Hid (fldB b 3 false = true) := h2
      clear h2
      go_wp2_with fail
      refine (l8Field_any n 63 true _).mono ?_
      rintro e w2 ⟨rfl, h⟩
      replace h := h.symm
      subst h
      generalize hz : fldB n 63 true = z
      have HZ : Hid (fldB n 63 true = z) := hz
      clear hz
      go_wp2
      go_ret
      exact ⟨ret_bool (by rw [HV.out, H0.out, H1.out, H2.out, HZ.out]; simp), B⟩
    · have hR : hasR 9 = false := rfl
      have hA : hasA 9 = false := rfl
      have hB : hasB 9 = false := rfl
      have hN : hasN 9 = false := rfl
      have HV : Hid (insB 9 r a b n = (fldB r 3 false && (fldB a 3 false && (fldB b 3 false && fldB n 63 false)))) := by show _ = _; unfold insB; rw [hb, hR, hA, hB, hN]; rfl
      have HB : Hid (inB 9 1 10 = true) := hb
      clear hb hR hA hB hN
      go_enter Tryz.func89, Tryz.ntmps89
      go_wp2_with fail
      refine (l8Has_any 9 _).mono ?_
      rintro e w1 ⟨rfl, b1⟩
      rw [show tab 9 = 0 from rfl]
      obtain ⟨x0, x1, x2, x3, x4, xz⟩ := (X.below b1).at5i
      replace B := bel_trans B b1
      clear X b1
      go_wp2_with fail
      refine (specIn_8 9 1 10 _).mono ?_
      rintro e w2 ⟨rfl, h⟩
      replace h := h.symm
      subst h
      rw [HB.out]
      go_wp2_with fail
      refine (l8Field_any r 3 false _).mono ?_
      rintro e w2 ⟨rfl, h⟩
      replace h := h.symm
      subst h
      cases h0 : fldB r 3 false
      · have H0 : Hid (fldB r 3 false = false) := h0
        clear h0
        go_wp2
        go_ret
        exact ⟨ret_bool (by rw [HV.out, H0.out]; rfl), B⟩
      have H0 : Hid (fldB r 3 false = true) := h0
      clear h0
      go_wp2_with fail
      refine (l8Field_any a 3 false _).mono ?_
      rintro e w2 ⟨rfl, h⟩
      replace h := h.symm
      subst h
      cases h1 : fldB a 3 false
      · have H1 : Hid (fldB a 3 false = false) := h1
        clear h1
        go_wp2
        go_ret
        exact ⟨ret_bool (by rw [HV.out, H0.out, H1.out]; rfl), B⟩
      have H1 : Hid (fldB a 3 false = true) := h1
      clear h1
      go_wp2_with fail
      refine (l8Field_any b 3 false _).mono ?_
      rintro e w2 ⟨rfl, h⟩
      replace h := h.symm
      subst h
      cases h2 : fldB b 3 false
      · have H2 : Hid (fldB b 3 false = false) := h2
        clear h2
        go_wp2
        go_ret
        exact ⟨ret_bool (by rw [HV.out, H0.out, H1.out, H2.out]; rfl), B⟩
      have H2 : Hid (fldB b 3 false = true) := h2
      clear h2
      go_wp2_with fail
      refine (l8Field_any n 63 false _).mono ?_
      rintro e w2 ⟨rfl, h⟩
      replace h := h.symm
      subst h
      generalize hz : fldB n 63 false = z
      have HZ : Hid (fldB n 63 false = z) := hz
      clear hz
      go_wp2
      go_ret
      exact ⟨ret_bool (by rw [HV.out, H0.out, H1.out, H2.out, HZ.out]; simp), B⟩
    · have hR : hasR 10 = true := rfl
      have hA : hasA 10 = true := rfl
      have hB : hasB 10 = true := rfl
      have hN : hasN 10 = false := rfl
      have HV : Hid (insB 10 r a b n = (fldB r 3 true && (fldB a 3 true && (fldB b 3 true && fldB n 63 false)))) := by show _ = _; unfold insB; rw [hb, hR, hA, hB, hN]; rfl
      have HB : Hid (inB 10 1 10 = true) := hb
      clear hb hR hA hB hN
      go_enter Tryz.func89, Tryz.ntmps89
      go_wp2_with fail
      refine (l8Has_any 10 _).mono ?_
      rintro e w1 ⟨rfl, b1⟩
      rw [show tab 10 = 7 from rfl]
      obtain ⟨x0, x1, x2, x3, x4, xz⟩ := (X.below b1).at5i
      replace B := bel_trans B b1
      clear X b1
      go_wp2_with fail
      refine (specIn_8 10 1 10 _).mono ?_
      rintro e w2 ⟨rfl, h⟩
      replace h := h.symm
      subst h
      rw [HB.out]
      go_wp2_with fail
      refine (l8Field_any r 3 true _).mono ?_
      rintro e w2 ⟨rfl, h⟩
      replace h := h.symm
      subst h
      cases h0 : fldB r 3 true
      · have H0 : Hid (fldB r 3 true = false) := h0
        clear h0
        go_wp2
        go_ret
        exact ⟨ret_bool (by rw [HV.out, H0.out]; rfl), B⟩
      have H0 : Hid (fldB r 3 true = true) := h0
      clear h0
      go_wp2_with fail
      refine (l8Field_any a 3 true _).mono ?_
      rintro e w2 ⟨rfl, h⟩
      replace h := h.symm
      subst h
      cases h1 : fldB a 3 true
      · have H1 : Hid (fldB a 3 true = false) := h1
        clear h1
        go_wp2
        go_ret
        exact ⟨ret_bool (by rw [HV.out, H0.out, H1.out]; rfl), B⟩
      have H1 : Hid (fldB a 3 true = true) := h1
      clear h1
      go_wp2_with fail
      refine (l8Field_any b 3 true _).mono ?_
      rintro e w2 ⟨rfl, h⟩
      replace h := h.symm
      subst h
      cases h2 : fldB b 3 true
      · have H2 : Hid (fldB b 3 true = false) := h2
        clear h2
        go_wp2
        go_ret
        exact ⟨ret_bool (by rw [HV.out, H0.out, H1.out, H2.out]; rfl), B⟩
      have H2 : Hid (fldB b 3 true = true) := h2
      clear h2
      go_wp2_with fail
      refine (l8Field_any n 63 false _).mono ?_
      rintro e w2 ⟨rfl, h⟩
      replace h := h.symm
      subst h
      generalize hz : fldB n 63 false = z
      have HZ : Hid (fldB n 63 false = z) := hz
      clear hz
      go_wp2
      go_ret
      exact ⟨ret_bool (by rw [HV.out, H0.out, H1.out, H2.out, HZ.out]; simp), B⟩

def codeW (op r a b n : Int) : Int := op + 16 * r + 64 * a + 256 * b + 1024 * n
theorem fld_le {x most : Int} {h : Bool} (hx : fldB x most h = true) : 0 ≤ x ∧ x ≤ most := by
  unfold fldB inB at hx
  simp only [Bool.and_eq_true, decide_eq_true_eq] at hx
  exact hx.1
theorem ins_le {op r a b n : Int} (h : insB op r a b n = true) : (1 ≤ op ∧ op ≤ 10) ∧ (0 ≤ r ∧ r ≤ 3) ∧ (0 ≤ a ∧ a ≤ 3) ∧ (0 ≤ b ∧ b ≤ 3) ∧ (0 ≤ n ∧ n ≤ 63) := by
  unfold insB at h
  simp only [Bool.and_eq_true] at h
  obtain ⟨h1, h2, h3, h4, h5⟩ := h
  exact ⟨by simpa [inB] using h1, fld_le h2, fld_le h3, fld_le h4, fld_le h5⟩


/-- What Ends answers. -/
def endsB (op r a b n : Int) : Bool := !insB op r a b n || (op == 7 || (op == 8 || op == 9))
set_option maxRecDepth 100000 in
set_option maxHeartbeats 4000000 in
theorem specEnds_any (op r a b n : Int) (w : World) : Calls Tryz.prog 90 #[.agg (icells op r a b n)] w fun e w' => e = .returned (.bool (endsB op r a b n)) ∧ Below w.heap.size w w' := by
  have B := bel_alloc (Below.refl w.heap.size w) (.cells (icells op r a b n) 152)
  have X := Box.new w (icells op r a b n) 152
  cases hb : insB op r a b n
  · have HB : Hid (insB op r a b n = false) := hb
    have HV : Hid (endsB op r a b n = true) := by show _ = _; unfold endsB; rw [hb]; rfl
    clear hb
    go_enter Tryz.func90, Tryz.ntmps90
    go_wp2_with fail
    refine (specInsOk_any op r a b n _).mono ?_
    rintro e w1 ⟨rfl, b1⟩
    rw [HB.out]
    replace B := bel_trans B b1
    clear X b1
    go_wp2
    go_ret
    exact ⟨ret_bool HV.out.symm, B⟩
  · have HB : Hid (insB op r a b n = true) := hb
    have hin : inB op 1 10 = true := by unfold insB at hb; simp only [Bool.and_eq_true] at hb; exact hb.1
    have HV : Hid (endsB op r a b n = (op == 7 || (op == 8 || op == 9))) := by show _ = _; unfold endsB; rw [hb]; rfl
    clear hb
    rcases op_cases hin with rfl | rfl | rfl | rfl | rfl | rfl | rfl | rfl | rfl | rfl
    all_goals
      go_enter Tryz.func90, Tryz.ntmps90
      go_wp2_with fail
      refine (specInsOk_any _ r a b n _).mono ?_
      rintro e w1 ⟨rfl, b1⟩
      rw [HB.out]
      obtain ⟨x0, x1, x2, x3, x4, xz⟩ := (X.below b1).at5i
      replace B := bel_trans B b1
      clear X b1
      go_wp2
      go_ret
      exact ⟨ret_bool HV.out.symm, B⟩
end Go.Proofs.YtnfjmdegbdphpaaGreat
