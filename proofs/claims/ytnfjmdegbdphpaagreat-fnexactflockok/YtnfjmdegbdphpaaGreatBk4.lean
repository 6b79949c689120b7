/- Bk2 and Bk3 and Bk4: see the heads of the parts. -/
import Derived.Test.YtnfjmdegbdphpaaGreatOpenH
import Derived.Test.YtnfjmdegbdphpaaGreatIn8d
/- What the specification's BlockOk and PageOf answer. -/
namespace Go.Proofs.YtnfjmdegbdphpaaGreat
open Go.RowKit
set_option linter.unusedVariables false

def zeB (d : XD) : Bool := d.op == 0 && (d.r == 0 && (d.a == 0 && (d.b == 0 && d.n == 0)))
/-- A place that may not stand in a block. -/
def badB (n : Nat) (d : XD) (i : Nat) : Bool := (!insB d.op d.r d.a d.b d.n && !zeB d) || (decide (i + 1 < n) && endsB d.op d.r d.a d.b d.n)
def brestB (n : Nat) (d : Nat → XD) (k : Nat) : Bool := (List.range' k (n - k)).all fun i => !badB n (d i) i
def blockB (st : Int) (n : Nat) (d : Nat → XD) : Bool := inB st 0 23 && (inB n 1 (4 - st % 4) && brestB n d 0)
theorem brestB_step {n : Nat} {d : Nat → XD} {k : Nat} (h : k < n) : brestB n d k = (!badB n (d k) k && brestB n d (k + 1)) := by
  unfold brestB
  rw [show n - k = (n - (k + 1)) + 1 by omega, List.range'_succ, List.all_cons]
theorem brestB_end {n : Nat} {d : Nat → XD} {k : Nat} (h : ¬ k < n) : brestB n d k = true := by
  unfold brestB
  rw [show n - k = 0 by omega]
  rfl

set_option maxRecDepth 100000 in
set_option maxHeartbeats 2000000 in
theorem specBlockOk_any (st : Int) (a : Option Addr) (c n : Nat) (d : Nat → XD) (w : World) (ha : IR w a n d) :
    Calls Tryz.prog 49 #[.agg #[.int .i64 st, .slice a n c]] w fun e w' => e = .returned (.bool (blockB st n d)) ∧ Below w.heap.size w w' := by
  have bA := bel_alloc (Below.refl w.heap.size w) (.cells #[.int .i64 st, .slice a n c] 119)
  have XA := Box.new w #[.int .i64 st, .slice a n c] 119
  have hl := ha.1
  have HA : Hid (IR w a n d) := ha
  cases h1 : inB st 0 23
  · have HV : Hid (blockB st n d = false) := by show _ = _; unfold blockB; rw [h1]; rfl
    have H1 : Hid (inB st 0 23 = false) := h1
    clear h1 ha XA
    go_enter Tryz.func49, Tryz.ntmps49
    go_wp2_with fail
    refine (specIn_8 st 0 23 _).mono ?_
    rintro e w1 ⟨rfl, h⟩
    subst h
    rw [H1.out]
    go_wp2
    go_ret
    exact ⟨ret_bool HV.out.symm, bA⟩
  · obtain ⟨s0, s1⟩ : 0 ≤ st ∧ st ≤ 23 := by simpa [inB] using h1
    have H1 : Hid (inB st 0 23 = true) := h1
    have hrem : st.tmod 4 = st % 4 := Int.tmod_eq_emod_of_nonneg s0
    cases h2 : inB n 1 (4 - st % 4)
    · have HV : Hid (blockB st n d = false) := by show _ = _; unfold blockB; rw [h1, h2]; rfl
      have H2 : Hid (inB n 1 (4 - st % 4) = false) := h2
      clear h1 h2 ha XA
      go_enter Tryz.func49, Tryz.ntmps49
      go_wp2_with fail
      refine (specIn_8 st 0 23 _).mono ?_
      rintro e w1 ⟨rfl, h⟩
      subst h
      rw [H1.out]
      go_wp2_with fail
      refine (specIn_8 n 1 (4 - st % 4) _).mono ?_
      rintro e w1 ⟨rfl, h⟩
      subst h
      rw [H2.out]
      go_wp2
      go_ret
      exact ⟨ret_bool HV.out.symm, bA⟩
    · have HV : Hid (blockB st n d = brestB n d 0) := by show _ = _; unfold blockB; rw [h1, h2]; rfl
      have H2 : Hid (inB n 1 (4 - st % 4) = true) := h2
      have XB : Hid (Box _ w.heap.size #[.int .i64 st, .slice a n c] 119) := XA
      clear h1 h2 ha XA
      go_enter Tryz.func49, Tryz.ntmps49
      go_wp2_with fail
      refine (specIn_8 st 0 23 _).mono ?_
      rintro e w1 ⟨rfl, h⟩
      subst h
      rw [H1.out]
      go_wp2_with fail
      refine (specIn_8 n 1 (4 - st % 4) _).mono ?_
      rintro e w1 ⟨rfl, h⟩
      subst h
      rw [H2.out]
      have BA : Hid (Below w.heap.size w _) := bA
      clear bA
      go_wp2_with fail
      go_loopw [3] (fun i wr => ∃ k : Nat, k ≤ n ∧ i = .int .i64 k ∧ brestB n d 0 = brestB n d k ∧ Box wr w.heap.size #[.int .i64 st, .slice a n c] 119 ∧ Below w.heap.size w wr) (fun i _ => n - (intOf i).toNat)
      case atStart => exact ⟨0, Nat.zero_le _, rfl, rfl, XB.out, BA.out⟩
      case round =>
        obtain ⟨k, hk, rfl, hR, X, hB⟩ := hrel
        have HR : Hid (brestB n d 0 = brestB n d k) := hR
        have HX : Hid (Box wr w.heap.size #[.int .i64 st, .slice a n c] 119) := X
        have HB : Hid (Below w.heap.size w wr) := hB
        obtain ⟨x0, x1, xz⟩ := X.at2
        by_cases hlt : k < n
        · have hi : (k : Int) < (n : Int) := by omega
          obtain ⟨b, off, rfl, y0, y1, y2, y3, y4⟩ := (HA.out.below hB).at hlt
          clear hR X hB BA XB
          have HN : Hid (badB n (d k) k = false → brestB n d 0 = brestB n d (k + 1)) := fun h => by rw [HR.out, brestB_step hlt, h]; rfl
          have HF : Hid (badB n (d k) k = true → blockB st n d = false) := fun h => by rw [HV.out, HR.out, brestB_step hlt, h]; rfl
          have b0 := bel_alloc (Below.refl wr.heap.size wr) (.cells (icells (d k).op (d k).r (d k).a (d k).b (d k).n) 152)
          have X4 := Box.new wr (icells (d k).op (d k).r (d k).a (d k).b (d k).n) 152
          go_wp2_with fail
          refine (specInsOk_any (d k).op (d k).r (d k).a (d k).b (d k).n _).mono ?_
          rintro e w1 ⟨rfl, b1⟩
          replace X4 := X4.below b1
          obtain ⟨m0, m1, m2, m3, m4, mz⟩ := X4.at5i
          have X1 : Hid (Box w1 w.heap.size #[.int .i64 st, .slice (some ⟨b, off, none⟩) n c] 119) := (HX.out.below b0).below b1
          have B1 : Hid (Below w.heap.size w w1) := bel_trans HB.out (bel_trans b0 b1)
          obtain ⟨q0, q1, qz⟩ := X1.out.at2
          clear x0 x1 xz y0 y1 y2 y3 y4 X4 b0 b1
          cases hI : insB (d k).op (d k).r (d k).a (d k).b (d k).n
          · cases hZ : zeB (d k)
            · have HF2 : Hid (blockB st n d = false) := HF.out (by unfold badB; simp [hI, hZ])
              have hz : ¬ (d k).op = 0 ∨ ((d k).op = 0 ∧ ¬ (d k).r = 0) ∨ ((d k).op = 0 ∧ (d k).r = 0 ∧ ¬ (d k).a = 0) ∨ ((d k).op = 0 ∧ (d k).r = 0 ∧ (d k).a = 0 ∧ ¬ (d k).b = 0) ∨ ((d k).op = 0 ∧ (d k).r = 0 ∧ (d k).a = 0 ∧ (d k).b = 0 ∧ ¬ (d k).n = 0) := by
                by_cases e0 : (d k).op = 0
                · by_cases e1 : (d k).r = 0
                  · by_cases e2 : (d k).a = 0
                    · by_cases e3 : (d k).b = 0
                      · by_cases e4 : (d k).n = 0
                        · exfalso; simp [zeB, e0, e1, e2, e3, e4] at hZ
                        · exact .inr (.inr (.inr (.inr ⟨e0, e1, e2, e3, e4⟩)))
                      · exact .inr (.inr (.inr (.inl ⟨e0, e1, e2, e3⟩)))
                    · exact .inr (.inr (.inl ⟨e0, e1, e2⟩))
                  · exact .inr (.inl ⟨e0, e1⟩)
                · exact .inl e0
              clear hZ hI
              rcases hz with e0 | ⟨e0, e1⟩ | ⟨e0, e1, e2⟩ | ⟨e0, e1, e2, e3⟩ | ⟨e0, e1, e2, e3, e4⟩
              · go_wp2
                go_ret
                exact ⟨ret_bool HF2.out.symm, B1.out⟩
              · rw [e0] at m0
                go_wp2
                go_ret
                exact ⟨ret_bool HF2.out.symm, B1.out⟩
              · rw [e0] at m0
                rw [e1] at m1
                go_wp2
                go_ret
                exact ⟨ret_bool HF2.out.symm, B1.out⟩
              · rw [e0] at m0
                rw [e1] at m1
                rw [e2] at m2
                go_wp2
                go_ret
                exact ⟨ret_bool HF2.out.symm, B1.out⟩
              · rw [e0] at m0
                rw [e1] at m1
                rw [e2] at m2
                rw [e3] at m3
                go_wp2
                go_ret
                exact ⟨ret_bool HF2.out.symm, B1.out⟩
            · obtain ⟨e0, e1, e2, e3, e4⟩ : (d k).op = 0 ∧ (d k).r = 0 ∧ (d k).a = 0 ∧ (d k).b = 0 ∧ (d k).n = 0 := by simpa [zeB] using hZ
              rw [e0] at m0
              rw [e1] at m1
              rw [e2] at m2
              rw [e3] at m3
              rw [e4] at m4
              have hI2 : badB n (d k) k = decide (k + 1 < n) := by unfold badB; simp [hI, hZ, endsB]
              clear hI hZ
              by_cases hk1 : k + 1 < n
              · have hk2 : (k : Int) < (n : Int) - 1 := by omega
                have HF2 : Hid (blockB st n d = false) := HF.out (by rw [hI2]; simp [hk1])
                have HEn : Hid (endsB 0 0 0 0 0 = true) := (by decide : endsB 0 0 0 0 0 = true)
                go_wp2_with fail
                refine (specEnds_any 0 0 0 0 0 _).mono ?_
                rintro e w2 ⟨rfl, b2⟩
                have B5 : Hid _ := bel_trans B1.out b2
                rw [HEn.out]
                clear m0 m1 m2 m3 m4 q0 q1 b2
                go_wp2
                go_ret
                exact ⟨ret_bool HF2.out.symm, B5.out⟩
              · have hk2 : ¬ (k : Int) < (n : Int) - 1 := by omega
                have HN2 : Hid (brestB n d 0 = brestB n d (k + 1)) := HN.out (by rw [hI2]; simp [hk1])
                go_wp2
                go_roundw
                case rel => exact ⟨k + 1, by omega, by go_num, HN2.out, X1.out, B1.out⟩
                case measure => simp [intOf]; omega
          · by_cases hk1 : k + 1 < n
            · have hk2 : (k : Int) < (n : Int) - 1 := by omega
              go_wp2_with fail
              refine (specEnds_any (d k).op (d k).r (d k).a (d k).b (d k).n _).mono ?_
              rintro e w2 ⟨rfl, b2⟩
              have X5 : Hid _ := X1.out.below b2
              have B5 : Hid _ := bel_trans B1.out b2
              cases hE : endsB (d k).op (d k).r (d k).a (d k).b (d k).n
              · have HN2 : Hid (brestB n d 0 = brestB n d (k + 1)) := HN.out (by unfold badB; simp [hE, hI])
                clear m0 m1 m2 m3 m4 q0 q1 b2 hE
                go_wp2
                go_roundw
                case rel => exact ⟨k + 1, by omega, by go_num, HN2.out, X5.out, B5.out⟩
                case measure => simp [intOf]; omega
              · have HF2 : Hid (blockB st n d = false) := HF.out (by unfold badB; simp [hE, hk1])
                clear m0 m1 m2 m3 m4 q0 q1 b2 hE
                go_wp2
                go_ret
                exact ⟨ret_bool HF2.out.symm, B5.out⟩
            · have hk2 : ¬ (k : Int) < (n : Int) - 1 := by omega
              have HN2 : Hid (brestB n d 0 = brestB n d (k + 1)) := HN.out (by unfold badB; simp [hk1, hI])
              go_wp2
              go_roundw
              case rel => exact ⟨k + 1, by omega, by go_num, HN2.out, X1.out, B1.out⟩
              case measure => simp [intOf]; omega
        · have HE : Hid (brestB n d k = true) := brestB_end hlt
          have hi : ¬ (k : Int) < (n : Int) := by omega
          clear hR X hB BA XB
          go_wp2
          go_ret
          exact ⟨ret_bool (by rw [HV.out, HR.out, HE.out]), HB.out⟩
end Go.Proofs.YtnfjmdegbdphpaaGreat

/- What the specification's PageOf answers. -/
namespace Go.Proofs.YtnfjmdegbdphpaaGreat
open Go.RowKit
set_option linter.unusedVariables false

theorem blockB_st {st : Int} {n : Nat} {d : Nat → XD} (h : blockB st n d = true) : (0 ≤ st ∧ st ≤ 23) ∧ 1 ≤ n ∧ (n : Int) ≤ 4 - st % 4 := by
  simp only [blockB, Bool.and_eq_true] at h
  obtain ⟨h1, h2, _⟩ := h
  have h1' : 0 ≤ st ∧ st ≤ 23 := by simpa [inB] using h1
  have h2' : (1 : Int) ≤ n ∧ (n : Int) ≤ 4 - st % 4 := by simpa [inB] using h2
  exact ⟨h1', by omega, h2'.2⟩

end Go.Proofs.YtnfjmdegbdphpaaGreat

/- What the specification's At answers. -/
namespace Go.Proofs.YtnfjmdegbdphpaaGreat
open Go.RowKit
set_option linter.unusedVariables false

def atB (st : Int) (n : Nat) (d : Nat → XD) (pc : Int) : Bool := blockB st n d && (decide (st ≤ pc) && decide (pc < st + n))
def atX (st : Int) (n : Nat) (d : Nat → XD) (pc : Int) : XD := if atB st n d pc then d (pc - st).toNat else ⟨0, 0, 0, 0, 0⟩
/-- What At answers. -/
def AtP (st : Int) (n : Nat) (d : Nat → XD) (pc : Int) (w : World) (e : Ending) (w' : World) : Prop :=
  e = .returned (.tuple #[.agg (icells (atX st n d pc).op (atX st n d pc).r (atX st n d pc).a (atX st n d pc).b (atX st n d pc).n), .bool (atB st n d pc)]) ∧ Below w.heap.size w w'
theorem at_no {st : Int} {n : Nat} {d : Nat → XD} {pc : Int} (h : atB st n d pc = false) {w w' : World} (b : Below w.heap.size w w') : AtP st n d pc w (.returned (.tuple #[.agg (icells 0 0 0 0 0), .bool false])) w' := by
  unfold AtP atX
  rw [h]
  exact ⟨rfl, b⟩
theorem at_yes {st : Int} {n : Nat} {d : Nat → XD} {pc : Int} (h : atB st n d pc = true) {q : Nat} (hq : (pc - st).toNat = q) {w w' : World} (b : Below w.heap.size w w') : AtP st n d pc w (.returned (.tuple #[.agg (icells (d q).op (d q).r (d q).a (d q).b (d q).n), .bool true])) w' := by
  subst hq
  unfold AtP atX
  rw [h]
  exact ⟨rfl, b⟩

end Go.Proofs.YtnfjmdegbdphpaaGreat
