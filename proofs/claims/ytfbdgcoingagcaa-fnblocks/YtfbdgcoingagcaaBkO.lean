/- What BlockOf answers is right (pure), and what stands there. -/
import Derived.Test.YtfbdgcoingagcaaBkS
namespace Go.Proofs.Ytfbdgcoingagcaa
open Go.RowKit
set_option linter.unusedVariables false

theorem cntB_lt : ∀ (l : List Int) (i : Nat), i + 1 < cntB l → endX (dx (l.getD i 0)) = false
  | [], i, h => by simp [cntB] at h
  | x :: t, 0, h => by
    unfold cntB at h
    cases e : endX (dx x)
    · simpa using e
    · rw [e] at h; simp at h
  | x :: t, i + 1, h => by
    unfold cntB at h
    cases e : endX (dx x)
    · rw [e] at h
      simp only [Bool.false_eq_true, if_false] at h
      have := cntB_lt t i (by omega)
      simpa using this
    · rw [e] at h; simp at h
theorem dx_ok (v : Int) : insB (dx v).op (dx v).r (dx v).a (dx v).b (dx v).n = true ∨ zeB (dx v) = true := by
  unfold dx
  cases h : decB v
  · right; simp [zeB]
  · left
    unfold decB at h
    rw [Bool.and_eq_true] at h
    simpa using h.2
theorem ofN_lt {ys : List Int} {st : Int} {i : Nat} (h : i + 1 < ofN ys st) : endX (ofD ys st i) = false := by
  unfold ofN at h
  cases hb : ofB ys st
  · rw [hb] at h; simp at h
  · rw [hb] at h
    simp only [if_true] at h
    have := cntB_lt _ i h
    unfold ofD
    simpa [List.getD_eq_getElem?_getD, List.getElem?_drop] using this
theorem ofB_st {ys : List Int} {st : Int} (h : ofB ys st = true) : ys.length = 4 ∧ 0 ≤ st ∧ st ≤ 23 := by
  unfold ofB inB at h
  simp at h
  exact h
theorem block_of {ys : List Int} {st : Int} (h : ofB ys st = true) : ofS ys st = st ∧ 1 ≤ ofN ys st ∧ ((st % 4).toNat : Int) + ofN ys st ≤ 4 ∧ blockB st (ofN ys st) (ofD ys st) = true := by
  obtain ⟨h4, h0, h1⟩ := ofB_st h
  obtain ⟨hN, hS⟩ := ofN_pos h4 h0 h1
  have hle : (st % 4).toNat + ofN ys st ≤ 4 := by
    unfold ofN
    rw [h]
    have := cntB_le (ys.drop (st % 4).toNat)
    rw [List.length_drop, h4] at this
    simp only [if_true]
    omega
  refine ⟨hS, hN, by omega, ?_⟩
  unfold blockB brestB
  have e1 : inB st 0 23 = true := by simp [inB]; omega
  have e2 : inB (ofN ys st : Int) 1 (4 - st % 4) = true := by simp [inB]; omega
  rw [e1, e2]
  simp only [Bool.true_and, List.all_eq_true]
  intro i hi
  unfold badB
  have hd := dx_ok (ys.getD ((st % 4).toNat + i) 0)
  have hd : insB (ofD ys st i).op (ofD ys st i).r (ofD ys st i).a (ofD ys st i).b (ofD ys st i).n = true ∨ zeB (ofD ys st i) = true := hd
  have e3 : (!insB (ofD ys st i).op (ofD ys st i).r (ofD ys st i).a (ofD ys st i).b (ofD ys st i).n && !zeB (ofD ys st i)) = false := by
    rcases hd with e | e <;> rw [e] <;> simp
  rw [e3]
  by_cases hl : i + 1 < ofN ys st
  · have := ofN_lt hl
    unfold endX at this
    rw [this]
    simp
  · simp [hl]
theorem ofB_of {ys : List Int} {st : Int} {k : Nat} (h : k < ofN ys st) : ofB ys st = true := by
  cases hb : ofB ys st
  · unfold ofN at h; rw [hb] at h; simp at h
  · rfl
theorem ofS_no {ys : List Int} {st : Int} (h : ofN ys st = 0) : ofS ys st = 0 := by
  cases hb : ofB ys st
  · unfold ofS; rw [hb]; rfl
  · have := (block_of hb).2.1
    omega
theorem at_of {ys : List Int} {st : Int} (h : ofB ys st = true) {k : Nat} (hk : k < ofN ys st) : atB st (ofN ys st) (ofD ys st) (st + k) = true ∧ atX st (ofN ys st) (ofD ys st) (st + k) = ofD ys st k := by
  have hb := (block_of h).2.2.2
  have e : atB st (ofN ys st) (ofD ys st) (st + k) = true := by unfold atB; rw [hb]; simp; omega
  refine ⟨e, ?_⟩
  unfold atX
  rw [e]
  simp only [if_true]
  congr 1
  omega
end Go.Proofs.Ytfbdgcoingagcaa
