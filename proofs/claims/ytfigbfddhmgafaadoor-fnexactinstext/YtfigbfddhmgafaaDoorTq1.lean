/- Parts between marks, digits read one by one, how far a rune reaches: no program in it. -/
import Derived.Test.YtfigbfddhmgafaaDoorTx8
import Derived.Test.YtfigbfddhmgafaaDoorTx6
import Derived.Laws.RangeAny
import Derived.Lib.OthersKept
namespace Go.Proofs.YtfigbfddhmgafaaDoor
open Go.RowKit
set_option linter.unusedVariables false

/-- What stands between marks; 'cur' is what stands ahead already. -/
def partsA (mk : UInt8) (cur : List UInt8) : List UInt8 → List (List UInt8)
  | [] => [cur]
  | c :: t => if c = mk then cur :: partsA mk [] t else partsA mk (cur ++ [c]) t
theorem parts_split (cur s : List UInt8) : partsA 32 cur s = splitA cur s := by
  induction s generalizing cur with
  | nil => rfl
  | cons c t ih => unfold partsA splitA; rw [ih, ih]
theorem parts_pos (mk : UInt8) (cur s : List UInt8) : 0 < (partsA mk cur s).length := by
  induction s generalizing cur with
  | nil => simp [partsA]
  | cons c t ih =>
    unfold partsA
    split
    · simp
    · exact ih _
theorem parts_len (mk : UInt8) (cur s : List UInt8) : (partsA mk cur s).length ≤ s.length + 1 := by
  induction s generalizing cur with
  | nil => simp [partsA]
  | cons c t ih =>
    unfold partsA
    split
    · have := ih []; simp; omega
    · have := ih (cur ++ [c]); simp; omega
/-- The lines: the parts, the last one only where it is not empty. -/
theorem rows_parts (cur s : List UInt8) : (partsA 10 cur s).getLastD [] = [] ∧ rowsA cur s = (partsA 10 cur s).dropLast ∨ (partsA 10 cur s).getLastD [] ≠ [] ∧ rowsA cur s = partsA 10 cur s := by
  induction s generalizing cur with
  | nil =>
    unfold partsA rowsA
    by_cases h : cur = []
    · rw [if_pos h, h]; exact .inl ⟨rfl, rfl⟩
    · rw [if_neg h]; exact .inr ⟨h, rfl⟩
  | cons c t ih =>
    unfold partsA rowsA
    split
    · obtain ⟨x, l, hx⟩ : ∃ x l, partsA 10 [] t = x :: l := by
        cases h : partsA 10 [] t with
        | nil => have := parts_pos 10 [] t; rw [h] at this; exact absurd this (by simp)
        | cons x l => exact ⟨x, l, rfl⟩
      rcases ih [] with h | h
      · refine .inl ⟨?_, ?_⟩
        · rw [hx] at h ⊢; simpa using h.1
        · rw [h.2, hx]; simp
      · refine .inr ⟨?_, ?_⟩
        · rw [hx] at h ⊢; simpa using h.1
        · rw [h.2]
    · exact ih _
theorem parts_skip (mk : UInt8) (s : List UInt8) (m k d : Nat) (hm : m ≤ k) (hk : k + d ≤ s.length) (h : ∀ j, j < d → ¬ s.getD (k + j) 0 = mk) :
    partsA mk ((s.drop m).take (k - m)) (s.drop k) = partsA mk ((s.drop m).take (k + d - m)) (s.drop (k + d)) := by
  induction d with
  | zero => rfl
  | succ d ih =>
    rw [ih (by omega) (fun j hj => h j (by omega))]
    have hs : k + d < s.length := by omega
    have h1 := h d (by omega)
    rw [List.getD_eq_getElem?_getD, List.getElem?_eq_getElem hs] at h1
    have h1 : ¬ s[k + d] = mk := h1
    rw [drop_cons hs, partsA, if_neg h1, ← take_more (by omega) hs]
    rfl
theorem parts_cut (mk : UInt8) (s : List UInt8) (m k : Nat) (hm : m ≤ k) (hk : k < s.length) (h : s.getD k 0 = mk) :
    partsA mk ((s.drop m).take (k - m)) (s.drop k) = (s.drop m).take (k - m) :: partsA mk ((s.drop (k + 1)).take (k + 1 - (k + 1))) (s.drop (k + 1)) := by
  rw [List.getD_eq_getElem?_getD, List.getElem?_eq_getElem hk] at h
  have h : s[k] = mk := h
  rw [drop_cons hk, partsA, if_pos h]
  simp

/-- How far a rune reaches, and that no byte of a longer one, or of what is none, is below 128. -/
theorem cont_high {x : Nat} (h : x / 64 == 2) : 128 ≤ x := by simp at h; omega
theorem dec_wide (s : ByteArray) (p : Nat) (h : p < s.size) (ha : 128 ≤ (s[p]'h).toNat) : p + (Utf8.decode s p).2 ≤ s.size ∧ ∀ j, j < (Utf8.decode s p).2 → 128 ≤ (s.get! (p + j)).toNat := by
  have hn : ¬ (s[p]'h).toNat < 128 := by omega
  have h0 : 128 ≤ (s.get! (p + 0)).toNat := by rw [get_at s p h]; exact ha
  have hj1 : ∀ j, j < 1 → 128 ≤ (s.get! (p + j)).toNat := fun j hj => by
    obtain rfl : j = 0 := by omega
    exact h0
  have c1 : ∀ k, (decide (p + k < s.size) && (s.get! (p + k)).toNat / 64 == 2) = true → p + k < s.size ∧ 128 ≤ (s.get! (p + k)).toNat := fun k hk => by
    simp only [Bool.and_eq_true, decide_eq_true_eq] at hk
    exact ⟨hk.1, cont_high hk.2⟩
  simp only [Utf8.decode, get_at s p h, hn, if_false]
  split
  · next hc =>
    simp only [Bool.and_eq_true] at hc
    have d1 := c1 1 (by simpa using hc.2)
    split
    · exact ⟨by omega, fun j hj => by
        have : j = 0 ∨ j = 1 := by simp at hj; omega
        rcases this with rfl | rfl
        · exact h0
        · exact d1.2⟩
    · exact ⟨by simp; omega, hj1⟩
  · split
    · next hc =>
      simp only [Bool.and_eq_true] at hc
      have d1 := c1 1 (by simpa using hc.1.2)
      have d2 := c1 2 (by simpa using hc.2)
      split
      · exact ⟨by omega, fun j hj => by
          have : j = 0 ∨ j = 1 ∨ j = 2 := by simp at hj; omega
          rcases this with rfl | rfl | rfl
          · exact h0
          · exact d1.2
          · exact d2.2⟩
      · exact ⟨by simp; omega, hj1⟩
    · split
      · next hc =>
        simp only [Bool.and_eq_true] at hc
        have d1 := c1 1 (by simpa using hc.1.1.2)
        have d2 := c1 2 (by simpa using hc.1.2)
        have d3 := c1 3 (by simpa using hc.2)
        split
        · exact ⟨by omega, fun j hj => by
            have : j = 0 ∨ j = 1 ∨ j = 2 ∨ j = 3 := by simp at hj; omega
            rcases this with rfl | rfl | rfl | rfl
            · exact h0
            · exact d1.2
            · exact d2.2
            · exact d3.2⟩
        · exact ⟨by simp; omega, hj1⟩
      · exact ⟨by simp; omega, hj1⟩
theorem get_list (s : List UInt8) (k : Nat) (h : k < s.length) : (⟨s.toArray⟩ : ByteArray).get! k = s.getD k 0 := by
  have hs : k < (⟨s.toArray⟩ : ByteArray).size := by simpa [ByteArray.size] using h
  have e := get_at (⟨s.toArray⟩ : ByteArray) k hs
  rw [Nat.add_zero] at e
  rw [e, List.getD_eq_getElem?_getD, List.getElem?_eq_getElem h]
  rfl
/-- One step of a range over a text: the rune, and where it goes on. -/
structure RuneAt (s : List UInt8) (p : Nat) (r d : Nat) : Prop where
  pos : 1 ≤ d
  le : p + d ≤ s.length
  small : (s.getD p 0).toNat < 128 → r = (s.getD p 0).toNat ∧ d = 1
  big : 128 ≤ (s.getD p 0).toNat → 128 ≤ r ∧ ∀ j, j < d → 128 ≤ (s.getD (p + j) 0).toNat
  max : r ≤ 2147483647
theorem rune_at (s : List UInt8) (p : Nat) (h : p < s.length) : RuneAt s p (Utf8.decode ⟨s.toArray⟩ p).1 (Utf8.decode ⟨s.toArray⟩ p).2 := by
  have hs : p < (⟨s.toArray⟩ : ByteArray).size := by simpa [ByteArray.size] using h
  have e0 : ((⟨s.toArray⟩ : ByteArray)[p]'hs) = s.getD p 0 := by
    rw [List.getD_eq_getElem?_getD, List.getElem?_eq_getElem h]
    rfl
  have hsz : (⟨s.toArray⟩ : ByteArray).size = s.length := by simp [ByteArray.size]
  by_cases ha : ((⟨s.toArray⟩ : ByteArray)[p]'hs).toNat < 128
  · have e := decode_ascii _ p hs ha
    rw [e]
    refine ⟨Nat.le_refl _, by omega, fun _ => ⟨by rw [e0], rfl⟩, fun hb => ?_, ?_⟩
    · rw [← e0] at hb; omega
    · show ((⟨s.toArray⟩ : ByteArray)[p]'hs).toNat ≤ _; omega
  · have hw := dec_wide _ p hs (by omega)
    have hh := decode_high _ p hs (by omega)
    refine ⟨hh.2, by omega, fun hb => ?_, fun _ => ⟨hh.1, fun j hj => ?_⟩, decode_le _ _⟩
    · rw [← e0] at hb; omega
    · rw [← get_list s (p + j) (by omega)]
      exact hw.2 j hj

theorem getD_app (t u : List UInt8) (h : 0 < t.length) : (t ++ u).getD 0 0 = t.getD 0 0 := by
  rw [List.getD_eq_getElem?_getD, List.getD_eq_getElem?_getD, List.getElem?_append_left h]
theorem valD_le (t u : List UInt8) : valD t ≤ valD (t ++ u) := by
  obtain ⟨l, rfl⟩ : ∃ l, u = l.reverse := ⟨u.reverse, by simp⟩
  induction l with
  | nil => simp
  | cons c l ih =>
    rw [List.reverse_cons, ← List.append_assoc, valD_snoc]
    omega
/-- Digits without a needless nought ahead are the digits of what they say. -/
theorem digs_valD (s : List UInt8) (h0 : 0 < s.length) (hd : ∀ c ∈ s, digitB c = true) (hn : s.length = 1 ∨ ¬ s.getD 0 0 = 48) : digs (valD s) = s ∧ (¬ s.getD 0 0 = 48 → 0 < valD s) := by
  obtain ⟨l, rfl⟩ : ∃ l, s = l.reverse := ⟨s.reverse, by simp⟩
  induction l with
  | nil => simp at h0
  | cons c l ih =>
    rw [List.reverse_cons] at *
    have hc := hd c (by simp)
    simp only [digitB, decide_eq_true_eq] at hc
    have ec : UInt8.ofNat (48 + (c.toNat - 48)) = c := by
      rw [show 48 + (c.toNat - 48) = c.toNat by omega]
      simp
    cases l with
    | nil =>
      refine ⟨?_, fun h => ?_⟩
      · rw [valD_snoc]
        simp only [List.reverse_nil, List.nil_append]
        rw [show 10 * valD [] + (c.toNat - 48) = c.toNat - 48 by simp [valD], digs_small (by omega), ec]
      · rw [valD_snoc]
        have : ¬ c.toNat = 48 := fun e => h (by
          simp only [List.reverse_nil, List.nil_append, List.getD_cons_zero]
          rw [← UInt8.toNat_inj]; exact e)
        omega
    | cons d l =>
      have hg : ((d :: l).reverse ++ [c]).getD 0 0 = (d :: l).reverse.getD 0 0 := by
        rw [getD_app _ _ (by simp)]
      have hn2 : ¬ ((d :: l).reverse ++ [c]).getD 0 0 = 48 := by
        rcases hn with h | h
        · simp at h
        · exact h
      rw [hg] at hn2 ⊢
      obtain ⟨h1, h2⟩ := ih (by simp) (fun x hx => hd x (by rw [List.mem_append]; exact .inl hx)) (.inr hn2)
      have h3 := h2 hn2
      rw [valD_snoc]
      refine ⟨?_, fun _ => by omega⟩
      rw [digs_big (by omega), show (10 * valD (d :: l).reverse + (c.toNat - 48)) / 10 = valD (d :: l).reverse by omega, h1, show (10 * valD (d :: l).reverse + (c.toNat - 48)) % 10 = c.toNat - 48 by omega, ec]
theorem numV_cases (s : List UInt8) : numV s = -1 ∨ numV s = valD s := by
  unfold numV
  split
  · exact .inl rfl
  · exact .inr rfl
theorem numV_big {s : List UInt8} (h : 65535 < valD s) : inB (numV s) 0 65535 = false := by
  rcases numV_cases s with e | e
  · rw [e]; rfl
  · rw [e]; simp [inB]; omega
theorem numV_no {s : List UInt8} {c : UInt8} (hc : c ∈ s) (h : digitB c = false) : numV s = -1 := by
  unfold numV
  have ha : s.all digitB = false := by
    rw [List.all_eq_false]
    exact ⟨c, hc, by rw [h]; simp⟩
  rw [if_pos (.inr (.inr (.inl ha)))]
theorem numV_nought {s : List UInt8} (h1 : 1 < s.length) (h : s.getD 0 0 = 48) : numV s = -1 := by
  unfold numV
  by_cases hc : s.length = 0 ∨ 5 < s.length ∨ s.all digitB = false ∨ ¬ digs (valD s) = s
  · rw [if_pos hc]
  · exfalso
    apply hc
    refine .inr (.inr (.inr fun e => ?_))
    have hh : ∀ n, 1 < (digs n).length → ¬ (digs n).getD 0 0 = 48 := by
      intro n
      induction n using Nat.strongRecOn with
      | _ n ih =>
        intro hl
        by_cases hn : n < 10
        · rw [digs_small hn] at hl; simp at hl
        · rw [digs_big hn]
          rw [getD_app _ _ (digs_pos _)]
          by_cases hn2 : n / 10 < 10
          · rw [digs_small hn2]
            simp only [List.getD_cons_zero]
            intro e
            have := congrArg UInt8.toNat e
            rw [dig_nat hn2] at this
            have h48 : (48 : UInt8).toNat = 48 := rfl
            omega
          · refine ih (n / 10) (by omega) ?_
            rw [digs_big hn2, List.length_append]
            have := digs_pos (n / 10 / 10)
            simp; omega
    exact hh (valD s) (by rw [e]; exact h1) (by rw [e]; exact h)
theorem numV_yes {s : List UInt8} (h0 : 0 < s.length) (hd : ∀ c ∈ s, digitB c = true) (hn : s.length = 1 ∨ ¬ s.getD 0 0 = 48) (hv : valD s ≤ 65535) : numV s = valD s := by
  have e := (digs_valD s h0 hd hn).1
  have hl := digs_len10 (valD s) 4 (by simp; omega)
  rw [e] at hl
  unfold numV
  rw [if_neg]
  rintro (h | h | h | h)
  · omega
  · omega
  · rw [List.all_eq_false] at h
    obtain ⟨c, hc, h⟩ := h
    exact h (hd c hc)
  · exact h e
end Go.Proofs.YtfigbfddhmgafaaDoor
