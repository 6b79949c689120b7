/- A message's bytes, of no program. -/
import Derived.Test.YtidgiklkgmfmcaaEnc
import Derived.Test.YtidgiklkgmfmcaaOkB
namespace Go.Proofs.Ytidgiklkgmfmcaa

def bitB (o : Bool) : Int := if o then 1 else 0
/-- The numbers of a right message. -/
def numsOf (k p : Int) (o : Bool) (xs : List Int) : List Int := [k, p, bitB o] ++ xs
def flatB (l : List Int) : List Int := (l.map (enc 2)).flatten
def msgB (k p : Int) (o : Bool) (xs : List Int) : List Int := if msgOkB k p o xs then flatB (numsOf k p o xs) else []

theorem flatB_take (l : List Int) (i : Nat) (h : i < l.length) : flatB (l.take (i + 1)) = flatB (l.take i) ++ enc 2 (l.getD i 0) := by
  have e : l.getD i 0 = l[i] := by simp [h]
  rw [e]
  unfold flatB
  rw [List.take_succ_eq_append_getElem h, List.map_append, List.flatten_append, List.map_cons, List.map_nil, List.flatten_cons, List.flatten_nil, List.append_nil]
theorem flatB_len (l : List Int) : (flatB l).length ≤ 3 * l.length := by
  induction l with
  | nil => simp [flatB]
  | cons x r ih =>
    have := (enc_len 2 x).2
    simp only [flatB, List.map_cons, List.flatten_cons, List.length_append, List.length_cons] at ih ⊢
    omega
theorem flatB_append (a b : List Int) : flatB (a ++ b) = flatB a ++ flatB b := by simp [flatB]
theorem flatB_byte (l : List Int) (h : ∀ x ∈ l, 0 ≤ x ∧ x ≤ 100000) : ∀ y ∈ flatB l, 0 ≤ y ∧ y < 256 := by
  intro y hy
  simp only [flatB, List.mem_flatten, List.mem_map] at hy
  obtain ⟨_, ⟨x, hx, rfl⟩, hy⟩ := hy
  exact enc_byte 2 x (h x hx).1 (by have := (h x hx).2; simp [pw]; omega) y hy

theorem ok_kind {k p : Int} {o : Bool} {xs : List Int} (h : msgOkB k p o xs = true) : 1 ≤ k ∧ k ≤ 7 := by
  unfold msgOkB at h
  simp only [Bool.and_eq_true, decide_eq_true_eq] at h
  exact h.1.1.1
theorem ok_page {k p : Int} {o : Bool} {xs : List Int} (h : msgOkB k p o xs = true) : 0 ≤ p ∧ p ≤ 5 := by
  unfold msgOkB at h
  simp only [Bool.and_eq_true, decide_eq_true_eq] at h
  exact h.1.1.2
theorem ok_words {k p : Int} {o : Bool} {xs : List Int} (h : msgOkB k p o xs = true) : (∀ x ∈ xs, 0 ≤ x ∧ x ≤ 65535) ∧ xs.length ≤ 4 := by
  unfold msgOkB wordsB at h
  simp only [Bool.and_eq_true, List.all_eq_true] at h
  refine ⟨fun x hx => wordB_true (h.2.1 x hx), ?_⟩
  have := eq_of_beq h.2.2
  split at this <;> omega
theorem nums_in {k p : Int} {o : Bool} {xs : List Int} (h : msgOkB k p o xs = true) : ∀ x ∈ numsOf k p o xs, 0 ≤ x ∧ x ≤ 100000 := by
  intro x hx
  have h1 := ok_kind h
  have h2 := ok_page h
  simp only [numsOf, List.cons_append, List.nil_append, List.mem_cons] at hx
  rcases hx with rfl | rfl | rfl | hx
  · omega
  · omega
  · cases o <;> simp [bitB]
  · have := (ok_words h).1 x hx; omega
theorem nums_len {k p : Int} {o : Bool} {xs : List Int} (h : msgOkB k p o xs = true) : (numsOf k p o xs).length ≤ 7 := by
  have := (ok_words h).2
  simp [numsOf]
  omega
theorem msgB_len (k p : Int) (o : Bool) (xs : List Int) : (msgB k p o xs).length ≤ 21 := by
  unfold msgB
  split
  · have h := flatB_len (numsOf k p o xs)
    have := nums_len ‹_›
    omega
  · simp
theorem at_in {l : List Int} (h : ∀ x ∈ l, 0 ≤ x ∧ x ≤ 100000) (i : Nat) (hi : i < l.length) : 0 ≤ l.getD i 0 ∧ l.getD i 0 ≤ 100000 := by
  have e : l.getD i 0 = l[i] := by simp [hi]
  rw [e]
  exact h _ (List.getElem_mem hi)
end Go.Proofs.Ytidgiklkgmfmcaa
