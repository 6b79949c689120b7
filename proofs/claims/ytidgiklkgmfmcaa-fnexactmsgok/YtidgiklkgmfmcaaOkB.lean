/- When a message is right, of no program. -/
namespace Go.Proofs.Ytidgiklkgmfmcaa

def wordB (x : Int) : Bool := decide (0 ≤ x ∧ x ≤ 65535)
def wordsB (xs : List Int) (n : Int) : Bool := xs.all wordB && ((xs.length : Int) == n)
def msgOkB (k p : Int) (o : Bool) (xs : List Int) : Bool :=
  decide (1 ≤ k ∧ k ≤ 7) && decide (0 ≤ p ∧ p ≤ 5) && (k == 3 || k == 6 || !o) && wordsB xs (if k == 3 || k == 7 then 4 else 0)

theorem wordB_true {x : Int} (h : wordB x = true) : 0 ≤ x ∧ x ≤ 65535 := of_decide_eq_true h
theorem all_take (xs : List Int) (k : Nat) (h : k < xs.length) : (xs.take (k + 1)).all wordB = ((xs.take k).all wordB && wordB (xs.getD k 0)) := by
  have e : xs.getD k 0 = xs[k] := by simp [h]
  rw [e, List.take_succ_eq_append_getElem h, List.all_append]
  rw [List.all_cons, List.all_nil, Bool.and_true]
theorem all_bad (xs : List Int) (k : Nat) (h : k < xs.length) (hb : wordB (xs.getD k 0) = false) : xs.all wordB = false := by
  have e : xs.getD k 0 = xs[k] := by simp [h]
  rw [e] at hb
  rw [List.all_eq_false]
  exact ⟨xs[k], List.getElem_mem h, by simp [hb]⟩
theorem wordsB_zero (xs : List Int) : wordsB xs 0 = ((xs.length : Int) == 0) := by
  cases xs with
  | nil => rfl
  | cons x r =>
    have h : (((x :: r).length : Int) == 0) = false := by simp; omega
    unfold wordsB
    rw [h, Bool.and_false]

theorem ok_plain {k p : Int} {o : Bool} {xs : List Int} (hp : 0 ≤ p ∧ p ≤ 5) (hk : 1 ≤ k ∧ k ≤ 7) (h3 : k ≠ 3) (h6 : k ≠ 6) (h7 : k ≠ 7) : msgOkB k p o xs = (!o && ((xs.length : Int) == 0)) := by
  have b3 : (k == 3) = false := by simp [h3]
  have b6 : (k == 6) = false := by simp [h6]
  have b7 : (k == 7) = false := by simp [h7]
  unfold msgOkB
  rw [decide_eq_true hp, decide_eq_true hk, b3, b6, b7, ← wordsB_zero]
  simp
theorem ok_3 {p : Int} {o : Bool} {xs : List Int} (hp : 0 ≤ p ∧ p ≤ 5) : msgOkB 3 p o xs = wordsB xs 4 := by
  unfold msgOkB
  rw [decide_eq_true hp]
  simp
theorem ok_6 {p : Int} {o : Bool} {xs : List Int} (hp : 0 ≤ p ∧ p ≤ 5) : msgOkB 6 p o xs = ((xs.length : Int) == 0) := by
  unfold msgOkB
  rw [decide_eq_true hp, ← wordsB_zero]
  simp
theorem ok_7 {p : Int} {o : Bool} {xs : List Int} (hp : 0 ≤ p ∧ p ≤ 5) : msgOkB 7 p o xs = (wordsB xs 4 && !o) := by
  unfold msgOkB
  rw [decide_eq_true hp]
  cases o <;> simp
end Go.Proofs.Ytidgiklkgmfmcaa
