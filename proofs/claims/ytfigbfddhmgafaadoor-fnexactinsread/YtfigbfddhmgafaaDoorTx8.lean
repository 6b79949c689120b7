/- Digits are read as they were; words apart are words: no program in it. -/
import Derived.Test.YtfigbfddhmgafaaDoorTx5
import Derived.Test.YtfigbfddhmgafaaDoorTx2
namespace Go.Proofs.YtfigbfddhmgafaaDoor
open Go.RowKit
set_option linter.unusedVariables false

theorem dig_nat {n : Nat} (h : n < 10) : (UInt8.ofNat (48 + n)).toNat = 48 + n := by
  rw [UInt8.toNat_ofNat']
  omega
theorem digs_digit (n : Nat) : ∀ c ∈ digs n, digitB c = true := by
  induction n using Nat.strongRecOn with
  | _ n ih =>
    intro c hc
    by_cases h : n < 10
    · rw [digs_small h] at hc
      simp only [List.mem_cons, List.not_mem_nil, or_false] at hc
      subst hc
      unfold digitB
      rw [dig_nat h]
      simp
      omega
    · rw [digs_big h, List.mem_append] at hc
      rcases hc with hc | hc
      · exact ih (n / 10) (by omega) c hc
      · simp only [List.mem_cons, List.not_mem_nil, or_false] at hc
        subst hc
        unfold digitB
        rw [dig_nat (by omega)]
        simp
        omega
theorem valD_digs (n : Nat) : valD (digs n) = n := by
  induction n using Nat.strongRecOn with
  | _ n ih =>
    by_cases h : n < 10
    · rw [digs_small h, show [UInt8.ofNat (48 + n)] = [] ++ [UInt8.ofNat (48 + n)] from rfl, valD_snoc, dig_nat h]
      simp [valD]
    · rw [digs_big h, valD_snoc, ih (n / 10) (by omega), dig_nat (by omega)]
      omega
theorem digs_len10 (n : Nat) : ∀ k, n < 10 ^ (k + 1) → (digs n).length ≤ k + 1 := by
  induction n using Nat.strongRecOn with
  | _ n ih =>
    intro k hk
    by_cases h : n < 10
    · rw [digs_small h]; simp
    · rw [digs_big h]
      cases k with
      | zero => simp at hk; omega
      | succ k =>
        have h1 := ih (n / 10) (by omega) k (by rw [Nat.pow_succ] at hk; omega)
        simp
        omega
theorem digs_pos (n : Nat) : 0 < (digs n).length := by
  by_cases h : n < 10
  · rw [digs_small h]; simp
  · rw [digs_big h]; simp
/-- A number is read from its digits as it was. -/
theorem numV_digs {n : Nat} (h : n < 100000) : numV (digs n) = n := by
  unfold numV
  have h1 := digs_len10 n 4 (by simpa using h)
  have h2 := digs_pos n
  have h3 : (digs n).all digitB = true := by rw [List.all_eq_true]; exact digs_digit n
  have h4 := valD_digs n
  rw [if_neg, h4]
  rintro (h | h | h | h)
  · omega
  · omega
  · rw [h3] at h; simp at h
  · exact h (by rw [h4])
/-- A text that says a number is its digits. -/
theorem numV_text {s : List UInt8} (h : 0 ≤ numV s) : digs (numV s).toNat = s := by
  unfold numV at h ⊢
  split at h
  · omega
  · next hn =>
    rw [if_neg hn]
    by_cases he : digs (valD s) = s
    · simpa using he
    · exact absurd (.inr (.inr (.inr he))) hn
theorem splitA_word {u : List UInt8} (h : ∀ c ∈ u, ¬ c = 32) (cur rest : List UInt8) : splitA cur (u ++ 32 :: rest) = (cur ++ u) :: splitA [] rest := by
  induction u generalizing cur with
  | nil => simp [splitA]
  | cons c t ih =>
    have hc := h c (by simp)
    rw [List.cons_append, splitA, if_neg hc, ih (fun x hx => h x (by simp [hx]))]
    simp
theorem splitA_last {u : List UInt8} (h : ∀ c ∈ u, ¬ c = 32) (cur : List UInt8) : splitA cur u = [cur ++ u] := by
  induction u generalizing cur with
  | nil => simp [splitA]
  | cons c t ih =>
    have hc := h c (by simp)
    rw [splitA, if_neg hc, ih (fun x hx => h x (by simp [hx]))]
    simp
theorem digs_no32 (n : Nat) : ∀ c ∈ digs n, ¬ c = 32 := fun c hc e => by
  have h := digs_digit n c hc
  subst e
  simp [digitB] at h
theorem reg_no32 (n : Nat) : ∀ c ∈ 114 :: digs n, ¬ c = 32 := fun c hc => by
  rw [List.mem_cons] at hc
  rcases hc with rfl | hc
  · decide
  · exact digs_no32 n c hc
theorem name_no32 (op : Int) : ∀ c ∈ nameT op, ¬ c = 32 := fun c hc e => by
  subst e
  unfold nameT at hc
  revert hc
  repeat' split
  all_goals decide
end Go.Proofs.YtfigbfddhmgafaaDoor
