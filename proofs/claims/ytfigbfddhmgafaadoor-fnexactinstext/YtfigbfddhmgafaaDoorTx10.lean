/- What is read of a place's own text is that place: no program in it. -/
import Derived.Test.YtfigbfddhmgafaaDoorTx7
import Derived.Test.YtfigbfddhmgafaaDoorTx8
namespace Go.Proofs.YtfigbfddhmgafaaDoor
open Go.RowKit
set_option linter.unusedVariables false

theorem bt_9 : bt 9 0 = true ∧ bt 9 1 = false ∧ bt 9 2 = false ∧ bt 9 3 = true := by decide
theorem bt_7 : bt 7 0 = true ∧ bt 7 1 = true ∧ bt 7 2 = true ∧ bt 7 3 = false := by decide
theorem bt_11 : bt 11 0 = true ∧ bt 11 1 = true ∧ bt 11 2 = false ∧ bt 11 3 = true := by decide
theorem bt_14 : bt 14 0 = false ∧ bt 14 1 = true ∧ bt 14 2 = true ∧ bt 14 3 = true := by decide
theorem bt_15 : bt 15 0 = true ∧ bt 15 1 = true ∧ bt 15 2 = true ∧ bt 15 3 = true := by decide
theorem bt_10 : bt 10 0 = false ∧ bt 10 1 = true ∧ bt 10 2 = false ∧ bt 10 3 = true := by decide
theorem bt_8 : bt 8 0 = false ∧ bt 8 1 = false ∧ bt 8 2 = false ∧ bt 8 3 = true := by decide
theorem bt_0 : bt 0 0 = false ∧ bt 0 1 = false ∧ bt 0 2 = false ∧ bt 0 3 = false := by decide
theorem nm_of : nmOp (nameT 1) 10 = 1 ∧ nmOp (nameT 2) 10 = 2 ∧ nmOp (nameT 3) 10 = 3 ∧ nmOp (nameT 4) 10 = 4 ∧ nmOp (nameT 5) 10 = 5 ∧ nmOp (nameT 6) 10 = 6 ∧ nmOp (nameT 7) 10 = 7 ∧ nmOp (nameT 8) 10 = 8 ∧ nmOp (nameT 9) 10 = 9 ∧ nmOp (nameT 10) 10 = 10 := by decide
theorem reg_num {r : Nat} (h : r ≤ 3) {k : Nat} (hk : k < 3) : max (numV (cutT k (114 :: digs r))) 0 = r := by
  have e : cutT k (114 :: digs r) = digs r := by unfold cutT; rw [if_pos hk]; rfl
  rw [e, numV_digs (by omega)]
  omega
theorem num_num {n : Nat} (h : n ≤ 63) : max (numV (cutT 3 (digs n))) 0 = n := by
  have e : cutT 3 (digs n) = digs n := by unfold cutT; rw [if_neg (by omega)]
  rw [e, numV_digs (by omega)]
  omega
theorem regT_eq (k : Nat) (t : List UInt8) : regT k ++ t = 32 :: ((114 :: digs k) ++ t) := by simp [regT]
theorem regT_end (k : Nat) : regT k = 32 :: (114 :: digs k) := by simp [regT]
theorem numT_end (k : Nat) : numT k = 32 :: digs k := by simp [numT]

theorem words_1 (r a b n : Nat) : splitA [] (opT 1 r a b n) = [nameT 1, 114 :: digs r, digs n] := by
  rw [show opT 1 r a b n = nameT 1 ++ (regT r ++ numT n) from rfl, regT_eq, splitA_word (name_no32 1), numT_end, splitA_word (reg_no32 r), splitA_last (digs_no32 n)]
  rfl
theorem rd_1 {r a b n : Nat} (hr : r ≤ 3) (ha : a ≤ 3) (hb : b ≤ 3) (hn : n ≤ 63) : rdO (opT 1 r a b n) = 1 ∧ rdN (opT 1 r a b n) 0 = r ∧ rdN (opT 1 r a b n) 1 = 0 ∧ rdN (opT 1 r a b n) 2 = 0 ∧ rdN (opT 1 r a b n) 3 = n := by
  have hw := words_1 r a b n
  have ho : rdO (opT 1 r a b n) = 1 := by
    unfold rdO rdW
    rw [hw]
    exact nm_of.1
  have ht : tab ((rdO (opT 1 r a b n) : Nat) : Int) = 9 := by rw [ho]; rfl
  obtain ⟨b0, b1, b2, b3⟩ := bt_9
  refine ⟨ho, ?_, ?_, ?_, ?_⟩
  · unfold rdN rdW
    rw [ht, hw]
    simp only [numF, atF, b0]
    exact reg_num hr (by decide)
  · unfold rdN rdW
    rw [ht, hw]
    simp only [numF, atF, b0, b1]
    exact rfl
  · unfold rdN rdW
    rw [ht, hw]
    simp only [numF, atF, b0, b1, b2]
    exact rfl
  · unfold rdN rdW
    rw [ht, hw]
    simp only [numF, atF, b0, b1, b2, b3]
    exact num_num hn
theorem words_2 (r a b n : Nat) : splitA [] (opT 2 r a b n) = [nameT 2, 114 :: digs r, 114 :: digs a, 114 :: digs b] := by
  rw [show opT 2 r a b n = nameT 2 ++ (regT r ++ (regT a ++ regT b)) from rfl, regT_eq, splitA_word (name_no32 2), regT_eq, splitA_word (reg_no32 r), regT_end, splitA_word (reg_no32 a), splitA_last (reg_no32 b)]
  rfl
theorem rd_2 {r a b n : Nat} (hr : r ≤ 3) (ha : a ≤ 3) (hb : b ≤ 3) (hn : n ≤ 63) : rdO (opT 2 r a b n) = 2 ∧ rdN (opT 2 r a b n) 0 = r ∧ rdN (opT 2 r a b n) 1 = a ∧ rdN (opT 2 r a b n) 2 = b ∧ rdN (opT 2 r a b n) 3 = 0 := by
  have hw := words_2 r a b n
  have ho : rdO (opT 2 r a b n) = 2 := by
    unfold rdO rdW
    rw [hw]
    exact nm_of.2.1
  have ht : tab ((rdO (opT 2 r a b n) : Nat) : Int) = 7 := by rw [ho]; rfl
  obtain ⟨b0, b1, b2, b3⟩ := bt_7
  refine ⟨ho, ?_, ?_, ?_, ?_⟩
  · unfold rdN rdW
    rw [ht, hw]
    simp only [numF, atF, b0]
    exact reg_num hr (by decide)
  · unfold rdN rdW
    rw [ht, hw]
    simp only [numF, atF, b0, b1]
    exact reg_num ha (by decide)
  · unfold rdN rdW
    rw [ht, hw]
    simp only [numF, atF, b0, b1, b2]
    exact reg_num hb (by decide)
  · unfold rdN rdW
    rw [ht, hw]
    simp only [numF, atF, b0, b1, b2, b3]
    exact rfl
theorem words_3 (r a b n : Nat) : splitA [] (opT 3 r a b n) = [nameT 3, 114 :: digs r, 114 :: digs a, digs n] := by
  rw [show opT 3 r a b n = nameT 3 ++ (regT r ++ (regT a ++ numT n)) from rfl, regT_eq, splitA_word (name_no32 3), regT_eq, splitA_word (reg_no32 r), numT_end, splitA_word (reg_no32 a), splitA_last (digs_no32 n)]
  rfl
theorem rd_3 {r a b n : Nat} (hr : r ≤ 3) (ha : a ≤ 3) (hb : b ≤ 3) (hn : n ≤ 63) : rdO (opT 3 r a b n) = 3 ∧ rdN (opT 3 r a b n) 0 = r ∧ rdN (opT 3 r a b n) 1 = a ∧ rdN (opT 3 r a b n) 2 = 0 ∧ rdN (opT 3 r a b n) 3 = n := by
  have hw := words_3 r a b n
  have ho : rdO (opT 3 r a b n) = 3 := by
    unfold rdO rdW
    rw [hw]
    exact nm_of.2.2.1
  have ht : tab ((rdO (opT 3 r a b n) : Nat) : Int) = 11 := by rw [ho]; rfl
  obtain ⟨b0, b1, b2, b3⟩ := bt_11
  refine ⟨ho, ?_, ?_, ?_, ?_⟩
  · unfold rdN rdW
    rw [ht, hw]
    simp only [numF, atF, b0]
    exact reg_num hr (by decide)
  · unfold rdN rdW
    rw [ht, hw]
    simp only [numF, atF, b0, b1]
    exact reg_num ha (by decide)
  · unfold rdN rdW
    rw [ht, hw]
    simp only [numF, atF, b0, b1, b2]
    exact rfl
  · unfold rdN rdW
    rw [ht, hw]
    simp only [numF, atF, b0, b1, b2, b3]
    exact num_num hn
theorem words_4 (r a b n : Nat) : splitA [] (opT 4 r a b n) = [nameT 4, 114 :: digs r, 114 :: digs a, digs n] := by
  rw [show opT 4 r a b n = nameT 4 ++ (regT r ++ (regT a ++ numT n)) from rfl, regT_eq, splitA_word (name_no32 4), regT_eq, splitA_word (reg_no32 r), numT_end, splitA_word (reg_no32 a), splitA_last (digs_no32 n)]
  rfl
theorem rd_4 {r a b n : Nat} (hr : r ≤ 3) (ha : a ≤ 3) (hb : b ≤ 3) (hn : n ≤ 63) : rdO (opT 4 r a b n) = 4 ∧ rdN (opT 4 r a b n) 0 = r ∧ rdN (opT 4 r a b n) 1 = a ∧ rdN (opT 4 r a b n) 2 = 0 ∧ rdN (opT 4 r a b n) 3 = n := by
  have hw := words_4 r a b n
  have ho : rdO (opT 4 r a b n) = 4 := by
    unfold rdO rdW
    rw [hw]
    exact nm_of.2.2.2.1
  have ht : tab ((rdO (opT 4 r a b n) : Nat) : Int) = 11 := by rw [ho]; rfl
  obtain ⟨b0, b1, b2, b3⟩ := bt_11
  refine ⟨ho, ?_, ?_, ?_, ?_⟩
  · unfold rdN rdW
    rw [ht, hw]
    simp only [numF, atF, b0]
    exact reg_num hr (by decide)
  · unfold rdN rdW
    rw [ht, hw]
    simp only [numF, atF, b0, b1]
    exact reg_num ha (by decide)
  · unfold rdN rdW
    rw [ht, hw]
    simp only [numF, atF, b0, b1, b2]
    exact rfl
  · unfold rdN rdW
    rw [ht, hw]
    simp only [numF, atF, b0, b1, b2, b3]
    exact num_num hn
theorem words_5 (r a b n : Nat) : splitA [] (opT 5 r a b n) = [nameT 5, 114 :: digs a, 114 :: digs b, digs n] := by
  rw [show opT 5 r a b n = nameT 5 ++ (regT a ++ (regT b ++ numT n)) from rfl, regT_eq, splitA_word (name_no32 5), regT_eq, splitA_word (reg_no32 a), numT_end, splitA_word (reg_no32 b), splitA_last (digs_no32 n)]
  rfl
theorem rd_5 {r a b n : Nat} (hr : r ≤ 3) (ha : a ≤ 3) (hb : b ≤ 3) (hn : n ≤ 63) : rdO (opT 5 r a b n) = 5 ∧ rdN (opT 5 r a b n) 0 = 0 ∧ rdN (opT 5 r a b n) 1 = a ∧ rdN (opT 5 r a b n) 2 = b ∧ rdN (opT 5 r a b n) 3 = n := by
  have hw := words_5 r a b n
  have ho : rdO (opT 5 r a b n) = 5 := by
    unfold rdO rdW
    rw [hw]
    exact nm_of.2.2.2.2.1
  have ht : tab ((rdO (opT 5 r a b n) : Nat) : Int) = 14 := by rw [ho]; rfl
  obtain ⟨b0, b1, b2, b3⟩ := bt_14
  refine ⟨ho, ?_, ?_, ?_, ?_⟩
  · unfold rdN rdW
    rw [ht, hw]
    simp only [numF, atF, b0]
    exact rfl
  · unfold rdN rdW
    rw [ht, hw]
    simp only [numF, atF, b0, b1]
    exact reg_num ha (by decide)
  · unfold rdN rdW
    rw [ht, hw]
    simp only [numF, atF, b0, b1, b2]
    exact reg_num hb (by decide)
  · unfold rdN rdW
    rw [ht, hw]
    simp only [numF, atF, b0, b1, b2, b3]
    exact num_num hn
theorem words_6 (r a b n : Nat) : splitA [] (opT 6 r a b n) = [nameT 6, 114 :: digs r, 114 :: digs a, 114 :: digs b, digs n] := by
  rw [show opT 6 r a b n = nameT 6 ++ (regT r ++ (regT a ++ (regT b ++ numT n))) from rfl, regT_eq, splitA_word (name_no32 6), regT_eq, splitA_word (reg_no32 r), regT_eq, splitA_word (reg_no32 a), numT_end, splitA_word (reg_no32 b), splitA_last (digs_no32 n)]
  rfl
theorem rd_6 {r a b n : Nat} (hr : r ≤ 3) (ha : a ≤ 3) (hb : b ≤ 3) (hn : n ≤ 63) : rdO (opT 6 r a b n) = 6 ∧ rdN (opT 6 r a b n) 0 = r ∧ rdN (opT 6 r a b n) 1 = a ∧ rdN (opT 6 r a b n) 2 = b ∧ rdN (opT 6 r a b n) 3 = n := by
  have hw := words_6 r a b n
  have ho : rdO (opT 6 r a b n) = 6 := by
    unfold rdO rdW
    rw [hw]
    exact nm_of.2.2.2.2.2.1
  have ht : tab ((rdO (opT 6 r a b n) : Nat) : Int) = 15 := by rw [ho]; rfl
  obtain ⟨b0, b1, b2, b3⟩ := bt_15
  refine ⟨ho, ?_, ?_, ?_, ?_⟩
  · unfold rdN rdW
    rw [ht, hw]
    simp only [numF, atF, b0]
    exact reg_num hr (by decide)
  · unfold rdN rdW
    rw [ht, hw]
    simp only [numF, atF, b0, b1]
    exact reg_num ha (by decide)
  · unfold rdN rdW
    rw [ht, hw]
    simp only [numF, atF, b0, b1, b2]
    exact reg_num hb (by decide)
  · unfold rdN rdW
    rw [ht, hw]
    simp only [numF, atF, b0, b1, b2, b3]
    exact num_num hn
theorem words_7 (r a b n : Nat) : splitA [] (opT 7 r a b n) = [nameT 7, 114 :: digs a, digs n] := by
  rw [show opT 7 r a b n = nameT 7 ++ (regT a ++ numT n) from rfl, regT_eq, splitA_word (name_no32 7), numT_end, splitA_word (reg_no32 a), splitA_last (digs_no32 n)]
  rfl
theorem rd_7 {r a b n : Nat} (hr : r ≤ 3) (ha : a ≤ 3) (hb : b ≤ 3) (hn : n ≤ 63) : rdO (opT 7 r a b n) = 7 ∧ rdN (opT 7 r a b n) 0 = 0 ∧ rdN (opT 7 r a b n) 1 = a ∧ rdN (opT 7 r a b n) 2 = 0 ∧ rdN (opT 7 r a b n) 3 = n := by
  have hw := words_7 r a b n
  have ho : rdO (opT 7 r a b n) = 7 := by
    unfold rdO rdW
    rw [hw]
    exact nm_of.2.2.2.2.2.2.1
  have ht : tab ((rdO (opT 7 r a b n) : Nat) : Int) = 10 := by rw [ho]; rfl
  obtain ⟨b0, b1, b2, b3⟩ := bt_10
  refine ⟨ho, ?_, ?_, ?_, ?_⟩
  · unfold rdN rdW
    rw [ht, hw]
    simp only [numF, atF, b0]
    exact rfl
  · unfold rdN rdW
    rw [ht, hw]
    simp only [numF, atF, b0, b1]
    exact reg_num ha (by decide)
  · unfold rdN rdW
    rw [ht, hw]
    simp only [numF, atF, b0, b1, b2]
    exact rfl
  · unfold rdN rdW
    rw [ht, hw]
    simp only [numF, atF, b0, b1, b2, b3]
    exact num_num hn
theorem words_8 (r a b n : Nat) : splitA [] (opT 8 r a b n) = [nameT 8, digs n] := by
  rw [show opT 8 r a b n = nameT 8 ++ numT n from rfl, numT_end, splitA_word (name_no32 8), splitA_last (digs_no32 n)]
  rfl
theorem rd_8 {r a b n : Nat} (hr : r ≤ 3) (ha : a ≤ 3) (hb : b ≤ 3) (hn : n ≤ 63) : rdO (opT 8 r a b n) = 8 ∧ rdN (opT 8 r a b n) 0 = 0 ∧ rdN (opT 8 r a b n) 1 = 0 ∧ rdN (opT 8 r a b n) 2 = 0 ∧ rdN (opT 8 r a b n) 3 = n := by
  have hw := words_8 r a b n
  have ho : rdO (opT 8 r a b n) = 8 := by
    unfold rdO rdW
    rw [hw]
    exact nm_of.2.2.2.2.2.2.2.1
  have ht : tab ((rdO (opT 8 r a b n) : Nat) : Int) = 8 := by rw [ho]; rfl
  obtain ⟨b0, b1, b2, b3⟩ := bt_8
  refine ⟨ho, ?_, ?_, ?_, ?_⟩
  · unfold rdN rdW
    rw [ht, hw]
    simp only [numF, atF, b0]
    exact rfl
  · unfold rdN rdW
    rw [ht, hw]
    simp only [numF, atF, b0, b1]
    exact rfl
  · unfold rdN rdW
    rw [ht, hw]
    simp only [numF, atF, b0, b1, b2]
    exact rfl
  · unfold rdN rdW
    rw [ht, hw]
    simp only [numF, atF, b0, b1, b2, b3]
    exact num_num hn
theorem words_9 (r a b n : Nat) : splitA [] (opT 9 r a b n) = [nameT 9] := by
  rw [show opT 9 r a b n = nameT 9 from rfl, splitA_last (name_no32 9)]
  rfl
theorem rd_9 {r a b n : Nat} (hr : r ≤ 3) (ha : a ≤ 3) (hb : b ≤ 3) (hn : n ≤ 63) : rdO (opT 9 r a b n) = 9 ∧ rdN (opT 9 r a b n) 0 = 0 ∧ rdN (opT 9 r a b n) 1 = 0 ∧ rdN (opT 9 r a b n) 2 = 0 ∧ rdN (opT 9 r a b n) 3 = 0 := by
  have hw := words_9 r a b n
  have ho : rdO (opT 9 r a b n) = 9 := by
    unfold rdO rdW
    rw [hw]
    exact nm_of.2.2.2.2.2.2.2.2.1
  have ht : tab ((rdO (opT 9 r a b n) : Nat) : Int) = 0 := by rw [ho]; rfl
  obtain ⟨b0, b1, b2, b3⟩ := bt_0
  refine ⟨ho, ?_, ?_, ?_, ?_⟩
  · unfold rdN rdW
    rw [ht, hw]
    simp only [numF, atF, b0]
    exact rfl
  · unfold rdN rdW
    rw [ht, hw]
    simp only [numF, atF, b0, b1]
    exact rfl
  · unfold rdN rdW
    rw [ht, hw]
    simp only [numF, atF, b0, b1, b2]
    exact rfl
  · unfold rdN rdW
    rw [ht, hw]
    simp only [numF, atF, b0, b1, b2, b3]
    exact rfl
theorem words_10 (r a b n : Nat) : splitA [] (opT 10 r a b n) = [nameT 10, 114 :: digs r, 114 :: digs a, 114 :: digs b] := by
  rw [show opT 10 r a b n = nameT 10 ++ (regT r ++ (regT a ++ regT b)) from rfl, regT_eq, splitA_word (name_no32 10), regT_eq, splitA_word (reg_no32 r), regT_end, splitA_word (reg_no32 a), splitA_last (reg_no32 b)]
  rfl
theorem rd_10 {r a b n : Nat} (hr : r ≤ 3) (ha : a ≤ 3) (hb : b ≤ 3) (hn : n ≤ 63) : rdO (opT 10 r a b n) = 10 ∧ rdN (opT 10 r a b n) 0 = r ∧ rdN (opT 10 r a b n) 1 = a ∧ rdN (opT 10 r a b n) 2 = b ∧ rdN (opT 10 r a b n) 3 = 0 := by
  have hw := words_10 r a b n
  have ho : rdO (opT 10 r a b n) = 10 := by
    unfold rdO rdW
    rw [hw]
    exact nm_of.2.2.2.2.2.2.2.2.2
  have ht : tab ((rdO (opT 10 r a b n) : Nat) : Int) = 7 := by rw [ho]; rfl
  obtain ⟨b0, b1, b2, b3⟩ := bt_7
  refine ⟨ho, ?_, ?_, ?_, ?_⟩
  · unfold rdN rdW
    rw [ht, hw]
    simp only [numF, atF, b0]
    exact reg_num hr (by decide)
  · unfold rdN rdW
    rw [ht, hw]
    simp only [numF, atF, b0, b1]
    exact reg_num ha (by decide)
  · unfold rdN rdW
    rw [ht, hw]
    simp only [numF, atF, b0, b1, b2]
    exact reg_num hb (by decide)
  · unfold rdN rdW
    rw [ht, hw]
    simp only [numF, atF, b0, b1, b2, b3]
    exact rfl
theorem rd_sound {s : List UInt8} (h : rdB s = true) : insB (rdO s) (rdN s 0) (rdN s 1) (rdN s 2) (rdN s 3) = true ∧ insT (rdO s) (rdN s 0) (rdN s 1) (rdN s 2) (rdN s 3) = s := by
  unfold rdB at h
  simp only [Bool.and_eq_true, decide_eq_true_eq] at h
  refine ⟨?_, h.2⟩
  cases hi : insB (rdO s) (rdN s 0) (rdN s 1) (rdN s 2) (rdN s 3)
  · have h2 := h.2
    unfold insT at h2
    rw [hi] at h2
    have h3 : s = [] := h2.symm
    rw [h3] at h
    simp at h
  · rfl
theorem opT_ne (op : Int) (r a b n : Nat) : (opT op r a b n).isEmpty = false := by
  have h : ∀ t, (nameT op ++ t).isEmpty = false := fun t => by
    unfold nameT
    repeat' split
    all_goals rfl
  have h0 : (nameT op).isEmpty = false := by simpa using h []
  unfold opT
  repeat' split
  all_goals first | exact h _ | exact h0
theorem rd_of {op r a b n : Nat} (hi : insB op r a b n = true) (hd : rdO (opT op r a b n) = op ∧ rdN (opT op r a b n) 0 = r ∧ rdN (opT op r a b n) 1 = a ∧ rdN (opT op r a b n) 2 = b ∧ rdN (opT op r a b n) 3 = n) : rdB (opT op r a b n) = true ∧ rdV (opT op r a b n) = icells op r a b n := by
  obtain ⟨h0, h1, h2, h3, h4⟩ := hd
  have e : insT op r a b n = opT op r a b n := by unfold insT; rw [hi]; rfl
  have hb : rdB (opT op r a b n) = true := by
    unfold rdB
    rw [h0, h1, h2, h3, h4, opT_ne, e]
    simp
  refine ⟨hb, ?_⟩
  unfold rdV
  rw [hb, h0, h1, h2, h3, h4]
  rfl
/-- What is read of a place's own text is that place. -/
theorem rd_text {op r a b n : Int} (h : insB op r a b n = true) : rdB (insT op r a b n) = true ∧ rdV (insT op r a b n) = icells op r a b n := by
  obtain ⟨ho, ⟨r0, r1⟩, ⟨a0, a1⟩, ⟨b0, b1⟩, ⟨n0, n1⟩⟩ := ins_bounds h
  obtain ⟨kr, rfl⟩ : ∃ k : Nat, r = (k : Int) := ⟨r.toNat, by omega⟩
  obtain ⟨ka, rfl⟩ : ∃ k : Nat, a = (k : Int) := ⟨a.toNat, by omega⟩
  obtain ⟨kb, rfl⟩ : ∃ k : Nat, b = (k : Int) := ⟨b.toNat, by omega⟩
  obtain ⟨kn, rfl⟩ : ∃ k : Nat, n = (k : Int) := ⟨n.toNat, by omega⟩
  have hz := h
  unfold insB fldB at hz
  simp only [Bool.and_eq_true] at hz
  obtain ⟨_, ⟨_, zr⟩, ⟨_, za⟩, ⟨_, zb⟩, _, zn⟩ := hz
  have e : insT op kr ka kb kn = opT op kr ka kb kn := by unfold insT; rw [h]; rfl
  rw [e]
  rcases op_cases ho with rfl | rfl | rfl | rfl | rfl | rfl | rfl | rfl | rfl | rfl
  · have qa : ka = 0 := by simpa [hasA] using za
    subst qa
    have qb : kb = 0 := by simpa [hasB] using zb
    subst qb
    exact rd_of (op := 1) h (by simpa using rd_1 (r := kr) (a := 0) (b := 0) (n := kn) (by omega) (by omega) (by omega) (by omega))
  · have qn : kn = 0 := by simpa [hasN] using zn
    subst qn
    exact rd_of (op := 2) h (by simpa using rd_2 (r := kr) (a := ka) (b := kb) (n := 0) (by omega) (by omega) (by omega) (by omega))
  · have qb : kb = 0 := by simpa [hasB] using zb
    subst qb
    exact rd_of (op := 3) h (by simpa using rd_3 (r := kr) (a := ka) (b := 0) (n := kn) (by omega) (by omega) (by omega) (by omega))
  · have qb : kb = 0 := by simpa [hasB] using zb
    subst qb
    exact rd_of (op := 4) h (by simpa using rd_4 (r := kr) (a := ka) (b := 0) (n := kn) (by omega) (by omega) (by omega) (by omega))
  · have qr : kr = 0 := by simpa [hasR] using zr
    subst qr
    exact rd_of (op := 5) h (by simpa using rd_5 (r := 0) (a := ka) (b := kb) (n := kn) (by omega) (by omega) (by omega) (by omega))
  · exact rd_of (op := 6) h (by simpa using rd_6 (r := kr) (a := ka) (b := kb) (n := kn) (by omega) (by omega) (by omega) (by omega))
  · have qr : kr = 0 := by simpa [hasR] using zr
    subst qr
    have qb : kb = 0 := by simpa [hasB] using zb
    subst qb
    exact rd_of (op := 7) h (by simpa using rd_7 (r := 0) (a := ka) (b := 0) (n := kn) (by omega) (by omega) (by omega) (by omega))
  · have qr : kr = 0 := by simpa [hasR] using zr
    subst qr
    have qa : ka = 0 := by simpa [hasA] using za
    subst qa
    have qb : kb = 0 := by simpa [hasB] using zb
    subst qb
    exact rd_of (op := 8) h (by simpa using rd_8 (r := 0) (a := 0) (b := 0) (n := kn) (by omega) (by omega) (by omega) (by omega))
  · have qr : kr = 0 := by simpa [hasR] using zr
    subst qr
    have qa : ka = 0 := by simpa [hasA] using za
    subst qa
    have qb : kb = 0 := by simpa [hasB] using zb
    subst qb
    have qn : kn = 0 := by simpa [hasN] using zn
    subst qn
    exact rd_of (op := 9) h (by simpa using rd_9 (r := 0) (a := 0) (b := 0) (n := 0) (by omega) (by omega) (by omega) (by omega))
  · have qn : kn = 0 := by simpa [hasN] using zn
    subst qn
    exact rd_of (op := 10) h (by simpa using rd_10 (r := kr) (a := ka) (b := kb) (n := 0) (by omega) (by omega) (by omega) (by omega))
end Go.Proofs.YtfigbfddhmgafaaDoor
