/- What impl's InsRead answers. -/
import Derived.Test.YtfigbfddhmgafaaDoorTq7
namespace Go.Proofs.YtfigbfddhmgafaaDoor
open Go.RowKit
set_option linter.unusedVariables false

theorem nr_digs {k : Nat} (h : k ≤ 65535) : nrB (digs k) = true ∧ nrV (digs k) = k := by
  have e := numV_digs (n := k) (by omega)
  have hb : nrB (digs k) = true := by unfold nrB; rw [e]; simp [inB]; omega
  exact ⟨hb, by unfold nrV; rw [hb, e]; rfl⟩
theorem trim_reg (t : List UInt8) : trimR (114 :: t) = t := by simp [trimR, Lib.trimPrefix, Lib.hasPrefix]
theorem trim_digs (k : Nat) : trimR (digs k) = digs k := by
  unfold trimR Lib.trimPrefix
  rw [if_neg]
  intro h
  have hp := digs_pos k
  cases hd : digs k with
  | nil => rw [hd] at hp; simp at hp
  | cons c t =>
    rw [hd] at h
    have hc : (114 : UInt8) = c := by simpa [Lib.hasPrefix] using h
    have := digs_digit k c (by rw [hd]; simp)
    rw [← hc] at this
    simp [digitB] at this
theorem nr_reg {k : Nat} (h : k ≤ 65535) : nrB (trimR (114 :: digs k)) = true ∧ nrV (trimR (114 :: digs k)) = k := by rw [trim_reg]; exact nr_digs h
theorem nr_num {k : Nat} (h : k ≤ 65535) : nrB (trimR (digs k)) = true ∧ nrV (trimR (digs k)) = k := by rw [trim_digs]; exact nr_digs h
/-- What stands in a place's own text is found there. -/
theorem pl_text {op r a b n : Nat} (hi : insB op r a b n = true) : nmOp ((splitA [] (opT op r a b n)).getD 0 []) 10 = op ∧ plR op ((splitA [] (opT op r a b n)).drop 1) = some ⟨r, a, b, n⟩ := by
  obtain ⟨ho, ⟨r0, r1⟩, ⟨a0, a1⟩, ⟨b0, b1⟩, ⟨n0, n1⟩⟩ := ins_bounds hi
  have h1 : 1 ≤ op := by have := op_cases ho; omega
  have h2 : op ≤ 10 := by have := op_cases ho; omega
  have qr := nr_reg (k := r) (by omega)
  have qa := nr_reg (k := a) (by omega)
  have qb := nr_reg (k := b) (by omega)
  have qn := nr_num (k := n) (by omega)
  rcases op_ten h1 h2 with rfl | rfl | rfl | rfl | rfl | rfl | rfl | rfl | rfl | rfl
  · have hw : splitA [] (opT ((1 : Nat) : Int) r a b n) = [nameT 1, 114 :: digs r, digs n] := words_1 r a b n
    have hz := hi
    simp [insB, fldB, hasR, hasA, hasB, hasN, inB] at hz
    obtain rfl : a = 0 := by omega
    obtain rfl : b = 0 := by omega
    rw [hw]
    refine ⟨nm_hit (op := 1) (by omega) (by omega), ?_⟩
    simp [plR, fldT, plF, PV.set, PV.zero, qr.1, qr.2, qn.1, qn.2]
  · have hw : splitA [] (opT ((2 : Nat) : Int) r a b n) = [nameT 2, 114 :: digs r, 114 :: digs a, 114 :: digs b] := words_2 r a b n
    have hz := hi
    simp [insB, fldB, hasR, hasA, hasB, hasN, inB] at hz
    obtain rfl : n = 0 := by omega
    rw [hw]
    refine ⟨nm_hit (op := 2) (by omega) (by omega), ?_⟩
    simp [plR, fldT, plF, PV.set, PV.zero, qr.1, qr.2, qa.1, qa.2, qb.1, qb.2]
  · have hw : splitA [] (opT ((3 : Nat) : Int) r a b n) = [nameT 3, 114 :: digs r, 114 :: digs a, digs n] := words_3 r a b n
    have hz := hi
    simp [insB, fldB, hasR, hasA, hasB, hasN, inB] at hz
    obtain rfl : b = 0 := by omega
    rw [hw]
    refine ⟨nm_hit (op := 3) (by omega) (by omega), ?_⟩
    simp [plR, fldT, plF, PV.set, PV.zero, qr.1, qr.2, qa.1, qa.2, qn.1, qn.2]
  · have hw : splitA [] (opT ((4 : Nat) : Int) r a b n) = [nameT 4, 114 :: digs r, 114 :: digs a, digs n] := words_4 r a b n
    have hz := hi
    simp [insB, fldB, hasR, hasA, hasB, hasN, inB] at hz
    obtain rfl : b = 0 := by omega
    rw [hw]
    refine ⟨nm_hit (op := 4) (by omega) (by omega), ?_⟩
    simp [plR, fldT, plF, PV.set, PV.zero, qr.1, qr.2, qa.1, qa.2, qn.1, qn.2]
  · have hw : splitA [] (opT ((5 : Nat) : Int) r a b n) = [nameT 5, 114 :: digs a, 114 :: digs b, digs n] := words_5 r a b n
    have hz := hi
    simp [insB, fldB, hasR, hasA, hasB, hasN, inB] at hz
    obtain rfl : r = 0 := by omega
    rw [hw]
    refine ⟨nm_hit (op := 5) (by omega) (by omega), ?_⟩
    simp [plR, fldT, plF, PV.set, PV.zero, qa.1, qa.2, qb.1, qb.2, qn.1, qn.2]
  · have hw : splitA [] (opT ((6 : Nat) : Int) r a b n) = [nameT 6, 114 :: digs r, 114 :: digs a, 114 :: digs b, digs n] := words_6 r a b n
    rw [hw]
    refine ⟨nm_hit (op := 6) (by omega) (by omega), ?_⟩
    simp [plR, fldT, plF, PV.set, PV.zero, qr.1, qr.2, qa.1, qa.2, qb.1, qb.2, qn.1, qn.2]
  · have hw : splitA [] (opT ((7 : Nat) : Int) r a b n) = [nameT 7, 114 :: digs a, digs n] := words_7 r a b n
    have hz := hi
    simp [insB, fldB, hasR, hasA, hasB, hasN, inB] at hz
    obtain rfl : r = 0 := by omega
    obtain rfl : b = 0 := by omega
    rw [hw]
    refine ⟨nm_hit (op := 7) (by omega) (by omega), ?_⟩
    simp [plR, fldT, plF, PV.set, PV.zero, qa.1, qa.2, qn.1, qn.2]
  · have hw : splitA [] (opT ((8 : Nat) : Int) r a b n) = [nameT 8, digs n] := words_8 r a b n
    have hz := hi
    simp [insB, fldB, hasR, hasA, hasB, hasN, inB] at hz
    obtain rfl : r = 0 := by omega
    obtain rfl : a = 0 := by omega
    obtain rfl : b = 0 := by omega
    rw [hw]
    refine ⟨nm_hit (op := 8) (by omega) (by omega), ?_⟩
    simp [plR, fldT, plF, PV.set, PV.zero, qn.1, qn.2]
  · have hw : splitA [] (opT ((9 : Nat) : Int) r a b n) = [nameT 9] := words_9 r a b n
    have hz := hi
    simp [insB, fldB, hasR, hasA, hasB, hasN, inB] at hz
    obtain rfl : r = 0 := by omega
    obtain rfl : a = 0 := by omega
    obtain rfl : b = 0 := by omega
    obtain rfl : n = 0 := by omega
    rw [hw]
    refine ⟨nm_hit (op := 9) (by omega) (by omega), ?_⟩
    simp [plR, fldT, plF, PV.zero]
  · have hw : splitA [] (opT ((10 : Nat) : Int) r a b n) = [nameT 10, 114 :: digs r, 114 :: digs a, 114 :: digs b] := words_10 r a b n
    have hz := hi
    simp [insB, fldB, hasR, hasA, hasB, hasN, inB] at hz
    obtain rfl : n = 0 := by omega
    rw [hw]
    refine ⟨nm_hit (op := 10) (by omega) (by omega), ?_⟩
    simp [plR, fldT, plF, PV.set, PV.zero, qr.1, qr.2, qa.1, qa.2, qb.1, qb.2]

/-- What impl finds is what is read of a line. -/
theorem ir_yes {s : List UInt8} {p : PV} (h0 : nmOp ((splitA [] s).getD 0 []) 10 ≠ 0) (h : insT (nmOp ((splitA [] s).getD 0 []) 10 : Nat) p.r p.a p.b p.n = s) : rdB s = true ∧ rdV s = p.cells (nmOp ((splitA [] s).getD 0 []) 10 : Nat) := by
  obtain ⟨o, ho⟩ : ∃ o, nmOp ((splitA [] s).getD 0 []) 10 = o := ⟨_, rfl⟩
  rw [ho] at h0 h ⊢
  cases hi : insB o p.r p.a p.b p.n
  · exfalso
    unfold insT at h
    rw [hi] at h
    have h3 : s = [] := h.symm
    rw [h3] at ho
    have e : nmOp ((splitA [] []).getD 0 []) 10 = 0 := by decide
    omega
  · have h2 := rd_text hi
    rw [h] at h2
    exact h2
theorem ir_must {s : List UInt8} (h : rdB s = true) : ∃ p : PV, nmOp ((splitA [] s).getD 0 []) 10 ≠ 0 ∧ plR (nmOp ((splitA [] s).getD 0 []) 10 : Nat) ((splitA [] s).drop 1) = some p ∧ insT (nmOp ((splitA [] s).getD 0 []) 10 : Nat) p.r p.a p.b p.n = s := by
  obtain ⟨hi, hs⟩ := rd_sound h
  obtain ⟨ho, ⟨r0, r1⟩, ⟨a0, a1⟩, ⟨b0, b1⟩, ⟨n0, n1⟩⟩ := ins_bounds hi
  have ho1 : 1 ≤ rdO s := by have := op_cases ho; omega
  obtain ⟨kr, hr⟩ : ∃ k : Nat, rdN s 0 = (k : Int) := ⟨(rdN s 0).toNat, by omega⟩
  obtain ⟨ka, ha⟩ : ∃ k : Nat, rdN s 1 = (k : Int) := ⟨(rdN s 1).toNat, by omega⟩
  obtain ⟨kb, hb⟩ : ∃ k : Nat, rdN s 2 = (k : Int) := ⟨(rdN s 2).toNat, by omega⟩
  obtain ⟨kn, hn⟩ : ∃ k : Nat, rdN s 3 = (k : Int) := ⟨(rdN s 3).toNat, by omega⟩
  rw [hr, ha, hb, hn] at hi hs
  have e : opT (rdO s) kr ka kb kn = s := by
    have h2 := hs
    unfold insT at h2
    rw [hi] at h2
    exact h2
  obtain ⟨q1, q2⟩ := pl_text hi
  rw [e] at q1 q2
  rw [q1]
  exact ⟨⟨kr, ka, kb, kn⟩, by omega, q2, hs⟩
theorem rd_off {s : List UInt8} (h : rdB s = false) : rdV s = icells 0 0 0 0 0 := by unfold rdV; rw [h]; rfl
end Go.Proofs.YtfigbfddhmgafaaDoor
