/- What both HomeOk do. -/
import Derived.Test.YtpfppeifppdmbaaGreatHomM
import Derived.Test.YtpfppeifppdmbaaGreatSpecIn
import Derived.Test.YtpfppeifppdmbaaGreatWords
namespace Go.Proofs.YtpfppeifppdmbaaGreat
open Go.RowKit
set_option linter.unusedVariables false

/-- What HomeOk answers. -/
def homeB (nodes ow wh ak : Int) (xs : List Int) (nr : Nat) (ws : List (Int × Bool)) : Bool :=
  inB nodes 1 4 && (wordsB xs 4 && (inB ow (-1) (nodes - 1) && (decide ((nr : Int) = nodes) && (inB wh 0 (nodes - 1) && (inB ak 0 nodes && (decide (ws.length ≤ 12) && ws.all (fun p => inB p.1 0 (nodes - 1))))))))

theorem specIn_h (x lo hi : Int) (w : World) :
    Calls Tryz.prog 26 #[.int .i64 x, .int .i64 lo, .int .i64 hi] w fun e w' => e = .returned (.bool (inB x lo hi)) ∧ w' = w := specIn_any x lo hi w

theorem areNodes_h (n : Int) (w : World) :
    Calls Tryz.prog 54 #[.int .i64 n] w fun e w' => e = .returned (.bool (inB n 1 4)) ∧ w' = w := by
  by_cases h0 : 1 ≤ n
  · by_cases h1 : n ≤ 4
    · have hd : inB n 1 4 = true := by simp [inB, h0, h1]
      rw [hd]
      go_enter Tryz.func54, Tryz.ntmps54
      go_wp2
      go_ret
      exact ⟨rfl, rfl⟩
    · have hd : inB n 1 4 = false := by simp [inB, h1]
      rw [hd]
      have h1' : 4 < n := by omega
      go_enter Tryz.func54, Tryz.ntmps54
      go_wp2
      go_ret
      exact ⟨rfl, rfl⟩
  · have hd : inB n 1 4 = false := by simp [inB, h0]
    rw [hd]
    have h1' : n < 1 := by omega
    go_enter Tryz.func54, Tryz.ntmps54
    go_wp2
    go_ret
    exact ⟨rfl, rfl⟩

theorem isNode_h (id nodes : Int) (w : World) (h : nodes ≤ 4) :
    Calls Tryz.prog 82 #[.int .i64 id, .int .i64 nodes] w fun e w' => e = .returned (.bool (inB id 0 (nodes - 1))) ∧ w' = w := by
  by_cases h1 : 0 ≤ id
  · by_cases h2 : id < nodes
    · have hd : inB id 0 (nodes - 1) = true := by simp [inB, h1]; omega
      rw [hd]
      go_enter Tryz.func82, Tryz.ntmps82
      go_wp2
      go_ret
      exact ⟨rfl, rfl⟩
    · have hd : inB id 0 (nodes - 1) = false := by simp [inB]; omega
      rw [hd]
      go_enter Tryz.func82, Tryz.ntmps82
      go_wp2
      go_ret
      exact ⟨rfl, rfl⟩
  · have hd : inB id 0 (nodes - 1) = false := by simp [inB]; omega
    rw [hd]
    have h1' : id < 0 := by omega
    go_enter Tryz.func82, Tryz.ntmps82
    go_wp2
    go_ret
    exact ⟨rfl, rfl⟩

theorem at8o {w : World} {m : Nat} {t : TypeId} {c0 c1 c2 c3 c4 c5 c6 c7 : Value} (h : Box w m #[c0, c1, c2, c3, c4, c5, c6, c7] t) :
    w.cell? ⟨m, 0, none⟩ = some c0 ∧ w.cell? ⟨m, 1, none⟩ = some c1 ∧ w.cell? ⟨m, 2, none⟩ = some c2 ∧ w.cell? ⟨m, 3, none⟩ = some c3 ∧ w.cell? ⟨m, 4, none⟩ = some c4 ∧ w.cell? ⟨m, 5, none⟩ = some c5 ∧ w.cell? ⟨m, 6, none⟩ = some c6 ∧ w.cell? ⟨m, 7, none⟩ = some c7 ∧ m < w.heap.size :=
  ⟨by rw [h.cell]; rfl, by rw [h.cell]; rfl, by rw [h.cell]; rfl, by rw [h.cell]; rfl, by rw [h.cell]; rfl, by rw [h.cell]; rfl, by rw [h.cell]; rfl, by rw [h.cell]; rfl, h.lt⟩

theorem waits_bad (nodes ow wh ak : Int) (xs : List Int) (nr : Nat) (ws : List (Int × Bool)) {k : Nat} (hk : k < ws.length) (hb : inB (ws.getD k (0, false)).1 0 (nodes - 1) = false) : homeB nodes ow wh ak xs nr ws = false := by
  have : ws.all (fun p => inB p.1 0 (nodes - 1)) = false := by
    rw [List.all_eq_false]
    have e : ws.getD k (0, false) = ws[k] := by simp [hk]
    rw [e] at hb
    exact ⟨ws[k], List.getElem_mem hk, by simp [hb]⟩
  simp [homeB, this]
theorem waits_take (nodes : Int) (ws : List (Int × Bool)) {k : Nat} (hk : k < ws.length) (h : (ws.take k).all (fun p => inB p.1 0 (nodes - 1)) = true) (hb : inB (ws.getD k (0, false)).1 0 (nodes - 1) = true) : (ws.take (k + 1)).all (fun p => inB p.1 0 (nodes - 1)) = true := by
  have e : ws.getD k (0, false) = ws[k] := by simp [hk]
  rw [e] at hb
  rw [List.take_succ_eq_append_getElem hk, List.all_append, h]
  simp [hb]

set_option maxRecDepth 100000 in
set_option maxHeartbeats 4000000 in
theorem specHomeOk_any (nodes ow wh ak : Int) (bz wo : Bool) (al ar aq : Option Addr) (cl nr cr cq : Nat) (xs : List Int) (ws : List (Int × Bool)) (w : World) (hnr : nr ≤ 1048577) (hal0 : Row .i64 w al xs) (haq0 : VRow w aq (wv ws)) :
    Calls Tryz.prog 73 #[.agg #[.slice al xs.length cl, .int .i64 ow, .slice ar nr cr, .bool bz, .int .i64 wh, .bool wo, .int .i64 ak, .slice aq ws.length cq], .int .i64 nodes] w fun e w' => e = .returned (.bool (homeB nodes ow wh ak xs nr ws)) ∧ Below w.heap.size w w' := by
  have bA := bel_alloc (Below.refl w.heap.size w) (.cells #[.slice al xs.length cl, .int .i64 ow, .slice ar nr cr, .bool bz, .int .i64 wh, .bool wo, .int .i64 ak, .slice aq ws.length cq] 93)
  have hal := hal0.below bA
  have haq := haq0.below bA
  clear hal0 haq0
  obtain ⟨nq, hnq⟩ : ∃ n, ws.length = n := ⟨_, rfl⟩
  have HQ : Hid (ws.length = nq) := hnq
  have hlq : nq ≤ 140737488351232 := by have := haq.1; rw [wv_length] at this; omega
  rw [hnq] at bA hal haq ⊢
  clear hnq
  cases h1 : inB nodes 1 4
  case false =>
    have H1 : Hid (inB nodes 1 4 = false) := h1
    clear h1
    have E : Hid (homeB nodes ow wh ak xs nr ws = false) := by show _ = _; unfold homeB; rw [H1.out]; simp
    go_enter Tryz.func73, Tryz.ntmps73
    go_wp2_with fail
    refine (specIn_h nodes 1 4 _).mono ?_
    rintro e w1 ⟨rfl, h⟩
    subst h
    rw [H1.out]
    go_wp2
    go_ret
    exact ⟨ret_bool E.out.symm, bA⟩
  have H1 : Hid (inB nodes 1 4 = true) := h1
  clear h1
  obtain ⟨g1, g2⟩ : 1 ≤ nodes ∧ nodes ≤ 4 := of_decide_eq_true H1.out
  cases h2 : wordsB xs 4
  case false =>
    have H2 : Hid (wordsB xs 4 = false) := h2
    clear h2
    have E : Hid (homeB nodes ow wh ak xs nr ws = false) := by show _ = _; unfold homeB; rw [H1.out, H2.out]; simp
    go_enter Tryz.func73, Tryz.ntmps73
    go_wp2_with fail
    refine (specIn_h nodes 1 4 _).mono ?_
    rintro e w1 ⟨rfl, h⟩
    subst h
    rw [H1.out]
    go_wp2_with fail
    refine (specWords_any al cl xs 4 _ hal).mono ?_
    rintro e w1 ⟨rfl, h⟩
    subst h
    rw [H2.out]
    go_wp2
    go_ret
    exact ⟨ret_bool E.out.symm, bA⟩
  have H2 : Hid (wordsB xs 4 = true) := h2
  clear h2
  cases h3 : inB ow (-1) (nodes - 1)
  case false =>
    have H3 : Hid (inB ow (-1) (nodes - 1) = false) := h3
    clear h3
    have E : Hid (homeB nodes ow wh ak xs nr ws = false) := by show _ = _; unfold homeB; rw [H1.out, H2.out, H3.out]; simp
    go_enter Tryz.func73, Tryz.ntmps73
    go_wp2_with fail
    refine (specIn_h nodes 1 4 _).mono ?_
    rintro e w1 ⟨rfl, h⟩
    subst h
    rw [H1.out]
    go_wp2_with fail
    refine (specWords_any al cl xs 4 _ hal).mono ?_
    rintro e w1 ⟨rfl, h⟩
    subst h
    rw [H2.out]
    go_wp2_with fail
    refine (specIn_h ow (-1) (nodes - 1) _).mono ?_
    rintro e w1 ⟨rfl, h⟩
    subst h
    rw [H3.out]
    go_wp2
    go_ret
    exact ⟨ret_bool E.out.symm, bA⟩
  have H3 : Hid (inB ow (-1) (nodes - 1) = true) := h3
  clear h3
  cases h4 : decide ((nr : Int) = nodes)
  case false =>
    have H4 : Hid (decide ((nr : Int) = nodes) = false) := h4
    clear h4
    have E : Hid (homeB nodes ow wh ak xs nr ws = false) := by show _ = _; unfold homeB; rw [H1.out, H2.out, H3.out, H4.out]; simp
    have g3 : ¬ ((nr : Int) = nodes) := of_decide_eq_false H4.out
    have g3b : (((nr : Int) == nodes) = false) := by simp; omega
    go_enter Tryz.func73, Tryz.ntmps73
    go_wp2_with fail
    refine (specIn_h nodes 1 4 _).mono ?_
    rintro e w1 ⟨rfl, h⟩
    subst h
    rw [H1.out]
    go_wp2_with fail
    refine (specWords_any al cl xs 4 _ hal).mono ?_
    rintro e w1 ⟨rfl, h⟩
    subst h
    rw [H2.out]
    go_wp2_with fail
    refine (specIn_h ow (-1) (nodes - 1) _).mono ?_
    rintro e w1 ⟨rfl, h⟩
    subst h
    rw [H3.out]
    go_wp2
    go_ret
    exact ⟨ret_bool E.out.symm, bA⟩
  have H4 : Hid (decide ((nr : Int) = nodes) = true) := h4
  clear h4
  obtain ⟨g3, g4⟩ : (nr : Int) ≤ nodes ∧ nodes ≤ (nr : Int) := by have := of_decide_eq_true H4.out; omega
  cases h5 : inB wh 0 (nodes - 1)
  case false =>
    have H5 : Hid (inB wh 0 (nodes - 1) = false) := h5
    clear h5
    have E : Hid (homeB nodes ow wh ak xs nr ws = false) := by show _ = _; unfold homeB; rw [H1.out, H2.out, H3.out, H4.out, H5.out]; simp
    go_enter Tryz.func73, Tryz.ntmps73
    go_wp2_with fail
    refine (specIn_h nodes 1 4 _).mono ?_
    rintro e w1 ⟨rfl, h⟩
    subst h
    rw [H1.out]
    go_wp2_with fail
    refine (specWords_any al cl xs 4 _ hal).mono ?_
    rintro e w1 ⟨rfl, h⟩
    subst h
    rw [H2.out]
    go_wp2_with fail
    refine (specIn_h ow (-1) (nodes - 1) _).mono ?_
    rintro e w1 ⟨rfl, h⟩
    subst h
    rw [H3.out]
    go_wp2_with fail
    refine (specIn_h wh 0 (nodes - 1) _).mono ?_
    rintro e w1 ⟨rfl, h⟩
    subst h
    rw [H5.out]
    go_wp2
    go_ret
    exact ⟨ret_bool E.out.symm, bA⟩
  have H5 : Hid (inB wh 0 (nodes - 1) = true) := h5
  clear h5
  cases h6 : inB ak 0 nodes
  case false =>
    have H6 : Hid (inB ak 0 nodes = false) := h6
    clear h6
    have E : Hid (homeB nodes ow wh ak xs nr ws = false) := by show _ = _; unfold homeB; rw [H1.out, H2.out, H3.out, H4.out, H5.out, H6.out]; simp
    go_enter Tryz.func73, Tryz.ntmps73
    go_wp2_with fail
    refine (specIn_h nodes 1 4 _).mono ?_
    rintro e w1 ⟨rfl, h⟩
    subst h
    rw [H1.out]
    go_wp2_with fail
    refine (specWords_any al cl xs 4 _ hal).mono ?_
    rintro e w1 ⟨rfl, h⟩
    subst h
    rw [H2.out]
    go_wp2_with fail
    refine (specIn_h ow (-1) (nodes - 1) _).mono ?_
    rintro e w1 ⟨rfl, h⟩
    subst h
    rw [H3.out]
    go_wp2_with fail
    refine (specIn_h wh 0 (nodes - 1) _).mono ?_
    rintro e w1 ⟨rfl, h⟩
    subst h
    rw [H5.out]
    go_wp2_with fail
    refine (specIn_h ak 0 nodes _).mono ?_
    rintro e w1 ⟨rfl, h⟩
    subst h
    rw [H6.out]
    go_wp2
    go_ret
    exact ⟨ret_bool E.out.symm, bA⟩
  have H6 : Hid (inB ak 0 nodes = true) := h6
  clear h6
  cases h7 : decide (ws.length ≤ 12)
  case false =>
    have H7 : Hid (decide (ws.length ≤ 12) = false) := h7
    clear h7
    have E : Hid (homeB nodes ow wh ak xs nr ws = false) := by show _ = _; unfold homeB; rw [H1.out, H2.out, H3.out, H4.out, H5.out, H6.out, H7.out]; simp
    have g5 : (12 : Int) < (nq : Int) := by have := of_decide_eq_false H7.out; have := HQ.out; omega
    go_enter Tryz.func73, Tryz.ntmps73
    go_wp2_with fail
    refine (specIn_h nodes 1 4 _).mono ?_
    rintro e w1 ⟨rfl, h⟩
    subst h
    rw [H1.out]
    go_wp2_with fail
    refine (specWords_any al cl xs 4 _ hal).mono ?_
    rintro e w1 ⟨rfl, h⟩
    subst h
    rw [H2.out]
    go_wp2_with fail
    refine (specIn_h ow (-1) (nodes - 1) _).mono ?_
    rintro e w1 ⟨rfl, h⟩
    subst h
    rw [H3.out]
    go_wp2_with fail
    refine (specIn_h wh 0 (nodes - 1) _).mono ?_
    rintro e w1 ⟨rfl, h⟩
    subst h
    rw [H5.out]
    go_wp2_with fail
    refine (specIn_h ak 0 nodes _).mono ?_
    rintro e w1 ⟨rfl, h⟩
    subst h
    rw [H6.out]
    go_wp2
    go_ret
    exact ⟨ret_bool E.out.symm, bA⟩
  have H7 : Hid (decide (ws.length ≤ 12) = true) := h7
  clear h7
  have g5 : (nq : Int) ≤ 12 := by have := of_decide_eq_true H7.out; have := HQ.out; omega
  have EE : Hid (homeB nodes ow wh ak xs nr ws = ws.all (fun p => inB p.1 0 (nodes - 1))) := by show _ = _; unfold homeB; rw [H1.out, H2.out, H3.out, H4.out, H5.out, H6.out, H7.out]; simp
  go_enter Tryz.func73, Tryz.ntmps73
  go_wp2_with fail
  refine (specIn_h nodes 1 4 _).mono ?_
  rintro e w1 ⟨rfl, h⟩
  subst h
  rw [H1.out]
  go_wp2_with fail
  refine (specWords_any al cl xs 4 _ hal).mono ?_
  rintro e w1 ⟨rfl, h⟩
  subst h
  rw [H2.out]
  go_wp2_with fail
  refine (specIn_h ow (-1) (nodes - 1) _).mono ?_
  rintro e w1 ⟨rfl, h⟩
  subst h
  rw [H3.out]
  go_wp2_with fail
  refine (specIn_h wh 0 (nodes - 1) _).mono ?_
  rintro e w1 ⟨rfl, h⟩
  subst h
  rw [H5.out]
  go_wp2_with fail
  refine (specIn_h ak 0 nodes _).mono ?_
  rintro e w1 ⟨rfl, h⟩
  subst h
  rw [H6.out]
  go_wp2
  go_loopw [5] (fun i wr => ∃ k : Nat, k ≤ nq ∧ i = .int .i64 k ∧ (ws.take k).all (fun p => inB p.1 0 (nodes - 1)) = true ∧ wr = w.alloc (.cells #[.slice al xs.length cl, .int .i64 ow, .slice ar nr cr, .bool bz, .int .i64 wh, .bool wo, .int .i64 ak, .slice aq nq cq] 93)) (fun i _ => nq - (intOf i).toNat)
  case atStart => exact ⟨0, Nat.zero_le _, rfl, by simp, rfl⟩
  case round =>
    obtain ⟨k, hk, rfl, hok, rfl⟩ := hrel
    have HOK : Hid ((ws.take k).all (fun p => inB p.1 0 (nodes - 1)) = true) := hok
    clear hok
    by_cases hlt : k < nq
    · have hi : (k : Int) < (nq : Int) := by omega
      have HK : Hid (k < ws.length) := by show _ < _; have := HQ.out; omega
      obtain ⟨b, off, rfl, y0, y1⟩ := haq.wait k HK.out
      obtain ⟨pk, qk, hpk⟩ : ∃ i o, ws.getD k (0, false) = (i, o) := ⟨_, _, rfl⟩
      have HP : Hid (ws.getD k (0, false) = (pk, qk)) := hpk
      rw [hpk] at y0 y1
      clear hpk
      cases hb : inB pk 0 (nodes - 1)
      · have HB : Hid (inB pk 0 (nodes - 1) = false) := hb
        clear hb
        have HF : Hid (homeB nodes ow wh ak xs nr ws = false) := waits_bad nodes ow wh ak xs nr ws HK.out (by rw [HP.out]; exact HB.out)
        go_wp2_with fail
        refine (specIn_h _ 0 (nodes - 1) _).mono ?_
        rintro e w1 ⟨rfl, h⟩
        subst h
        rw [HB.out]
        go_wp2
        go_ret
        exact ⟨ret_bool HF.out.symm, bA⟩
      · have HB : Hid (inB pk 0 (nodes - 1) = true) := hb
        clear hb
        have HT : Hid ((ws.take (k + 1)).all (fun p => inB p.1 0 (nodes - 1)) = true) := waits_take nodes ws HK.out HOK.out (by rw [HP.out]; exact HB.out)
        go_wp2_with fail
        refine (specIn_h _ 0 (nodes - 1) _).mono ?_
        rintro e w1 ⟨rfl, h⟩
        subst h
        rw [HB.out]
        go_wp2
        go_roundw
        case rel => exact ⟨k + 1, by omega, by go_num, HT.out, trivial⟩
        case measure => simp [intOf]; omega
    · have HA : Hid (homeB nodes ow wh ak xs nr ws = true) := by
        show _ = _
        have h := HOK.out
        rw [List.take_of_length_le (by have := HQ.out; omega)] at h
        rw [EE.out, h]
      go_wp2
      go_ret
      exact ⟨ret_bool HA.out.symm, bA⟩

set_option maxRecDepth 100000 in
set_option maxHeartbeats 4000000 in
theorem implHomeOk_any (nodes ow wh ak : Int) (bz wo : Bool) (al ar aq : Option Addr) (cl nr cr cq : Nat) (xs : List Int) (ws : List (Int × Bool)) (w : World) (hnr : nr ≤ 1048577) (hal0 : Row .i64 w al xs) (haq0 : VRow w aq (wv ws)) :
    Calls Tryz.prog 84 #[.agg #[.slice al xs.length cl, .int .i64 ow, .slice ar nr cr, .bool bz, .int .i64 wh, .bool wo, .int .i64 ak, .slice aq ws.length cq], .int .i64 nodes] w fun e w' => e = .returned (.bool (homeB nodes ow wh ak xs nr ws)) ∧ Below w.heap.size w w' := by
  have bA := bel_alloc (Below.refl w.heap.size w) (.cells #[.slice al xs.length cl, .int .i64 ow, .slice ar nr cr, .bool bz, .int .i64 wh, .bool wo, .int .i64 ak, .slice aq ws.length cq] 93)
  have hal := hal0.below bA
  have haq := haq0.below bA
  clear hal0 haq0
  obtain ⟨nq, hnq⟩ : ∃ n, ws.length = n := ⟨_, rfl⟩
  have HQ : Hid (ws.length = nq) := hnq
  have hlq : nq ≤ 140737488351232 := by have := haq.1; rw [wv_length] at this; omega
  rw [hnq] at bA hal haq ⊢
  clear hnq
  have XA := Box.new w #[.slice al xs.length cl, .int .i64 ow, .slice ar nr cr, .bool bz, .int .i64 wh, .bool wo, .int .i64 ak, .slice aq nq cq] 93
  cases h1 : inB nodes 1 4
  case false =>
    have H1 : Hid (inB nodes 1 4 = false) := h1
    clear h1
    have E : Hid (homeB nodes ow wh ak xs nr ws = false) := by show _ = _; unfold homeB; rw [H1.out]; simp
    clear XA
    go_enter Tryz.func84, Tryz.ntmps84
    go_wp2_with fail
    refine (areNodes_h nodes _).mono ?_
    rintro e w1 ⟨rfl, h⟩
    subst h
    rw [H1.out]
    go_wp2
    go_ret
    exact ⟨ret_bool E.out.symm, bA⟩
  have H1 : Hid (inB nodes 1 4 = true) := h1
  clear h1
  obtain ⟨g1, g2⟩ : 1 ≤ nodes ∧ nodes ≤ 4 := of_decide_eq_true H1.out
  cases h2 : decide ((nr : Int) = nodes)
  case false =>
    have H2 : Hid (decide ((nr : Int) = nodes) = false) := h2
    clear h2
    have E : Hid (homeB nodes ow wh ak xs nr ws = false) := by show _ = _; unfold homeB; rw [H2.out]; simp
    clear XA
    have g3 : ¬ ((nr : Int) = nodes) := of_decide_eq_false H2.out
    have g3b : (((nr : Int) == nodes) = false) := by simp; omega
    go_enter Tryz.func84, Tryz.ntmps84
    go_wp2_with fail
    refine (areNodes_h nodes _).mono ?_
    rintro e w1 ⟨rfl, h⟩
    subst h
    rw [H1.out]
    go_wp2
    go_ret
    exact ⟨ret_bool E.out.symm, bA⟩
  have H2 : Hid (decide ((nr : Int) = nodes) = true) := h2
  clear h2
  obtain ⟨g3, g4⟩ : (nr : Int) ≤ nodes ∧ nodes ≤ (nr : Int) := by have := of_decide_eq_true H2.out; omega
  cases h3 : inB ak 0 nodes
  case false =>
    have H3 : Hid (inB ak 0 nodes = false) := h3
    clear h3
    have E : Hid (homeB nodes ow wh ak xs nr ws = false) := by show _ = _; unfold homeB; rw [H3.out]; simp
    clear XA
    have g5 : ¬ (0 ≤ ak ∧ ak ≤ nodes) := of_decide_eq_false H3.out
    by_cases g6 : ak < 0
    · clear g5
      go_enter Tryz.func84, Tryz.ntmps84
      go_wp2_with fail
      refine (areNodes_h nodes _).mono ?_
      rintro e w1 ⟨rfl, h⟩
      subst h
      rw [H1.out]
      go_wp2
      go_ret
      exact ⟨ret_bool E.out.symm, bA⟩
    · have g7 : nodes < ak := by omega
      clear g5
      go_enter Tryz.func84, Tryz.ntmps84
      go_wp2_with fail
      refine (areNodes_h nodes _).mono ?_
      rintro e w1 ⟨rfl, h⟩
      subst h
      rw [H1.out]
      go_wp2
      go_ret
      exact ⟨ret_bool E.out.symm, bA⟩
  have H3 : Hid (inB ak 0 nodes = true) := h3
  clear h3
  obtain ⟨g5, g6⟩ : 0 ≤ ak ∧ ak ≤ nodes := of_decide_eq_true H3.out
  cases h5 : wordsB xs 4
  case false =>
    have H5 : Hid (wordsB xs 4 = false) := h5
    clear h5
    have E : Hid (homeB nodes ow wh ak xs nr ws = false) := by show _ = _; unfold homeB; rw [H5.out]; simp
    go_enter Tryz.func84, Tryz.ntmps84
    go_wp2_with fail
    refine (areNodes_h nodes _).mono ?_
    rintro e w1 ⟨rfl, h⟩
    subst h
    rw [H1.out]
    go_wp2_with fail
    refine (words_any al cl xs _ hal).mono ?_
    rintro e w1 ⟨c0, c1, c2, c3, rfl, hw4, b1⟩
    rw [H5.out]
    clear hw4
    replace XA := XA.below b1
    replace haq := haq.below b1
    have B := bel_trans bA b1
    clear b1 bA hal
    obtain ⟨x0, x1, x2, x3, x4, x5, x6, x7, x8⟩ := at8o XA
    have BA := bel_alloc B (.cells #[.int .i64 c0, .int .i64 c1, .int .i64 c2, .int .i64 c3] 161)
    go_wp2
    go_ret
    exact ⟨ret_bool E.out.symm, BA⟩
  have H5 : Hid (wordsB xs 4 = true) := h5
  clear h5
  cases h6 : decide (ws.length ≤ 12)
  case false =>
    have H6 : Hid (decide (ws.length ≤ 12) = false) := h6
    clear h6
    have E : Hid (homeB nodes ow wh ak xs nr ws = false) := by show _ = _; unfold homeB; rw [H6.out]; simp
    have g7 : (12 : Int) < (nq : Int) := by have := of_decide_eq_false H6.out; have := HQ.out; omega
    go_enter Tryz.func84, Tryz.ntmps84
    go_wp2_with fail
    refine (areNodes_h nodes _).mono ?_
    rintro e w1 ⟨rfl, h⟩
    subst h
    rw [H1.out]
    go_wp2_with fail
    refine (words_any al cl xs _ hal).mono ?_
    rintro e w1 ⟨c0, c1, c2, c3, rfl, hw4, b1⟩
    rw [H5.out]
    clear hw4
    replace XA := XA.below b1
    replace haq := haq.below b1
    have B := bel_trans bA b1
    clear b1 bA hal
    obtain ⟨x0, x1, x2, x3, x4, x5, x6, x7, x8⟩ := at8o XA
    have BA := bel_alloc B (.cells #[.int .i64 c0, .int .i64 c1, .int .i64 c2, .int .i64 c3] 161)
    go_wp2
    go_ret
    exact ⟨ret_bool E.out.symm, BA⟩
  have H6 : Hid (decide (ws.length ≤ 12) = true) := h6
  clear h6
  have g7 : (nq : Int) ≤ 12 := by have := of_decide_eq_true H6.out; have := HQ.out; omega
  cases h7 : inB ow (-1) (nodes - 1)
  case false =>
    have H7 : Hid (inB ow (-1) (nodes - 1) = false) := h7
    clear h7
    have E : Hid (homeB nodes ow wh ak xs nr ws = false) := by show _ = _; unfold homeB; rw [H7.out]; simp
    have g8 : ¬ ow = -1 := by intro h; have := of_decide_eq_false H7.out; omega
    have g8b : ((ow == -1) = false) := by simp; omega
    have H9 : Hid (inB ow 0 (nodes - 1) = false) := by show _ = _; have := of_decide_eq_false H7.out; unfold inB; exact decide_eq_false (by omega)
    go_enter Tryz.func84, Tryz.ntmps84
    go_wp2_with fail
    refine (areNodes_h nodes _).mono ?_
    rintro e w1 ⟨rfl, h⟩
    subst h
    rw [H1.out]
    go_wp2_with fail
    refine (words_any al cl xs _ hal).mono ?_
    rintro e w1 ⟨c0, c1, c2, c3, rfl, hw4, b1⟩
    rw [H5.out]
    clear hw4
    replace XA := XA.below b1
    replace haq := haq.below b1
    have B := bel_trans bA b1
    clear b1 bA hal
    obtain ⟨x0, x1, x2, x3, x4, x5, x6, x7, x8⟩ := at8o XA
    have BA := bel_alloc B (.cells #[.int .i64 c0, .int .i64 c1, .int .i64 c2, .int .i64 c3] 161)
    go_wp2_with fail
    refine (isNode_h ow nodes _ g2).mono ?_
    rintro e w2 ⟨rfl, h⟩
    subst h
    rw [H9.out]
    go_wp2
    go_ret
    exact ⟨ret_bool E.out.symm, BA⟩
  have H7 : Hid (inB ow (-1) (nodes - 1) = true) := h7
  clear h7
  cases h8 : inB wh 0 (nodes - 1)
  case false =>
    have H8 : Hid (inB wh 0 (nodes - 1) = false) := h8
    clear h8
    have E : Hid (homeB nodes ow wh ak xs nr ws = false) := by show _ = _; unfold homeB; rw [H8.out]; simp
    by_cases g8 : ow = -1
    · subst g8
      go_enter Tryz.func84, Tryz.ntmps84
      go_wp2_with fail
      refine (areNodes_h nodes _).mono ?_
      rintro e w1 ⟨rfl, h⟩
      subst h
      rw [H1.out]
      go_wp2_with fail
      refine (words_any al cl xs _ hal).mono ?_
      rintro e w1 ⟨c0, c1, c2, c3, rfl, hw4, b1⟩
      rw [H5.out]
      clear hw4
      replace XA := XA.below b1
      replace haq := haq.below b1
      have B := bel_trans bA b1
      clear b1 bA hal
      obtain ⟨x0, x1, x2, x3, x4, x5, x6, x7, x8⟩ := at8o XA
      have BA := bel_alloc B (.cells #[.int .i64 c0, .int .i64 c1, .int .i64 c2, .int .i64 c3] 161)
      go_wp2_with fail
      refine (isNode_h wh nodes _ g2).mono ?_
      rintro e w2 ⟨rfl, h⟩
      subst h
      rw [H8.out]
      go_wp2
      go_ret
      exact ⟨ret_bool E.out.symm, BA⟩
    · have g8b : ((ow == -1) = false) := by simp; omega
      have H9 : Hid (inB ow 0 (nodes - 1) = true) := by show _ = _; have := of_decide_eq_true H7.out; unfold inB; exact decide_eq_true (by omega)
      go_enter Tryz.func84, Tryz.ntmps84
      go_wp2_with fail
      refine (areNodes_h nodes _).mono ?_
      rintro e w1 ⟨rfl, h⟩
      subst h
      rw [H1.out]
      go_wp2_with fail
      refine (words_any al cl xs _ hal).mono ?_
      rintro e w1 ⟨c0, c1, c2, c3, rfl, hw4, b1⟩
      rw [H5.out]
      clear hw4
      replace XA := XA.below b1
      replace haq := haq.below b1
      have B := bel_trans bA b1
      clear b1 bA hal
      obtain ⟨x0, x1, x2, x3, x4, x5, x6, x7, x8⟩ := at8o XA
      have BA := bel_alloc B (.cells #[.int .i64 c0, .int .i64 c1, .int .i64 c2, .int .i64 c3] 161)
      go_wp2_with fail
      refine (isNode_h ow nodes _ g2).mono ?_
      rintro e w2 ⟨rfl, h⟩
      subst h
      rw [H9.out]
      go_wp2_with fail
      refine (isNode_h wh nodes _ g2).mono ?_
      rintro e w2 ⟨rfl, h⟩
      subst h
      rw [H8.out]
      go_wp2
      go_ret
      exact ⟨ret_bool E.out.symm, BA⟩
  have H8 : Hid (inB wh 0 (nodes - 1) = true) := h8
  clear h8
  have EE : Hid (homeB nodes ow wh ak xs nr ws = ws.all (fun p => inB p.1 0 (nodes - 1))) := by show _ = _; unfold homeB; rw [H1.out, H2.out, H3.out, H5.out, H6.out, H7.out, H8.out]; simp
  by_cases g8 : ow = -1
  · subst g8
    go_enter Tryz.func84, Tryz.ntmps84
    go_wp2_with fail
    refine (areNodes_h nodes _).mono ?_
    rintro e w1 ⟨rfl, h⟩
    subst h
    rw [H1.out]
    go_wp2_with fail
    refine (words_any al cl xs _ hal).mono ?_
    rintro e w1 ⟨c0, c1, c2, c3, rfl, hw4, b1⟩
    rw [H5.out]
    clear hw4
    replace XA := XA.below b1
    replace haq := haq.below b1
    have B := bel_trans bA b1
    clear b1 bA hal
    obtain ⟨x0, x1, x2, x3, x4, x5, x6, x7, x8⟩ := at8o XA
    have BA := bel_alloc B (.cells #[.int .i64 c0, .int .i64 c1, .int .i64 c2, .int .i64 c3] 161)
    go_wp2_with fail
    refine (isNode_h wh nodes _ g2).mono ?_
    rintro e w2 ⟨rfl, h⟩
    subst h
    rw [H8.out]
    have haq2 := haq.below (bel_alloc (Below.refl w1.heap.size w1) (.cells #[.int .i64 c0, .int .i64 c1, .int .i64 c2, .int .i64 c3] 161))
    clear haq
    go_wp2
    go_loopw [65] (fun i wr => ∃ k : Nat, k ≤ nq ∧ i = .int .i64 k ∧ (ws.take k).all (fun p => inB p.1 0 (nodes - 1)) = true ∧ VRow wr aq (wv ws) ∧ Below w.heap.size w wr) (fun i _ => nq - (intOf i).toNat)
    case atStart => exact ⟨0, Nat.zero_le _, rfl, by simp, haq2, BA⟩
    case round =>
      clear haq2 BA B
      obtain ⟨k, hk, rfl, hok, hqr, hB⟩ := hrel
      have HOK : Hid ((ws.take k).all (fun p => inB p.1 0 (nodes - 1)) = true) := hok
      clear hok
      by_cases hlt : k < nq
      · have hi : (k : Int) < (nq : Int) := by omega
        have HK : Hid (k < ws.length) := by show _ < _; have := HQ.out; omega
        obtain ⟨b, off, rfl, y0, y1⟩ := hqr.wait k HK.out
        obtain ⟨pk, qk, hpk⟩ : ∃ i o, ws.getD k (0, false) = (i, o) := ⟨_, _, rfl⟩
        have HP : Hid (ws.getD k (0, false) = (pk, qk)) := hpk
        rw [hpk] at y0 y1
        clear hpk
        have bx := bel_alloc (Below.refl wr.heap.size wr) (.cells #[.int .i64 pk, .bool qk] 90)
        have hq1 := hqr.below bx
        have B1 := bel_trans hB bx
        clear bx hqr hB
        cases hb : inB pk 0 (nodes - 1)
        · have HB : Hid (inB pk 0 (nodes - 1) = false) := hb
          clear hb
          have HF : Hid (homeB nodes (-1) wh ak xs nr ws = false) := waits_bad nodes (-1) wh ak xs nr ws HK.out (by rw [HP.out]; exact HB.out)
          go_wp2_with fail
          refine (isNode_h _ nodes _ g2).mono ?_
          rintro e w2 ⟨rfl, h⟩
          subst h
          rw [HB.out]
          go_wp2
          go_ret
          exact ⟨ret_bool HF.out.symm, B1⟩
        · have HB : Hid (inB pk 0 (nodes - 1) = true) := hb
          clear hb
          have HT : Hid ((ws.take (k + 1)).all (fun p => inB p.1 0 (nodes - 1)) = true) := waits_take nodes ws HK.out HOK.out (by rw [HP.out]; exact HB.out)
          go_wp2_with fail
          refine (isNode_h _ nodes _ g2).mono ?_
          rintro e w2 ⟨rfl, h⟩
          subst h
          rw [HB.out]
          go_wp2
          go_roundw
          case rel => exact ⟨k + 1, by omega, by go_num, HT.out, hq1, B1⟩
          case measure => simp [intOf]; omega
      · have HA : Hid (homeB nodes (-1) wh ak xs nr ws = true) := by
          show _ = _
          have h := HOK.out
          rw [List.take_of_length_le (by have := HQ.out; omega)] at h
          rw [EE.out, h]
        clear hqr
        go_wp2
        go_ret
        exact ⟨ret_bool HA.out.symm, hB⟩
  · have g8b : ((ow == -1) = false) := by simp; omega
    have H9 : Hid (inB ow 0 (nodes - 1) = true) := by show _ = _; have := of_decide_eq_true H7.out; unfold inB; exact decide_eq_true (by omega)
    go_enter Tryz.func84, Tryz.ntmps84
    go_wp2_with fail
    refine (areNodes_h nodes _).mono ?_
    rintro e w1 ⟨rfl, h⟩
    subst h
    rw [H1.out]
    go_wp2_with fail
    refine (words_any al cl xs _ hal).mono ?_
    rintro e w1 ⟨c0, c1, c2, c3, rfl, hw4, b1⟩
    rw [H5.out]
    clear hw4
    replace XA := XA.below b1
    replace haq := haq.below b1
    have B := bel_trans bA b1
    clear b1 bA hal
    obtain ⟨x0, x1, x2, x3, x4, x5, x6, x7, x8⟩ := at8o XA
    have BA := bel_alloc B (.cells #[.int .i64 c0, .int .i64 c1, .int .i64 c2, .int .i64 c3] 161)
    go_wp2_with fail
    refine (isNode_h ow nodes _ g2).mono ?_
    rintro e w2 ⟨rfl, h⟩
    subst h
    rw [H9.out]
    go_wp2_with fail
    refine (isNode_h wh nodes _ g2).mono ?_
    rintro e w2 ⟨rfl, h⟩
    subst h
    rw [H8.out]
    have haq2 := haq.below (bel_alloc (Below.refl w1.heap.size w1) (.cells #[.int .i64 c0, .int .i64 c1, .int .i64 c2, .int .i64 c3] 161))
    clear haq
    go_wp2
    go_loopw [65] (fun i wr => ∃ k : Nat, k ≤ nq ∧ i = .int .i64 k ∧ (ws.take k).all (fun p => inB p.1 0 (nodes - 1)) = true ∧ VRow wr aq (wv ws) ∧ Below w.heap.size w wr) (fun i _ => nq - (intOf i).toNat)
    case atStart => exact ⟨0, Nat.zero_le _, rfl, by simp, haq2, BA⟩
    case round =>
      clear haq2 BA B
      obtain ⟨k, hk, rfl, hok, hqr, hB⟩ := hrel
      have HOK : Hid ((ws.take k).all (fun p => inB p.1 0 (nodes - 1)) = true) := hok
      clear hok
      by_cases hlt : k < nq
      · have hi : (k : Int) < (nq : Int) := by omega
        have HK : Hid (k < ws.length) := by show _ < _; have := HQ.out; omega
        obtain ⟨b, off, rfl, y0, y1⟩ := hqr.wait k HK.out
        obtain ⟨pk, qk, hpk⟩ : ∃ i o, ws.getD k (0, false) = (i, o) := ⟨_, _, rfl⟩
        have HP : Hid (ws.getD k (0, false) = (pk, qk)) := hpk
        rw [hpk] at y0 y1
        clear hpk
        have bx := bel_alloc (Below.refl wr.heap.size wr) (.cells #[.int .i64 pk, .bool qk] 90)
        have hq1 := hqr.below bx
        have B1 := bel_trans hB bx
        clear bx hqr hB
        cases hb : inB pk 0 (nodes - 1)
        · have HB : Hid (inB pk 0 (nodes - 1) = false) := hb
          clear hb
          have HF : Hid (homeB nodes ow wh ak xs nr ws = false) := waits_bad nodes ow wh ak xs nr ws HK.out (by rw [HP.out]; exact HB.out)
          go_wp2_with fail
          refine (isNode_h _ nodes _ g2).mono ?_
          rintro e w2 ⟨rfl, h⟩
          subst h
          rw [HB.out]
          go_wp2
          go_ret
          exact ⟨ret_bool HF.out.symm, B1⟩
        · have HB : Hid (inB pk 0 (nodes - 1) = true) := hb
          clear hb
          have HT : Hid ((ws.take (k + 1)).all (fun p => inB p.1 0 (nodes - 1)) = true) := waits_take nodes ws HK.out HOK.out (by rw [HP.out]; exact HB.out)
          go_wp2_with fail
          refine (isNode_h _ nodes _ g2).mono ?_
          rintro e w2 ⟨rfl, h⟩
          subst h
          rw [HB.out]
          go_wp2
          go_roundw
          case rel => exact ⟨k + 1, by omega, by go_num, HT.out, hq1, B1⟩
          case measure => simp [intOf]; omega
      · have HA : Hid (homeB nodes ow wh ak xs nr ws = true) := by
          show _ = _
          have h := HOK.out
          rw [List.take_of_length_le (by have := HQ.out; omega)] at h
          rw [EE.out, h]
        clear hqr
        go_wp2
        go_ret
        exact ⟨ret_bool HA.out.symm, hB⟩
end Go.Proofs.YtpfppeifppdmbaaGreat
