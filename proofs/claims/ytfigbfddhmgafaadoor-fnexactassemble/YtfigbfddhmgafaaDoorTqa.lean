/- What impl's linesOf, wordRead and Assemble answer. -/
import Derived.Test.YtfigbfddhmgafaaDoorTq9
import Derived.Test.YtfigbfddhmgafaaDoorTx9
namespace Go.Proofs.YtfigbfddhmgafaaDoor
open Go.RowKit
set_option linter.unusedVariables false

/-- The word of a line, as the specification reads it, and whether it is one. -/
def wdB (s : List UInt8) : Bool := rowOk s
def wdV (s : List UInt8) : Int := if wdB s then rowV s else 0
theorem row_ins {s : List UInt8} (h : rdB s = true) : ∃ op r a b n : Int, rdV s = icells op r a b n ∧ insB op r a b n = true ∧ rowV s = codeW op r a b n := by
  obtain ⟨hi, _⟩ := rd_sound h
  refine ⟨_, _, _, _, _, by unfold rdV; rw [h]; rfl, hi, ?_⟩
  unfold rowV
  rw [h, hi]
  rfl
theorem row_num {s : List UInt8} (h : rdB s = false) : wdB s = nrB s ∧ wdV s = nrV s := by
  have e : rowV s = numV s := by unfold rowV; rw [h]; rfl
  have e2 : wdB s = nrB s := by unfold wdB rowOk nrB; rw [e]
  exact ⟨e2, by unfold wdV nrV; rw [e2, e]⟩

theorem code_in {op r a b n : Int} (h : insB op r a b n = true) : inB (codeW op r a b n) 0 65535 = true := by
  obtain ⟨ho, ⟨r0, r1⟩, ⟨a0, a1⟩, ⟨b0, b1⟩, ⟨n0, n1⟩⟩ := ins_bounds h
  have := op_cases ho
  unfold codeW inB
  simp
  omega
theorem owns_frontT {w : World} {base e n c m : Nat} {a : Option Addr} {xs : List Value} (h : w.ownsRow base e 1 (.slice a n c) n xs) (hm : m ≤ n) (h0 : 0 < n) : w.ownsRow base e 1 (.slice a m c) m (xs.take m) := by
  rcases h.2 with ⟨h1, h2⟩ | ⟨g, cap, cur, h1, hb, hg, hnc, hcm, hcs, ht⟩
  · omega
  · simp only [Value.slice.injEq] at h1
    obtain ⟨rfl, _, rfl⟩ := h1
    refine ⟨by rw [List.length_take, h.1]; omega, .inr ⟨g, c, cur, rfl, hb, hg, by omega, hcm, hcs, ?_⟩⟩
    rw [← ht, List.take_take]
    congr 1
    omega

set_option maxRecDepth 100000 in
set_option maxHeartbeats 4000000 in
theorem linesOf_any (s : List UInt8) (w : World) (hs : s.length ≤ 1048576) : Calls Tryd.prog 34 #[txt s] w fun e w' => ∃ a c, e = .returned (.slice a (rowsA [] s).length c) ∧ w'.ownsRow w.heap.size 9 1 (.slice a (rowsA [] s).length c) (rowsA [] s).length ((rowsA [] s).map txt) ∧ Below w.heap.size w w' := by
  have HR := rows_parts [] s
  obtain ⟨R, hR⟩ : ∃ R, rowsA [] s = R := ⟨_, rfl⟩
  rw [hR] at HR ⊢
  clear hR
  go_enter Tryd.func34, Tryd.ntmps34
  go_wp2_with fail
  refine (partsOf_any 10 10 rfl (by omega) s _ hs).mono ?_
  rintro e w1 ⟨ap, cp, rfl, O, B⟩
  have hl0 := parts_pos 10 [] s
  have hl1 : (partsA 10 [] s).length ≤ 1048577 := by have := parts_len 10 [] s; omega
  obtain ⟨W, hW⟩ : ∃ W, partsA 10 [] s = W := ⟨_, rfl⟩
  rw [hW] at O HR hl0 hl1 ⊢
  clear hW
  obtain ⟨hcap, hcm⟩ := owns_capT O
  unfold maxLen at hcm
  obtain ⟨g, cap, hv, hgl, hgz⟩ := O.form (by omega)
  simp only [Value.slice.injEq, true_and] at hv
  obtain ⟨rfl, rfl⟩ := hv
  clear hgz
  obtain ⟨n, hn⟩ : ∃ n, W.length = n + 1 := ⟨W.length - 1, by omega⟩
  obtain ⟨u, hu⟩ : ∃ u, W.getD n [] = u := ⟨_, rfl⟩
  have q0 : w1.cell? ⟨g, n, none⟩ = some (txt u) := by
    rw [O.cellAt n (by omega), List.getElem?_map, List.getElem?_eq_getElem (by omega), ← hu, List.getD_eq_getElem?_getD, List.getElem?_eq_getElem (by omega)]
    rfl
  have hlast : W.getLastD [] = u := by
    rw [← hu, List.getLastD_eq_getLast?, List.getLast?_eq_getElem?, hn]
    rw [List.getD_eq_getElem?_getD]
    rfl
  rw [hlast] at HR
  have HO : Hid (w1.ownsRow w.heap.size 9 1 (.slice (some ⟨g, 0, none⟩) W.length cp) W.length (W.map txt)) := O
  have HH : Hid (u = [] ∧ R = W.dropLast ∨ u ≠ [] ∧ R = W) := HR
  have HN : Hid (W.length = n + 1) := hn
  rw [hn]
  clear O HR hn hu hlast
  have hcap2 : n + 1 ≤ cp := by have := HN.out; omega
  clear hcap
  have hl2 : n ≤ 1048576 := by have := HN.out; omega
  clear hl1 hl0
  by_cases hue : u = []
  · have HW : Hid (R = W.dropLast) := by
      rcases HH.out with h | h
      · exact h.2
      · exact absurd hue h.1
    have hem : (u == ([] : List UInt8)) = true := by rw [hue]; rfl
    have hie : u.isEmpty = true := by rw [hue]; rfl
    have HL : Hid (R.length = n) := by show _ = _; rw [HW.out, List.length_dropLast, HN.out]; rfl
    have HF : Hid (w1.ownsRow w.heap.size 9 1 (.slice (some ⟨g, 0, none⟩) n cp) n (R.map txt)) := by
      have h := owns_frontT (m := n) HO.out (by have := HN.out; omega) (by have := HN.out; omega)
      rw [← List.map_take] at h
      rw [HW.out, List.dropLast_eq_take, HN.out]
      exact h
    clear hue
    go_wp2
    go_ret
    rw [HL.out]
    exact ⟨_, _, rfl, HF.out, B⟩
  · have HW : Hid (R = W) := by
      rcases HH.out with h | h
      · exact absurd h.1 hue
      · exact h.2
    have hie : u.isEmpty = false := by
      cases u with
      | nil => exact absurd rfl hue
      | cons x t => rfl
    have HL : Hid (R.length = n + 1) := by show _ = _; rw [HW.out, HN.out]
    have HF : Hid (w1.ownsRow w.heap.size 9 1 (.slice (some ⟨g, 0, none⟩) (n + 1) cp) (n + 1) (R.map txt)) := by
      have h := HO.out
      rw [HN.out] at h
      rw [HW.out]
      exact h
    clear hue
    go_wp2
    go_ret
    rw [HL.out]
    exact ⟨_, _, rfl, HF.out, B⟩

set_option maxRecDepth 100000 in
set_option maxHeartbeats 4000000 in
theorem wordRead_any (s : List UInt8) (w : World) (hs : s.length ≤ 1048576) : Calls Tryd.prog 35 #[txt s] w fun e w' => e = .returned (.tuple #[.int .i64 (wdV s), .bool (wdB s)]) ∧ Below w.heap.size w w' := by
  have HI : Hid (∀ V, Calls Tryd.prog 10 #[txt s] V fun e w' => e = .returned (.tuple #[.agg (rdV s), .bool (rdB s)]) ∧ Below V.heap.size V w') := fun V => implInsRead_any s V hs
  cases hz : rdB s
  · have hv := rd_off hz
    rw [hz, hv] at HI
    obtain ⟨e1, e2⟩ := row_num hz
    rw [e1, e2]
    clear hz hv e1 e2
    go_enter Tryd.func35, Tryd.ntmps35
    go_wp2_with fail
    refine (HI.out _).mono ?_
    rintro e w1 ⟨rfl, B⟩
    replace B := bel_alloc B (.cells (icells 0 0 0 0 0) 25)
    go_wp2_with fail
    refine (numberRead_any s _ hs).mono ?_
    rintro e w2 ⟨rfl, b2⟩
    replace B := bel_trans B b2
    clear b2
    go_wp2
    go_ret2
    exact ⟨rfl, B⟩
  · obtain ⟨op, r, a, b, n, hv, hi, hr⟩ := row_ins hz
    rw [hz, hv] at HI
    have HW : Hid (wdB s = true ∧ wdV s = codeW op r a b n) := by
      have e : wdB s = true := by unfold wdB rowOk; rw [hr]; exact code_in hi
      exact ⟨e, by unfold wdV; rw [e]; exact hr⟩
    have HC : Hid (∀ V, Calls Tryd.prog 44 #[.agg (icells op r a b n)] V fun e w' => e = .returned (.tuple #[.int .i64 (codeW op r a b n), .bool true]) ∧ Below V.heap.size V w') := fun V => by
      have h := implCode_any op r a b n V
      rw [hi] at h
      exact h
    rw [HW.out.1, HW.out.2]
    clear hz hv hi hr
    obtain ⟨cw, hcw⟩ : ∃ x, codeW op r a b n = x := ⟨_, rfl⟩
    rw [hcw] at HC ⊢
    clear hcw
    go_enter Tryd.func35, Tryd.ntmps35
    go_wp2_with fail
    refine (HI.out _).mono ?_
    rintro e w1 ⟨rfl, B⟩
    have X := Box.new w1 (icells op r a b n) 25
    replace B := bel_alloc B (.cells (icells op r a b n) 25)
    obtain ⟨x0, x1, x2, x3, x4, xz⟩ := X.at5i
    go_wp2_with fail
    refine (HC.out _).mono ?_
    rintro e w2 ⟨rfl, b2⟩
    replace B := bel_trans B b2
    clear b2 x0 x1 x2 x3 x4 xz
    go_wp2
    go_ret2
    exact ⟨rfl, B⟩
end Go.Proofs.YtfigbfddhmgafaaDoor
