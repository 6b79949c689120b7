/- What impl's placeRead answers: the place of an op with the numbers that stand there. -/
import Derived.Test.YtfigbfddhmgafaaDoorTq3
import Derived.Test.YtfigbfddhmgafaaDoorTq5
import Derived.Test.YtfigbfddhmgafaaDoorShelf
namespace Go.Proofs.YtfigbfddhmgafaaDoor
open Go.RowKit
set_option linter.unusedVariables false

/-- The four fields of a place. -/
structure PV where
  r : Int
  a : Int
  b : Int
  n : Int
def PV.cells (op : Int) (p : PV) : Array Value := icells op p.r p.a p.b p.n
def PV.set (p : PV) (c : UInt8) (v : Int) : PV := if c = 82 then ⟨v, p.a, p.b, p.n⟩ else if c = 65 then ⟨p.r, v, p.b, p.n⟩ else if c = 66 then ⟨p.r, p.a, v, p.n⟩ else ⟨p.r, p.a, p.b, v⟩
def PV.zero : PV := ⟨0, 0, 0, 0⟩
theorem PV.put (op : Int) (p : PV) (c : UInt8) (v : Int) : (p.cells op).setIfInBounds (ixF c) (.int .i64 v) = (p.set c v).cells op := by
  unfold ixF PV.set PV.cells
  repeat' split
  all_goals simp [icells]
/-- A text without the letter of a register ahead. -/
def trimR (s : List UInt8) : List UInt8 := Lib.trimPrefix s [114]
theorem trimR_le (s : List UInt8) : (trimR s).length ≤ s.length := by
  unfold trimR Lib.trimPrefix
  split
  · simp
  · exact Nat.le_refl _
def plF : List UInt8 → List (List UInt8) → PV → Option PV
  | c :: F, x :: ws, p => if nrB (trimR x) then plF F ws (p.set c (nrV (trimR x))) else none
  | _, _, p => some p
/-- The place of an op with the numbers of those words, where there is one. -/
def plR (op : Int) (ws : List (List UInt8)) : Option PV := if ws.length = (fldT op).length then plF (fldT op) ws PV.zero else none
def plB (op : Int) (ws : List (List UInt8)) : Bool := (plR op ws).isSome
def plV (op : Int) (ws : List (List UInt8)) : Array Value := match plR op ws with
  | some p => p.cells op
  | none => icells 0 0 0 0 0
theorem pl_some {op : Int} {ws : List (List UInt8)} {p : PV} (h : plR op ws = some p) : plB op ws = true ∧ plV op ws = p.cells op := by
  unfold plB plV; rw [h]; exact ⟨rfl, rfl⟩
theorem pl_none {op : Int} {ws : List (List UInt8)} (h : plR op ws = none) : plB op ws = false ∧ plV op ws = icells 0 0 0 0 0 := by
  unfold plB plV; rw [h]; exact ⟨rfl, rfl⟩
theorem drop_get {α : Type} (l : List α) (d : α) (k : Nat) (h : k < l.length) : l.drop k = l.getD k d :: l.drop (k + 1) := by
  rw [(List.getElem_cons_drop h).symm, List.getD_eq_getElem?_getD, List.getElem?_eq_getElem h]
  rfl
theorem plF_bad {F : List UInt8} {ws : List (List UInt8)} {p : PV} {k : Nat} (h1 : k < F.length) (h2 : k < ws.length) (h : nrB (trimR (ws.getD k [])) = false) : plF (F.drop k) (ws.drop k) p = none := by
  rw [drop_get F 0 k h1, drop_get ws [] k h2, plF, h]
  rfl
theorem plF_next {F : List UInt8} {ws : List (List UInt8)} {p : PV} {k : Nat} (h1 : k < F.length) (h2 : k < ws.length) (h : nrB (trimR (ws.getD k [])) = true) : plF (F.drop k) (ws.drop k) p = plF (F.drop (k + 1)) (ws.drop (k + 1)) (p.set (F.getD k 0) (nrV (trimR (ws.getD k [])))) := by
  rw [drop_get F 0 k h1, drop_get ws [] k h2, plF, if_pos h]
theorem plF_end {F : List UInt8} {ws : List (List UInt8)} {p : PV} {k : Nat} (h : F.length ≤ k) : plF (F.drop k) (ws.drop k) p = some p := by
  rw [List.drop_of_length_le h]
  rfl
theorem trimR_any (s : List UInt8) (w : World) : Calls Tryd.prog 43 #[txt s, .string ⟨#[114]⟩] w fun e w' => e = .returned (txt (trimR s)) ∧ w' = w :=
  Tryd.strings_TrimPrefix ⟨s.toArray⟩ ⟨#[114]⟩ w
theorem Box.put1 {w : World} {m i : Nat} {cs : Array Value} {t : TypeId} (h : Box w m cs t) (v : Value) : Box (w.setCell ⟨m, i, none⟩ v) m (cs.setIfInBounds i v) t := heap_setCell_same w m i cs t v h

set_option maxRecDepth 100000 in
set_option maxHeartbeats 4000000 in
theorem placeRead_any (op : Nat) (h1 : 1 ≤ op) (h2 : op ≤ 10) (a : Option Addr) (c : Nat) (ws : List (List UInt8)) (w : World) (hv : VRow w a (ws.map txt)) (hws : ∀ x ∈ ws, x.length ≤ 1048576) (hwl : ws.length ≤ 1048577) :
    Calls Tryd.prog 30 #[.int .i64 op, .slice a ws.length c] w fun e w' => e = .returned (.tuple #[.agg (plV op ws), .bool (plB op ws)]) ∧ Below w.heap.size w w' := by
  obtain ⟨F, hF⟩ : ∃ F, fldT op = F := ⟨_, rfl⟩
  have HF : Hid (fldT op = F) := hF
  have hl4 : F.length ≤ 4 := by rw [← hF]; exact fldT_len _
  have hFs : (⟨F.toArray⟩ : ByteArray).size = F.length := by simp [ByteArray.size]
  obtain ⟨X0, X1⟩ := Box.two w (icells 0 0 0 0 0) (PV.zero.cells op) 25 25
  have B := bel_alloc (bel_alloc (Below.refl w.heap.size w) (.cells (icells 0 0 0 0 0) 25)) (.cells (PV.zero.cells op) 25)
  have HW : Hid (∀ x ∈ ws, x.length ≤ 1048576) := hws
  have HR : Hid (VRow w a (ws.map txt)) := hv
  clear hF hws hv
  go_enter Tryd.func30, Tryd.ntmps30
  go_wp2_with (go_at_call 22; refine (wordingOf_any op h1 h2 _).mono ?_; rintro e w1 ⟨rfl, b1⟩)
  change (?K : Act → World → Prop) (Act.put ?a ?d (txt (fldT op))) ?w
  rw [HF.out]
  replace X0 := X0.below b1
  replace X1 := X1.below b1
  have hz1 : w.heap.size + 2 ≤ w1.heap.size := by have := b1.size; simp at this; omega
  replace B := bel_trans B b1
  clear b1
  by_cases hlen : ws.length = F.length
  · have hi : ((ws.length : Int) == (F.length : Int)) = true := by simp; omega
    have HP : Hid (plR op ws = plF F ws PV.zero) := by show _ = _; unfold plR; rw [HF.out, if_pos hlen]
    have HL : Hid (ws.length = F.length) := hlen
    have HX0 : Hid (Box (w1.iter ⟨F.toArray⟩ 0) w.heap.size (icells 0 0 0 0 0) 25) := X0.below (bel_alloc (Below.refl _ _) _)
    have HX1 : Hid (Box (w1.iter ⟨F.toArray⟩ 0) (w.heap.size + 1) (PV.zero.cells op) 25) := X1.below (bel_alloc (Below.refl _ _) _)
    have HB : Hid (Below w.heap.size w (w1.iter ⟨F.toArray⟩ 0)) := bel_alloc B _
    have HT : Hid ((w1.iter ⟨F.toArray⟩ 0).heap[w1.heap.size]? = some (.stringIter ⟨F.toArray⟩ 0)) := World.iter_heap w1 _ 0
    have HMEM : Hid (∀ c ∈ F, c = 82 ∨ c = 65 ∨ c = 66 ∨ c = 78) := by rw [← HF.out]; exact fun c hc => fldT_mem hc
    clear hlen X0 X1 B
    go_wp2
    have hbn : ((ws.length : Int) != (F.length : Int)) = false := by rw [bne, hi]; rfl
    rw [hbn]
    clear hi hbn
    go_loopw [8] (fun _ wr => ∃ (k : Nat) (p : PV), k ≤ F.length ∧ plF (F.drop k) (ws.drop k) p = plF F ws PV.zero ∧ wr.heap[w1.heap.size]? = some (.stringIter ⟨F.toArray⟩ k) ∧ Box wr (w.heap.size + 1) (p.cells op) 25 ∧ Box wr w.heap.size (icells 0 0 0 0 0) 25 ∧ Below w.heap.size w wr) (fun _ wr => F.length - wr.iterPos w1.heap.size)
    case atStart => exact ⟨0, PV.zero, Nat.zero_le _, rfl, HT.out, HX1.out, HX0.out, HB.out⟩
    case round =>
      obtain ⟨k, p, hk, hpl, hit, X1, X0, B⟩ := hrel
      clear HX0 HX1 HB HT
      have HPL : Hid (plF (F.drop k) (ws.drop k) p = plF F ws PV.zero) := hpl
      have HI : Hid (wr.iterPos w1.heap.size = k) := iterPos_of hit
      clear hpl
      by_cases hkF : k < F.length
      · have hkw : k < ws.length := by have := HL.out; omega
        have hki : (k : Int) < (ws.length : Int) := by omega
        have hp : k < (⟨F.toArray⟩ : ByteArray).size := by rw [hFs]; exact hkF
        have hnx := fun ty => Lib.run_next_any_at (P := Tryd.prog) wr w1.heap.size ⟨F.toArray⟩ k ty hit hp
        obtain ⟨ch, hch⟩ : ∃ x, F.getD k 0 = x := ⟨_, rfl⟩
        have hc4 : ch = 82 ∨ ch = 65 ∨ ch = 66 ∨ ch = 78 := by
          refine HMEM.out ch ?_
          rw [← hch]
          exact mem_at hkF
        have hc128 : ch.toNat < 128 := by rcases hc4 with rfl | rfl | rfl | rfl <;> decide
        have R := rune_at F k hkF
        obtain ⟨hr, hd⟩ := R.small (by rw [hch]; exact hc128)
        rw [hr, hd, hch] at hnx
        clear R hr hd hp
        have hit2 := Lib.iterAt_heap wr w1.heap.size ⟨F.toArray⟩ k (k + 1) hit
        have X02 : Box (wr.iterAt w1.heap.size ⟨F.toArray⟩ (k + 1)) w.heap.size (icells 0 0 0 0 0) 25 := (Lib.iterAt_other wr w1.heap.size w.heap.size ⟨F.toArray⟩ (k + 1) (by omega)).trans X0
        have X12 : Box (wr.iterAt w1.heap.size ⟨F.toArray⟩ (k + 1)) (w.heap.size + 1) (p.cells op) 25 := (Lib.iterAt_other wr w1.heap.size (w.heap.size + 1) ⟨F.toArray⟩ (k + 1) (by omega)).trans X1
        have B2 := Lib.below_iterAt B (show w.heap.size ≤ w1.heap.size by omega) ⟨F.toArray⟩ (k + 1)
        obtain ⟨V, hV⟩ : ∃ V, wr.iterAt w1.heap.size ⟨F.toArray⟩ (k + 1) = V := ⟨_, rfl⟩
        rw [hV] at hnx hit2 X02 X12 B2
        clear hV X0 X1 B hit
        obtain ⟨wd, hwd⟩ : ∃ x, ws.getD k [] = x := ⟨_, rfl⟩
        have hg : ws[k]? = some wd := by rw [← hwd, List.getD_eq_getElem?_getD, List.getElem?_eq_getElem hkw]; rfl
        have hwl2 : wd.length ≤ 1048576 := HW.out wd (List.mem_of_getElem? hg)
        obtain ⟨bb, off, rfl, hcell⟩ := HR.out.2 k (txt wd) (by rw [List.getElem?_map, hg]; rfl)
        have q0 : V.cell? ⟨bb, off + k, none⟩ = some (txt wd) := by
          have h := B2.cell (p := ⟨bb, off + k, none⟩) (lt_of_cell hcell)
          rw [h]
          exact hcell
        have htl : (trimR wd).length ≤ 1048576 := Nat.le_trans (trimR_le wd) hwl2
        have HH : Hid (F.getD k 0 = ch ∧ ws.getD k [] = wd) := ⟨hch, hwd⟩
        clear hg hcell hch hwd hwl2 hc128
        cases hz : nrB (trimR wd)
        · have HV : Hid (plB op ws = false ∧ plV op ws = icells 0 0 0 0 0) := pl_none (by rw [HP.out, ← HPL.out]; exact plF_bad hkF hkw (by rw [HH.out.2]; exact hz))
          have hnv : nrV (trimR wd) = 0 := (nr_bad hz).2
          clear hit2 X12
          go_wp2_with (first | (go_at_call 43; refine (trimR_any _ _).mono ?_; rintro e w9 ⟨rfl, h9⟩; replace h9 := h9.symm; subst h9) | (go_at_call 42; refine (numberRead_any _ _ htl).mono ?_; rintro e w2 ⟨rfl, b2⟩; have Y0 := X02.below b2; obtain ⟨x0, x1, x2, x3, x4, xz⟩ := Y0.at5i; have f0 := Y0.frozen 0; have f1 := Y0.frozen 1; have f2 := Y0.frozen 2; have f3 := Y0.frozen 3; have f4 := Y0.frozen 4; replace B2 := bel_trans B2 b2; clear Y0 b2))
          refine bodyPost_ret (v := .tuple #[.agg (icells 0 0 0 0 0), .bool false]) (by simp [results, Tryd.results30, go_sem, x0, x1, x2, x3, x4]) rfl ⟨by rw [HV.out.1, HV.out.2], ?_⟩
          exact bel_setCell (bel_setCell (bel_setCell (bel_setCell (bel_setCell B2 _ _ (Nat.le_refl _)) _ _ (Nat.le_refl _)) _ _ (Nat.le_refl _)) _ _ (Nat.le_refl _)) _ _ (Nat.le_refl _)
        · have HN : Hid (plF (F.drop (k + 1)) (ws.drop (k + 1)) (p.set ch (nrV (trimR wd))) = plF F ws PV.zero) := by
            have h := plF_next (p := p) hkF hkw (by rw [HH.out.2]; exact hz)
            rw [HH.out.1, HH.out.2] at h
            exact h.symm.trans HPL.out
          obtain ⟨v, hv⟩ : ∃ x, nrV (trimR wd) = x := ⟨_, rfl⟩
          obtain ⟨ix, hix⟩ : ∃ x, ixF ch = x := ⟨_, rfl⟩
          have hfield := fun W => field_any (w.heap.size + 1) ch hc4 W
          have hnum := fun W => numberRead_any (trimR wd) W htl
          have HPUT : Hid ((p.cells op).setIfInBounds ix (.int .i64 v) = (p.set ch v).cells op) := by rw [← hix]; exact PV.put op p ch v
          have HIX : Hid (∃ v0, (p.cells op)[ix]? = some v0) := by
            rw [← hix]
            rcases hc4 with rfl | rfl | rfl | rfl <;> exact ⟨_, rfl⟩
          rw [hix] at hfield
          rw [hv] at HN hnum
          rw [hz] at hnum
          have HNUM : Hid (∀ W, Calls Tryd.prog 42 #[txt (trimR wd)] W fun e w' => e = .returned (.tuple #[.int .i64 v, .bool true]) ∧ Below W.heap.size W w') := hnum
          have HFLD : Hid (∀ W, Calls Tryd.prog 24 #[.pointer (some ⟨w.heap.size + 1, 0, none⟩), .int .i32 ch.toNat] W fun e w' => e = .returned (.pointer (some ⟨w.heap.size + 1, ix, none⟩)) ∧ w' = W) := hfield
          clear hfield hnum hv hix hz htl
          go_wp2_with (first | (go_at_call 43; refine (trimR_any _ _).mono ?_; rintro e w9 ⟨rfl, h9⟩; replace h9 := h9.symm; subst h9) | (go_at_call 42; refine (HNUM.out _).mono ?_; rintro e w2 ⟨rfl, b2⟩; have Y1 := X12.below b2; obtain ⟨v0, hv0⟩ := HIX.out; have xc := Y1.cell ix; rw [hv0] at xc; have fc := Y1.frozen ix) | (go_at_call 24; refine (HFLD.out _).mono ?_; rintro e w9 ⟨rfl, h9⟩; replace h9 := h9.symm; subst h9))
          have hKlt : w1.heap.size < V.heap.size := (Array.getElem?_eq_some_iff.1 hit2).1
          have hit3 : (w2.setCell ⟨w.heap.size + 1, ix, none⟩ (.int .i64 v)).heap[w1.heap.size]? = some (.stringIter ⟨F.toArray⟩ (k + 1)) := by
            rw [Below.heap_setCell _ _ _ _ (show w1.heap.size ≠ w.heap.size + 1 by omega)]
            exact (b2.block _ hKlt).trans hit2
          have Y2 := Y1.put1 (i := ix) (.int .i64 v)
          rw [HPUT.out] at Y2
          have Y0 := (X02.below b2).far ⟨w.heap.size + 1, ix, none⟩ (.int .i64 v) (show w.heap.size ≠ w.heap.size + 1 by omega)
          have B3 := bel_setCell (bel_trans B2 b2) ⟨w.heap.size + 1, ix, none⟩ (.int .i64 v) (show w.heap.size ≤ w.heap.size + 1 by omega)
          go_roundw
          case rel => exact ⟨k + 1, p.set ch v, by omega, HN.out, hit3, Y2, Y0, B3⟩
          case measure => rw [iterPos_of hit3, HI.out]; omega
      · have hkk : k = F.length := by omega
        subst hkk
        have HV : Hid (plB op ws = true ∧ plV op ws = p.cells op) := pl_some (by rw [HP.out, ← HPL.out]; exact plF_end (Nat.le_refl _))
        have hp : ¬ F.length < (⟨F.toArray⟩ : ByteArray).size := by rw [hFs]; exact Nat.lt_irrefl _
        have hnx := fun ty => Lib.run_next_end_at (P := Tryd.prog) wr w1.heap.size ⟨F.toArray⟩ F.length ty hit hp
        obtain ⟨x0, x1, x2, x3, x4, xz⟩ := X0.at5i
        have f0 := X0.frozen 0
        have f1 := X0.frozen 1
        have f2 := X0.frozen 2
        have f3 := X0.frozen 3
        have f4 := X0.frozen 4
        obtain ⟨y0, y1, y2, y3, y4, yz⟩ := Box.at5i (show Box wr (w.heap.size + 1) (icells op p.r p.a p.b p.n) 25 from X1)
        clear hp hit
        go_wp2
        refine bodyPost_ret (v := .tuple #[.agg (icells op p.r p.a p.b p.n), .bool true]) (by simp [results, Tryd.results30, go_sem, x0, x1, x2, x3, x4]) rfl ⟨by rw [HV.out.1, HV.out.2]; rfl, ?_⟩
        exact bel_setCell (bel_setCell (bel_setCell (bel_setCell (bel_setCell B _ _ (Nat.le_refl _)) _ _ (Nat.le_refl _)) _ _ (Nat.le_refl _)) _ _ (Nat.le_refl _)) _ _ (Nat.le_refl _)
  · have hi : ((ws.length : Int) == (F.length : Int)) = false := by simp; omega
    have HP : Hid (plB op ws = false ∧ plV op ws = icells 0 0 0 0 0) := pl_none (by unfold plR; rw [HF.out, if_neg hlen])
    obtain ⟨x0, x1, x2, x3, x4, xz⟩ := X0.at5i
    have f0 := X0.frozen 0
    have f1 := X0.frozen 1
    have f2 := X0.frozen 2
    have f3 := X0.frozen 3
    have f4 := X0.frozen 4
    clear X0 X1 hlen
    go_wp2
    refine bodyPost_ret (v := .tuple #[.agg (icells 0 0 0 0 0), .bool false]) (by simp [results, Tryd.results30, go_sem, x0, x1, x2, x3, x4]) rfl ⟨by rw [HP.out.1, HP.out.2], ?_⟩
    exact bel_setCell (bel_setCell (bel_setCell (bel_setCell (bel_setCell B _ _ (Nat.le_refl _)) _ _ (Nat.le_refl _)) _ _ (Nat.le_refl _)) _ _ (Nat.le_refl _)) _ _ (Nat.le_refl _)
end Go.Proofs.YtfigbfddhmgafaaDoor
