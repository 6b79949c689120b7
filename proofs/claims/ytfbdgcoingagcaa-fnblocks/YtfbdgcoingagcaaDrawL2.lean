/- What DrawBlockOk, DrawPageOf, DrawAt, DrawBlockOf draw (written by mkdl2.py). -/
import Derived.Test.YtfbdgcoingagcaaDrawL
namespace Go.Proofs.Ytfbdgcoingagcaa
open Go.RowKit
set_option linter.unusedVariables false

theorem row_takeN {k : IntKind} {w : World} {a : Option Addr} {xs : List Int} (h : Row k w a xs) (m : Nat) : Row k w a (xs.take m) := by
  refine ⟨by have := h.1; simp; omega, fun i hi => ?_⟩
  rw [List.length_take] at hi
  obtain ⟨b, off, e, hc⟩ := h.2 i (by omega)
  refine ⟨b, off, e, ?_⟩
  rw [hc]
  congr 2
  simp [List.getD_eq_getElem?_getD, show i < m by omega]
/-- A drawn block behind a call. -/
def BlkO (w : World) (st : Int) (ab : Option Addr) (cb nb : Nat) (d : Nat → XD) (w' : World) : Prop := nb ≤ 5 ∧ IOw w' w.heap.size ab cb nb d ∧ Below w.heap.size w w'
theorem DB.blk {w0 w1 w2 : World} {a : Option Addr} {n ca nb cb : Nat} {ab : Option Addr} {d : Nat → XD} {st : Int} {r : Nat} (h : DB w1 w2 r a n ca nb ab cb d) (b : Below w0.heap.size w0 w1) (hr : w0.heap.size ≤ r) : BlkO w0 st ab cb nb d w2 :=
  ⟨h.l, owns_base h.o b.size, b.grown h.gr b.size (fun j hj => by simp at hj; omega)⟩
theorem BlkO.set {w w' : World} {st : Int} {ab : Option Addr} {cb nb : Nat} {d : Nat → XD} (h : BlkO w st ab cb nb d w') (x : Addr) (u : Value) (hx : w.heap.size ≤ x.block) (hn : ∀ j, (Value.slice ab nb cb).ownBlock = some j → x.block ≠ j) : BlkO w st ab cb nb d (w'.setCell x u) :=
  ⟨h.1, owns_setCell h.2.1 hn _, bel_setCell h.2.2 _ _ hx⟩

set_option maxRecDepth 100000 in
set_option maxHeartbeats 1000000 in
theorem dDrawBlockOk_any (a : Option Addr) (ca : Nat) (bs : List Int) (w : World) (ha : Row .u8 w a bs) :
    Calls Try.prog 13 #[.slice a bs.length ca] w fun e w' => ∃ st ab cb nb d, e = .returned (.agg #[.int .i64 st, .slice ab nb cb]) ∧ BlkO w st ab cb nb d w' := by
  have hlt := ha.far
  have b0 := bel_alloc (Below.refl w.heap.size w) (.cells #[.int .i64 0, .slice none 0 0] 29)
  have Z := Box.new w #[.int .i64 0, .slice none 0 0] 29
  go_enter Try.func13, Try.ntmps13
  go_wp2_with fail
  refine (l1New_any a ca bs _ (ha.below b0)).mono ?_
  rintro e w1 ⟨rfl, c1, b1⟩
  have e1 : (w.alloc (.cells #[.int .i64 0, .slice none 0 0] 29)).heap.size = w.heap.size + 1 := by simp
  rw [e1] at c1
  have z1 := c1.lt
  have HNE : Hid (0 < bs.length → ∀ x, a = some x → x.block ≠ w.heap.size + 1) := fun h0 x hx => by have := hlt h0 x hx; omega
  have HA : Hid (Row .u8 w1 a bs) := (ha.below b0).below b1
  have B1 : Hid (Below w.heap.size w w1) := bel_trans b0 b1
  have Z1 := Z.below b1
  clear ha hlt b0 b1 Z e1
  go_wp2_with fail
  refine (l10Draw_any (w.heap.size + 1) a ca bs _ c1 HA.out HNE.out).mono ?_
  rintro e w2 ⟨st, ab, cb, nb, d, rfl, D2⟩
  have Z2 := Z1.kept D2.gr (fun j hj => by simp at hj; omega)
  have HQ : Hid (BlkO w st ab cb nb d w2) := D2.blk B1.out (by omega)
  have lo : Hid (∀ j, (Value.slice ab nb cb).ownBlock = some j → w.heap.size < j) := fun j hj => by have := (World.ownsRow.lt D2.o j hj).1; have := Z1.lt; omega
  obtain ⟨y0, y1, yz⟩ := Z2.at2
  have f0 := Z2.frozen 0
  have f1 := Z2.frozen 1
  clear Z1 Z2 D2 c1
  go_wp2
  refine bodyPost_ret (v := .agg #[.int .i64 st, .slice ab nb cb]) (by simp [results, Try.results13, go_sem, y0, y1]) rfl ⟨st, ab, cb, nb, d, rfl, ?_⟩
  exact (HQ.out.set _ _ (by simp) (fun j hj => by have := lo.out j hj; simp; omega)).set _ _ (by simp) (fun j hj => by have := lo.out j hj; simp; omega)

set_option maxRecDepth 100000 in
set_option maxHeartbeats 1000000 in
theorem dDrawPageOf_any (a : Option Addr) (ca : Nat) (bs : List Int) (w : World) (ha : Row .u8 w a bs) :
    Calls Try.prog 17 #[.slice a bs.length ca] w fun e w' => ∃ st ab cb nb d, e = .returned (.agg #[.int .i64 st, .slice ab nb cb]) ∧ BlkO w st ab cb nb d w' := by
  have hlt := ha.far
  have b0 := bel_alloc (Below.refl w.heap.size w) (.cells #[.int .i64 0, .slice none 0 0] 29)
  have Z := Box.new w #[.int .i64 0, .slice none 0 0] 29
  go_enter Try.func17, Try.ntmps17
  go_wp2_with fail
  refine (l1New_any a ca bs _ (ha.below b0)).mono ?_
  rintro e w1 ⟨rfl, c1, b1⟩
  have e1 : (w.alloc (.cells #[.int .i64 0, .slice none 0 0] 29)).heap.size = w.heap.size + 1 := by simp
  rw [e1] at c1
  have z1 := c1.lt
  have HNE : Hid (0 < bs.length → ∀ x, a = some x → x.block ≠ w.heap.size + 1) := fun h0 x hx => by have := hlt h0 x hx; omega
  have HA : Hid (Row .u8 w1 a bs) := (ha.below b0).below b1
  have B1 : Hid (Below w.heap.size w w1) := bel_trans b0 b1
  have Z1 := Z.below b1
  clear ha hlt b0 b1 Z e1
  go_wp2_with fail
  refine (l10Draw_any (w.heap.size + 1) a ca bs _ c1 HA.out HNE.out).mono ?_
  rintro e w2 ⟨st, ab, cb, nb, d, rfl, D2⟩
  have Z2 := Z1.kept D2.gr (fun j hj => by simp at hj; omega)
  have HQ : Hid (BlkO w st ab cb nb d w2) := D2.blk B1.out (by omega)
  have lo : Hid (∀ j, (Value.slice ab nb cb).ownBlock = some j → w.heap.size < j) := fun j hj => by have := (World.ownsRow.lt D2.o j hj).1; have := Z1.lt; omega
  obtain ⟨y0, y1, yz⟩ := Z2.at2
  have f0 := Z2.frozen 0
  have f1 := Z2.frozen 1
  clear Z1 Z2 D2 c1
  go_wp2
  refine bodyPost_ret (v := .agg #[.int .i64 st, .slice ab nb cb]) (by simp [results, Try.results17, go_sem, y0, y1]) rfl ⟨st, ab, cb, nb, d, rfl, ?_⟩
  exact (HQ.out.set _ _ (by simp) (fun j hj => by have := lo.out j hj; simp; omega)).set _ _ (by simp) (fun j hj => by have := lo.out j hj; simp; omega)

set_option maxRecDepth 100000 in
set_option maxHeartbeats 1000000 in
theorem dDrawAt_any (a : Option Addr) (ca : Nat) (bs : List Int) (w : World) (ha : Row .u8 w a bs) :
    Calls Try.prog 14 #[.slice a bs.length ca] w fun e w' => ∃ st ab cb nb d pc, e = .returned (.tuple #[.agg #[.int .i64 st, .slice ab nb cb], .int .i64 pc]) ∧ BlkO w st ab cb nb d w' := by
  have hlt := ha.far
  have b0 := bel_alloc (Below.refl w.heap.size w) (.cells #[.int .i64 0, .slice none 0 0] 29)
  have Z := Box.new w #[.int .i64 0, .slice none 0 0] 29
  go_enter Try.func14, Try.ntmps14
  go_wp2_with fail
  refine (l1New_any a ca bs _ (ha.below b0)).mono ?_
  rintro e w1 ⟨rfl, c1, b1⟩
  have e1 : (w.alloc (.cells #[.int .i64 0, .slice none 0 0] 29)).heap.size = w.heap.size + 1 := by simp
  rw [e1] at c1
  have z1 := c1.lt
  have HNE : Hid (0 < bs.length → ∀ x, a = some x → x.block ≠ w.heap.size + 1) := fun h0 x hx => by have := hlt h0 x hx; omega
  have HA : Hid (Row .u8 w1 a bs) := (ha.below b0).below b1
  have B1 : Hid (Below w.heap.size w w1) := bel_trans b0 b1
  have Z1 := Z.below b1
  clear ha hlt b0 b1 Z e1
  go_wp2_with fail
  refine (l10Draw_any (w.heap.size + 1) a ca bs _ c1 HA.out HNE.out).mono ?_
  rintro e w2 ⟨st, ab, cb, nb, d, rfl, D2⟩
  have hz2 := D2.gr.size
  have b2 := bel_alloc (Below.refl w2.heap.size w2) (.cells #[.int .i64 st, .slice ab nb cb] 29)
  have XB := Box.new w2 #[.int .i64 st, .slice ab nb cb] 29
  have Z2 := (Z1.kept D2.gr (fun j hj => by simp at hj; omega)).below b2
  have lo : Hid (∀ j, (Value.slice ab nb cb).ownBlock = some j → w.heap.size + 1 < j) := fun j hj => by have := (World.ownsRow.lt D2.o j hj).1; omega
  have Q2 := D2.blk (st := st) B1.out (by omega)
  have HQ2 : Hid (BlkO w st ab cb nb d _) := ⟨Q2.1, Q2.2.1.below b2, bel_trans Q2.2.2 b2⟩
  have HC2 : Hid (Cur _ (w.heap.size + 1) a bs.length ca) := D2.C.below b2
  have HA2 : Hid (Row .u8 _ a bs) := (row_g HA.out D2.gr HNE.out).below b2
  have HQ3 : Hid (∀ w3, (w2.alloc (.cells #[.int .i64 st, .slice ab nb cb] 29)).grownBy w3 (some (w.heap.size + 1)) → BlkO w st ab cb nb d w3) := fun w3 g3 => ⟨HQ2.out.1, owns_ne HQ2.out.2.1 g3 (fun j hj he => by simp at he; have := lo.out j hj; omega), HQ2.out.2.2.grown g3 HQ2.out.2.2.size (fun j hj => by simp at hj; omega)⟩
  obtain ⟨W2, hW2⟩ : ∃ W, w2.alloc (.cells #[.int .i64 st, .slice ab nb cb] 29) = W := ⟨_, rfl⟩
  have zw : w2.heap.size < W2.heap.size := by rw [← hW2]; simp
  rw [hW2] at XB Z2 HQ2 HC2 HA2 HQ3
  clear D2 Z1 c1 B1 HA Q2 b2
  go_wp2_with fail
  (try rw [hW2])
  obtain ⟨x0, x1, xz⟩ := XB.at2
  obtain ⟨y0, y1, yz⟩ := Z2.at2
  have f0 := Z2.frozen 0
  have f1 := Z2.frozen 1
  have bd : Below W2.heap.size W2 W2.drew := below_drewN (Below.refl _ _) 1
  have HC2d : Hid (Cur W2.drew (w.heap.size + 1) a bs.length ca) := HC2.out.below bd
  have HA2d : Hid (Row .u8 W2.drew a bs) := HA2.out.below bd
  have HQ3d : Hid (∀ w3, W2.drew.grownBy w3 (some (w.heap.size + 1)) → BlkO w st ab cb nb d w3 ∧ Box w3 w2.heap.size #[.int .i64 st, .slice ab nb cb] 29 ∧ Box w3 w.heap.size #[.int .i64 0, .slice none 0 0] 29) := fun w3 g3 => ⟨HQ3.out w3 (grownBy_trans (bel_grown bd) g3), (XB.below bd).kept g3 (fun j hj => by simp at hj; omega), (Z2.below bd).kept g3 (fun j hj => by simp at hj; omega)⟩
  clear XB Z2 bd HC2 HA2 HQ3 HQ2
  go_region_with (go_at_call 34; refine (l1Below_any (w.heap.size + 1) a ca bs 6 _ (by omega) (by omega) HC2d.out HA2d.out HNE.out).mono ?_; rintro e w4 ⟨x, rfl, hx, hC4, g4⟩; have HQ4 : Hid (BlkO w st ab cb nb d w4) := (HQ3d.out w4 g4).1; have XB4 := (HQ3d.out w4 g4).2.1; have Z4 := (HQ3d.out w4 g4).2.2; obtain ⟨x0', x1', xz'⟩ := XB4.at2; obtain ⟨y0', y1', yz'⟩ := Z4.at2; have f0' := Z4.frozen 0; have f1' := Z4.frozen 1; clear hC4 g4 XB4 Z4)
  all_goals
    go_wp2
    refine bodyPost_ret (v := .tuple #[.agg #[.int .i64 st, .slice ab nb cb], .int .i64 (IntKind.i64.wrap (IntKind.i64.wrap (st + x) - 1))]) (by simp [results, Try.results14, go_sem, y0', y1']) rfl ⟨st, ab, cb, nb, d, _, rfl, ?_⟩
    exact (HQ4.out.set _ _ (by simp) (fun j hj => by have := lo.out j hj; simp; omega)).set _ _ (by simp) (fun j hj => by have := lo.out j hj; simp; omega)

set_option maxRecDepth 100000 in
set_option maxHeartbeats 4000000 in
theorem dDrawBlockOf_any (a : Option Addr) (ca : Nat) (bs : List Int) (w : World) (ha : Row .u8 w a bs) :
    Calls Try.prog 9 #[.slice a bs.length ca] w fun e w' => ∃ (ab : Option Addr) (cb : Nat) (ys : List Int) (st : Int), e = .returned (.tuple #[.slice ab ys.length cb, .int .i64 st]) ∧ ys.length ≤ 4 ∧ Row .i64 w' ab ys ∧ Below w.heap.size w w' := by
  have hlt := ha.far
  go_enter Try.func9, Try.ntmps9
  go_wp2_with fail
  refine (l1New_any a ca bs _ ha).mono ?_
  rintro e w1 ⟨rfl, c1, b1⟩
  have z1 := c1.lt
  have HNE : Hid (0 < bs.length → ∀ x, a = some x → x.block ≠ w.heap.size) := fun h0 x hx => by have := hlt h0 x hx; omega
  have HA : Hid (Row .u8 w1 a bs) := ha.below b1
  have HB : Hid (∀ W, w1.grownBy W (some w.heap.size) → Below w.heap.size w W ∧ Row .u8 W a bs) := fun W g => ⟨b1.grown g b1.size (fun j hj => by simp at hj; omega), row_g HA.out g HNE.out⟩
  clear ha hlt b1
  go_wp2_with fail
  refine (l9DrawMem_any w.heap.size a ca bs _ c1 HA.out HNE.out).mono ?_
  rintro e w2 ⟨g, c, xs, rfl, K2⟩
  have HK2 : Hid (DK w1 w2 w.heap.size a bs.length ca xs g c) := K2
  have hcap := K2.cap
  clear K2 c1
  go_wp2_with fail
  refine (l1Below_any w.heap.size a ca bs 12 _ (by omega) (by omega) HK2.out.C (HB.out _ HK2.out.gr).2 HNE.out).mono ?_
  rintro e w3 ⟨q, rfl, hq, hC3, g3⟩
  have HK3 : Hid (DK w1 w3 w.heap.size a bs.length ca xs g c) := HK2.out.grown hC3 g3
  clear HK2 hC3 g3
  by_cases q0 : q = 0
  · subst q0
    go_wp2_with fail
    refine (l1Below_any w.heap.size a ca bs 26 _ (by omega) (by omega) HK3.out.C (HB.out _ HK3.out.gr).2 HNE.out).mono ?_
    rintro e w4 ⟨x, rfl, hx, hC4, g4⟩
    have HK4 : Hid (DK w1 w4 w.heap.size a bs.length ca xs g c) := HK3.out.grown hC4 g4
    have hl := HK4.out.l
    have el : ((xs.drop 1).take 3).length = 3 := by simp; omega
    have hr := HK4.out.part (k := 1) (m := 3) (by omega)
    clear HK3 hC4 g4
    go_wp2
    refine bodyPost_ret (v := .tuple #[.slice (some ⟨g, 1, none⟩) 3 (c - 1), .int .i64 ((x : Int) - 1)]) (by simp [results, Try.results9, go_sem]) rfl ⟨some ⟨g, 1, none⟩, c - 1, (xs.drop 1).take 3, _, by rw [el], by rw [el]; omega, hr, (HB.out _ HK4.out.gr).1⟩
  have e0 : ((q : Int) == 0) = false := by simp; omega
  by_cases q1 : q = 1
  · subst q1
    have bx := bel_alloc (Below.refl w3.heap.size w3) (.cells #[.int .i64 (-1), .int .i64 65536] 3)
    have hrow := row_lit w3 [-1, 65536] (by simp)
    have HK4 : Hid _ := HK3.out.below bx
    have zc := HK3.out.C.lt
    clear bx
    go_wp2_with fail
    refine (l1Pick_any w.heap.size a ca bs (some ⟨w3.heap.size, 0, none⟩) 2 [-1, 65536] _ (by simp) (by simp) hrow (fun x hx => by simp at hx; subst hx; simp; omega) HK4.out.C (HB.out _ HK4.out.gr).2 HNE.out).mono ?_
    rintro e w5 ⟨y, hy, rfl, hC5, g5⟩
    have HK5 : Hid (DK w1 w5 w.heap.size a bs.length ca xs g c) := HK4.out.grown hC5 g5
    have zg := HK5.out.lt
    obtain ⟨uc, hu⟩ := HK5.out.cell (k := 0) (by omega)
    have hf := HK5.out.frozen 0
    have HC6 : Hid (Cur (w5.setCell ⟨g, 0, none⟩ (.int .i64 y)) w.heap.size a bs.length ca) := HK5.out.C.off _ _ (by simp; omega)
    have HG6 : Hid (w1.grownBy (w5.setCell ⟨g, 0, none⟩ (.int .i64 y)) (some w.heap.size)) := gr_off HK5.out.gr _ _ zg.1
    have HO6 : Hid ((w5.setCell ⟨g, 0, none⟩ (.int .i64 y)).ownsRow w1.heap.size 3 1 (.slice (some ⟨g, 0, none⟩) 24 c) 24 ((xs.set 0 y).map (Value.int .i64))) := by
      show World.ownsRow _ _ _ _ _ _ _
      rw [List.map_set]
      exact (HK5.out.o.stored 0 (.int .i64 y)).1
    have hl : (xs.set 0 y).length = 24 := by rw [List.length_set]; exact HK5.out.l
    obtain ⟨zs, hzs⟩ : ∃ zs, xs.set 0 y = zs := ⟨_, rfl⟩
    rw [hzs] at HO6 hl
    clear HK3 HK4 HK5 hC5 g5 hrow hy hzs
    go_wp2_with fail
    refine (l1Below_any w.heap.size a ca bs 26 _ (by omega) (by omega) HC6.out (HB.out _ HG6.out).2 HNE.out).mono ?_
    rintro e w7 ⟨x, rfl, hx, hC7, g7⟩
    have el : (zs.take 4).length = 4 := by simp; omega
    have hr : Row .i64 w7 (some ⟨g, 0, none⟩) (zs.take 4) := row_takeN (owns_row' (k := .i64) (xs := zs) (n := 24) (owns_ne HO6.out g7 (fun j hj he => by simp [Value.ownBlock] at he hj; omega)) (by omega)) 4
    have hB := (HB.out _ (grownBy_trans HG6.out g7)).1
    clear HC6 HG6 HO6 hC7 g7 hu hf
    go_wp2
    refine bodyPost_ret (v := .tuple #[.slice (some ⟨g, 0, none⟩) 4 c, .int .i64 ((x : Int) - 1)]) (by simp [results, Try.results9, go_sem]) rfl ⟨some ⟨g, 0, none⟩, c, zs.take 4, _, by rw [el], by rw [el]; omega, hr, hB⟩
  have e1 : ((q : Int) == 1) = false := by simp; omega
  go_wp2_with fail
  refine (l1Below_any w.heap.size a ca bs 26 _ (by omega) (by omega) HK3.out.C (HB.out _ HK3.out.gr).2 HNE.out).mono ?_
  rintro e w4 ⟨x, rfl, hx, hC4, g4⟩
  have HK4 : Hid (DK w1 w4 w.heap.size a bs.length ca xs g c) := HK3.out.grown hC4 g4
  have hl := HK4.out.l
  have el : ((xs.drop 0).take 4).length = 4 := by simp; omega
  have hr := HK4.out.part (k := 0) (m := 4) (by omega)
  clear HK3 hC4 g4
  go_wp2
  refine bodyPost_ret (v := .tuple #[.slice (some ⟨g, 0, none⟩) 4 c, .int .i64 ((x : Int) - 1)]) (by simp [results, Try.results9, go_sem]) rfl ⟨some ⟨g, 0, none⟩, c, (xs.drop 0).take 4, _, by rw [el], by rw [el]; omega, hr, (HB.out _ HK4.out.gr).1⟩
end Go.Proofs.Ytfbdgcoingagcaa
