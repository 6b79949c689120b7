/- What the specification's drawing of places does: some place; some word. -/
import Derived.Deep.DeepCutAuto
import Derived.Test.YtkamhinklhcbaaaCur2
import Derived.Test.YtkamhinklhcbaaaDrawM
import Derived.Test.YtkamhinklhcbaaaIn8d
namespace Go.Proofs.Ytkamhinklhcbaaa
open Go.RowKit
set_option linter.unusedVariables false

theorem row_g {w w' : World} {a : Option Addr} {bs : List Int} {r : Nat} (h : Row .u8 w a bs) (g : w.grownBy w' (some r)) (hne : 0 < bs.length → ∀ x, a = some x → x.block ≠ r) : Row .u8 w' a bs := by
  by_cases h0 : 0 < bs.length
  · exact h.kept g (hne h0)
  · obtain rfl : bs = [] := List.eq_nil_of_length_eq_zero (by omega)
    exact Row.nil _ _ _
theorem size_set (w : World) (x : Addr) (u : Value) : (w.setCell x u).heap.size = w.heap.size := by simp
theorem gr_set {w w' : World} {r : Nat} (g : w.grownBy w' (some r)) (x : Addr) (u : Value) (hx : w.heap.size ≤ x.block) : w.grownBy (w'.setCell x u) (some r) :=
  ⟨g.os, g.tape, g.output, by rw [size_set]; exact g.size, fun k hk hr => (Below.heap_setCell w' x u k (by omega)).trans (g.block k hk hr)⟩
/-- Where the drawing of a place stands: the cursor, the place in its box, the answer's box. -/
theorem bel_grown {w w' : World} {row : Option Nat} (b : Below w.heap.size w w') : w.grownBy w' row := ⟨b.os, b.tape, b.output, b.size, fun k hk _ => b.block k hk⟩
structure DI (w : World) (r : Nat) (a : Option Addr) (n ca R A : Nat) (wx : World) : Prop where
  c : Cur wx r a n ca
  x : ∃ op r' a' b' n', Box wx A (icells op r' a' b' n') 38
  z : Box wx R (icells 0 0 0 0 0) 38
  g : w.grownBy wx (some r)
theorem Box.five {wx : World} {A : Nat} {op r a b n : Int} (h : Box wx A (icells op r a b n) 38) (v : Int) :
    Box (wx.setCell ⟨A, 0, none⟩ (.int .i64 v)) A (icells v r a b n) 38 ∧ Box (wx.setCell ⟨A, 1, none⟩ (.int .i64 v)) A (icells op v a b n) 38 ∧ Box (wx.setCell ⟨A, 2, none⟩ (.int .i64 v)) A (icells op r v b n) 38 ∧ Box (wx.setCell ⟨A, 3, none⟩ (.int .i64 v)) A (icells op r a v n) 38 ∧ Box (wx.setCell ⟨A, 4, none⟩ (.int .i64 v)) A (icells op r a b v) 38 :=
  ⟨heap_setCell_same _ _ 0 _ _ _ h, heap_setCell_same _ _ 1 _ _ _ h, heap_setCell_same _ _ 2 _ _ _ h, heap_setCell_same _ _ 3 _ _ _ h, heap_setCell_same _ _ 4 _ _ _ h⟩
theorem DI.below {w : World} {r : Nat} {a : Option Addr} {n ca R A : Nat} {wx w1 : World} (d : DI w r a n ca R A wx) (b : Below wx.heap.size wx w1) : DI w r a n ca R A w1 :=
  ⟨d.c.below b, by obtain ⟨o1, o2, o3, o4, o5, hx⟩ := d.x; exact ⟨o1, o2, o3, o4, o5, hx.below b⟩, d.z.below b, d.g.trans (bel_grown b)⟩
theorem box_back {w : World} {m : Nat} {cs : Array Value} {t : TypeId} {x : Addr} {u : Value} (h : Box (w.setCell x u) m cs t) (hne : m ≠ x.block) : Box w m cs t := (Below.heap_setCell w x u m hne).symm.trans h
theorem cur_far5 {w : World} {r : Nat} {a : Option Addr} {n ca R : Nat} (h : Cur w r a n ca) (hne : r ≠ R) (u0 u1 u2 u3 u4 : Value) : Cur (((((w.setCell ⟨R, 0, none⟩ u0).setCell ⟨R, 1, none⟩ u1).setCell ⟨R, 2, none⟩ u2).setCell ⟨R, 3, none⟩ u3).setCell ⟨R, 4, none⟩ u4) r a n ca := by
  obtain ⟨i, x, hi, hb⟩ := h
  exact ⟨i, x, hi, ((((hb.far _ _ hne).far _ _ hne).far _ _ hne).far _ _ hne).far _ _ hne⟩
/-- One more field is drawn. -/
theorem DI.next {w : World} {r : Nat} {a : Option Addr} {n ca R A : Nat} {wx w1 : World} (d : DI w r a n ca R A wx) (c : Cur w1 r a n ca) (g : wx.grownBy w1 (some r)) (hr : r < w.heap.size) (hR : w.heap.size ≤ R) (hA : w.heap.size ≤ A) (hRA : R ≠ A) (k : Nat) (hk : k < 5) (v : Int) : DI w r a n ca R A (w1.setCell ⟨A, k, none⟩ (.int .i64 v)) := by
  obtain ⟨op, r', a', b', n', hx⟩ := d.x
  have hx1 := hx.kept g (fun j hj e => by simp at hj; omega)
  obtain ⟨f0, f1, f2, f3, f4⟩ := hx1.five v
  obtain ⟨i, h, hi, hb⟩ := c
  refine ⟨⟨i, h, hi, hb.far _ _ (by simp; omega)⟩, ?_, (d.z.kept g (fun j hj e => by simp at hj; omega)).far _ _ (by simpa using hRA), gr_set (d.g.trans g) _ _ hA⟩
  match k, hk with
  | 0, _ => exact ⟨_, _, _, _, _, f0⟩
  | 1, _ => exact ⟨_, _, _, _, _, f1⟩
  | 2, _ => exact ⟨_, _, _, _, _, f2⟩
  | 3, _ => exact ⟨_, _, _, _, _, f3⟩
  | 4, _ => exact ⟨_, _, _, _, _, f4⟩

set_option maxRecDepth 100000 in
set_option maxHeartbeats 4000000 in
theorem l8DrawIns_any (r : Nat) (a : Option Addr) (ca : Nat) (bs : List Int) (w : World) (hC : Cur w r a bs.length ca) (ha : Row .u8 w a bs) (hne : 0 < bs.length → ∀ x, a = some x → x.block ≠ r) :
    Calls Try.prog 101 #[.pointer (some ⟨r, 0, none⟩)] w fun e w' => ∃ op r' a' b' n', e = .returned (.agg (icells op r' a' b' n')) ∧ Cur w' r a bs.length ca ∧ w.grownBy w' (some r) := by
  have zr := hC.lt
  have b0 := bel_alloc (bel_alloc (Below.refl w.heap.size w) (.cells (icells 0 0 0 0 0) 38)) (.cells #[.int .i64 1, .int .i64 1, .int .i64 2, .int .i64 3, .int .i64 3, .int .i64 4, .int .i64 4, .int .i64 5, .int .i64 5, .int .i64 5, .int .i64 6, .int .i64 6, .int .i64 7, .int .i64 8, .int .i64 9, .int .i64 10] 3)
  have hrow := row_lit (w.alloc (.cells (icells 0 0 0 0 0) 38)) [1, 1, 2, 3, 3, 4, 4, 5, 5, 5, 6, 6, 7, 8, 9, 10] (by simp)
  rw [World.size_alloc] at hrow
  go_enter Try.func101, Try.ntmps101
  go_wp2_with fail
  refine (l1Pick_any r a ca bs (some ⟨w.heap.size + 1, 0, none⟩) 16 [1, 1, 2, 3, 3, 4, 4, 5, 5, 5, 6, 6, 7, 8, 9, 10] _ (by simp) (by simp) hrow (fun x hx => by simp at hx; subst hx; simp; omega) (hC.below b0) (ha.below b0) hne).mono ?_
  rintro e w1 ⟨op, hop, rfl, c1, g1⟩
  have Z1 : Box w1 w.heap.size (icells 0 0 0 0 0) 38 := ((Box.new w (icells 0 0 0 0 0) 38).below (bel_alloc (Below.refl _ _) _)).kept g1 (fun j hj e => by simp at hj; omega)
  have G1 : w.grownBy w1 (some r) := ((World.grownBy_alloc w _ (some r)).trans (World.grownBy_alloc _ _ (some r))).trans g1
  have b1 := bel_alloc (Below.refl w1.heap.size w1) (.cells (icells op 0 0 0 0) 38)
  have hz1 : w.heap.size + 1 < w1.heap.size := by have := g1.size; simp at this; omega
  have D1 : DI w r a bs.length ca w.heap.size w1.heap.size (w1.alloc (.cells (icells op 0 0 0 0) 38)) := ⟨c1.below b1, ⟨op, 0, 0, 0, 0, Box.new w1 _ _⟩, Z1.below b1, G1.trans (World.grownBy_alloc _ _ _)⟩
  have HA : Hid (Row .u8 w a bs) := ha
  have HNE : Hid (0 < bs.length → ∀ x, a = some x → x.block ≠ r) := hne
  have HD : Hid (DI w r a bs.length ca w.heap.size w1.heap.size (w1.alloc (.cells (icells op 0 0 0 0) 38))) := D1
  clear b0 hrow hC ha hne c1 g1 Z1 G1 b1 D1
  obtain ⟨x0, x1, x2, x3, x4, xz⟩ := (Box.new w1 (icells op 0 0 0 0) 38).at5i
  go_wp2_with fail
  refine (l8Has_any op _).mono ?_
  rintro e w2 ⟨rfl, b2⟩
  have X2 : Box w2 w1.heap.size (icells op 0 0 0 0) 38 := (Box.new w1 _ _).below b2
  have D2 : Hid (DI w r a bs.length ca w.heap.size w1.heap.size w2) := HD.out.below b2
  have hzw2 : w1.heap.size < w2.heap.size := X2.lt
  clear HD b2 x0 x1 x2 x3 x4 xz
  have hopc : op = 1 ∨ op = 2 ∨ op = 3 ∨ op = 4 ∨ op = 5 ∨ op = 6 ∨ op = 7 ∨ op = 8 ∨ op = 9 ∨ op = 10 := by
    simp at hop
    omega
  clear hop
  rcases hopc with rfl | rfl | rfl | rfl | rfl | rfl | rfl | rfl | rfl | rfl
  · rw [show tab 1 = 9 from rfl]
    have X := X2
    clear X2
    obtain ⟨x0, x1, x2, x3, x4, xz⟩ := X.at5i
    go_wp2_with fail
    refine (l1Below_any r a ca bs 4 _ (by decide) (by decide) D2.out.c (row_g HA.out D2.out.g HNE.out) HNE.out).mono ?_
    rintro e w3 ⟨v1, rfl, _, cw3, gw3⟩
    have hzb : w1.heap.size < w3.heap.size := by have := gw3.size; (try simp at this); omega
    replace X := (X).kept gw3 (fun j hj e => by simp at hj; omega)
    have Ew3 : Hid _ := D2.out.next cw3 gw3 zr (Nat.le_refl _) (by omega) (by omega) 1 (by decide) (v1 : Int)
    clear x0 x1 x2 x3 x4 xz cw3 gw3 D2
    obtain ⟨x0, x1, x2, x3, x4, xz⟩ := X.at5i
    have fz := X.frozen 1
    replace X := X.five (v1 : Int)
    replace X := X.2.1
    go_wp2_with fail
    have bl := bel_alloc (Below.refl (w3.setCell ⟨w1.heap.size, 1, none⟩ (.int .i64 (v1 : Int))).heap.size (w3.setCell ⟨w1.heap.size, 1, none⟩ (.int .i64 (v1 : Int)))) (.cells #[.int .i64 0, .int .i64 1, .int .i64 2, .int .i64 4, .int .i64 8, .int .i64 9, .int .i64 12, .int .i64 20, .int .i64 23] 3)
    have hrow := row_lit (w3.setCell ⟨w1.heap.size, 1, none⟩ (.int .i64 (v1 : Int))) [0, 1, 2, 4, 8, 9, 12, 20, 23] (by simp)
    rw [size_set] at hrow
    have DL : Hid _ := Ew3.out.below bl
    refine (l1Pick_any r a ca bs (some ⟨w3.heap.size, 0, none⟩) 9 [0, 1, 2, 4, 8, 9, 12, 20, 23] _ (by simp) (by simp) hrow (fun x hx => by simp at hx; subst hx; simp; omega) DL.out.c (row_g HA.out DL.out.g HNE.out) HNE.out).mono ?_
    rintro e w4 ⟨v4, _, rfl, cw4, gw4⟩
    replace X := (X.below bl).kept gw4 (fun j hj e => by simp at hj; omega)
    have hzb : w1.heap.size < w4.heap.size := X.lt
    have Ew4 : Hid _ := DL.out.next cw4 gw4 zr (Nat.le_refl _) (by omega) (by omega) 4 (by decide) v4
    clear hrow bl DL
    clear x0 x1 x2 x3 x4 xz cw4 gw4 Ew3
    obtain ⟨x0, x1, x2, x3, x4, xz⟩ := X.at5i
    have fz := X.frozen 4
    replace X := X.five v4
    replace X := X.2.2.2.2
    have Z := Ew4.out.z
    have HF : Hid _ := Ew4.out
    have Z0 : Box w4 w.heap.size (icells 0 0 0 0 0) 38 := box_back Z (by simp; omega)
    obtain ⟨y0, y1, y2, y3, y4, yz⟩ := Z0.at5i
    have fy0 := Z0.frozen 0
    have fy1 := Z0.frozen 1
    have fy2 := Z0.frozen 2
    have fy3 := Z0.frozen 3
    have fy4 := Z0.frozen 4
    clear Z Z0 X Ew4
    go_wp2
    refine bodyPost_ret (v := .agg (icells 1 (v1 : Int) 0 0 v4)) (by simp [results, Try.results101, go_sem, y0, y1, y2, y3, y4]) rfl ⟨_, _, _, _, _, rfl, ?_, ?_⟩
    · exact cur_far5 HF.out.c (by omega) _ _ _ _ _
    · exact gr_set (gr_set (gr_set (gr_set (gr_set HF.out.g _ _ (by simp)) _ _ (by simp)) _ _ (by simp)) _ _ (by simp)) _ _ (by simp)
  · rw [show tab 2 = 7 from rfl]
    have X := X2
    clear X2
    obtain ⟨x0, x1, x2, x3, x4, xz⟩ := X.at5i
    go_wp2_with fail
    refine (l1Below_any r a ca bs 4 _ (by decide) (by decide) D2.out.c (row_g HA.out D2.out.g HNE.out) HNE.out).mono ?_
    rintro e w3 ⟨v1, rfl, _, cw3, gw3⟩
    have hzb : w1.heap.size < w3.heap.size := by have := gw3.size; (try simp at this); omega
    replace X := (X).kept gw3 (fun j hj e => by simp at hj; omega)
    have Ew3 : Hid _ := D2.out.next cw3 gw3 zr (Nat.le_refl _) (by omega) (by omega) 1 (by decide) (v1 : Int)
    clear x0 x1 x2 x3 x4 xz cw3 gw3 D2
    obtain ⟨x0, x1, x2, x3, x4, xz⟩ := X.at5i
    have fz := X.frozen 1
    replace X := X.five (v1 : Int)
    replace X := X.2.1
    go_wp2_with fail
    refine (l1Below_any r a ca bs 4 _ (by decide) (by decide) Ew3.out.c (row_g HA.out Ew3.out.g HNE.out) HNE.out).mono ?_
    rintro e w4 ⟨v2, rfl, _, cw4, gw4⟩
    have hzb : w1.heap.size < w4.heap.size := by have := gw4.size; (try simp at this); omega
    replace X := (X).kept gw4 (fun j hj e => by simp at hj; omega)
    have Ew4 : Hid _ := Ew3.out.next cw4 gw4 zr (Nat.le_refl _) (by omega) (by omega) 2 (by decide) (v2 : Int)
    clear x0 x1 x2 x3 x4 xz cw4 gw4 Ew3
    obtain ⟨x0, x1, x2, x3, x4, xz⟩ := X.at5i
    have fz := X.frozen 2
    replace X := X.five (v2 : Int)
    replace X := X.2.2.1
    go_wp2_with fail
    refine (l1Below_any r a ca bs 4 _ (by decide) (by decide) Ew4.out.c (row_g HA.out Ew4.out.g HNE.out) HNE.out).mono ?_
    rintro e w5 ⟨v3, rfl, _, cw5, gw5⟩
    have hzb : w1.heap.size < w5.heap.size := by have := gw5.size; (try simp at this); omega
    replace X := (X).kept gw5 (fun j hj e => by simp at hj; omega)
    have Ew5 : Hid _ := Ew4.out.next cw5 gw5 zr (Nat.le_refl _) (by omega) (by omega) 3 (by decide) (v3 : Int)
    clear x0 x1 x2 x3 x4 xz cw5 gw5 Ew4
    obtain ⟨x0, x1, x2, x3, x4, xz⟩ := X.at5i
    have fz := X.frozen 3
    replace X := X.five (v3 : Int)
    replace X := X.2.2.2.1
    have Z := Ew5.out.z
    have HF : Hid _ := Ew5.out
    have Z0 : Box w5 w.heap.size (icells 0 0 0 0 0) 38 := box_back Z (by simp; omega)
    obtain ⟨y0, y1, y2, y3, y4, yz⟩ := Z0.at5i
    have fy0 := Z0.frozen 0
    have fy1 := Z0.frozen 1
    have fy2 := Z0.frozen 2
    have fy3 := Z0.frozen 3
    have fy4 := Z0.frozen 4
    clear Z Z0 X Ew5
    go_wp2
    refine bodyPost_ret (v := .agg (icells 2 (v1 : Int) (v2 : Int) (v3 : Int) 0)) (by simp [results, Try.results101, go_sem, y0, y1, y2, y3, y4]) rfl ⟨_, _, _, _, _, rfl, ?_, ?_⟩
    · exact cur_far5 HF.out.c (by omega) _ _ _ _ _
    · exact gr_set (gr_set (gr_set (gr_set (gr_set HF.out.g _ _ (by simp)) _ _ (by simp)) _ _ (by simp)) _ _ (by simp)) _ _ (by simp)
  · rw [show tab 3 = 11 from rfl]
    have X := X2
    clear X2
    obtain ⟨x0, x1, x2, x3, x4, xz⟩ := X.at5i
    go_wp2_with fail
    refine (l1Below_any r a ca bs 4 _ (by decide) (by decide) D2.out.c (row_g HA.out D2.out.g HNE.out) HNE.out).mono ?_
    rintro e w3 ⟨v1, rfl, _, cw3, gw3⟩
    have hzb : w1.heap.size < w3.heap.size := by have := gw3.size; (try simp at this); omega
    replace X := (X).kept gw3 (fun j hj e => by simp at hj; omega)
    have Ew3 : Hid _ := D2.out.next cw3 gw3 zr (Nat.le_refl _) (by omega) (by omega) 1 (by decide) (v1 : Int)
    clear x0 x1 x2 x3 x4 xz cw3 gw3 D2
    obtain ⟨x0, x1, x2, x3, x4, xz⟩ := X.at5i
    have fz := X.frozen 1
    replace X := X.five (v1 : Int)
    replace X := X.2.1
    go_wp2_with fail
    refine (l1Below_any r a ca bs 4 _ (by decide) (by decide) Ew3.out.c (row_g HA.out Ew3.out.g HNE.out) HNE.out).mono ?_
    rintro e w4 ⟨v2, rfl, _, cw4, gw4⟩
    have hzb : w1.heap.size < w4.heap.size := by have := gw4.size; (try simp at this); omega
    replace X := (X).kept gw4 (fun j hj e => by simp at hj; omega)
    have Ew4 : Hid _ := Ew3.out.next cw4 gw4 zr (Nat.le_refl _) (by omega) (by omega) 2 (by decide) (v2 : Int)
    clear x0 x1 x2 x3 x4 xz cw4 gw4 Ew3
    obtain ⟨x0, x1, x2, x3, x4, xz⟩ := X.at5i
    have fz := X.frozen 2
    replace X := X.five (v2 : Int)
    replace X := X.2.2.1
    go_wp2_with fail
    have bl := bel_alloc (Below.refl (w4.setCell ⟨w1.heap.size, 2, none⟩ (.int .i64 (v2 : Int))).heap.size (w4.setCell ⟨w1.heap.size, 2, none⟩ (.int .i64 (v2 : Int)))) (.cells #[.int .i64 0, .int .i64 1, .int .i64 2, .int .i64 4, .int .i64 8, .int .i64 9, .int .i64 12, .int .i64 20, .int .i64 23] 3)
    have hrow := row_lit (w4.setCell ⟨w1.heap.size, 2, none⟩ (.int .i64 (v2 : Int))) [0, 1, 2, 4, 8, 9, 12, 20, 23] (by simp)
    rw [size_set] at hrow
    have DL : Hid _ := Ew4.out.below bl
    refine (l1Pick_any r a ca bs (some ⟨w4.heap.size, 0, none⟩) 9 [0, 1, 2, 4, 8, 9, 12, 20, 23] _ (by simp) (by simp) hrow (fun x hx => by simp at hx; subst hx; simp; omega) DL.out.c (row_g HA.out DL.out.g HNE.out) HNE.out).mono ?_
    rintro e w5 ⟨v4, _, rfl, cw5, gw5⟩
    replace X := (X.below bl).kept gw5 (fun j hj e => by simp at hj; omega)
    have hzb : w1.heap.size < w5.heap.size := X.lt
    have Ew5 : Hid _ := DL.out.next cw5 gw5 zr (Nat.le_refl _) (by omega) (by omega) 4 (by decide) v4
    clear hrow bl DL
    clear x0 x1 x2 x3 x4 xz cw5 gw5 Ew4
    obtain ⟨x0, x1, x2, x3, x4, xz⟩ := X.at5i
    have fz := X.frozen 4
    replace X := X.five v4
    replace X := X.2.2.2.2
    have Z := Ew5.out.z
    have HF : Hid _ := Ew5.out
    have Z0 : Box w5 w.heap.size (icells 0 0 0 0 0) 38 := box_back Z (by simp; omega)
    obtain ⟨y0, y1, y2, y3, y4, yz⟩ := Z0.at5i
    have fy0 := Z0.frozen 0
    have fy1 := Z0.frozen 1
    have fy2 := Z0.frozen 2
    have fy3 := Z0.frozen 3
    have fy4 := Z0.frozen 4
    clear Z Z0 X Ew5
    go_wp2
    refine bodyPost_ret (v := .agg (icells 3 (v1 : Int) (v2 : Int) 0 v4)) (by simp [results, Try.results101, go_sem, y0, y1, y2, y3, y4]) rfl ⟨_, _, _, _, _, rfl, ?_, ?_⟩
    · exact cur_far5 HF.out.c (by omega) _ _ _ _ _
    · exact gr_set (gr_set (gr_set (gr_set (gr_set HF.out.g _ _ (by simp)) _ _ (by simp)) _ _ (by simp)) _ _ (by simp)) _ _ (by simp)
  · rw [show tab 4 = 11 from rfl]
    have X := X2
    clear X2
    obtain ⟨x0, x1, x2, x3, x4, xz⟩ := X.at5i
    go_wp2_with fail
    refine (l1Below_any r a ca bs 4 _ (by decide) (by decide) D2.out.c (row_g HA.out D2.out.g HNE.out) HNE.out).mono ?_
    rintro e w3 ⟨v1, rfl, _, cw3, gw3⟩
    have hzb : w1.heap.size < w3.heap.size := by have := gw3.size; (try simp at this); omega
    replace X := (X).kept gw3 (fun j hj e => by simp at hj; omega)
    have Ew3 : Hid _ := D2.out.next cw3 gw3 zr (Nat.le_refl _) (by omega) (by omega) 1 (by decide) (v1 : Int)
    clear x0 x1 x2 x3 x4 xz cw3 gw3 D2
    obtain ⟨x0, x1, x2, x3, x4, xz⟩ := X.at5i
    have fz := X.frozen 1
    replace X := X.five (v1 : Int)
    replace X := X.2.1
    go_wp2_with fail
    refine (l1Below_any r a ca bs 4 _ (by decide) (by decide) Ew3.out.c (row_g HA.out Ew3.out.g HNE.out) HNE.out).mono ?_
    rintro e w4 ⟨v2, rfl, _, cw4, gw4⟩
    have hzb : w1.heap.size < w4.heap.size := by have := gw4.size; (try simp at this); omega
    replace X := (X).kept gw4 (fun j hj e => by simp at hj; omega)
    have Ew4 : Hid _ := Ew3.out.next cw4 gw4 zr (Nat.le_refl _) (by omega) (by omega) 2 (by decide) (v2 : Int)
    clear x0 x1 x2 x3 x4 xz cw4 gw4 Ew3
    obtain ⟨x0, x1, x2, x3, x4, xz⟩ := X.at5i
    have fz := X.frozen 2
    replace X := X.five (v2 : Int)
    replace X := X.2.2.1
    go_wp2_with fail
    have bl := bel_alloc (Below.refl (w4.setCell ⟨w1.heap.size, 2, none⟩ (.int .i64 (v2 : Int))).heap.size (w4.setCell ⟨w1.heap.size, 2, none⟩ (.int .i64 (v2 : Int)))) (.cells #[.int .i64 0, .int .i64 1, .int .i64 2, .int .i64 4, .int .i64 8, .int .i64 9, .int .i64 12, .int .i64 20, .int .i64 23] 3)
    have hrow := row_lit (w4.setCell ⟨w1.heap.size, 2, none⟩ (.int .i64 (v2 : Int))) [0, 1, 2, 4, 8, 9, 12, 20, 23] (by simp)
    rw [size_set] at hrow
    have DL : Hid _ := Ew4.out.below bl
    refine (l1Pick_any r a ca bs (some ⟨w4.heap.size, 0, none⟩) 9 [0, 1, 2, 4, 8, 9, 12, 20, 23] _ (by simp) (by simp) hrow (fun x hx => by simp at hx; subst hx; simp; omega) DL.out.c (row_g HA.out DL.out.g HNE.out) HNE.out).mono ?_
    rintro e w5 ⟨v4, _, rfl, cw5, gw5⟩
    replace X := (X.below bl).kept gw5 (fun j hj e => by simp at hj; omega)
    have hzb : w1.heap.size < w5.heap.size := X.lt
    have Ew5 : Hid _ := DL.out.next cw5 gw5 zr (Nat.le_refl _) (by omega) (by omega) 4 (by decide) v4
    clear hrow bl DL
    clear x0 x1 x2 x3 x4 xz cw5 gw5 Ew4
    obtain ⟨x0, x1, x2, x3, x4, xz⟩ := X.at5i
    have fz := X.frozen 4
    replace X := X.five v4
    replace X := X.2.2.2.2
    have Z := Ew5.out.z
    have HF : Hid _ := Ew5.out
    have Z0 : Box w5 w.heap.size (icells 0 0 0 0 0) 38 := box_back Z (by simp; omega)
    obtain ⟨y0, y1, y2, y3, y4, yz⟩ := Z0.at5i
    have fy0 := Z0.frozen 0
    have fy1 := Z0.frozen 1
    have fy2 := Z0.frozen 2
    have fy3 := Z0.frozen 3
    have fy4 := Z0.frozen 4
    clear Z Z0 X Ew5
    go_wp2
    refine bodyPost_ret (v := .agg (icells 4 (v1 : Int) (v2 : Int) 0 v4)) (by simp [results, Try.results101, go_sem, y0, y1, y2, y3, y4]) rfl ⟨_, _, _, _, _, rfl, ?_, ?_⟩
    · exact cur_far5 HF.out.c (by omega) _ _ _ _ _
    · exact gr_set (gr_set (gr_set (gr_set (gr_set HF.out.g _ _ (by simp)) _ _ (by simp)) _ _ (by simp)) _ _ (by simp)) _ _ (by simp)
  · rw [show tab 5 = 14 from rfl]
    have X := X2
    clear X2
    obtain ⟨x0, x1, x2, x3, x4, xz⟩ := X.at5i
    go_wp2_with fail
    refine (l1Below_any r a ca bs 4 _ (by decide) (by decide) D2.out.c (row_g HA.out D2.out.g HNE.out) HNE.out).mono ?_
    rintro e w3 ⟨v2, rfl, _, cw3, gw3⟩
    have hzb : w1.heap.size < w3.heap.size := by have := gw3.size; (try simp at this); omega
    replace X := (X).kept gw3 (fun j hj e => by simp at hj; omega)
    have Ew3 : Hid _ := D2.out.next cw3 gw3 zr (Nat.le_refl _) (by omega) (by omega) 2 (by decide) (v2 : Int)
    clear x0 x1 x2 x3 x4 xz cw3 gw3 D2
    obtain ⟨x0, x1, x2, x3, x4, xz⟩ := X.at5i
    have fz := X.frozen 2
    replace X := X.five (v2 : Int)
    replace X := X.2.2.1
    go_wp2_with fail
    refine (l1Below_any r a ca bs 4 _ (by decide) (by decide) Ew3.out.c (row_g HA.out Ew3.out.g HNE.out) HNE.out).mono ?_
    rintro e w4 ⟨v3, rfl, _, cw4, gw4⟩
    have hzb : w1.heap.size < w4.heap.size := by have := gw4.size; (try simp at this); omega
    replace X := (X).kept gw4 (fun j hj e => by simp at hj; omega)
    have Ew4 : Hid _ := Ew3.out.next cw4 gw4 zr (Nat.le_refl _) (by omega) (by omega) 3 (by decide) (v3 : Int)
    clear x0 x1 x2 x3 x4 xz cw4 gw4 Ew3
    obtain ⟨x0, x1, x2, x3, x4, xz⟩ := X.at5i
    have fz := X.frozen 3
    replace X := X.five (v3 : Int)
    replace X := X.2.2.2.1
    go_wp2_with fail
    have bl := bel_alloc (Below.refl (w4.setCell ⟨w1.heap.size, 3, none⟩ (.int .i64 (v3 : Int))).heap.size (w4.setCell ⟨w1.heap.size, 3, none⟩ (.int .i64 (v3 : Int)))) (.cells #[.int .i64 0, .int .i64 1, .int .i64 2, .int .i64 4, .int .i64 8, .int .i64 9, .int .i64 12, .int .i64 20, .int .i64 23] 3)
    have hrow := row_lit (w4.setCell ⟨w1.heap.size, 3, none⟩ (.int .i64 (v3 : Int))) [0, 1, 2, 4, 8, 9, 12, 20, 23] (by simp)
    rw [size_set] at hrow
    have DL : Hid _ := Ew4.out.below bl
    refine (l1Pick_any r a ca bs (some ⟨w4.heap.size, 0, none⟩) 9 [0, 1, 2, 4, 8, 9, 12, 20, 23] _ (by simp) (by simp) hrow (fun x hx => by simp at hx; subst hx; simp; omega) DL.out.c (row_g HA.out DL.out.g HNE.out) HNE.out).mono ?_
    rintro e w5 ⟨v4, _, rfl, cw5, gw5⟩
    replace X := (X.below bl).kept gw5 (fun j hj e => by simp at hj; omega)
    have hzb : w1.heap.size < w5.heap.size := X.lt
    have Ew5 : Hid _ := DL.out.next cw5 gw5 zr (Nat.le_refl _) (by omega) (by omega) 4 (by decide) v4
    clear hrow bl DL
    clear x0 x1 x2 x3 x4 xz cw5 gw5 Ew4
    obtain ⟨x0, x1, x2, x3, x4, xz⟩ := X.at5i
    have fz := X.frozen 4
    replace X := X.five v4
    replace X := X.2.2.2.2
    have Z := Ew5.out.z
    have HF : Hid _ := Ew5.out
    have Z0 : Box w5 w.heap.size (icells 0 0 0 0 0) 38 := box_back Z (by simp; omega)
    obtain ⟨y0, y1, y2, y3, y4, yz⟩ := Z0.at5i
    have fy0 := Z0.frozen 0
    have fy1 := Z0.frozen 1
    have fy2 := Z0.frozen 2
    have fy3 := Z0.frozen 3
    have fy4 := Z0.frozen 4
    clear Z Z0 X Ew5
    go_wp2
    refine bodyPost_ret (v := .agg (icells 5 0 (v2 : Int) (v3 : Int) v4)) (by simp [results, Try.results101, go_sem, y0, y1, y2, y3, y4]) rfl ⟨_, _, _, _, _, rfl, ?_, ?_⟩
    · exact cur_far5 HF.out.c (by omega) _ _ _ _ _
    · exact gr_set (gr_set (gr_set (gr_set (gr_set HF.out.g _ _ (by simp)) _ _ (by simp)) _ _ (by simp)) _ _ (by simp)) _ _ (by simp)
  · rw [show tab 6 = 15 from rfl]
    have X := X2
    clear X2
    obtain ⟨x0, x1, x2, x3, x4, xz⟩ := X.at5i
    go_wp2_with fail
    refine (l1Below_any r a ca bs 4 _ (by decide) (by decide) D2.out.c (row_g HA.out D2.out.g HNE.out) HNE.out).mono ?_
    rintro e w3 ⟨v1, rfl, _, cw3, gw3⟩
    have hzb : w1.heap.size < w3.heap.size := by have := gw3.size; (try simp at this); omega
    replace X := (X).kept gw3 (fun j hj e => by simp at hj; omega)
    have Ew3 : Hid _ := D2.out.next cw3 gw3 zr (Nat.le_refl _) (by omega) (by omega) 1 (by decide) (v1 : Int)
    clear x0 x1 x2 x3 x4 xz cw3 gw3 D2
    obtain ⟨x0, x1, x2, x3, x4, xz⟩ := X.at5i
    have fz := X.frozen 1
    replace X := X.five (v1 : Int)
    replace X := X.2.1
    go_wp2_with fail
    refine (l1Below_any r a ca bs 4 _ (by decide) (by decide) Ew3.out.c (row_g HA.out Ew3.out.g HNE.out) HNE.out).mono ?_
    rintro e w4 ⟨v2, rfl, _, cw4, gw4⟩
    have hzb : w1.heap.size < w4.heap.size := by have := gw4.size; (try simp at this); omega
    replace X := (X).kept gw4 (fun j hj e => by simp at hj; omega)
    have Ew4 : Hid _ := Ew3.out.next cw4 gw4 zr (Nat.le_refl _) (by omega) (by omega) 2 (by decide) (v2 : Int)
    clear x0 x1 x2 x3 x4 xz cw4 gw4 Ew3
    obtain ⟨x0, x1, x2, x3, x4, xz⟩ := X.at5i
    have fz := X.frozen 2
    replace X := X.five (v2 : Int)
    replace X := X.2.2.1
    go_wp2_with fail
    refine (l1Below_any r a ca bs 4 _ (by decide) (by decide) Ew4.out.c (row_g HA.out Ew4.out.g HNE.out) HNE.out).mono ?_
    rintro e w5 ⟨v3, rfl, _, cw5, gw5⟩
    have hzb : w1.heap.size < w5.heap.size := by have := gw5.size; (try simp at this); omega
    replace X := (X).kept gw5 (fun j hj e => by simp at hj; omega)
    have Ew5 : Hid _ := Ew4.out.next cw5 gw5 zr (Nat.le_refl _) (by omega) (by omega) 3 (by decide) (v3 : Int)
    clear x0 x1 x2 x3 x4 xz cw5 gw5 Ew4
    obtain ⟨x0, x1, x2, x3, x4, xz⟩ := X.at5i
    have fz := X.frozen 3
    replace X := X.five (v3 : Int)
    replace X := X.2.2.2.1
    go_wp2_with fail
    have bl := bel_alloc (Below.refl (w5.setCell ⟨w1.heap.size, 3, none⟩ (.int .i64 (v3 : Int))).heap.size (w5.setCell ⟨w1.heap.size, 3, none⟩ (.int .i64 (v3 : Int)))) (.cells #[.int .i64 0, .int .i64 1, .int .i64 2, .int .i64 4, .int .i64 8, .int .i64 9, .int .i64 12, .int .i64 20, .int .i64 23] 3)
    have hrow := row_lit (w5.setCell ⟨w1.heap.size, 3, none⟩ (.int .i64 (v3 : Int))) [0, 1, 2, 4, 8, 9, 12, 20, 23] (by simp)
    rw [size_set] at hrow
    have DL : Hid _ := Ew5.out.below bl
    refine (l1Pick_any r a ca bs (some ⟨w5.heap.size, 0, none⟩) 9 [0, 1, 2, 4, 8, 9, 12, 20, 23] _ (by simp) (by simp) hrow (fun x hx => by simp at hx; subst hx; simp; omega) DL.out.c (row_g HA.out DL.out.g HNE.out) HNE.out).mono ?_
    rintro e w6 ⟨v4, _, rfl, cw6, gw6⟩
    replace X := (X.below bl).kept gw6 (fun j hj e => by simp at hj; omega)
    have hzb : w1.heap.size < w6.heap.size := X.lt
    have Ew6 : Hid _ := DL.out.next cw6 gw6 zr (Nat.le_refl _) (by omega) (by omega) 4 (by decide) v4
    clear hrow bl DL
    clear x0 x1 x2 x3 x4 xz cw6 gw6 Ew5
    obtain ⟨x0, x1, x2, x3, x4, xz⟩ := X.at5i
    have fz := X.frozen 4
    replace X := X.five v4
    replace X := X.2.2.2.2
    have Z := Ew6.out.z
    have HF : Hid _ := Ew6.out
    have Z0 : Box w6 w.heap.size (icells 0 0 0 0 0) 38 := box_back Z (by simp; omega)
    obtain ⟨y0, y1, y2, y3, y4, yz⟩ := Z0.at5i
    have fy0 := Z0.frozen 0
    have fy1 := Z0.frozen 1
    have fy2 := Z0.frozen 2
    have fy3 := Z0.frozen 3
    have fy4 := Z0.frozen 4
    clear Z Z0 X Ew6
    go_wp2
    refine bodyPost_ret (v := .agg (icells 6 (v1 : Int) (v2 : Int) (v3 : Int) v4)) (by simp [results, Try.results101, go_sem, y0, y1, y2, y3, y4]) rfl ⟨_, _, _, _, _, rfl, ?_, ?_⟩
    · exact cur_far5 HF.out.c (by omega) _ _ _ _ _
    · exact gr_set (gr_set (gr_set (gr_set (gr_set HF.out.g _ _ (by simp)) _ _ (by simp)) _ _ (by simp)) _ _ (by simp)) _ _ (by simp)
  · rw [show tab 7 = 10 from rfl]
    have X := X2
    clear X2
    obtain ⟨x0, x1, x2, x3, x4, xz⟩ := X.at5i
    go_wp2_with fail
    refine (l1Below_any r a ca bs 4 _ (by decide) (by decide) D2.out.c (row_g HA.out D2.out.g HNE.out) HNE.out).mono ?_
    rintro e w3 ⟨v2, rfl, _, cw3, gw3⟩
    have hzb : w1.heap.size < w3.heap.size := by have := gw3.size; (try simp at this); omega
    replace X := (X).kept gw3 (fun j hj e => by simp at hj; omega)
    have Ew3 : Hid _ := D2.out.next cw3 gw3 zr (Nat.le_refl _) (by omega) (by omega) 2 (by decide) (v2 : Int)
    clear x0 x1 x2 x3 x4 xz cw3 gw3 D2
    obtain ⟨x0, x1, x2, x3, x4, xz⟩ := X.at5i
    have fz := X.frozen 2
    replace X := X.five (v2 : Int)
    replace X := X.2.2.1
    go_wp2_with fail
    have bl := bel_alloc (Below.refl (w3.setCell ⟨w1.heap.size, 2, none⟩ (.int .i64 (v2 : Int))).heap.size (w3.setCell ⟨w1.heap.size, 2, none⟩ (.int .i64 (v2 : Int)))) (.cells #[.int .i64 0, .int .i64 1, .int .i64 2, .int .i64 4, .int .i64 8, .int .i64 9, .int .i64 12, .int .i64 20, .int .i64 23] 3)
    have hrow := row_lit (w3.setCell ⟨w1.heap.size, 2, none⟩ (.int .i64 (v2 : Int))) [0, 1, 2, 4, 8, 9, 12, 20, 23] (by simp)
    rw [size_set] at hrow
    have DL : Hid _ := Ew3.out.below bl
    refine (l1Pick_any r a ca bs (some ⟨w3.heap.size, 0, none⟩) 9 [0, 1, 2, 4, 8, 9, 12, 20, 23] _ (by simp) (by simp) hrow (fun x hx => by simp at hx; subst hx; simp; omega) DL.out.c (row_g HA.out DL.out.g HNE.out) HNE.out).mono ?_
    rintro e w4 ⟨v4, _, rfl, cw4, gw4⟩
    replace X := (X.below bl).kept gw4 (fun j hj e => by simp at hj; omega)
    have hzb : w1.heap.size < w4.heap.size := X.lt
    have Ew4 : Hid _ := DL.out.next cw4 gw4 zr (Nat.le_refl _) (by omega) (by omega) 4 (by decide) v4
    clear hrow bl DL
    clear x0 x1 x2 x3 x4 xz cw4 gw4 Ew3
    obtain ⟨x0, x1, x2, x3, x4, xz⟩ := X.at5i
    have fz := X.frozen 4
    replace X := X.five v4
    replace X := X.2.2.2.2
    have Z := Ew4.out.z
    have HF : Hid _ := Ew4.out
    have Z0 : Box w4 w.heap.size (icells 0 0 0 0 0) 38 := box_back Z (by simp; omega)
    obtain ⟨y0, y1, y2, y3, y4, yz⟩ := Z0.at5i
    have fy0 := Z0.frozen 0
    have fy1 := Z0.frozen 1
    have fy2 := Z0.frozen 2
    have fy3 := Z0.frozen 3
    have fy4 := Z0.frozen 4
    clear Z Z0 X Ew4
    go_wp2
    refine bodyPost_ret (v := .agg (icells 7 0 (v2 : Int) 0 v4)) (by simp [results, Try.results101, go_sem, y0, y1, y2, y3, y4]) rfl ⟨_, _, _, _, _, rfl, ?_, ?_⟩
    · exact cur_far5 HF.out.c (by omega) _ _ _ _ _
    · exact gr_set (gr_set (gr_set (gr_set (gr_set HF.out.g _ _ (by simp)) _ _ (by simp)) _ _ (by simp)) _ _ (by simp)) _ _ (by simp)
  · rw [show tab 8 = 8 from rfl]
    have X := X2
    clear X2
    obtain ⟨x0, x1, x2, x3, x4, xz⟩ := X.at5i
    go_wp2_with fail
    have bl := bel_alloc (Below.refl w2.heap.size w2) (.cells #[.int .i64 0, .int .i64 1, .int .i64 2, .int .i64 4, .int .i64 8, .int .i64 9, .int .i64 12, .int .i64 20, .int .i64 23] 3)
    have hrow := row_lit w2 [0, 1, 2, 4, 8, 9, 12, 20, 23] (by simp)
    have DL : Hid _ := D2.out.below bl
    refine (l1Pick_any r a ca bs (some ⟨w2.heap.size, 0, none⟩) 9 [0, 1, 2, 4, 8, 9, 12, 20, 23] _ (by simp) (by simp) hrow (fun x hx => by simp at hx; subst hx; simp; omega) DL.out.c (row_g HA.out DL.out.g HNE.out) HNE.out).mono ?_
    rintro e w3 ⟨v4, _, rfl, cw3, gw3⟩
    replace X := (X.below bl).kept gw3 (fun j hj e => by simp at hj; omega)
    have hzb : w1.heap.size < w3.heap.size := X.lt
    have Ew3 : Hid _ := DL.out.next cw3 gw3 zr (Nat.le_refl _) (by omega) (by omega) 4 (by decide) v4
    clear hrow bl DL
    clear x0 x1 x2 x3 x4 xz cw3 gw3 D2
    obtain ⟨x0, x1, x2, x3, x4, xz⟩ := X.at5i
    have fz := X.frozen 4
    replace X := X.five v4
    replace X := X.2.2.2.2
    have Z := Ew3.out.z
    have HF : Hid _ := Ew3.out
    have Z0 : Box w3 w.heap.size (icells 0 0 0 0 0) 38 := box_back Z (by simp; omega)
    obtain ⟨y0, y1, y2, y3, y4, yz⟩ := Z0.at5i
    have fy0 := Z0.frozen 0
    have fy1 := Z0.frozen 1
    have fy2 := Z0.frozen 2
    have fy3 := Z0.frozen 3
    have fy4 := Z0.frozen 4
    clear Z Z0 X Ew3
    go_wp2
    refine bodyPost_ret (v := .agg (icells 8 0 0 0 v4)) (by simp [results, Try.results101, go_sem, y0, y1, y2, y3, y4]) rfl ⟨_, _, _, _, _, rfl, ?_, ?_⟩
    · exact cur_far5 HF.out.c (by omega) _ _ _ _ _
    · exact gr_set (gr_set (gr_set (gr_set (gr_set HF.out.g _ _ (by simp)) _ _ (by simp)) _ _ (by simp)) _ _ (by simp)) _ _ (by simp)
  · rw [show tab 9 = 0 from rfl]
    have X := X2
    clear X2
    obtain ⟨x0, x1, x2, x3, x4, xz⟩ := X.at5i
    have Z := D2.out.z
    have HF : Hid _ := D2.out
    have Z0 := Z
    obtain ⟨y0, y1, y2, y3, y4, yz⟩ := Z0.at5i
    have fy0 := Z0.frozen 0
    have fy1 := Z0.frozen 1
    have fy2 := Z0.frozen 2
    have fy3 := Z0.frozen 3
    have fy4 := Z0.frozen 4
    clear Z Z0 X D2
    go_wp2
    refine bodyPost_ret (v := .agg (icells 9 0 0 0 0)) (by simp [results, Try.results101, go_sem, y0, y1, y2, y3, y4]) rfl ⟨_, _, _, _, _, rfl, ?_, ?_⟩
    · exact cur_far5 HF.out.c (by omega) _ _ _ _ _
    · exact gr_set (gr_set (gr_set (gr_set (gr_set HF.out.g _ _ (by simp)) _ _ (by simp)) _ _ (by simp)) _ _ (by simp)) _ _ (by simp)
  · rw [show tab 10 = 7 from rfl]
    have X := X2
    clear X2
    obtain ⟨x0, x1, x2, x3, x4, xz⟩ := X.at5i
    go_wp2_with fail
    refine (l1Below_any r a ca bs 4 _ (by decide) (by decide) D2.out.c (row_g HA.out D2.out.g HNE.out) HNE.out).mono ?_
    rintro e w3 ⟨v1, rfl, _, cw3, gw3⟩
    have hzb : w1.heap.size < w3.heap.size := by have := gw3.size; (try simp at this); omega
    replace X := (X).kept gw3 (fun j hj e => by simp at hj; omega)
    have Ew3 : Hid _ := D2.out.next cw3 gw3 zr (Nat.le_refl _) (by omega) (by omega) 1 (by decide) (v1 : Int)
    clear x0 x1 x2 x3 x4 xz cw3 gw3 D2
    obtain ⟨x0, x1, x2, x3, x4, xz⟩ := X.at5i
    have fz := X.frozen 1
    replace X := X.five (v1 : Int)
    replace X := X.2.1
    go_wp2_with fail
    refine (l1Below_any r a ca bs 4 _ (by decide) (by decide) Ew3.out.c (row_g HA.out Ew3.out.g HNE.out) HNE.out).mono ?_
    rintro e w4 ⟨v2, rfl, _, cw4, gw4⟩
    have hzb : w1.heap.size < w4.heap.size := by have := gw4.size; (try simp at this); omega
    replace X := (X).kept gw4 (fun j hj e => by simp at hj; omega)
    have Ew4 : Hid _ := Ew3.out.next cw4 gw4 zr (Nat.le_refl _) (by omega) (by omega) 2 (by decide) (v2 : Int)
    clear x0 x1 x2 x3 x4 xz cw4 gw4 Ew3
    obtain ⟨x0, x1, x2, x3, x4, xz⟩ := X.at5i
    have fz := X.frozen 2
    replace X := X.five (v2 : Int)
    replace X := X.2.2.1
    go_wp2_with fail
    refine (l1Below_any r a ca bs 4 _ (by decide) (by decide) Ew4.out.c (row_g HA.out Ew4.out.g HNE.out) HNE.out).mono ?_
    rintro e w5 ⟨v3, rfl, _, cw5, gw5⟩
    have hzb : w1.heap.size < w5.heap.size := by have := gw5.size; (try simp at this); omega
    replace X := (X).kept gw5 (fun j hj e => by simp at hj; omega)
    have Ew5 : Hid _ := Ew4.out.next cw5 gw5 zr (Nat.le_refl _) (by omega) (by omega) 3 (by decide) (v3 : Int)
    clear x0 x1 x2 x3 x4 xz cw5 gw5 Ew4
    obtain ⟨x0, x1, x2, x3, x4, xz⟩ := X.at5i
    have fz := X.frozen 3
    replace X := X.five (v3 : Int)
    replace X := X.2.2.2.1
    have Z := Ew5.out.z
    have HF : Hid _ := Ew5.out
    have Z0 : Box w5 w.heap.size (icells 0 0 0 0 0) 38 := box_back Z (by simp; omega)
    obtain ⟨y0, y1, y2, y3, y4, yz⟩ := Z0.at5i
    have fy0 := Z0.frozen 0
    have fy1 := Z0.frozen 1
    have fy2 := Z0.frozen 2
    have fy3 := Z0.frozen 3
    have fy4 := Z0.frozen 4
    clear Z Z0 X Ew5
    go_wp2
    refine bodyPost_ret (v := .agg (icells 10 (v1 : Int) (v2 : Int) (v3 : Int) 0)) (by simp [results, Try.results101, go_sem, y0, y1, y2, y3, y4]) rfl ⟨_, _, _, _, _, rfl, ?_, ?_⟩
    · exact cur_far5 HF.out.c (by omega) _ _ _ _ _
    · exact gr_set (gr_set (gr_set (gr_set (gr_set HF.out.g _ _ (by simp)) _ _ (by simp)) _ _ (by simp)) _ _ (by simp)) _ _ (by simp)
end Go.Proofs.Ytkamhinklhcbaaa
