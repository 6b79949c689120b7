/- A flock: its world and its cores; what the law's szFlock, toFlock, eqFlock do; a flock as the row hands it over. -/
import Derived.Test.YtpahjfijpjgdnaaCs1
import Derived.Test.YtpahjfijpjgdnaaWoT
import Derived.Test.YtpahjfijpjgdnaaWzT
import Derived.Test.YtpahjfijpjgdnaaOpenW
namespace Go.Proofs.Ytpahjfijpjgdnaa
open Go.ChangeShapes Go.WideShapes Go.ChangeAt Go.RowKit
set_option linter.unusedVariables false

/-- What a flock says: its world, how many cores, and these. -/
structure FkD where
  w : WoD
  n : Nat
  c : Nat → CoD
/-- Where it lies. -/
structure FkP where
  w : WoP
  c : Pl
  q : Nat → CoP
abbrev fkcells (d : FkD) (p : FkP) : Array Value := #[.int .i64 d.w.size, .slice p.w.n.1 d.w.nn p.w.n.2, .slice p.w.k.1 d.w.nk p.w.k.2, .slice p.c.1 d.n p.c.2]
structure FkR (w : World) (d : FkD) (p : FkP) : Prop where
  o : WoR w d.w p.w
  c : CsR w p.c.1 d.n d.c p.q
theorem FkR.below {w w' : World} {d : FkD} {p : FkP} (h : FkR w d p) (b : Below w.heap.size w w') : FkR w' d p := ⟨h.o.below b, h.c.below b⟩
structure FkC (w : World) (d : FkD) (p : FkP) : Prop where
  o : WoC w d.w p.w
  c : CsC w p.c.1 d.n d.c p.q
theorem FkC.below {w w' : World} {d : FkD} {p : FkP} (h : FkC w d p) (b : Below w.heap.size w w') : FkC w' d p := ⟨h.o.below b, h.c.below b⟩
/-- How great it is. -/
def fkZ (d : FkD) : Nat := wZ d.w + (d.n + sumN (fun i => cZ (d.c i)) d.n)
structure FkS (d : FkD) : Prop where
  w : Wsm d.w
  n : d.n ≤ 1048576
  c : ∀ i, i < d.n → CoS (d.c i)
theorem fkZ_sm {d : FkD} (h : fkZ d ≤ 1048576) : FkS d := by
  unfold fkZ at h
  exact ⟨wZ_sm (by omega), by omega, fun i hi => cZ_sm (by have := le_sumN (c := fun i => cZ (d.c i)) hi; omega)⟩
theorem FkC.fr {w : World} {d : FkD} {p : FkP} (h : FkC w d p) (s : FkS d) : FkR w d p := ⟨h.o.wr s.w, h.c.cr s.n s.c⟩
/-- A flock that is owned, and its blocks. -/
structure FkO (w : World) (d : FkD) (p : FkP) : Prop where
  o : WoO w d.w p.w
  c : CsO w p.c.1 p.c.2 d.n d.c p.q
  ap : ∀ b, WBs d.w p.w b → ¬ RS p.c.1 p.c.2 d.n (fun i => QCo (d.c i) (p.q i)) b
def FkB (d : FkD) (p : FkP) (b : Nat) : Prop := WBs d.w p.w b ∨ RS p.c.1 p.c.2 d.n (fun i => QCo (d.c i) (p.q i)) b
theorem FkO.sm {w w' : World} {d : FkD} {p : FkP} (h : FkO w d p) (k : Sm (FkB d p) w w') : FkO w' d p := ⟨h.o.sm (k.mono (fun b hb => .inl hb)), Rw.sm h.c (k.mono (fun b hb => .inr hb)), h.ap⟩
theorem FkO.below {w w' : World} {d : FkD} {p : FkP} (h : FkO w d p) (b : Below w.heap.size w w') : FkO w' d p := h.sm (sm_bel b)
theorem FkO.lt {w : World} {d : FkD} {p : FkP} (h : FkO w d p) {b : Nat} (hb : FkB d p b) : b < w.heap.size := by
  rcases hb with hb | hb
  · exact h.o.lt hb
  · exact Rw.slt h.c hb
theorem FkO.fr {w : World} {d : FkD} {p : FkP} (h : FkO w d p) (s : FkS d) : FkR w d p := ⟨h.o.wr s.w, CsO.cr h.c s.n s.c⟩
/-- What answers a flock of its own. -/
def FkAns (d : FkD) (w : World) (e : Ending) (w' : World) : Prop := ∃ p, e = .returned (.agg (fkcells d p)) ∧ FkO w' d p ∧ (∀ b, FkB d p b → w.heap.size ≤ b) ∧ Below w.heap.size w w'

set_option maxRecDepth 100000 in
set_option maxHeartbeats 1000000 in
theorem szFlock_tot (d : FkD) (p : FkP) (w : World) (hC : FkC w d p) :
    Calls Try.prog 4 #[.agg (fkcells d p), .int .i64 1048576] w fun e w' => ∃ r, e = .returned (.int .i64 r) ∧ (r = -1 ∨ (0 ≤ r ∧ r + (fkZ d : Nat) = 1048576)) ∧ Below w.heap.size w w' := by
  have bA := bel_alloc (Below.refl w.heap.size w) (.cells (fkcells d p) 28)
  have XA := Box.new w (fkcells d p) 28
  obtain ⟨x0, x1, x2, x3, xz⟩ := XA.at4
  go_enter Try.func4, Try.ntmps4
  go_wp2_with fail
  refine (szWorld_gen d.w p.w 1048576 _ (by omega) (by omega) (hC.o.below bA)).mono ?_
  rintro e w1 ⟨r, rfl, hr0, b1⟩
  replace XA := XA.below b1
  have B := bel_trans bA b1
  clear x0 x1 x2 x3 xz b1 bA
  rcases hr0 with rfl | ⟨r0, r1⟩
  · clear hC XA
    go_wp2
    go_ret
    exact ⟨-1, rfl, .inl rfl, B⟩
  have hd : ¬ (r < 0) := by omega
  have hr1 : r ≤ 1048576 := by omega
  have R1 : Hid (r + (wZ d.w : Nat) = 1048576) := r1
  clear r1
  obtain ⟨x0, x1, x2, x3, xz⟩ := XA.at4
  go_wp2_with fail
  refine (szCoreS_tot p.c.1 p.c.2 d.n d.c p.q r _ r0 hr1 (hC.c.below B)).mono ?_
  rintro e w2 ⟨q, rfl, hq0, b2⟩
  have B2 := bel_trans B b2
  clear x0 x1 x2 x3 xz b2 B hC XA
  rcases hq0 with rfl | ⟨q0, q1⟩
  · go_wp2
    go_ret
    exact ⟨-1, rfl, .inl rfl, B2⟩
  have hd2 : ¬ (q < 0) := by omega
  have Q1 : Hid (q + (d.n + sumN (fun i => cZ (d.c i)) d.n : Nat) = r) := q1
  clear q1
  go_wp2
  go_ret
  exact ⟨q, rfl, .inr ⟨q0, by have := R1.out; have := Q1.out; unfold fkZ; omega⟩, B2⟩

set_option maxRecDepth 100000 in
set_option maxHeartbeats 1000000 in
theorem eqFlock_any (d : FkD) (p p' : FkP) (w : World) (ha : FkR w d p) (hb : FkR w d p') :
    Calls Try.prog 8 #[.agg (fkcells d p), .agg (fkcells d p')] w fun e w' => e = .returned (.bool true) ∧ Below w.heap.size w w' := by
  have bA := bel_alloc (bel_alloc (Below.refl w.heap.size w) (.cells (fkcells d p) 37)) (.cells (fkcells d p') 37)
  obtain ⟨XA, XB⟩ := Box.two w (fkcells d p) (fkcells d p') 37 37
  replace ha := ha.below bA
  replace hb := hb.below bA
  obtain ⟨x0, x1, x2, x3, xz⟩ := XA.at4
  obtain ⟨y0, y1, y2, y3, yz⟩ := XB.at4
  go_enter Try.func8, Try.ntmps8
  go_wp2_with fail
  refine (eqWorld_any d.w p.w p'.w _ ha.o hb.o).mono ?_
  rintro e w1 ⟨rfl, b1⟩
  replace XA := XA.below b1
  replace XB := XB.below b1
  have B := bel_trans bA b1
  replace ha := ha.below b1
  replace hb := hb.below b1
  clear x0 x1 x2 x3 xz y0 y1 y2 y3 yz b1 bA
  obtain ⟨x0, x1, x2, x3, xz⟩ := XA.at4
  obtain ⟨y0, y1, y2, y3, yz⟩ := XB.at4
  go_wp2_with fail
  refine (eqCoreS_any p.c.1 p'.c.1 p.c.2 p'.c.2 d.n d.c p.q p'.q _ ha.c hb.c).mono ?_
  rintro e w2 ⟨rfl, b2⟩
  have B2 := bel_trans B b2
  clear x0 x1 x2 x3 xz y0 y1 y2 y3 yz b2 B ha hb XA XB
  go_wp2
  go_ret
  exact ⟨rfl, B2⟩

set_option maxRecDepth 100000 in
set_option maxHeartbeats 2000000 in
theorem toFlock_own (d : FkD) (p : FkP) (w : World) (hs : FkS d) (ha : FkR w d p) :
    Calls Try.prog 6 #[.agg (fkcells d p)] w (FkAns d w) := by
  have bA := bel_alloc (bel_alloc (bel_alloc (Below.refl w.heap.size w) (.cells (fkcells d p) 28)) (.cells #[.int .i64 0, .slice none 0 0, .slice none 0 0, .slice none 0 0] 37)) (.cells #[.int .i64 0, .slice none 0 0, .slice none 0 0, .slice none 0 0] 37)
  obtain ⟨XA, XR⟩ := Box.two w (fkcells d p) #[.int .i64 0, .slice none 0 0, .slice none 0 0, .slice none 0 0] 28 37
  replace XA := XA.below (bel_alloc (Below.refl _ _) (.cells #[.int .i64 0, .slice none 0 0, .slice none 0 0, .slice none 0 0] 37))
  replace XR := XR.below (bel_alloc (Below.refl _ _) (.cells #[.int .i64 0, .slice none 0 0, .slice none 0 0, .slice none 0 0] 37))
  have XO := Box.new ((w.alloc (.cells (fkcells d p) 28)).alloc (.cells #[.int .i64 0, .slice none 0 0, .slice none 0 0, .slice none 0 0] 37)) #[.int .i64 0, .slice none 0 0, .slice none 0 0, .slice none 0 0] 37
  simp only [World.size_alloc] at XO
  have HA : Hid (FkR w d p) := ha
  have HS : Hid (FkS d) := hs
  have ha1 := ha.o.below bA
  clear ha hs
  obtain ⟨x0, x1, x2, x3, xz⟩ := XA.at4
  go_enter Try.func6, Try.ntmps6
  go_wp2_with fail
  refine (toWorld_own d.w p.w _ HS.out.w ha1).mono ?_
  rintro e w1 ⟨p1, rfl, o1, l1, b1⟩
  have hz1 : w.heap.size + 3 ≤ w1.heap.size := by have := b1.size; simp at this; omega
  have L1 : Hid (∀ b, WBs d.w p1 b → w.heap.size + 3 ≤ b ∧ b < w1.heap.size) := fun b h => ⟨by have := l1 b h; simp at this; omega, o1.lt h⟩
  replace XA := XA.below b1
  replace XR := XR.below b1
  replace XO := XO.below b1
  replace bA := bel_trans bA b1
  have O1 : Hid (WoO w1 d.w p1) := o1
  clear x0 x1 x2 x3 xz b1 o1 l1 ha1
  obtain ⟨x0, x1, x2, x3, xz⟩ := XA.at4
  obtain ⟨y0, y1, y2, y3, yz⟩ := XO.at4
  have fy0 := XO.frozen 0
  have fy1 := XO.frozen 1
  have fy2 := XO.frozen 2
  go_wp2_with fail
  obtain ⟨V, hV⟩ : ∃ V, ((w1.setCell ⟨w.heap.size + 1 + 1, 0, none⟩ (.int .i64 d.w.size)).setCell ⟨w.heap.size + 1 + 1, 1, none⟩ (.slice p1.n.1 d.w.nn p1.n.2)).setCell ⟨w.heap.size + 1 + 1, 2, none⟩ (.slice p1.k.1 d.w.nk p1.k.2) = V := ⟨_, rfl⟩
  rw [hV]
  have K1 : Only w1 V (fun b => b = w.heap.size + 1 + 1) := by
    rw [← hV]
    exact (((Only.refl w1 (fun b => b = w.heap.size + 1 + 1)).setCell _ _ rfl).setCell _ _ rfl).setCell _ _ rfl
  have XO2 : Box V (w.heap.size + 1 + 1) #[.int .i64 d.w.size, .slice p1.n.1 d.w.nn p1.n.2, .slice p1.k.1 d.w.nk p1.k.2, .slice none 0 0] 37 := by
    rw [← hV]
    exact heap_setCell_same _ _ 2 _ _ _ (heap_setCell_same _ _ 1 _ _ _ (heap_setCell_same _ _ 0 _ _ _ XO))
  have OV : Hid (WoO V d.w p1) := O1.out.sm (K1.sm (fun b hb e => by have := L1.out b hb; omega))
  replace XA := XA.only K1 (by omega)
  replace XR := XR.only K1 (by omega)
  have BV : Below w.heap.size w V := K1.bel bA (fun i hi => by omega)
  have hzV : w1.heap.size ≤ V.heap.size := K1.size
  have kR : CsR V p.c.1 d.n d.c p.q := HA.out.c.below BV
  clear x0 x1 x2 x3 xz y0 y1 y2 y3 yz fy0 fy1 fy2 XO hV K1 O1 bA
  obtain ⟨x0, x1, x2, x3, xz⟩ := XA.at4
  go_wp2_with fail
  refine (toCoreS_own p.c.1 p.c.2 d.n d.c p.q _ HS.out.n HS.out.c kR).mono ?_
  rintro e w3 ⟨a3, c3, p3, rfl, O3, l3, b3⟩
  have hz3 : V.heap.size ≤ w3.heap.size := b3.size
  have OR : Hid (WoO w3 d.w p1) := OV.out.below b3
  have OK : Hid (CsO w3 a3 c3 d.n d.c p3) := O3
  have LK : Hid (∀ b, RS a3 c3 d.n (fun i => QCo (d.c i) (p3 i)) b → V.heap.size ≤ b) := l3
  replace XR := XR.below b3
  replace XO2 := XO2.below b3
  have B3 := bel_trans BV b3
  clear x0 x1 x2 x3 xz b3 OV O3 l3 kR BV XA
  obtain ⟨y0, y1, y2, y3, yz⟩ := XO2.at4
  obtain ⟨m0, m1, m2, m3, mz⟩ := XR.at4
  have fy3 := XO2.frozen 3
  have fm0 := XR.frozen 0
  have fm1 := XR.frozen 1
  have fm2 := XR.frozen 2
  have fm3 := XR.frozen 3
  clear XR XO2
  go_wp2
  have EC : ∀ W, Only w3 W (fun b => b = w.heap.size + 1 + 1 ∨ b = w.heap.size + 1) → FkO W d ⟨p1, (a3, c3), p3⟩ ∧ Below w.heap.size w W := fun W k =>
    ⟨⟨OR.out.sm (k.sm (fun b hb e => by have := L1.out b hb; omega)), Rw.sm OK.out (k.sm (fun b hb e => by have := LK.out b hb; omega)), fun b hb hr => by have := L1.out b hb; have := LK.out b hr; omega⟩, k.bel B3 (fun i hi => by omega)⟩
  refine bodyPost_ret (v := .agg #[.int .i64 d.w.size, .slice p1.n.1 d.w.nn p1.n.2, .slice p1.k.1 d.w.nk p1.k.2, .slice a3 d.n c3]) (by simp [results, Try.results6, go_sem, m0, m1, m2, m3]) rfl ⟨⟨p1, (a3, c3), p3⟩, rfl, ?_⟩
  have hq : ∀ b, FkB d ⟨p1, (a3, c3), p3⟩ b → w.heap.size ≤ b := fun b hb => by
    rcases hb with hb | hb
    · have := L1.out b hb; omega
    · have := LK.out b hb; omega
  refine (fun (h : _ ∧ _) => ⟨h.1, hq, h.2⟩) (EC _ ?_)
  repeat refine Only.setCell ?_ _ _ (by simp)
  exact Only.refl _ _

theorem cells_flock' : Try.prog.cellsOf 28 = 4 := by kernel_rfl
theorem cells_world3 : Try.prog.cellsOf 25 = 3 := by kernel_rfl
theorem cells_cores1 : Try.prog.cellsOf 26 = 1 := by kernel_rfl
set_option maxRecDepth 100000 in
theorem world_cells {H : Type} {enc : TypeId × Value → H} {W : World} {base : Nat} {held : Bool} {fuel : Nat} {cs : List Value} {x : DataW H × List MemPlace} (h : DataW.trod enc Try.prog W base (fun _ => true) held fuel 25 cs = some x) :
    ∃ (D : WoD) (p : WoP), cs = [.int .i64 D.size, .slice p.n.1 D.nn p.n.2, .slice p.k.1 D.nk p.k.2] ∧ WoC W D p := by
  obtain ⟨ys, n, _, _, hl, hyl, hf⟩ := DataW.trod_struct Try.underlying25 h
  rw [cells_worldW] at hl
  match cs, hl, ys, hyl with
  | [c0, c1, c2], _, [y0, y1, y2], _ =>
    have g0 := hf 0 _ rfl
    have g1 := hf 1 _ rfl
    have g2 := hf 2 _ rfl
    simp [cells_intW, cells_nodesW, cells_packetsW] at g0 g1 g2
    obtain ⟨m0, e0, _, _⟩ := DataW.trod_int Try.underlying3 g0
    simp only [List.cons.injEq, and_true] at e0
    obtain ⟨pn, nn, dn, np, e1, hN⟩ := open_nodes g1
    obtain ⟨pk, nk, dk, kp, e2, hK⟩ := open_packets g2
    subst e0 e1 e2
    exact ⟨⟨m0, nn, dn, nk, dk⟩, ⟨pn, np, pk, kp⟩, rfl, hN, hK⟩
set_option maxRecDepth 100000 in
theorem open_flock {H : Type} {enc : TypeId × Value → H} {W : World} {base : Nat} {held : Bool} {r : Reach} {b0 : Nat} {v : Value} {d : DataW H} {q : List MemPlace}
    (hv : Value.okWide Try.prog W r b0 28 v) (h : DataW.Trod enc Try.prog W base (fun _ => true) held 28 v d q) :
    ∃ (D : FkD) (p : FkP), v = .agg (fkcells D p) ∧ FkC W D p := by
  obtain ⟨cs, rfl, hsz⟩ := okWide_struct Try.underlying28 hv
  obtain ⟨fuel, hf⟩ := h
  obtain ⟨ys, n, _, _, hl, hyl, hf⟩ := DataW.trod_struct Try.underlying28 hf
  rw [cells_flock'] at hl
  obtain ⟨cs⟩ := cs
  simp only [Value.cells] at hl hf
  match cs, hl, ys, hyl with
  | [c0, c1, c2, c3], _, [y0, y1], _ =>
    have g0 := hf 0 _ rfl
    have g1 := hf 1 _ rfl
    simp [cells_world3, cells_cores1] at g0 g1
    obtain ⟨D, p, e0, hw⟩ := world_cells g0
    obtain ⟨a, m, C, q, e1, hc⟩ := open_cores g1
    subst e1
    simp only [List.cons.injEq, and_true] at e0
    obtain ⟨rfl, rfl, rfl⟩ := e0
    exact ⟨⟨D, m, C⟩, ⟨p, a, q⟩, rfl, hw, hc⟩
end Go.Proofs.Ytpahjfijpjgdnaa
