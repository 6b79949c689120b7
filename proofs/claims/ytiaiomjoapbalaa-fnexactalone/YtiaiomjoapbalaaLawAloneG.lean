/- OpenW and LawAloneG: see the heads of the parts. -/
import Derived.Test.YtiaiomjoapbalaaOpenN
import Derived.Test.YtiaiomjoapbalaaWoZ
import Derived.Test.YtiaiomjoapbalaaWoT
import Derived.Test.YtiaiomjoapbalaaWoI
import Derived.Test.YtiaiomjoapbalaaTrA
/- A world as the row hands it over. -/
namespace Go.Proofs.Ytiaiomjoapbalaa
open Go.ChangeShapes Go.WideShapes Go.ChangeAt Go.RowKit
set_option linter.unusedVariables false

theorem cells_packetW : Try.prog.cellsOf 65 = 8 := by kernel_rfl
theorem cells_msgW : Try.prog.cellsOf 63 = 4 := by kernel_rfl
theorem cells_worldW : Try.prog.cellsOf 25 = 3 := by kernel_rfl
theorem cells_nodesW : Try.prog.cellsOf 22 = 1 := by kernel_rfl
theorem cells_packetsW : Try.prog.cellsOf 23 = 1 := by kernel_rfl
theorem cells_intW : Try.prog.cellsOf 3 = 1 := by kernel_rfl
theorem cells_boolW : Try.prog.cellsOf 4 = 1 := by kernel_rfl

set_option maxRecDepth 100000 in
theorem packet_cells {H : Type} {enc : TypeId × Value → H} {W : World} {base : Nat} {held : Bool} {fuel : Nat} {cs : List Value} {x : DataW H × List MemPlace} (h : DataW.trod enc Try.prog W base (fun _ => true) held fuel 65 cs = some x) :
    ∃ (d : PkD) (q : Pl), cs = pkcells d q ∧ Came .i64 W q.1 q.2 d.xs := by
  obtain ⟨ys, n, _, _, hl, hyl, hf⟩ := DataW.trod_struct Try.underlying65 h
  rw [cells_packetW] at hl
  match cs, hl, ys, hyl with
  | [c0, c1, c2, c3, c4, c5, c6, c7], _, [y0, y1, y2, y3, y4], _ =>
    have g0 := hf 0 _ rfl
    have g1 := hf 1 _ rfl
    have g2 := hf 2 _ rfl
    have g3 := hf 3 _ rfl
    have g4 := hf 4 _ rfl
    simp [cells_intW, cells_boolW, cells_msgW] at g0 g1 g2 g3 g4
    obtain ⟨m0, e0, _, _⟩ := DataW.trod_int Try.underlying3 g0
    obtain ⟨m1, e1, _, _⟩ := DataW.trod_int Try.underlying3 g1
    obtain ⟨m2, e2, _⟩ := DataW.trod_bool Try.underlying4 g2
    obtain ⟨m3, e3, _, _⟩ := DataW.trod_int Try.underlying3 g3
    obtain ⟨k, p, o, a, c, xs, e4, hcame, _, _⟩ := msg_cells g4
    simp only [List.cons.injEq, and_true] at e0 e1 e2 e3 e4
    obtain ⟨rfl, rfl, rfl, rfl⟩ := e4
    subst e0 e1 e2 e3
    exact ⟨⟨m0, m1, m2, m3, k, p, o, xs⟩, (a, c), rfl, hcame⟩

set_option maxRecDepth 100000 in
theorem node_cells {H : Type} {enc : TypeId × Value → H} {W : World} {base : Nat} {held : Bool} {fuel : Nat} {cs : List Value} {x : DataW H × List MemPlace} (h : DataW.trod enc Try.prog W base (fun _ => true) held fuel 60 cs = some x) :
    ∃ (d : ND) (p : NP), cs = nlist d p ∧ NC W d p := by
  obtain ⟨ys, n, _, _, hl, hyl, hf⟩ := DataW.trod_struct Try.underlying60 h
  rw [cells_node'] at hl
  match cs, hl, ys, hyl with
  | [c0, c1, c2, c3, c4], _, [y0, y1, y2, y3, y4], _ =>
    have g0 := hf 0 _ rfl
    have g1 := hf 1 _ rfl
    have g2 := hf 2 _ rfl
    have g3 := hf 3 _ rfl
    have g4 := hf 4 _ rfl
    simp [cells_intW, cells_frames', cells_homes', cells_senders', cells_receivers'] at g0 g1 g2 g3 g4
    obtain ⟨m0, e0, _, _⟩ := DataW.trod_int Try.underlying3 g0
    simp only [List.cons.injEq, and_true] at e0
    obtain ⟨pf, nf, df, fp, e1, hF⟩ := open_frames g1
    obtain ⟨ph, nh, dh, hp, e2, hH⟩ := open_homes g2
    obtain ⟨po, no, b, y, op, ms, e3, hS⟩ := open_senders g3
    obtain ⟨pi, ni, g, e4, hG⟩ := open_receivers g4
    subst e0 e1 e2 e3 e4
    exact ⟨⟨m0, nf, df, nh, dh, no, b, y, ni, g⟩, ⟨pf, fp, ph, hp, po, op, ms, pi⟩, rfl, hF, hH, hS, hG⟩

theorem open_packets {H : Type} {enc : TypeId × Value → H} {W : World} {base : Nat} {held : Bool} {fuel : Nat} {v : Value} {x : DataW H × List MemPlace} (h : DataW.trod enc Try.prog W base (fun _ => true) held fuel 23 [v] = some x) : ∃ (a : Pl) (n : Nat) (d : Nat → PkD) (p : Nat → Pl), v = .slice a.1 n a.2 ∧ PkC W a.1 n d p := by
  obtain ⟨a, c, n, F, rfl, hn, hV, hF⟩ := open_rows 23 65 8 Try.underlying23 cells_packetW (by decide) h
  have key : ∀ i, i < n → ∃ q : PkD × Pl, F i = pkcells q.1 q.2 ∧ Came .i64 W q.2.1 q.2.2 q.1.xs := fun i hi => by
    obtain ⟨_, fl, y, hy⟩ := hF i hi
    obtain ⟨d, p, e, hc⟩ := packet_cells hy
    exact ⟨(d, p), e, hc⟩
  obtain ⟨f, hf⟩ := fun_of (⟨0, 0, false, 0, 0, 0, false, []⟩, (none, 0)) n key
  exact ⟨(a, c), n, fun i => (f i).1, fun i => (f i).2, rfl, hn, hV.congr (fun i hi => (hf i hi).1), fun i hi => (hf i hi).2⟩
theorem open_nodes {H : Type} {enc : TypeId × Value → H} {W : World} {base : Nat} {held : Bool} {fuel : Nat} {v : Value} {x : DataW H × List MemPlace} (h : DataW.trod enc Try.prog W base (fun _ => true) held fuel 22 [v] = some x) : ∃ (a : Pl) (n : Nat) (d : Nat → ND) (p : Nat → NP), v = .slice a.1 n a.2 ∧ NsC W a.1 n d p := by
  obtain ⟨a, c, n, F, rfl, hn, hV, hF⟩ := open_rows 22 60 5 Try.underlying22 cells_node' (by decide) h
  have key : ∀ i, i < n → ∃ q : ND × NP, F i = nlist q.1 q.2 ∧ NC W q.1 q.2 := fun i hi => by
    obtain ⟨_, fl, y, hy⟩ := hF i hi
    obtain ⟨d, p, e, hc⟩ := node_cells hy
    exact ⟨(d, p), e, hc⟩
  obtain ⟨f, hf⟩ := fun_of (⟨0, 0, fun _ => ⟨0, [], false⟩, 0, fun _ => ⟨[], 0, [], false, 0, false, 0, []⟩, 0, fun _ => 0, fun _ => [], 0, fun _ => 0⟩, ⟨(none, 0), fun _ => (none, 0), (none, 0), fun _ => ⟨(none, 0), (none, 0), (none, 0)⟩, (none, 0), fun _ => (none, 0), fun _ => [], (none, 0)⟩) n key
  exact ⟨(a, c), n, fun i => (f i).1, fun i => (f i).2, rfl, hn, hV.congr (fun i hi => (hf i hi).1), fun i hi => (hf i hi).2⟩

set_option maxRecDepth 100000 in
theorem open_world {H : Type} {enc : TypeId × Value → H} {W : World} {base : Nat} {held : Bool} {r : Reach} {b0 : Nat} {v : Value} {d : DataW H} {q : List MemPlace}
    (hv : Value.okWide Try.prog W r b0 25 v) (h : DataW.Trod enc Try.prog W base (fun _ => true) held 25 v d q) :
    ∃ (D : WoD) (p : WoP), v = .agg (wcells D p) ∧ WoC W D p := by
  obtain ⟨cs, rfl, hsz⟩ := okWide_struct Try.underlying25 hv
  obtain ⟨fuel, hf⟩ := h
  obtain ⟨ys, n, _, _, hl, hyl, hf⟩ := DataW.trod_struct Try.underlying25 hf
  rw [cells_worldW] at hl
  obtain ⟨cs⟩ := cs
  simp only [Value.cells] at hl hf
  match cs, hl, ys, hyl with
  | [c0, c1, c2], _, [y0, y1, y2], _ =>
    have g0 := hf 0 _ rfl
    have g1 := hf 1 _ rfl
    have g2 := hf 2 _ rfl
    simp [cells_intW, cells_nodesW, cells_packetsW] at g0 g1 g2
    obtain ⟨m0, e0, _, _⟩ := DataW.trod_int Try.underlying3 g0
    simp only [List.cons.injEq, and_true] at e0
    obtain ⟨pn, nn, dn, np, e1, hN⟩ := open_nodes g1
    obtain ⟨pk, nk, dk, kp, e2, hK⟩ := open_packets g2
    subst e0 e1 e2
    exact ⟨⟨m0, nn, dn, nk, dk⟩, ⟨pn, np, pk, kp⟩, rfl, hN, hK⟩
end Go.Proofs.Ytiaiomjoapbalaa

/- The law FnExactAlone over any impl.Alone that answers as it should (written by mkla.py). -/
namespace Go.Proofs.Ytiaiomjoapbalaa
open Go.ChangeShapes Go.WideShapes Go.ChangeAt Go.RowKit
set_option linter.unusedVariables false

namespace LawFnExactAlone
theorem wr_drew {w : World} {d : WoD} {p : WoP} (h : WoR w d p) : WoR w.drew d p := h.below (below_drewN (Below.refl _ _) 1)

set_option maxRecDepth 100000 in
set_option maxHeartbeats 4000000 in
theorem walkG (HI : ∀ (d : WoD) (p : WoP) (page : Int) (w : World), (∀ i, i < d.nn → ∀ j, j < (d.d i).nh → ((d.d i).h j).bs.length ≤ 1048577) → WoR w d p → Calls Try.prog 7 #[.agg (wcells d p), .int .i64 page] w fun e w' => e = .returned (.bool (worldB d && (inB page 0 5 && aloneB d page.toNat))) ∧ Below w.heap.size w w') (d : WoD) (p : WoP) (page : Int) (w : World) (hC : WoC w d p) (hwf : (Lit.int .i64 page).wf = true) :
    Calls Try.prog 3 #[.agg (wcells d p), .int .i64 page] w fun e w' => e = .returned (.bool true) ∧ Below w.heap.size w w' := by
  have HI' : Hid _ := HI
  clear HI
  have B := bel_alloc (Below.refl w.heap.size w) (.cells (wcells d p) 25)
  have XA := Box.new w (wcells d p) 25
  have HC : Hid (WoC w d p) := hC
  have hC1 := hC.below B
  clear hC
  go_enter Try.func3, Try.ntmps3
  go_wp2_with fail
  refine (szWorld_any d p _ hC1).mono ?_
  rintro e w1 ⟨r, rfl, hr, b1⟩
  replace XA := XA.below b1
  replace B := bel_trans B b1
  clear b1 hC1
  rcases hr with rfl | ⟨hr0, hr1, hs⟩
  · clear XA
    go_wp2
    go_ret
    exact ⟨rfl, B⟩
  · have HS : Hid (Wsm d) := hs
    have HBS : Hid (∀ i, i < d.nn → ∀ j, j < (d.d i).nh → ((d.d i).h j).bs.length ≤ 1048577) := fun i hi j hj => by have := ((hs.n.2 i hi).h.2 j hj).2.1; omega
    have R1 := (HC.out.below B).wr hs
    clear hs
    have HD : decide (r < 0) = false := by simp; omega
    obtain ⟨x0, x1, x2, zx⟩ := XA.at3
    go_wp2_with fail
    refine (toWorld_own d p _ HS.out R1).mono ?_
    rintro e w2 ⟨p2, rfl, o2, _, b2⟩
    have n2 := o2.wr HS.out
    replace XA := XA.below b2
    replace B := bel_trans B b2
    clear b2 x0 x1 x2 zx R1 o2
    go_wp2_with fail
    refine (specAlone_any d p2 page _ HBS.out n2).mono ?_
    rintro e w3 ⟨rfl, b3⟩
    replace XA := XA.below b3
    replace B := bel_trans B b3
    clear b3 n2
    have R3 := (HC.out.below B).wr HS.out
    obtain ⟨x0, x1, x2, zx⟩ := XA.at3
    go_wp2_with fail
    refine (toWorld_own d p _ HS.out R3).mono ?_
    rintro e w4 ⟨p4, rfl, o4, _, b4⟩
    have n4 := o4.wr HS.out
    replace XA := XA.below b4
    replace B := bel_trans B b4
    clear b4 x0 x1 x2 zx R3 o4
    go_wp2_with fail
    have bx := bel_alloc (Below.refl w4.heap.size w4) (.cells (wcells d p4) 31)
    have XP := Box.new w4 (wcells d p4) 31
    replace n4 := n4.below bx
    replace XA := XA.below bx
    replace B := bel_trans B bx
    clear bx
    refine (HI'.out d p4 page _ HBS.out n4).mono ?_
    rintro e w5 ⟨rfl, b5⟩
    replace n4 := n4.below b5
    replace XA := XA.below b5
    replace XP := XP.below b5
    replace B := bel_trans B b5
    clear b5
    have R5 := wr_drew ((HC.out.below B).wr HS.out)
    obtain ⟨x0, x1, x2, zx⟩ := XA.at3
    obtain ⟨y0, y1, y2, zy⟩ := XP.at3
    clear XA XP
    generalize (worldB d && (inB page 0 5 && aloneB d page.toNat)) = ok
    go_wp2_with fail
    go_region_with (first | (go_at_call 6; refine (toWorld_own d p _ HS.out R5).mono ?_; rintro e w6 ⟨p6, rfl, o6, l6, b6⟩; have n6 := o6.wr HS.out; have b6 := bel_undrew b6; obtain ⟨hc6, hf6⟩ := bcell b6) | (go_at_call 8; refine (eqWorld_any d p4 p6 _ (n4.below b6) n6).mono ?_; rintro e w7 ⟨rfl, b7⟩))
    all_goals
      have B7 := bel_trans (bel_trans B b6) b7
      go_wp2
      go_ret
      exact ⟨rfl, B7⟩

end LawFnExactAlone
end Go.Proofs.Ytiaiomjoapbalaa
