/- A world as the row hands it over. -/
import Derived.Test.YtpahjfijpjgdnaaOpenN
import Derived.Test.YtpahjfijpjgdnaaWoZ
namespace Go.Proofs.Ytpahjfijpjgdnaa
open Go.ChangeShapes Go.WideShapes Go.ChangeAt Go.RowKit
set_option linter.unusedVariables false

theorem cells_packetW : Try.prog.cellsOf 78 = 8 := by kernel_rfl
theorem cells_msgW : Try.prog.cellsOf 76 = 4 := by kernel_rfl
theorem cells_worldW : Try.prog.cellsOf 25 = 3 := by kernel_rfl
theorem cells_nodesW : Try.prog.cellsOf 22 = 1 := by kernel_rfl
theorem cells_packetsW : Try.prog.cellsOf 23 = 1 := by kernel_rfl
theorem cells_intW : Try.prog.cellsOf 3 = 1 := by kernel_rfl
theorem cells_boolW : Try.prog.cellsOf 4 = 1 := by kernel_rfl

set_option maxRecDepth 100000 in
theorem packet_cells {H : Type} {enc : TypeId × Value → H} {W : World} {base : Nat} {held : Bool} {fuel : Nat} {cs : List Value} {x : DataW H × List MemPlace} (h : DataW.trod enc Try.prog W base (fun _ => true) held fuel 78 cs = some x) :
    ∃ (d : PkD) (q : Pl), cs = pkcells d q ∧ Came .i64 W q.1 q.2 d.xs := by
  obtain ⟨ys, n, _, _, hl, hyl, hf⟩ := DataW.trod_struct Try.underlying78 h
  rw [cells_packetW] at hl
  match cs, hl, ys, hyl with
  | [c0, c1, c2, c3, c4, c5, c6, c7], _, [y0, y1, y2, y3, y4], _ =>
    have g0 := hf 0 _ rfl
    have g1 := hf 1 _ rfl
    have g2 := hf 2 _ rfl
    have g3 := hf 3 _ rfl
    have g4 := hf 4 _ rfl
    simp [cells_intW, cells_boolW, cells_msgW] at g0 g1 g2 g3 g4
    obtain ⟨m0, e0, _, _⟩ := DataW.trod_int Try.underlying3 g0
    obtain ⟨m1, e1, _, _⟩ := DataW.trod_int Try.underlying3 g1
    obtain ⟨m2, e2, _⟩ := DataW.trod_bool Try.underlying4 g2
    obtain ⟨m3, e3, _, _⟩ := DataW.trod_int Try.underlying3 g3
    obtain ⟨k, p, o, a, c, xs, e4, hcame, _, _⟩ := msg_cells g4
    simp only [List.cons.injEq, and_true] at e0 e1 e2 e3 e4
    obtain ⟨rfl, rfl, rfl, rfl⟩ := e4
    subst e0 e1 e2 e3
    exact ⟨⟨m0, m1, m2, m3, k, p, o, xs⟩, (a, c), rfl, hcame⟩

set_option maxRecDepth 100000 in
theorem node_cells {H : Type} {enc : TypeId × Value → H} {W : World} {base : Nat} {held : Bool} {fuel : Nat} {cs : List Value} {x : DataW H × List MemPlace} (h : DataW.trod enc Try.prog W base (fun _ => true) held fuel 73 cs = some x) :
    ∃ (d : ND) (p : NP), cs = nlist d p ∧ NC W d p := by
  obtain ⟨ys, n, _, _, hl, hyl, hf⟩ := DataW.trod_struct Try.underlying73 h
  rw [cells_node'] at hl
  match cs, hl, ys, hyl with
  | [c0, c1, c2, c3, c4], _, [y0, y1, y2, y3, y4], _ =>
    have g0 := hf 0 _ rfl
    have g1 := hf 1 _ rfl
    have g2 := hf 2 _ rfl
    have g3 := hf 3 _ rfl
    have g4 := hf 4 _ rfl
    simp [cells_intW, cells_frames', cells_homes', cells_senders', cells_receivers'] at g0 g1 g2 g3 g4
    obtain ⟨m0, e0, _, _⟩ := DataW.trod_int Try.underlying3 g0
    simp only [List.cons.injEq, and_true] at e0
    obtain ⟨pf, nf, df, fp, e1, hF⟩ := open_frames g1
    obtain ⟨ph, nh, dh, hp, e2, hH⟩ := open_homes g2
    obtain ⟨po, no, b, y, op, ms, e3, hS⟩ := open_senders g3
    obtain ⟨pi, ni, g, e4, hG⟩ := open_receivers g4
    subst e0 e1 e2 e3 e4
    exact ⟨⟨m0, nf, df, nh, dh, no, b, y, ni, g⟩, ⟨pf, fp, ph, hp, po, op, ms, pi⟩, rfl, hF, hH, hS, hG⟩

theorem open_packets {H : Type} {enc : TypeId × Value → H} {W : World} {base : Nat} {held : Bool} {fuel : Nat} {v : Value} {x : DataW H × List MemPlace} (h : DataW.trod enc Try.prog W base (fun _ => true) held fuel 23 [v] = some x) : ∃ (a : Pl) (n : Nat) (d : Nat → PkD) (p : Nat → Pl), v = .slice a.1 n a.2 ∧ PkC W a.1 n d p := by
  obtain ⟨a, c, n, F, rfl, hn, hV, hF⟩ := open_rows 23 78 8 Try.underlying23 cells_packetW (by decide) h
  have key : ∀ i, i < n → ∃ q : PkD × Pl, F i = pkcells q.1 q.2 ∧ Came .i64 W q.2.1 q.2.2 q.1.xs := fun i hi => by
    obtain ⟨_, fl, y, hy⟩ := hF i hi
    obtain ⟨d, p, e, hc⟩ := packet_cells hy
    exact ⟨(d, p), e, hc⟩
  obtain ⟨f, hf⟩ := fun_of (⟨0, 0, false, 0, 0, 0, false, []⟩, (none, 0)) n key
  exact ⟨(a, c), n, fun i => (f i).1, fun i => (f i).2, rfl, hn, hV.congr (fun i hi => (hf i hi).1), fun i hi => (hf i hi).2⟩
theorem open_nodes {H : Type} {enc : TypeId × Value → H} {W : World} {base : Nat} {held : Bool} {fuel : Nat} {v : Value} {x : DataW H × List MemPlace} (h : DataW.trod enc Try.prog W base (fun _ => true) held fuel 22 [v] = some x) : ∃ (a : Pl) (n : Nat) (d : Nat → ND) (p : Nat → NP), v = .slice a.1 n a.2 ∧ NsC W a.1 n d p := by
  obtain ⟨a, c, n, F, rfl, hn, hV, hF⟩ := open_rows 22 73 5 Try.underlying22 cells_node' (by decide) h
  have key : ∀ i, i < n → ∃ q : ND × NP, F i = nlist q.1 q.2 ∧ NC W q.1 q.2 := fun i hi => by
    obtain ⟨_, fl, y, hy⟩ := hF i hi
    obtain ⟨d, p, e, hc⟩ := node_cells hy
    exact ⟨(d, p), e, hc⟩
  obtain ⟨f, hf⟩ := fun_of (⟨0, 0, fun _ => ⟨0, [], false⟩, 0, fun _ => ⟨[], 0, [], false, 0, false, 0, []⟩, 0, fun _ => 0, fun _ => [], 0, fun _ => 0⟩, ⟨(none, 0), fun _ => (none, 0), (none, 0), fun _ => ⟨(none, 0), (none, 0), (none, 0)⟩, (none, 0), fun _ => (none, 0), fun _ => [], (none, 0)⟩) n key
  exact ⟨(a, c), n, fun i => (f i).1, fun i => (f i).2, rfl, hn, hV.congr (fun i hi => (hf i hi).1), fun i hi => (hf i hi).2⟩

set_option maxRecDepth 100000 in
theorem open_world {H : Type} {enc : TypeId × Value → H} {W : World} {base : Nat} {held : Bool} {r : Reach} {b0 : Nat} {v : Value} {d : DataW H} {q : List MemPlace}
    (hv : Value.okWide Try.prog W r b0 25 v) (h : DataW.Trod enc Try.prog W base (fun _ => true) held 25 v d q) :
    ∃ (D : WoD) (p : WoP), v = .agg (wcells D p) ∧ WoC W D p := by
  obtain ⟨cs, rfl, hsz⟩ := okWide_struct Try.underlying25 hv
  obtain ⟨fuel, hf⟩ := h
  obtain ⟨ys, n, _, _, hl, hyl, hf⟩ := DataW.trod_struct Try.underlying25 hf
  rw [cells_worldW] at hl
  obtain ⟨cs⟩ := cs
  simp only [Value.cells] at hl hf
  match cs, hl, ys, hyl with
  | [c0, c1, c2], _, [y0, y1, y2], _ =>
    have g0 := hf 0 _ rfl
    have g1 := hf 1 _ rfl
    have g2 := hf 2 _ rfl
    simp [cells_intW, cells_nodesW, cells_packetsW] at g0 g1 g2
    obtain ⟨m0, e0, _, _⟩ := DataW.trod_int Try.underlying3 g0
    simp only [List.cons.injEq, and_true] at e0
    obtain ⟨pn, nn, dn, np, e1, hN⟩ := open_nodes g1
    obtain ⟨pk, nk, dk, kp, e2, hK⟩ := open_packets g2
    subst e0 e1 e2
    exact ⟨⟨m0, nn, dn, nk, dk⟩, ⟨pn, np, pk, kp⟩, rfl, hN, hK⟩
end Go.Proofs.Ytpahjfijpjgdnaa
