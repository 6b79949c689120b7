/- A node as the row hands it over (written by mkon.py). -/
import Derived.Test.YtpahjfijpjgdnaaNdZ
import Derived.Test.YtpahjfijpjgdnaaOpenS
namespace Go.Proofs.Ytpahjfijpjgdnaa
open Go.ChangeShapes Go.WideShapes Go.ChangeAt Go.RowKit
set_option linter.unusedVariables false

theorem cells_sender' : Try.prog.cellsOf 138 = 2 := by kernel_rfl
theorem cells_receiver' : Try.prog.cellsOf 154 = 1 := by kernel_rfl
theorem cells_msgs' : Try.prog.cellsOf 136 = 1 := by kernel_rfl
theorem cells_node' : Try.prog.cellsOf 73 = 5 := by kernel_rfl
theorem cells_homes' : Try.prog.cellsOf 69 = 1 := by kernel_rfl
theorem cells_senders' : Try.prog.cellsOf 70 = 1 := by kernel_rfl
theorem cells_receivers' : Try.prog.cellsOf 71 = 1 := by kernel_rfl


set_option maxRecDepth 100000 in
theorem home_cells {H : Type} {enc : TypeId × Value → H} {W : World} {base : Nat} {held : Bool} {fuel : Nat} {cs : List Value} {x : DataW H × List MemPlace} (h : DataW.trod enc Try.prog W base (fun _ => true) held fuel 134 cs = some x) :
    ∃ (d : HD) (p : HP), cs = hcells d p ∧ Came .i64 W p.l.1 p.l.2 d.xs ∧ VCame W p.r.1 (bv d.bs) ∧ VCame W p.q.1 (wv d.ws) ∧ d.bs.length ≤ maxLen ∧ d.ws.length ≤ maxLen := by
  obtain ⟨ys, n, _, _, hl, hyl, hf⟩ := DataW.trod_struct Try.underlying134 h
  rw [cells_home'] at hl
  match cs, hl, ys, hyl with
  | [c0, c1, c2, c3, c4, c5, c6, c7], _, [y0, y1, y2, y3, y4, y5, y6], _ =>
    have g0 := hf 0 _ rfl
    have g1 := hf 1 _ rfl
    have g2 := hf 2 _ rfl
    have g3 := hf 3 _ rfl
    have g4 := hf 4 _ rfl
    have g5 := hf 5 _ rfl
    have g6 := hf 6 _ rfl
    simp [cells_int', cells_bool', cells_ints', cells_bools', cells_wait', cells_waits'] at g0 g1 g2 g3 g4 g5 g6
    obtain ⟨m1, e1, _, _⟩ := DataW.trod_int Try.underlying3 g1
    obtain ⟨ar, cr, bs, e2, hbs, hbl⟩ := open_bools g2
    obtain ⟨m3, e3, _⟩ := DataW.trod_bool Try.underlying4 g3
    obtain ⟨k, o, e4⟩ := wait_cells g4
    obtain ⟨m5, e5, _, _⟩ := DataW.trod_int Try.underlying3 g5
    obtain ⟨aq, cq, ws, e6, hws, hwl⟩ := open_waits g6
    simp only [List.cons.injEq, and_true] at e1 e3 e4 e5
    obtain ⟨rfl, rfl⟩ := e4
    subst e1 e2 e3 e5 e6
    rcases open_ints Try.underlying44 Try.underlying3 (by kernel_rfl) g0 with ⟨hcs, _⟩ | ⟨x, l, c, zs, hcs, _, hl, hm, hz, _, hcell, hwz⟩
    · simp only [List.cons.injEq, and_true] at hcs
      exact ⟨⟨[], m1, bs, m3, k, o, m5, ws⟩, ⟨(none, 0), (ar, cr), (aq, cq)⟩, by rw [hcs]; rfl, came_nil _ _, hbs, hws, hbl, hwl⟩
    · simp only [List.cons.injEq, and_true] at hcs
      have hc := came_of hl hm (by simpa using hz) hcell hwz
      exact ⟨⟨zs.take l, m1, bs, m3, k, o, m5, ws⟩, ⟨(some x, c), (ar, cr), (aq, cq)⟩, by rw [hcs]; simp only [hcells]; rw [hc.1], hc.2, hbs, hws, hbl, hwl⟩
set_option maxRecDepth 100000 in
theorem sender_cells {H : Type} {enc : TypeId × Value → H} {W : World} {base : Nat} {held : Bool} {fuel : Nat} {cs : List Value} {x : DataW H × List MemPlace} (h : DataW.trod enc Try.prog W base (fun _ => true) held fuel 138 cs = some x) :
    ∃ (B : Int) (p : Pl) (ms : List M), cs = scells B p ms.length ∧ MCame W p.1 p.2 ms := by
  obtain ⟨ys, n, _, _, hl, hyl, hf⟩ := DataW.trod_struct Try.underlying138 h
  rw [cells_sender'] at hl
  match cs, hl, ys, hyl with
  | [c0, c1], _, [y0, y1], _ =>
    have g0 := hf 0 _ rfl
    have g1 := hf 1 _ rfl
    simp [cells_int', cells_msgs'] at g0 g1
    obtain ⟨m0, e0, _, _⟩ := DataW.trod_int Try.underlying3 g0
    obtain ⟨a, c, ms, e1, hc⟩ := open_msgs g1
    simp only [List.cons.injEq, and_true] at e0
    subst e0 e1
    exact ⟨m0, (a, c), ms, rfl, hc⟩

set_option maxRecDepth 100000 in
theorem receiver_cells {H : Type} {enc : TypeId × Value → H} {W : World} {base : Nat} {held : Bool} {fuel : Nat} {cs : List Value} {x : DataW H × List MemPlace} (h : DataW.trod enc Try.prog W base (fun _ => true) held fuel 154 cs = some x) : ∃ g : Int, cs = gcells g := by
  obtain ⟨ys, n, _, _, hl, hyl, hf⟩ := DataW.trod_struct Try.underlying154 h
  rw [cells_receiver'] at hl
  match cs, hl, ys, hyl with
  | [c0], _, [y0], _ =>
    have g0 := hf 0 _ rfl
    simp [cells_int'] at g0
    obtain ⟨m0, e0, _, _⟩ := DataW.trod_int Try.underlying3 g0
    simp only [List.cons.injEq, and_true] at e0
    subst e0
    exact ⟨m0, rfl⟩

theorem open_homes {H : Type} {enc : TypeId × Value → H} {W : World} {base : Nat} {held : Bool} {fuel : Nat} {v : Value} {x : DataW H × List MemPlace} (h : DataW.trod enc Try.prog W base (fun _ => true) held fuel 69 [v] = some x) : ∃ (a : Pl) (n : Nat) (d : Nat → HD) (p : Nat → HP), v = .slice a.1 n a.2 ∧ HC2 W a.1 n d p := by
  obtain ⟨a, c, n, F, rfl, hn, hV, hF⟩ := open_rows 69 134 8 Try.underlying69 cells_home' (by decide) h
  have key : ∀ i, i < n → ∃ q : HD × HP, F i = hcells q.1 q.2 ∧ Came .i64 W q.2.l.1 q.2.l.2 q.1.xs ∧ VCame W q.2.r.1 (bv q.1.bs) ∧ VCame W q.2.q.1 (wv q.1.ws) ∧ q.1.bs.length ≤ maxLen ∧ q.1.ws.length ≤ maxLen := fun i hi => by
    obtain ⟨_, fl, y, hy⟩ := hF i hi
    obtain ⟨d, p, e, hc⟩ := home_cells hy
    exact ⟨(d, p), e, hc⟩
  obtain ⟨f, hf⟩ := fun_of (⟨[], 0, [], false, 0, false, 0, []⟩, ⟨(none, 0), (none, 0), (none, 0)⟩) n key
  exact ⟨(a, c), n, fun i => (f i).1, fun i => (f i).2, rfl, hn, hV.congr (fun i hi => (hf i hi).1), fun i hi => (hf i hi).2⟩
theorem open_senders {H : Type} {enc : TypeId × Value → H} {W : World} {base : Nat} {held : Bool} {fuel : Nat} {v : Value} {x : DataW H × List MemPlace} (h : DataW.trod enc Try.prog W base (fun _ => true) held fuel 70 [v] = some x) : ∃ (a : Pl) (n : Nat) (b : Nat → Int) (y : Nat → List Say) (p : Nat → Pl) (ms : Nat → List M), v = .slice a.1 n a.2 ∧ SC W a.1 n b y p ms := by
  obtain ⟨a, c, n, F, rfl, hn, hV, hF⟩ := open_rows 70 138 2 Try.underlying70 cells_sender' (by decide) h
  have key : ∀ i, i < n → ∃ q : Int × Pl × List M, F i = scells q.1 q.2.1 q.2.2.length ∧ MCame W q.2.1.1 q.2.1.2 q.2.2 := fun i hi => by
    obtain ⟨_, fl, y, hy⟩ := hF i hi
    obtain ⟨B, p, ms, e, hc⟩ := sender_cells hy
    exact ⟨(B, p, ms), e, hc⟩
  obtain ⟨f, hf⟩ := fun_of (0, (none, 0), []) n key
  exact ⟨(a, c), n, fun i => (f i).1, fun i => (f i).2.2.map M.say, fun i => (f i).2.1, fun i => (f i).2.2, rfl, hn, hV.congr (fun i hi => by rw [(hf i hi).1]; simp), fun i hi => ⟨(hf i hi).2, rfl⟩⟩
theorem open_receivers {H : Type} {enc : TypeId × Value → H} {W : World} {base : Nat} {held : Bool} {fuel : Nat} {v : Value} {x : DataW H × List MemPlace} (h : DataW.trod enc Try.prog W base (fun _ => true) held fuel 71 [v] = some x) : ∃ (a : Pl) (n : Nat) (g : Nat → Int), v = .slice a.1 n a.2 ∧ GC W a.1 n g := by
  obtain ⟨a, c, n, F, rfl, hn, hV, hF⟩ := open_rows 71 154 1 Try.underlying71 cells_receiver' (by decide) h
  have key : ∀ i, i < n → ∃ q : Int, F i = gcells q := fun i hi => by
    obtain ⟨_, fl, y, hy⟩ := hF i hi
    exact receiver_cells hy
  obtain ⟨f, hf⟩ := fun_of 0 n key
  exact ⟨(a, c), n, f, rfl, hn, hV.congr hf⟩

set_option maxRecDepth 100000 in
theorem open_node {H : Type} {enc : TypeId × Value → H} {W : World} {base : Nat} {held : Bool} {r : Reach} {b0 : Nat} {v : Value} {d : DataW H} {q : List MemPlace}
    (hv : Value.okWide Try.prog W r b0 73 v) (h : DataW.Trod enc Try.prog W base (fun _ => true) held 73 v d q) :
    ∃ (D : ND) (p : NP), v = .agg (ncells D p) ∧ NC W D p := by
  obtain ⟨cs, rfl, hsz⟩ := okWide_struct Try.underlying73 hv
  obtain ⟨fuel, hf⟩ := h
  obtain ⟨ys, n, _, _, hl, hyl, hf⟩ := DataW.trod_struct Try.underlying73 hf
  rw [cells_node'] at hl
  obtain ⟨cs⟩ := cs
  simp only [Value.cells] at hl hf
  match cs, hl, ys, hyl with
  | [c0, c1, c2, c3, c4], _, [y0, y1, y2, y3, y4], _ =>
    have g0 := hf 0 _ rfl
    have g1 := hf 1 _ rfl
    have g2 := hf 2 _ rfl
    have g3 := hf 3 _ rfl
    have g4 := hf 4 _ rfl
    simp [cells_int', cells_frames', cells_homes', cells_senders', cells_receivers'] at g0 g1 g2 g3 g4
    obtain ⟨m0, e0, _, _⟩ := DataW.trod_int Try.underlying3 g0
    simp only [List.cons.injEq, and_true] at e0
    obtain ⟨pf, nf, df, fp, e1, hF⟩ := open_frames g1
    obtain ⟨ph, nh, dh, hp, e2, hH⟩ := open_homes g2
    obtain ⟨po, no, b, y, op, ms, e3, hS⟩ := open_senders g3
    obtain ⟨pi, ni, g, e4, hG⟩ := open_receivers g4
    subst e0 e1 e2 e3 e4
    exact ⟨⟨m0, nf, df, nh, dh, no, b, y, ni, g⟩, ⟨pf, fp, ph, hp, po, op, ms, pi⟩, rfl, hF, hH, hS, hG⟩
end Go.Proofs.Ytpahjfijpjgdnaa
