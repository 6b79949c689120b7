/- A home as the row hands it over. -/
import Derived.Test.YtpahjfijpjgdnaaHtZ
import Derived.Test.YtpahjfijpjgdnaaOpenC
import Derived.Test.YtpahjfijpjgdnaaHomM
import Derived.Deep.Slices
namespace Go.Proofs.Ytpahjfijpjgdnaa
open Go.ChangeShapes Go.WideShapes Go.ChangeAt Go.RowKit
set_option linter.unusedVariables false

theorem cells_bools' : Try.prog.cellsOf 129 = 1 := by kernel_rfl
theorem cells_waits' : Try.prog.cellsOf 132 = 1 := by kernel_rfl
theorem cells_wait' : Try.prog.cellsOf 131 = 2 := by kernel_rfl
theorem cells_home' : Try.prog.cellsOf 134 = 8 := by kernel_rfl

/-- A list built index by index. -/
theorem list_of' {α : Type} {p : Nat → α → Prop} (n : Nat) (h : ∀ i, i < n → ∃ x, p i x) : ∃ xs : List α, xs.length = n ∧ ∀ i x, xs[i]? = some x → p i x := by
  induction n with
  | zero => exact ⟨[], rfl, by simp⟩
  | succ n ih =>
    obtain ⟨xs, hl, hx⟩ := ih (fun i hi => h i (by omega))
    obtain ⟨y, hy⟩ := h n (by omega)
    refine ⟨xs ++ [y], by simp [hl], fun i x hi => ?_⟩
    by_cases hin : i < xs.length
    · rw [List.getElem?_append_left hin] at hi
      exact hx i x hi
    · rw [List.getElem?_append_right (by omega)] at hi
      have : i - xs.length = 0 := by
        have := (List.getElem?_eq_some_iff.1 hi).1
        simp at this
        omega
      rw [this] at hi
      simp at hi
      subst hi
      have e : i = n := by omega
      rw [e]
      exact hy

set_option maxRecDepth 100000 in
theorem wait_cells {H : Type} {enc : TypeId × Value → H} {W : World} {base : Nat} {held : Bool} {fuel : Nat} {cs : List Value} {x : DataW H × List MemPlace}
    (h : DataW.trod enc Try.prog W base (fun _ => true) held fuel 131 cs = some x) :
    ∃ (k : Int) (o : Bool), cs = [.int .i64 k, .bool o] := by
  obtain ⟨ys, n, _, _, hl, hyl, hf⟩ := DataW.trod_struct Try.underlying131 h
  rw [cells_wait'] at hl
  match cs, hl, ys, hyl with
  | [c0, c1], _, [y0, y1], _ =>
    have g0 := hf 0 _ rfl
    have g1 := hf 1 _ rfl
    simp [cells_int', cells_bool'] at g0 g1
    obtain ⟨mk, e0, _, wk⟩ := DataW.trod_int Try.underlying3 g0
    obtain ⟨mo, e1, _⟩ := DataW.trod_bool Try.underlying4 g1
    simp only [List.cons.injEq, and_true] at e0 e1
    subst e0 e1
    exact ⟨mk, mo, rfl⟩

set_option maxRecDepth 100000 in
theorem open_bools {H : Type} {enc : TypeId × Value → H} {W : World} {base : Nat} {held : Bool} {fuel : Nat} {v : Value} {x : DataW H × List MemPlace}
    (h : DataW.trod enc Try.prog W base (fun _ => true) held fuel 129 [v] = some x) :
    ∃ (a : Option Addr) (c : Nat) (bs : List Bool), v = .slice a bs.length c ∧ VCame W a (bv bs) ∧ bs.length ≤ maxLen := by
  rcases Go.Deep.open_slice Try.underlying129 h with ⟨h0, _⟩ | ⟨a, len, cap, m, n, D, Pl, hcs, hb, hl, hm, hmm, _, hx⟩
  · simp at h0
    exact ⟨none, 0, [], h0, fun i v hi => by simp [bv] at hi, Nat.zero_le _⟩
  · simp at hcs
    simp at hmm
    have key : ∀ i, i < len → ∃ x : Bool, ∃ b off, a = ⟨b, off, none⟩ ∧ W.cell? ⟨b, off + i, none⟩ = some (.bool x) := by
      intro i hi
      obtain ⟨cs', h1, h2⟩ := hx i (by omega)
      rw [cells_bool'] at h1
      obtain ⟨_, hlen, hcell⟩ := World.cells?_some h1
      obtain ⟨o, e, _⟩ := DataW.trod_bool Try.underlying4 h2
      subst e
      have e0 := hcell 0 (by simp)
      rw [Go.Deep.add_add] at e0
      have hs : a.spot = none := by
        obtain ⟨cs0, g1, g2⟩ := hx 0 (by omega)
        rw [cells_bool'] at g1
        obtain ⟨_, _, gcell⟩ := World.cells?_some g1
        obtain ⟨_, e', _⟩ := DataW.trod_bool Try.underlying4 g2
        subst e'
        have g0 := gcell 0 (by simp)
        rw [Go.Deep.add_add] at g0
        simpa [Addr.add] using World.cell?_spot g0
      obtain ⟨b, off, spot⟩ := a
      have hspot : spot = none := hs
      subst hspot
      rw [add_off' _ b off rfl] at e0
      exact ⟨o, b, off, rfl, by simpa using e0⟩
    obtain ⟨bs, hml, hbs⟩ := list_of' len key
    refine ⟨some a, cap, bs, by rw [hml]; exact hcs, fun i v hi => ?_, by omega⟩
    rw [bv, List.getElem?_map] at hi
    cases hbi : bs[i]? with
    | none => rw [hbi] at hi; simp at hi
    | some y =>
      rw [hbi] at hi
      simp at hi
      obtain ⟨b, off, rfl, hc⟩ := hbs i y hbi
      exact ⟨b, off, rfl, by rw [hc, hi]⟩

set_option maxRecDepth 100000 in
theorem open_waits {H : Type} {enc : TypeId × Value → H} {W : World} {base : Nat} {held : Bool} {fuel : Nat} {v : Value} {x : DataW H × List MemPlace}
    (h : DataW.trod enc Try.prog W base (fun _ => true) held fuel 132 [v] = some x) :
    ∃ (a : Option Addr) (c : Nat) (ws : List (Int × Bool)), v = .slice a ws.length c ∧ VCame W a (wv ws) ∧ ws.length ≤ maxLen := by
  rcases Go.Deep.open_slice Try.underlying132 h with ⟨h0, _⟩ | ⟨a, len, cap, m, n, D, Pl, hcs, hb, hl, hm, hmm, _, hx⟩
  · simp at h0
    exact ⟨none, 0, [], h0, fun i v hi => by simp [wv] at hi, Nat.zero_le _⟩
  · simp at hcs
    simp at hmm
    have key : ∀ i, i < len → ∃ x : Int × Bool, ∃ b off, a = ⟨b, off, none⟩ ∧ W.cell? ⟨b, off + i * 2, none⟩ = some (.int .i64 x.1) ∧ W.cell? ⟨b, off + i * 2 + 1, none⟩ = some (.bool x.2) := by
      intro i hi
      obtain ⟨cs', h1, h2⟩ := hx i (by omega)
      rw [cells_wait'] at h1
      obtain ⟨k, o, rfl⟩ := wait_cells h2
      obtain ⟨_, hlen, hcell⟩ := World.cells?_some h1
      have e0 := hcell 0 (by simp)
      have e1 := hcell 1 (by simp)
      rw [Go.Deep.add_add] at e0 e1
      have hs : a.spot = none := by
        obtain ⟨cs0, g1, g2⟩ := hx 0 (by omega)
        rw [cells_wait'] at g1
        obtain ⟨_, _, rfl⟩ := wait_cells g2
        obtain ⟨_, _, gcell⟩ := World.cells?_some g1
        have g0 := gcell 0 (by simp)
        rw [Go.Deep.add_add] at g0
        simpa [Addr.add] using World.cell?_spot g0
      obtain ⟨b, off, spot⟩ := a
      have hspot : spot = none := hs
      subst hspot
      rw [add_off' _ b off rfl] at e0 e1
      exact ⟨(k, o), b, off, rfl, by simpa using e0, by simpa [Nat.add_assoc] using e1⟩
    obtain ⟨ws, hml, hws⟩ := list_of' len key
    refine ⟨some a, cap, ws, by rw [hml]; exact hcs, fun i v hi => ?_, by omega⟩
    have hlt : i < ws.length * 2 := by
      have := (List.getElem?_eq_some_iff.1 hi).1
      rw [wv_length] at this
      exact this
    have hg : ws[i / 2]? = some (ws.getD (i / 2) (0, false)) := by
      have h2 : i / 2 < ws.length := by omega
      simp [h2]
    obtain ⟨b, off, rfl, h0, h1⟩ := hws (i / 2) _ hg
    obtain ⟨w0, w1⟩ := wv_get ws (i / 2) (by omega)
    refine ⟨b, off, rfl, ?_⟩
    by_cases hp : i % 2 = 0
    · rw [show i / 2 * 2 = i by omega] at w0 h0
      rw [h0, ← w0, hi]
    · rw [show i / 2 * 2 + 1 = i by omega] at w1
      rw [Nat.add_assoc, show i / 2 * 2 + 1 = i by omega] at h1
      rw [h1, ← w1, hi]

set_option maxRecDepth 100000 in
theorem open_home {H : Type} {enc : TypeId × Value → H} {W : World} {base : Nat} {held : Bool} {r : Reach} {b0 : Nat} {v : Value} {d : DataW H} {q : List MemPlace}
    (hv : Value.okWide Try.prog W r b0 134 v) (h : DataW.Trod enc Try.prog W base (fun _ => true) held 134 v d q) :
    ∃ (ow wh ak : Int) (bz wo : Bool) (al ar aq : Option Addr) (cl cr cq : Nat) (xs : List Int) (bs : List Bool) (ws : List (Int × Bool)), v = .agg #[.slice al xs.length cl, .int .i64 ow, .slice ar bs.length cr, .bool bz, .int .i64 wh, .bool wo, .int .i64 ak, .slice aq ws.length cq] ∧
      Came .i64 W al cl xs ∧ VCame W ar (bv bs) ∧ VCame W aq (wv ws) ∧ bs.length ≤ maxLen ∧ ws.length ≤ maxLen := by
  obtain ⟨cs, rfl, hsz⟩ := okWide_struct Try.underlying134 hv
  obtain ⟨fuel, hf⟩ := h
  obtain ⟨ys, n, _, _, hl, hyl, hf⟩ := DataW.trod_struct Try.underlying134 hf
  rw [cells_home'] at hl
  obtain ⟨cs⟩ := cs
  simp only [Value.cells] at hl hf
  match cs, hl, ys, hyl with
  | [c0, c1, c2, c3, c4, c5, c6, c7], _, [y0, y1, y2, y3, y4, y5, y6], _ =>
    have g0 := hf 0 _ rfl
    have g1 := hf 1 _ rfl
    have g2 := hf 2 _ rfl
    have g3 := hf 3 _ rfl
    have g4 := hf 4 _ rfl
    have g5 := hf 5 _ rfl
    have g6 := hf 6 _ rfl
    simp [cells_int', cells_bool', cells_ints', cells_bools', cells_wait', cells_waits'] at g0 g1 g2 g3 g4 g5 g6
    obtain ⟨m1, e1, _, _⟩ := DataW.trod_int Try.underlying3 g1
    obtain ⟨ar, cr, bs, e2, hbs, hbl⟩ := open_bools g2
    obtain ⟨m3, e3, _⟩ := DataW.trod_bool Try.underlying4 g3
    obtain ⟨k, o, e4⟩ := wait_cells g4
    obtain ⟨m5, e5, _, _⟩ := DataW.trod_int Try.underlying3 g5
    obtain ⟨aq, cq, ws, e6, hws, hwl⟩ := open_waits g6
    simp only [List.cons.injEq, and_true] at e1 e3 e4 e5
    obtain ⟨rfl, rfl⟩ := e4
    subst e1 e2 e3 e5 e6
    rcases open_ints Try.underlying44 Try.underlying3 (by kernel_rfl) g0 with ⟨hcs, _⟩ | ⟨x, l, c, zs, hcs, _, hl, hm, hz, _, hcell, hwz⟩
    · simp only [List.cons.injEq, and_true] at hcs
      exact ⟨m1, k, m5, m3, o, none, ar, aq, 0, cr, cq, [], bs, ws, by rw [hcs]; rfl, came_nil _ _, hbs, hws, hbl, hwl⟩
    · simp only [List.cons.injEq, and_true] at hcs
      have hc := came_of hl hm (by simpa using hz) hcell hwz
      exact ⟨m1, k, m5, m3, o, some x, ar, aq, c, cr, cq, zs.take l, bs, ws, by rw [hc.1, hcs], hc.2, hbs, hws, hbl, hwl⟩
end Go.Proofs.Ytpahjfijpjgdnaa
