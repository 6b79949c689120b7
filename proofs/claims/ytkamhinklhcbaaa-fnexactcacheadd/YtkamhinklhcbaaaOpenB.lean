/- A block as the row hands it over. -/
import Derived.Test.YtkamhinklhcbaaaBk1
import Derived.Test.YtkamhinklhcbaaaRwO
namespace Go.Proofs.Ytkamhinklhcbaaa
open Go.ChangeShapes Go.WideShapes Go.ChangeAt Go.RowKit
set_option linter.unusedVariables false

/-- A row of places that came in. -/
def IC (w : World) (a : Option Addr) (n : Nat) (d : Nat → XD) : Prop := n ≤ maxLen ∧ VCame w a (chunks n fun i => ic (d i))
theorem IC.ir {w : World} {a : Option Addr} {n : Nat} {d : Nat → XD} (h : IC w a n d) (hn : n ≤ 1048577) : IR w a n d := ⟨hn, h.2.vrow (by rw [chunks_length (s := 5) n (fun i _ => rfl)]; omega)⟩

theorem cells_ins' : Try.prog.cellsOf 119 = 5 := by kernel_rfl
set_option maxRecDepth 100000 in
theorem ins_cells {H : Type} {enc : TypeId × Value → H} {W : World} {base : Nat} {held : Bool} {fuel : Nat} {cs : List Value} {x : DataW H × List MemPlace} (h : DataW.trod enc Try.prog W base (fun _ => true) held fuel 119 cs = some x) :
    ∃ d : XD, cs = ic d := by
  obtain ⟨ys, n, _, _, hl, hyl, hf⟩ := DataW.trod_struct Try.underlying119 h
  rw [cells_ins'] at hl
  match cs, hl, ys, hyl with
  | [c0, c1, c2, c3, c4], _, [y0, y1, y2, y3, y4], _ =>
    have g0 := hf 0 _ rfl
    have g1 := hf 1 _ rfl
    have g2 := hf 2 _ rfl
    have g3 := hf 3 _ rfl
    have g4 := hf 4 _ rfl
    simp [cells_int'] at g0 g1 g2 g3 g4
    obtain ⟨m0, e0, _, _⟩ := DataW.trod_int Try.underlying3 g0
    obtain ⟨m1, e1, _, _⟩ := DataW.trod_int Try.underlying3 g1
    obtain ⟨m2, e2, _, _⟩ := DataW.trod_int Try.underlying3 g2
    obtain ⟨m3, e3, _, _⟩ := DataW.trod_int Try.underlying3 g3
    obtain ⟨m4, e4, _, _⟩ := DataW.trod_int Try.underlying3 g4
    simp only [List.cons.injEq, and_true] at e0 e1 e2 e3 e4
    subst e0 e1 e2 e3 e4
    exact ⟨⟨m0, m1, m2, m3, m4⟩, rfl⟩
theorem open_places {H : Type} {enc : TypeId × Value → H} {W : World} {base : Nat} {held : Bool} {fuel : Nat} {v : Value} {x : DataW H × List MemPlace} (h : DataW.trod enc Try.prog W base (fun _ => true) held fuel 54 [v] = some x) :
    ∃ (a : Option Addr) (c n : Nat) (d : Nat → XD), v = .slice a n c ∧ IC W a n d := by
  obtain ⟨a, c, n, F, rfl, hn, hv, hF⟩ := open_rows 54 119 5 Try.underlying54 cells_ins' (by decide) h
  obtain ⟨g, hg⟩ := fun_of (α := XD) ⟨0, 0, 0, 0, 0⟩ (P := fun i x => F i = ic x) n (fun i hi => by
    obtain ⟨_, fl, y, hy⟩ := hF i hi
    exact ins_cells hy)
  exact ⟨a, c, n, g, rfl, hn, hv.congr hg⟩
set_option maxRecDepth 100000 in
theorem open_block {H : Type} {enc : TypeId × Value → H} {W : World} {base : Nat} {held : Bool} {r : Reach} {b0 : Nat} {v : Value} {d : DataW H} {q : List MemPlace}
    (hv : Value.okWide Try.prog W r b0 56 v) (h : DataW.Trod enc Try.prog W base (fun _ => true) held 56 v d q) :
    ∃ (st : Int) (a : Option Addr) (c n : Nat) (d' : Nat → XD), v = .agg #[.int .i64 st, .slice a n c] ∧ IC W a n d' := by
  obtain ⟨cs, rfl, hsz⟩ := okWide_struct Try.underlying56 hv
  obtain ⟨fuel, hf⟩ := h
  obtain ⟨ys, n, _, _, hl, hyl, hf⟩ := DataW.trod_struct Try.underlying56 hf
  have hc : Try.prog.cellsOf 56 = 2 := by kernel_rfl
  have hp : Try.prog.cellsOf 54 = 1 := by kernel_rfl
  rw [hc] at hl
  obtain ⟨cs⟩ := cs
  simp only [Value.cells] at hl hf
  match cs, hl, ys, hyl with
  | [c0, c1], _, [y0, y1], _ =>
    have g0 := hf 0 _ rfl
    have g1 := hf 1 _ rfl
    simp [cells_int', hp] at g0 g1
    obtain ⟨m0, e0, _, _⟩ := DataW.trod_int Try.underlying3 g0
    simp only [List.cons.injEq, and_true] at e0
    subst e0
    obtain ⟨a, c, n, d', rfl, hI⟩ := open_places g1
    exact ⟨m0, a, c, n, d', rfl, hI⟩
end Go.Proofs.Ytkamhinklhcbaaa
