/- A place of a program as the row hands it over. -/
import Derived.Test.YtfigbfddhmgafaaDoorOpenC
import Derived.Test.YtfigbfddhmgafaaDoorIn8
namespace Go.Proofs.YtfigbfddhmgafaaDoor
open Go.ChangeShapes Go.WideShapes Go.ChangeAt Go.RowKit
set_option linter.unusedVariables false

theorem cells_int8 : Tryd.prog.cellsOf 3 = 1 := by kernel_rfl
set_option maxRecDepth 100000 in
theorem open_ins {H : Type} {enc : TypeId × Value → H} {W : World} {base : Nat} {held : Bool} {r : Reach} {b0 : Nat} {v : Value} {d : DataW H} {q : List MemPlace}
    (hv : Value.okWide Tryd.prog W r b0 23 v) (h : DataW.Trod enc Tryd.prog W base (fun _ => true) held 23 v d q) :
    ∃ (op r a b n : Int), v = .agg (icells op r a b n) ∧ True := by
  obtain ⟨cs, rfl, hsz⟩ := okWide_struct Tryd.underlying23 hv
  obtain ⟨fuel, hf⟩ := h
  obtain ⟨ys, n, _, _, hl, hyl, hf⟩ := DataW.trod_struct Tryd.underlying23 hf
  have hc : Tryd.prog.cellsOf 23 = 5 := by kernel_rfl
  rw [hc] at hl
  obtain ⟨cs⟩ := cs
  simp only [Value.cells] at hl hf
  match cs, hl, ys, hyl with
  | [c0, c1, c2, c3, c4], _, [y0, y1, y2, y3, y4], _ =>
    have g0 := hf 0 _ rfl
    have g1 := hf 1 _ rfl
    have g2 := hf 2 _ rfl
    have g3 := hf 3 _ rfl
    have g4 := hf 4 _ rfl
    simp [cells_int8] at g0 g1 g2 g3 g4
    obtain ⟨m0, e0, _, _⟩ := DataW.trod_int Tryd.underlying3 g0
    obtain ⟨m1, e1, _, _⟩ := DataW.trod_int Tryd.underlying3 g1
    obtain ⟨m2, e2, _, _⟩ := DataW.trod_int Tryd.underlying3 g2
    obtain ⟨m3, e3, _, _⟩ := DataW.trod_int Tryd.underlying3 g3
    obtain ⟨m4, e4, _, _⟩ := DataW.trod_int Tryd.underlying3 g4
    simp only [List.cons.injEq, and_true] at e0 e1 e2 e3 e4
    subst e0 e1 e2 e3 e4
    exact ⟨m0, m1, m2, m3, m4, rfl, trivial⟩
end Go.Proofs.YtfigbfddhmgafaaDoor
