/- A core as the row hands it over. -/
import Derived.Test.YtpahjfijpjgdnaaCo1
namespace Go.Proofs.Ytpahjfijpjgdnaa
open Go.ChangeShapes Go.WideShapes Go.ChangeAt Go.RowKit
set_option linter.unusedVariables false

theorem cells_core' : Try.prog.cellsOf 60 = 4 := by kernel_rfl
theorem cells_hart3 : Try.prog.cellsOf 57 = 3 := by kernel_rfl
theorem cells_blocks1 : Try.prog.cellsOf 58 = 1 := by kernel_rfl
set_option maxRecDepth 100000 in
theorem core_cells {H : Type} {enc : TypeId × Value → H} {W : World} {base : Nat} {held : Bool} {fuel : Nat} {cs : List Value} {x : DataW H × List MemPlace} (h : DataW.trod enc Try.prog W base (fun _ => true) held fuel 60 cs = some x) :
    ∃ (d : CoD) (p : CoP), cs = (ccells d p).toList ∧ CoC W d p := by
  obtain ⟨ys, n, _, _, hl, hyl, hf⟩ := DataW.trod_struct Try.underlying60 h
  rw [cells_core'] at hl
  match cs, hl, ys, hyl with
  | [c0, c1, c2, c3], _, [y0, y1], _ =>
    have g0 := hf 0 _ rfl
    have g1 := hf 1 _ rfl
    simp [cells_hart3, cells_blocks1] at g0 g1
    obtain ⟨d, p, e, hc⟩ := hart_cells g0
    obtain ⟨a, c, m, k, q, e1, hk⟩ := open_blocks0 g1
    subst e1
    simp only [htcells, List.cons.injEq, and_true] at e
    obtain ⟨rfl, rfl, rfl⟩ := e
    exact ⟨⟨d, m, k⟩, ⟨p, (a, c), q⟩, rfl, hc, hk⟩
set_option maxRecDepth 100000 in
theorem open_core {H : Type} {enc : TypeId × Value → H} {W : World} {base : Nat} {held : Bool} {r : Reach} {b0 : Nat} {v : Value} {d : DataW H} {q : List MemPlace}
    (hv : Value.okWide Try.prog W r b0 60 v) (h : DataW.Trod enc Try.prog W base (fun _ => true) held 60 v d q) :
    ∃ (D : CoD) (p : CoP), v = .agg (ccells D p) ∧ CoC W D p := by
  obtain ⟨cs, rfl, hsz⟩ := okWide_struct Try.underlying60 hv
  obtain ⟨fuel, hf⟩ := h
  obtain ⟨cs⟩ := cs
  obtain ⟨D, p, e, hc⟩ := core_cells (cs := cs) (by simpa [Value.cells] using hf)
  subst e
  exact ⟨D, p, rfl, hc⟩
end Go.Proofs.Ytpahjfijpjgdnaa
