/- From cells as the row hands them over to what the walks are told: a message's four cells. -/
import Derived.Test.YtekjgfbolhhpbaaOpen
namespace Go.Proofs.Ytekjgfbolhhpbaa
open Go.ChangeShapes Go.WideShapes Go.ChangeAt Go.RowKit
set_option linter.unusedVariables false

theorem cells_int : Try.prog.cellsOf 3 = 1 := by kernel_rfl
theorem cells_bool : Try.prog.cellsOf 4 = 1 := by kernel_rfl
theorem cells_ints : Try.prog.cellsOf 24 = 1 := by kernel_rfl
theorem cells_msg : Try.prog.cellsOf 184 = 4 := by kernel_rfl

set_option maxRecDepth 100000 in
theorem msg_cells {H : Type} {enc : TypeId × Value → H} {W : World} {base : Nat} {held : Bool} {fuel : Nat} {cs : List Value} {x : DataW H × List MemPlace}
    (h : DataW.trod enc Try.prog W base (fun _ => true) held fuel 184 cs = some x) :
    ∃ (k p : Int) (o : Bool) (a : Option Addr) (c : Nat) (xs : List Int), cs = [.int .i64 k, .int .i64 p, .bool o, .slice a xs.length c] ∧ Came .i64 W a c xs ∧ (Lit.int .i64 k).wf = true ∧ (Lit.int .i64 p).wf = true := by
  obtain ⟨ys, n, _, _, hl, hyl, hf⟩ := DataW.trod_struct Try.underlying184 h
  rw [cells_msg] at hl
  match cs, hl, ys, hyl with
  | [c0, c1, c2, c3], _, [y0, y1, y2, y3], _ =>
    have g0 := hf 0 _ rfl
    have g1 := hf 1 _ rfl
    have g2 := hf 2 _ rfl
    have g3 := hf 3 _ rfl
    simp [cells_int, cells_bool, cells_ints] at g0 g1 g2 g3
    obtain ⟨mk, e0, _, wk⟩ := DataW.trod_int Try.underlying3 g0
    obtain ⟨mp, e1, _, wp⟩ := DataW.trod_int Try.underlying3 g1
    obtain ⟨mo, e2, _⟩ := DataW.trod_bool Try.underlying4 g2
    simp only [List.cons.injEq, and_true] at e0 e1 e2
    subst e0 e1 e2
    rcases open_ints Try.underlying24 Try.underlying3 (by kernel_rfl) g3 with ⟨hcs, _⟩ | ⟨x, l, c, zs, hcs, _, hl, hm, hz, _, hcell, hwz⟩
    · simp only [List.cons.injEq, and_true] at hcs
      exact ⟨mk, mp, mo, none, 0, [], by rw [hcs]; rfl, came_nil _ _, wk, wp⟩
    · simp only [List.cons.injEq, and_true] at hcs
      have hc := came_of hl hm (by simpa using hz) hcell hwz
      exact ⟨mk, mp, mo, some x, c, zs.take l, by rw [hc.1, hcs], hc.2, wk, wp⟩
end Go.Proofs.Ytekjgfbolhhpbaa
