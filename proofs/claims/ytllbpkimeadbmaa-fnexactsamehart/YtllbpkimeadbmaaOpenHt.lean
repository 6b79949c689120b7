/- A hart as the row hands it over. -/
import Derived.Test.YtllbpkimeadbmaaOpen
namespace Go.Proofs.Ytllbpkimeadbmaa
open Go.ChangeShapes Go.WideShapes Go.ChangeAt Go.RowKit
set_option linter.unusedVariables false

set_option maxRecDepth 100000 in
theorem open_hart {H : Type} {enc : TypeId × Value → H} {W : World} {base : Nat} {held : Bool} {r : Reach} {b0 : Nat} {v : Value} {d : DataW H} {q : List MemPlace}
    (hv : Value.okWide Try.prog W r b0 24 v) (h : DataW.Trod enc Try.prog W base (fun _ => true) held 24 v d q) :
    ∃ (a : Option Addr) (c : Nat) (xs : List Int) (pc st : Int), v = .agg #[.slice a xs.length c, .int .i64 pc, .int .i64 st] ∧ Came .i64 W a c xs := by
  obtain ⟨c0, c1, c2, y0, y1, y2, fu, rfl, _, _, hy0, hy1, hy2⟩ := Go.Joins.open_agg3 Try.underlying24 (by kernel_rfl) (by kernel_rfl) hv h
  obtain ⟨m1, e1, _, _⟩ := DataW.trod_int Try.underlying3 hy1
  obtain ⟨m2, e2, _, _⟩ := DataW.trod_int Try.underlying3 hy2
  simp only [List.cons.injEq, and_true] at e1 e2
  subst e1 e2
  rcases open_ints Try.underlying22 Try.underlying3 (by kernel_rfl) hy0 with ⟨hcs, _⟩ | ⟨x, l, c, zs, hcs, _, hl, hm, hz, _, hcell, hwz⟩
  · simp only [List.cons.injEq, and_true] at hcs
    exact ⟨none, 0, [], m1, m2, by rw [hcs]; rfl, came_nil _ _⟩
  · simp only [List.cons.injEq, and_true] at hcs
    have hc := came_of hl hm (by simpa using hz) hcell hwz
    exact ⟨some x, c, zs.take l, m1, m2, by rw [hc.1, hcs], hc.2⟩
end Go.Proofs.Ytllbpkimeadbmaa
