/- A frame as the row hands it over. -/
import Derived.Test.YtgpmkojajmkkoaaOpen
namespace Go.Proofs.Ytgpmkojajmkkoaa
open Go.ChangeShapes Go.WideShapes Go.ChangeAt Go.RowKit
set_option linter.unusedVariables false

set_option maxRecDepth 100000 in
theorem open_frame {H : Type} {enc : TypeId × Value → H} {W : World} {base : Nat} {held : Bool} {r : Reach} {b0 : Nat} {v : Value} {d : DataW H} {q : List MemPlace}
    (hv : Value.okWide Try.prog W r b0 24 v) (h : DataW.Trod enc Try.prog W base (fun _ => true) held 24 v d q) :
    ∃ (s : Int) (q : Bool) (a : Option Addr) (c : Nat) (xs : List Int), v = .agg #[.int .i64 s, .slice a xs.length c, .bool q] ∧ Came .i64 W a c xs := by
  obtain ⟨c0, c1, c2, y0, y1, y2, fu, rfl, _, _, hy0, hy1, hy2⟩ := Go.Joins.open_agg3 Try.underlying24 (by kernel_rfl) (by kernel_rfl) hv h
  obtain ⟨m0, e0, _, _⟩ := DataW.trod_int Try.underlying3 hy0
  obtain ⟨m2, e2, _⟩ := DataW.trod_bool Try.underlying4 hy2
  simp only [List.cons.injEq, and_true] at e0 e2
  subst e0 e2
  rcases open_ints Try.underlying22 Try.underlying3 (by kernel_rfl) hy1 with ⟨hcs, _⟩ | ⟨x, l, c, zs, hcs, _, hl, hm, hz, _, hcell, hwz⟩
  · simp only [List.cons.injEq, and_true] at hcs
    exact ⟨m0, m2, none, 0, [], by rw [hcs]; rfl, came_nil _ _⟩
  · simp only [List.cons.injEq, and_true] at hcs
    have hc := came_of hl hm (by simpa using hz) hcell hwz
    exact ⟨m0, m2, some x, c, zs.take l, by rw [hc.1, hcs], hc.2⟩
end Go.Proofs.Ytgpmkojajmkkoaa
