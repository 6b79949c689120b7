/- What the law's small functions over frames do: szFrame, toFrame, eqFrame, markFrame, heldFrame; when a frame is right. -/
import Derived.Test.YtfigbfddhmgafaaDoorInts
import Derived.Test.YtfigbfddhmgafaaDoorOkB
import Derived.Test.YtfigbfddhmgafaaDoorBox
namespace Go.Proofs.YtfigbfddhmgafaaDoor
open Go.RowKit
set_option linter.unusedVariables false

def frameOkB (s : Int) (xs : List Int) : Bool := if s == 0 then ((xs.length : Int) == 0) else decide (0 ≤ s ∧ s ≤ 2) && wordsB xs 4

theorem frame_zero (xs : List Int) : frameOkB 0 xs = ((xs.length : Int) == 0) := rfl
theorem frame_some {s : Int} {xs : List Int} (h : (s == 0) = false) : frameOkB s xs = (decide (0 ≤ s ∧ s ≤ 2) && wordsB xs 4) := by
  unfold frameOkB
  rw [h]
  rfl

theorem Box.at3 {w : World} {m : Nat} {c0 c1 c2 : Value} {t : TypeId} (h : Box w m #[c0, c1, c2] t) :
    w.cell? ⟨m, 0, none⟩ = some c0 ∧ w.cell? ⟨m, 1, none⟩ = some c1 ∧ w.cell? ⟨m, 2, none⟩ = some c2 ∧ m < w.heap.size :=
  ⟨by rw [h.cell]; rfl, by rw [h.cell]; rfl, by rw [h.cell]; rfl, h.lt⟩






end Go.Proofs.YtfigbfddhmgafaaDoor
