/- What the specification's MsgOk does. -/
import Derived.Test.YtfigbfddhmgafaaDoorMsg
import Derived.Test.YtfigbfddhmgafaaDoorOkB
import Derived.Test.YtfigbfddhmgafaaDoorSpecIn
namespace Go.Proofs.YtfigbfddhmgafaaDoor
open Go.RowKit
set_option linter.unusedVariables false


theorem msgOk_kind {k p : Int} {o : Bool} {xs : List Int} (h : decide (1 ≤ k ∧ k ≤ 7) = false) : msgOkB k p o xs = false := by simp [msgOkB, h]
theorem msgOk_page {k p : Int} {o : Bool} {xs : List Int} (h : decide (0 ≤ p ∧ p ≤ 5) = false) : msgOkB k p o xs = false := by simp [msgOkB, h]

end Go.Proofs.YtfigbfddhmgafaaDoor
