/- Msg and SpecOk: see the heads of the parts. -/
import Derived.Test.YtfigbfddhmgafaaDoorInts
import Derived.Test.YtfigbfddhmgafaaDoorOkB
import Derived.Test.YtfigbfddhmgafaaDoorSpecIn
/- What the law's small functions over messages do: szMsg, toMsg, eqMsg. -/
namespace Go.Proofs.YtfigbfddhmgafaaDoor
open Go.RowKit
set_option linter.unusedVariables false

/-- A message's value. -/
def msgV (k p : Int) (o : Bool) (l : Value) : Value := .agg #[.int .i64 k, .int .i64 p, .bool o, l]





end Go.Proofs.YtfigbfddhmgafaaDoor

/- What the specification's MsgOk does. -/
namespace Go.Proofs.YtfigbfddhmgafaaDoor
open Go.RowKit
set_option linter.unusedVariables false


theorem msgOk_kind {k p : Int} {o : Bool} {xs : List Int} (h : decide (1 ≤ k ∧ k ≤ 7) = false) : msgOkB k p o xs = false := by simp [msgOkB, h]
theorem msgOk_page {k p : Int} {o : Bool} {xs : List Int} (h : decide (0 ≤ p ∧ p ≤ 5) = false) : msgOkB k p o xs = false := by simp [msgOkB, h]

end Go.Proofs.YtfigbfddhmgafaaDoor
