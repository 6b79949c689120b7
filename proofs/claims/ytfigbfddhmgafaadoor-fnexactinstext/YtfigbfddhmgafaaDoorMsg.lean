/- What the law's small functions over messages do: szMsg, toMsg, eqMsg. -/
import Derived.Test.YtfigbfddhmgafaaDoorInts
namespace Go.Proofs.YtfigbfddhmgafaaDoor
open Go.RowKit
set_option linter.unusedVariables false

/-- A message's value. -/
def msgV (k p : Int) (o : Bool) (l : Value) : Value := .agg #[.int .i64 k, .int .i64 p, .bool o, l]





end Go.Proofs.YtfigbfddhmgafaaDoor
