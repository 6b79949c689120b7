/- What isSeq does. -/
import Derived.Test.YtfigbfddhmgafaaDoorRows
import Derived.Test.YtfigbfddhmgafaaDoorBase
namespace Go.Proofs.YtfigbfddhmgafaaDoor
open Go.RowKit
set_option linter.unusedVariables false

def inB (x lo hi : Int) : Bool := decide (lo ≤ x ∧ x ≤ hi)

end Go.Proofs.YtfigbfddhmgafaaDoor
