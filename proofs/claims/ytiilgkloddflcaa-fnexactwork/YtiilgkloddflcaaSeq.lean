/- What isSeq does. -/
import Derived.Test.YtiilgkloddflcaaRows
import Derived.Test.YtiilgkloddflcaaBase
namespace Go.Proofs.Ytiilgkloddflcaa
open Go.RowKit
set_option linter.unusedVariables false

def inB (x lo hi : Int) : Bool := decide (lo ≤ x ∧ x ≤ hi)

end Go.Proofs.Ytiilgkloddflcaa
