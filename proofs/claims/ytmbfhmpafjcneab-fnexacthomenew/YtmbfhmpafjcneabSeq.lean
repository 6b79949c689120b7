/- What isSeq does. -/
import Derived.Test.YtmbfhmpafjcneabRows
import Derived.Test.YtmbfhmpafjcneabBase
namespace Go.Proofs.Ytmbfhmpafjcneab
open Go.RowKit
set_option linter.unusedVariables false

def inB (x lo hi : Int) : Bool := decide (lo ≤ x ∧ x ≤ hi)

end Go.Proofs.Ytmbfhmpafjcneab
