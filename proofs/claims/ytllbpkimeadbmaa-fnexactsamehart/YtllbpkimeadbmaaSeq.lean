/- What isSeq does. -/
import Derived.Test.YtllbpkimeadbmaaRows
import Derived.Test.YtllbpkimeadbmaaBase
namespace Go.Proofs.Ytllbpkimeadbmaa
open Go.RowKit
set_option linter.unusedVariables false

def inB (x lo hi : Int) : Bool := decide (lo ≤ x ∧ x ≤ hi)

end Go.Proofs.Ytllbpkimeadbmaa
