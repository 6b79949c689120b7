/- What isSeq does. -/
import Derived.Test.YtafikmpgmnhgcaaRows
import Derived.Test.YtafikmpgmnhgcaaBase
namespace Go.Proofs.Ytafikmpgmnhgcaa
open Go.RowKit
set_option linter.unusedVariables false

def inB (x lo hi : Int) : Bool := decide (lo ≤ x ∧ x ≤ hi)

end Go.Proofs.Ytafikmpgmnhgcaa
