/- What isSeq does. -/
import Derived.Test.YtliihkdocbpolaaRows
import Derived.Test.YtliihkdocbpolaaKeep
namespace Go.Proofs.Ytliihkdocbpolaa
open Go.RowKit
set_option linter.unusedVariables false

def inB (x lo hi : Int) : Bool := decide (lo ≤ x ∧ x ≤ hi)

end Go.Proofs.Ytliihkdocbpolaa
