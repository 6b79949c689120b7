/- What isSeq does. -/
import Derived.Test.YtfbdgcoingagcaaRows
import Derived.Test.YtfbdgcoingagcaaBase
namespace Go.Proofs.Ytfbdgcoingagcaa
open Go.RowKit
set_option linter.unusedVariables false

def inB (x lo hi : Int) : Bool := decide (lo ≤ x ∧ x ≤ hi)

end Go.Proofs.Ytfbdgcoingagcaa
