/- What isSeq does. -/
import Derived.Test.YtdopcdpapbfdlabRows
import Derived.Test.YtdopcdpapbfdlabBase
namespace Go.Proofs.Ytdopcdpapbfdlab
open Go.RowKit
set_option linter.unusedVariables false

def inB (x lo hi : Int) : Bool := decide (lo ≤ x ∧ x ≤ hi)

end Go.Proofs.Ytdopcdpapbfdlab
