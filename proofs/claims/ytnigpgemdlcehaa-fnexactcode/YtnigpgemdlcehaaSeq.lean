/- What isSeq does. -/
import Derived.Test.YtnigpgemdlcehaaRows
import Derived.Test.YtnigpgemdlcehaaBase
namespace Go.Proofs.Ytnigpgemdlcehaa
open Go.RowKit
set_option linter.unusedVariables false

def inB (x lo hi : Int) : Bool := decide (lo ≤ x ∧ x ≤ hi)

end Go.Proofs.Ytnigpgemdlcehaa
