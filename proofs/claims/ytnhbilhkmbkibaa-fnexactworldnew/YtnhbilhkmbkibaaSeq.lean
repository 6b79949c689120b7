/- What isSeq does. -/
import Derived.Test.YtnhbilhkmbkibaaRows
import Derived.Test.YtnhbilhkmbkibaaBase
namespace Go.Proofs.Ytnhbilhkmbkibaa
open Go.RowKit
set_option linter.unusedVariables false

def inB (x lo hi : Int) : Bool := decide (lo ≤ x ∧ x ≤ hi)

end Go.Proofs.Ytnhbilhkmbkibaa
