/- What isSeq does. -/
import Derived.Test.YtgpmkojajmkkoaaRows
import Derived.Test.YtgpmkojajmkkoaaBase
namespace Go.Proofs.Ytgpmkojajmkkoaa
open Go.RowKit
set_option linter.unusedVariables false

def inB (x lo hi : Int) : Bool := decide (lo ≤ x ∧ x ≤ hi)

end Go.Proofs.Ytgpmkojajmkkoaa
