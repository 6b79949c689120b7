/- What isSeq does. -/
import Derived.Test.YtkamhinklhcbaaaRows
import Derived.Test.YtkamhinklhcbaaaBase
namespace Go.Proofs.Ytkamhinklhcbaaa
open Go.RowKit
set_option linter.unusedVariables false

def inB (x lo hi : Int) : Bool := decide (lo ≤ x ∧ x ≤ hi)

end Go.Proofs.Ytkamhinklhcbaaa
