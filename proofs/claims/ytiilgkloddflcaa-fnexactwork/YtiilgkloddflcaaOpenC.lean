/- From cells as the row hands them over to what the walks are told: a message's four cells. -/
import Derived.Test.YtiilgkloddflcaaOpen
namespace Go.Proofs.Ytiilgkloddflcaa
open Go.ChangeShapes Go.WideShapes Go.ChangeAt Go.RowKit
set_option linter.unusedVariables false


end Go.Proofs.Ytiilgkloddflcaa
