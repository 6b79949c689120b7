/- From cells as the row hands them over to what the walks are told: a message's four cells. -/
import Derived.Test.YtfigbfddhmgafaaDoorOpen
namespace Go.Proofs.YtfigbfddhmgafaaDoor
open Go.ChangeShapes Go.WideShapes Go.ChangeAt Go.RowKit
set_option linter.unusedVariables false


end Go.Proofs.YtfigbfddhmgafaaDoor
