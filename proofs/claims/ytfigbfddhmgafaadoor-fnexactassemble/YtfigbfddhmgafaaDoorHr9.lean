/- What the law's small functions over harts do: szHart, toHart, eqHart, markHart, heldHart; when a hart is right; what the specification's HartOk, HartNew, l9Copy, Target answer. -/
import Derived.Test.YtfigbfddhmgafaaDoorInts
import Derived.Test.YtfigbfddhmgafaaDoorOkB
import Derived.Test.YtfigbfddhmgafaaDoorFrm
namespace Go.Proofs.YtfigbfddhmgafaaDoor
open Go.RowKit
set_option linter.unusedVariables false






end Go.Proofs.YtfigbfddhmgafaaDoor
