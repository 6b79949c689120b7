/- What impl's isAddress answers. -/
import Derived.Test.YtfigbfddhmgafaaDoorIn8
namespace Go.Proofs.YtfigbfddhmgafaaDoor
open Go.RowKit
set_option linter.unusedVariables false


end Go.Proofs.YtfigbfddhmgafaaDoor
