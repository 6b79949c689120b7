/- What impl's copyHart answers. -/
import Derived.Test.YtfigbfddhmgafaaDoorHs9
import Derived.Test.YtfigbfddhmgafaaDoorCp0
namespace Go.Proofs.YtfigbfddhmgafaaDoor
open Go.RowKit
set_option linter.unusedVariables false

end Go.Proofs.YtfigbfddhmgafaaDoor
