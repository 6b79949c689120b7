/- What the specification's PutNum does. -/
import Derived.Test.YtfbdgcoingagcaaPut
import Derived.Test.YtfbdgcoingagcaaSpecIn
namespace Go.Proofs.Ytfbdgcoingagcaa
open Go.RowKit
set_option linter.unusedVariables false

end Go.Proofs.Ytfbdgcoingagcaa
