/- What the specification's PutNum does. -/
import Derived.Test.YtnigpgemdlcehaaPut
import Derived.Test.YtnigpgemdlcehaaSpecIn
namespace Go.Proofs.Ytnigpgemdlcehaa
open Go.RowKit
set_option linter.unusedVariables false

end Go.Proofs.Ytnigpgemdlcehaa
