/- A closed fact on the type Msg. -/
import Derived.Test.YtfigbfddhmgafaaDoorRows
import Derived.WalkKit
namespace Go.Proofs.YtfigbfddhmgafaaDoor
end Go.Proofs.YtfigbfddhmgafaaDoor
