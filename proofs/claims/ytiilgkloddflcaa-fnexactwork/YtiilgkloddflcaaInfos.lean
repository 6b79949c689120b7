/- A closed fact on the type Msg. -/
import Derived.Test.YtiilgkloddflcaaRows
import Derived.WalkKit
namespace Go.Proofs.Ytiilgkloddflcaa
end Go.Proofs.Ytiilgkloddflcaa
