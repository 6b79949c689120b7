/- A closed fact on the type Msg. -/
import Derived.Test.YtkamhinklhcbaaaRows
import Derived.WalkKit
namespace Go.Proofs.Ytkamhinklhcbaaa
end Go.Proofs.Ytkamhinklhcbaaa
