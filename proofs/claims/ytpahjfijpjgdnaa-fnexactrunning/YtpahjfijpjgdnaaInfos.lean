/- A closed fact on the type Msg. -/
import Derived.Test.YtpahjfijpjgdnaaRows
import Derived.WalkKit
namespace Go.Proofs.Ytpahjfijpjgdnaa
theorem info_msg : (Try.prog.info? 88).map (fun i => (i.zero, i.size, i.bytes)) = some (some (.agg #[.int .i64 0, .int .i64 0, .bool false, .slice none 0 0]), 4, 48) := by kernel_rfl
end Go.Proofs.Ytpahjfijpjgdnaa
