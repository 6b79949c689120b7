/- A closed fact on the type Msg. -/
import Derived.Test.YtafikmpgmnhgcaaRows
import Derived.WalkKit
namespace Go.Proofs.Ytafikmpgmnhgcaa
theorem info_msg : (Try.prog.info? 38).map (fun i => (i.zero, i.size, i.bytes)) = some (some (.agg #[.int .i64 0, .int .i64 0, .bool false, .slice none 0 0]), 4, 48) := by kernel_rfl
end Go.Proofs.Ytafikmpgmnhgcaa
