/- A closed fact on the type Msg. -/
import Derived.Test.YtpfppeifppdmbaaGreatRows
import Derived.WalkKit
namespace Go.Proofs.YtpfppeifppdmbaaGreat
theorem info_msg : (Tryz.prog.info? 69).map (fun i => (i.zero, i.size, i.bytes)) = some (some (.agg #[.int .i64 0, .int .i64 0, .bool false, .slice none 0 0]), 4, 48) := by kernel_rfl
end Go.Proofs.YtpfppeifppdmbaaGreat
