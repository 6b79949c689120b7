/- What appendNum and the two PutNum do: the bytes of the number, in memory of their own. -/
import Derived.Test.YtfbdgcoingagcaaRows
import Derived.Test.YtfbdgcoingagcaaBase
import Derived.Test.YtfbdgcoingagcaaEnc
namespace Go.Proofs.Ytfbdgcoingagcaa
open Go.RowKit
set_option linter.unusedVariables false

theorem info_u8 : (Try.prog.info? 5).map (fun i => (i.zero, i.size, i.bytes)) = some (some (.int .u8 0), 1, 1) := by kernel_rfl


end Go.Proofs.Ytfbdgcoingagcaa
