/- What the specification's DrawCode, DrawInsOk, DrawEnds, DrawDecode hand over: some place; some word. -/
import Derived.Test.YtkamhinklhcbaaaDrawI
namespace Go.Proofs.Ytkamhinklhcbaaa
open Go.RowKit
set_option linter.unusedVariables false





end Go.Proofs.Ytkamhinklhcbaaa
