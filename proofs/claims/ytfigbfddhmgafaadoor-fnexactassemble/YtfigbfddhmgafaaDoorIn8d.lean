/- What the specification's Decode answers (written by mki8.py). -/
import Derived.Test.YtfigbfddhmgafaaDoorIn8
namespace Go.Proofs.YtfigbfddhmgafaaDoor
open Go.RowKit
set_option linter.unusedVariables false

/-- What Decode reads. -/
def decD (v : Int) : Int × Int × Int × Int × Int := (v % 16, v / 16 % 4, v / 64 % 4, v / 256 % 4, v / 1024)
def decB (v : Int) : Bool := inB v 0 65535 && insB (decD v).1 (decD v).2.1 (decD v).2.2.1 (decD v).2.2.2.1 (decD v).2.2.2.2
def decV (v : Int) : Array Value := if decB v then icells (decD v).1 (decD v).2.1 (decD v).2.2.1 (decD v).2.2.2.1 (decD v).2.2.2.2 else icells 0 0 0 0 0


end Go.Proofs.YtfigbfddhmgafaaDoor
