/- A region taken out of a function's code, by its number. -/
import Derived.Test.YtfeabhknkoifeaaRows
import Derived.WalkKit
namespace Go.Proofs.Ytfeabhknkoifeaa

def findReg (n : Nat) : Code → Option Code
  | .region i ops b => if i == n then some (.region i ops b) else none
  | .seq a b => match findReg n a with
    | some c => some c
    | none => findReg n b
  | .block _ c => findReg n c
  | .scope c => findReg n c
  | .loop c => findReg n c
  | .cond _ a b => match findReg n a with
    | some c => some c
    | none => findReg n b
  | _ => none
end Go.Proofs.Ytfeabhknkoifeaa
