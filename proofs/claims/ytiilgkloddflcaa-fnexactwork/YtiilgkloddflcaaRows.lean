/-
  No cell of these rows narrows 'for every input' (looked for: loops, veiled, ifaces, maps, wideKeys, modest, calm, conditions, laid).
  DERIVED. THE GIVEN ROWS OF THIS SEAT. 6 by the template 'for every input the law returns true; each argument reads behind the call as it read before'; 0 by the template 'total and deterministic' (their statements: YtiilgkloddflcaaTotals.lean).
  GIVEN WITH THE SEED: the statements are not yours to turn. If you find one false, say at which input.
  Laid BY PROGRAM, IN A SANDBOX (cutbox-rows.mjs): the forced cells as the released guide's own fill.sh prints them over the translation ad77453b71ef95bf… (all of the seat's roots in one cut). By AI agents, Wed Nov 11 2026. No macro, syntax, notation, axiom, sorry.
-/
import Derived.Test.YtiilgkloddflcaaChecked
import GoSem.Claim
import GoSem.ClaimJoined
import GoSem.ClaimMapViews
import Derived.JoinedTies
import Derived.KernelRfl
namespace Go.Proofs.Ytiilgkloddflcaa
/- THE CELL 'sum', in the pinned program and in every row, IS THE sha256 OF THE DUMP (.gsa) THAT YtiilgkloddflcaaProg.lean LOADS. Nothing in Lean hashes anything: it is a label: what it is worth is what the hold of that sum in a sandbox is worth. -/
noncomputable def Try.pinned : Pinned := { name := "ytiilgkloddflcaa", sum := "ad77453b71ef95bfee4ebd08d1780de4256aac33b87a39588816c541b6de1292", checked := Try.checked }
namespace Rows
def none {H : Type} : Left H := { results := [], args := [] }

/-- 'laws.FnExactHartOk': WHATEVER THE INPUT: true; the input reads as it did. -/
def fnExactHartOkSpec : ChangeSpec := { name := "fnExactHartOk", fn := fun _ => fun
  | [d] => { results := [.lit (.bool true)], args := [d] }
  | _ => none }
def fnExactHartOkRow : OpenClaim := { program := "ytiilgkloddflcaa", sum := "ad77453b71ef95bfee4ebd08d1780de4256aac33b87a39588816c541b6de1292", func := "loop.example/g00281/laws.FnExactHartOk", spec := "fnExactHartOk", unfollowed := true, recurses := true, apart := false }
def FnExactHartOkSaid : Prop := fnExactHartOkRow.holds Try.pinned (OpenSpec.ofChange fnExactHartOkSpec)

/-- ITS FALSE NEIGHBOUR: 'it returns false'. Refute it at one input. -/
def fnExactHartOkWrong : ChangeSpec := { name := "fnExactHartOk", fn := fun _ => fun
  | [d] => { results := [.lit (.bool false)], args := [d] }
  | _ => none }
def FnExactHartOkWrongFalsely : Prop := fnExactHartOkRow.holds Try.pinned (OpenSpec.ofChange fnExactHartOkWrong)

/-- 'laws.FnExactHartNew': WHATEVER THE INPUT: true; the input reads as it did. -/
def fnExactHartNewSpec : ChangeSpec := { name := "fnExactHartNew", fn := fun _ => fun
  | [d] => { results := [.lit (.bool true)], args := [d] }
  | _ => none }
def fnExactHartNewRow : OpenClaim := { program := "ytiilgkloddflcaa", sum := "ad77453b71ef95bfee4ebd08d1780de4256aac33b87a39588816c541b6de1292", func := "loop.example/g00281/laws.FnExactHartNew", spec := "fnExactHartNew", apart := false }
def FnExactHartNewSaid : Prop := fnExactHartNewRow.holds Try.pinned (OpenSpec.ofChange fnExactHartNewSpec)

/-- ITS FALSE NEIGHBOUR: 'it returns false'. Refute it at one input. -/
def fnExactHartNewWrong : ChangeSpec := { name := "fnExactHartNew", fn := fun _ => fun
  | [d] => { results := [.lit (.bool false)], args := [d] }
  | _ => none }
def FnExactHartNewWrongFalsely : Prop := fnExactHartNewRow.holds Try.pinned (OpenSpec.ofChange fnExactHartNewWrong)

/-- 'laws.FnExactTarget': WHATEVER THE INPUT: true; the input reads as it did. -/
def fnExactTargetSpec : ChangeSpec := { name := "fnExactTarget", fn := fun _ => fun
  | [d1, d2] => { results := [.lit (.bool true)], args := [d1, d2] }
  | _ => none }
def fnExactTargetRow : OpenClaim := { program := "ytiilgkloddflcaa", sum := "ad77453b71ef95bfee4ebd08d1780de4256aac33b87a39588816c541b6de1292", func := "loop.example/g00281/laws.FnExactTarget", spec := "fnExactTarget", unfollowed := true, recurses := true, apart := false }
def FnExactTargetSaid : Prop := fnExactTargetRow.holds Try.pinned (OpenSpec.ofChange fnExactTargetSpec)

/-- ITS FALSE NEIGHBOUR: 'it returns false'. Refute it at one input. -/
def fnExactTargetWrong : ChangeSpec := { name := "fnExactTarget", fn := fun _ => fun
  | [d1, d2] => { results := [.lit (.bool false)], args := [d1, d2] }
  | _ => none }
def FnExactTargetWrongFalsely : Prop := fnExactTargetRow.holds Try.pinned (OpenSpec.ofChange fnExactTargetWrong)

/-- 'laws.FnExactWork': WHATEVER THE INPUT: true; the input reads as it did. -/
def fnExactWorkSpec : ChangeSpec := { name := "fnExactWork", fn := fun _ => fun
  | [d1, d2, d3] => { results := [.lit (.bool true)], args := [d1, d2, d3] }
  | _ => none }
def fnExactWorkRow : OpenClaim := { program := "ytiilgkloddflcaa", sum := "ad77453b71ef95bfee4ebd08d1780de4256aac33b87a39588816c541b6de1292", func := "loop.example/g00281/laws.FnExactWork", spec := "fnExactWork", unfollowed := true, recurses := true, apart := false }
def FnExactWorkSaid : Prop := fnExactWorkRow.holds Try.pinned (OpenSpec.ofChange fnExactWorkSpec)

/-- ITS FALSE NEIGHBOUR: 'it returns false'. Refute it at one input. -/
def fnExactWorkWrong : ChangeSpec := { name := "fnExactWork", fn := fun _ => fun
  | [d1, d2, d3] => { results := [.lit (.bool false)], args := [d1, d2, d3] }
  | _ => none }
def FnExactWorkWrongFalsely : Prop := fnExactWorkRow.holds Try.pinned (OpenSpec.ofChange fnExactWorkWrong)

/-- 'laws.FnExactFlatStep': WHATEVER THE INPUT: true; the input reads as it did. -/
def fnExactFlatStepSpec : ChangeSpec := { name := "fnExactFlatStep", fn := fun _ => fun
  | [d1, d2] => { results := [.lit (.bool true)], args := [d1, d2] }
  | _ => none }
def fnExactFlatStepRow : OpenClaim := { program := "ytiilgkloddflcaa", sum := "ad77453b71ef95bfee4ebd08d1780de4256aac33b87a39588816c541b6de1292", func := "loop.example/g00281/laws.FnExactFlatStep", spec := "fnExactFlatStep", unfollowed := true, recurses := true, apart := false }
def FnExactFlatStepSaid : Prop := fnExactFlatStepRow.holds Try.pinned (OpenSpec.ofChange fnExactFlatStepSpec)

/-- ITS FALSE NEIGHBOUR: 'it returns false'. Refute it at one input. -/
def fnExactFlatStepWrong : ChangeSpec := { name := "fnExactFlatStep", fn := fun _ => fun
  | [d1, d2] => { results := [.lit (.bool false)], args := [d1, d2] }
  | _ => none }
def FnExactFlatStepWrongFalsely : Prop := fnExactFlatStepRow.holds Try.pinned (OpenSpec.ofChange fnExactFlatStepWrong)

/-- 'laws.FnExactFlatRun': WHATEVER THE INPUT: true; the input reads as it did. -/
def fnExactFlatRunSpec : ChangeSpec := { name := "fnExactFlatRun", fn := fun _ => fun
  | [d1, d2, d3] => { results := [.lit (.bool true)], args := [d1, d2, d3] }
  | _ => none }
def fnExactFlatRunRow : OpenClaim := { program := "ytiilgkloddflcaa", sum := "ad77453b71ef95bfee4ebd08d1780de4256aac33b87a39588816c541b6de1292", func := "loop.example/g00281/laws.FnExactFlatRun", spec := "fnExactFlatRun", unfollowed := true, recurses := true, apart := false }
def FnExactFlatRunSaid : Prop := fnExactFlatRunRow.holds Try.pinned (OpenSpec.ofChange fnExactFlatRunSpec)

/-- ITS FALSE NEIGHBOUR: 'it returns false'. Refute it at one input. -/
def fnExactFlatRunWrong : ChangeSpec := { name := "fnExactFlatRun", fn := fun _ => fun
  | [d1, d2, d3] => { results := [.lit (.bool false)], args := [d1, d2, d3] }
  | _ => none }
def FnExactFlatRunWrongFalsely : Prop := fnExactFlatRunRow.holds Try.pinned (OpenSpec.ofChange fnExactFlatRunWrong)

/- THE SECOND FORM. 'bulk': how many values and letters a reading holds, each counted each time it is reached (what is shared counts as often as it is met; a slice's spare places count too). A statement '..UptoSaid' is the law's where the arguments, and the package variables that the reading takes, are together of bulk at most 1048576: NARROWER than '..Said'. Prove '..Said' where nothing that the law and all that it calls make is longer than what came in: it says more and counts as full. Else prove '..UptoSaid'. A law counts once. -/
mutual
def uptoBulk {H : Type} : DataW H → Nat
  | .lit (.string bytes) => bytes.length + 1
  | .lit _ => 1
  | .nil => 1
  | .ptr d => uptoBulk d + 1
  | .slice elems spare => uptoBulkAll elems + uptoBulkAll spare + 1
  | .agg parts => uptoBulkAll parts + 1
  | .iface _ d => uptoBulk d + 1
  | .map entries => uptoBulkEntries entries + 1
  | .held _ => 1
def uptoBulkAll {H : Type} : List (DataW H) → Nat
  | [] => 0
  | d :: r => uptoBulk d + uptoBulkAll r
def uptoBulkEntries {H : Type} : List (Lit × DataW H) → Nat
  | [] => 0
  | x :: r => uptoBulkEntry x + uptoBulkEntries r
def uptoBulkEntry {H : Type} : Lit × DataW H → Nat
  | (.string bytes, d) => bytes.length + uptoBulk d + 1
  | (_, d) => uptoBulk d + 1
 end
def uptoSmall : (H : Type) → List (DataW H) → Bool := fun _ ds => decide (uptoBulkAll ds ≤ 1048576)
def OpenSpec.upto (s : _root_.Go.ChangeSpec) : _root_.Go.OpenSpec := { _root_.Go.OpenSpec.ofChange s with cond := some uptoSmall }

/-- 'laws.FnExactHartOk', WHERE WHAT IT READS IS OF BULK AT MOST 1048576: true; the input reads as it did. -/
def fnExactHartOkUptoRow : OpenClaim := { program := "ytiilgkloddflcaa", sum := "ad77453b71ef95bfee4ebd08d1780de4256aac33b87a39588816c541b6de1292", func := "loop.example/g00281/laws.FnExactHartOk", spec := "fnExactHartOk", unfollowed := true, recurses := true, apart := false, narrowed := true }
def FnExactHartOkUptoSaid : Prop := fnExactHartOkUptoRow.holds Try.pinned (OpenSpec.upto fnExactHartOkSpec)

/-- 'laws.FnExactHartNew', WHERE WHAT IT READS IS OF BULK AT MOST 1048576: true; the input reads as it did. -/
def fnExactHartNewUptoRow : OpenClaim := { program := "ytiilgkloddflcaa", sum := "ad77453b71ef95bfee4ebd08d1780de4256aac33b87a39588816c541b6de1292", func := "loop.example/g00281/laws.FnExactHartNew", spec := "fnExactHartNew", apart := false, narrowed := true }
def FnExactHartNewUptoSaid : Prop := fnExactHartNewUptoRow.holds Try.pinned (OpenSpec.upto fnExactHartNewSpec)

/-- 'laws.FnExactTarget', WHERE WHAT IT READS IS OF BULK AT MOST 1048576: true; the input reads as it did. -/
def fnExactTargetUptoRow : OpenClaim := { program := "ytiilgkloddflcaa", sum := "ad77453b71ef95bfee4ebd08d1780de4256aac33b87a39588816c541b6de1292", func := "loop.example/g00281/laws.FnExactTarget", spec := "fnExactTarget", unfollowed := true, recurses := true, apart := false, narrowed := true }
def FnExactTargetUptoSaid : Prop := fnExactTargetUptoRow.holds Try.pinned (OpenSpec.upto fnExactTargetSpec)

/-- 'laws.FnExactWork', WHERE WHAT IT READS IS OF BULK AT MOST 1048576: true; the input reads as it did. -/
def fnExactWorkUptoRow : OpenClaim := { program := "ytiilgkloddflcaa", sum := "ad77453b71ef95bfee4ebd08d1780de4256aac33b87a39588816c541b6de1292", func := "loop.example/g00281/laws.FnExactWork", spec := "fnExactWork", unfollowed := true, recurses := true, apart := false, narrowed := true }
def FnExactWorkUptoSaid : Prop := fnExactWorkUptoRow.holds Try.pinned (OpenSpec.upto fnExactWorkSpec)

/-- 'laws.FnExactFlatStep', WHERE WHAT IT READS IS OF BULK AT MOST 1048576: true; the input reads as it did. -/
def fnExactFlatStepUptoRow : OpenClaim := { program := "ytiilgkloddflcaa", sum := "ad77453b71ef95bfee4ebd08d1780de4256aac33b87a39588816c541b6de1292", func := "loop.example/g00281/laws.FnExactFlatStep", spec := "fnExactFlatStep", unfollowed := true, recurses := true, apart := false, narrowed := true }
def FnExactFlatStepUptoSaid : Prop := fnExactFlatStepUptoRow.holds Try.pinned (OpenSpec.upto fnExactFlatStepSpec)

/-- 'laws.FnExactFlatRun', WHERE WHAT IT READS IS OF BULK AT MOST 1048576: true; the input reads as it did. -/
def fnExactFlatRunUptoRow : OpenClaim := { program := "ytiilgkloddflcaa", sum := "ad77453b71ef95bfee4ebd08d1780de4256aac33b87a39588816c541b6de1292", func := "loop.example/g00281/laws.FnExactFlatRun", spec := "fnExactFlatRun", unfollowed := true, recurses := true, apart := false, narrowed := true }
def FnExactFlatRunUptoSaid : Prop := fnExactFlatRunUptoRow.holds Try.pinned (OpenSpec.upto fnExactFlatRunSpec)

end Rows
end Go.Proofs.Ytiilgkloddflcaa
