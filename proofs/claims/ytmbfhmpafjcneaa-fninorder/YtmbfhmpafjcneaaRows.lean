/-
  No cell of these rows narrows 'for every input' (looked for: loops, veiled, ifaces, maps, wideKeys, modest, calm, conditions, laid).
  DERIVED. THE GIVEN ROWS OF THIS SEAT. 6 by the template 'for every input the law returns true; each argument reads behind the call as it read before'; 0 by the template 'total and deterministic' (their statements: YtmbfhmpafjcneaaTotals.lean).
  GIVEN WITH THE SEED: the statements are not yours to turn. If you find one false, say at which input.
  Laid BY PROGRAM, IN A SANDBOX (cutbox-rows.mjs): the forced cells as the released guide's own fill.sh prints them over the translation fc96c58aa6841367… (all of the seat's roots in one cut). By AI agents, Wed Nov 11 2026. No macro, syntax, notation, axiom, sorry.
-/
import Derived.Test.YtmbfhmpafjcneaaChecked
import GoSem.Claim
import GoSem.ClaimJoined
import GoSem.ClaimMapViews
import Derived.JoinedTies
import Derived.KernelRfl
namespace Go.Proofs.Ytmbfhmpafjcneaa
/- THE CELL 'sum', in the pinned program and in every row, IS THE sha256 OF THE DUMP (.gsa) THAT YtmbfhmpafjcneaaProg.lean LOADS. Nothing in Lean hashes anything: it is a label: what it is worth is what the hold of that sum in a sandbox is worth. -/
noncomputable def Try.pinned : Pinned := { name := "ytmbfhmpafjcneaa", sum := "fc96c58aa684136772dae2b855ef7e9e81b997f4d21b34fc117e332fb8a246ac", checked := Try.checked }
namespace Rows
def none {H : Type} : Left H := { results := [], args := [] }

/-- 'laws.FnMsgs': WHATEVER THE INPUT: true; the input reads as it did. -/
def fnMsgsSpec : ChangeSpec := { name := "fnMsgs", fn := fun _ => fun
  | [d] => { results := [.lit (.bool true)], args := [d] }
  | _ => none }
def fnMsgsRow : OpenClaim := { program := "ytmbfhmpafjcneaa", sum := "fc96c58aa684136772dae2b855ef7e9e81b997f4d21b34fc117e332fb8a246ac", func := "loop.example/g00281/laws.FnMsgs", spec := "fnMsgs", unfollowed := true, recurses := true, apart := false }
def FnMsgsSaid : Prop := fnMsgsRow.holds Try.pinned (OpenSpec.ofChange fnMsgsSpec)

/-- ITS FALSE NEIGHBOUR: 'it returns false'. Refute it at one input. -/
def fnMsgsWrong : ChangeSpec := { name := "fnMsgs", fn := fun _ => fun
  | [d] => { results := [.lit (.bool false)], args := [d] }
  | _ => none }
def FnMsgsWrongFalsely : Prop := fnMsgsRow.holds Try.pinned (OpenSpec.ofChange fnMsgsWrong)

/-- 'laws.FnInOrder': WHATEVER THE INPUT: true; the input reads as it did. -/
def fnInOrderSpec : ChangeSpec := { name := "fnInOrder", fn := fun _ => fun
  | [d] => { results := [.lit (.bool true)], args := [d] }
  | _ => none }
def fnInOrderRow : OpenClaim := { program := "ytmbfhmpafjcneaa", sum := "fc96c58aa684136772dae2b855ef7e9e81b997f4d21b34fc117e332fb8a246ac", func := "loop.example/g00281/laws.FnInOrder", spec := "fnInOrder", apart := false }
def FnInOrderSaid : Prop := fnInOrderRow.holds Try.pinned (OpenSpec.ofChange fnInOrderSpec)

/-- ITS FALSE NEIGHBOUR: 'it returns false'. Refute it at one input. -/
def fnInOrderWrong : ChangeSpec := { name := "fnInOrder", fn := fun _ => fun
  | [d] => { results := [.lit (.bool false)], args := [d] }
  | _ => none }
def FnInOrderWrongFalsely : Prop := fnInOrderRow.holds Try.pinned (OpenSpec.ofChange fnInOrderWrong)

/-- 'laws.FnHome': WHATEVER THE INPUT: true; the input reads as it did. -/
def fnHomeSpec : ChangeSpec := { name := "fnHome", fn := fun _ => fun
  | [d] => { results := [.lit (.bool true)], args := [d] }
  | _ => none }
def fnHomeRow : OpenClaim := { program := "ytmbfhmpafjcneaa", sum := "fc96c58aa684136772dae2b855ef7e9e81b997f4d21b34fc117e332fb8a246ac", func := "loop.example/g00281/laws.FnHome", spec := "fnHome", unfollowed := true, recurses := true, apart := false }
def FnHomeSaid : Prop := fnHomeRow.holds Try.pinned (OpenSpec.ofChange fnHomeSpec)

/-- ITS FALSE NEIGHBOUR: 'it returns false'. Refute it at one input. -/
def fnHomeWrong : ChangeSpec := { name := "fnHome", fn := fun _ => fun
  | [d] => { results := [.lit (.bool false)], args := [d] }
  | _ => none }
def FnHomeWrongFalsely : Prop := fnHomeRow.holds Try.pinned (OpenSpec.ofChange fnHomeWrong)

/-- 'laws.FnHomeGives': WHATEVER THE INPUT: true; the input reads as it did. -/
def fnHomeGivesSpec : ChangeSpec := { name := "fnHomeGives", fn := fun _ => fun
  | [d] => { results := [.lit (.bool true)], args := [d] }
  | _ => none }
def fnHomeGivesRow : OpenClaim := { program := "ytmbfhmpafjcneaa", sum := "fc96c58aa684136772dae2b855ef7e9e81b997f4d21b34fc117e332fb8a246ac", func := "loop.example/g00281/laws.FnHomeGives", spec := "fnHomeGives", unfollowed := true, recurses := true, apart := false }
def FnHomeGivesSaid : Prop := fnHomeGivesRow.holds Try.pinned (OpenSpec.ofChange fnHomeGivesSpec)

/-- ITS FALSE NEIGHBOUR: 'it returns false'. Refute it at one input. -/
def fnHomeGivesWrong : ChangeSpec := { name := "fnHomeGives", fn := fun _ => fun
  | [d] => { results := [.lit (.bool false)], args := [d] }
  | _ => none }
def FnHomeGivesWrongFalsely : Prop := fnHomeGivesRow.holds Try.pinned (OpenSpec.ofChange fnHomeGivesWrong)

/-- 'laws.FnExactFrameHear': WHATEVER THE INPUT: true; the input reads as it did. -/
def fnExactFrameHearSpec : ChangeSpec := { name := "fnExactFrameHear", fn := fun _ => fun
  | [d1, d2] => { results := [.lit (.bool true)], args := [d1, d2] }
  | _ => none }
def fnExactFrameHearRow : OpenClaim := { program := "ytmbfhmpafjcneaa", sum := "fc96c58aa684136772dae2b855ef7e9e81b997f4d21b34fc117e332fb8a246ac", func := "loop.example/g00281/laws.FnExactFrameHear", spec := "fnExactFrameHear", apart := false }
def FnExactFrameHearSaid : Prop := fnExactFrameHearRow.holds Try.pinned (OpenSpec.ofChange fnExactFrameHearSpec)

/-- ITS FALSE NEIGHBOUR: 'it returns false'. Refute it at one input. -/
def fnExactFrameHearWrong : ChangeSpec := { name := "fnExactFrameHear", fn := fun _ => fun
  | [d1, d2] => { results := [.lit (.bool false)], args := [d1, d2] }
  | _ => none }
def FnExactFrameHearWrongFalsely : Prop := fnExactFrameHearRow.holds Try.pinned (OpenSpec.ofChange fnExactFrameHearWrong)

/-- 'laws.FnExactHomeOk': WHATEVER THE INPUT: true; the input reads as it did. -/
def fnExactHomeOkSpec : ChangeSpec := { name := "fnExactHomeOk", fn := fun _ => fun
  | [d1, d2] => { results := [.lit (.bool true)], args := [d1, d2] }
  | _ => none }
def fnExactHomeOkRow : OpenClaim := { program := "ytmbfhmpafjcneaa", sum := "fc96c58aa684136772dae2b855ef7e9e81b997f4d21b34fc117e332fb8a246ac", func := "loop.example/g00281/laws.FnExactHomeOk", spec := "fnExactHomeOk", apart := false }
def FnExactHomeOkSaid : Prop := fnExactHomeOkRow.holds Try.pinned (OpenSpec.ofChange fnExactHomeOkSpec)

/-- ITS FALSE NEIGHBOUR: 'it returns false'. Refute it at one input. -/
def fnExactHomeOkWrong : ChangeSpec := { name := "fnExactHomeOk", fn := fun _ => fun
  | [d1, d2] => { results := [.lit (.bool false)], args := [d1, d2] }
  | _ => none }
def FnExactHomeOkWrongFalsely : Prop := fnExactHomeOkRow.holds Try.pinned (OpenSpec.ofChange fnExactHomeOkWrong)

/- THE SECOND FORM. 'bulk': how many values and letters a reading holds, each counted each time it is reached (what is shared counts as often as it is met; a slice's spare places count too). A statement '..UptoSaid' is the law's where the arguments, and the package variables that the reading takes, are together of bulk at most 1048576: NARROWER than '..Said'. Prove '..Said' where nothing that the law and all that it calls make is longer than what came in: it says more and counts as full. Else prove '..UptoSaid'. A law counts once. -/
mutual
def uptoBulk {H : Type} : DataW H → Nat
  | .lit (.string bytes) => bytes.length + 1
  | .lit _ => 1
  | .nil => 1
  | .ptr d => uptoBulk d + 1
  | .slice elems spare => uptoBulkAll elems + uptoBulkAll spare + 1
  | .agg parts => uptoBulkAll parts + 1
  | .iface _ d => uptoBulk d + 1
  | .map entries => uptoBulkEntries entries + 1
  | .held _ => 1
def uptoBulkAll {H : Type} : List (DataW H) → Nat
  | [] => 0
  | d :: r => uptoBulk d + uptoBulkAll r
def uptoBulkEntries {H : Type} : List (Lit × DataW H) → Nat
  | [] => 0
  | x :: r => uptoBulkEntry x + uptoBulkEntries r
def uptoBulkEntry {H : Type} : Lit × DataW H → Nat
  | (.string bytes, d) => bytes.length + uptoBulk d + 1
  | (_, d) => uptoBulk d + 1
 end
def uptoSmall : (H : Type) → List (DataW H) → Bool := fun _ ds => decide (uptoBulkAll ds ≤ 1048576)
def OpenSpec.upto (s : _root_.Go.ChangeSpec) : _root_.Go.OpenSpec := { _root_.Go.OpenSpec.ofChange s with cond := some uptoSmall }

/-- 'laws.FnMsgs', WHERE WHAT IT READS IS OF BULK AT MOST 1048576: true; the input reads as it did. -/
def fnMsgsUptoRow : OpenClaim := { program := "ytmbfhmpafjcneaa", sum := "fc96c58aa684136772dae2b855ef7e9e81b997f4d21b34fc117e332fb8a246ac", func := "loop.example/g00281/laws.FnMsgs", spec := "fnMsgs", unfollowed := true, recurses := true, apart := false, narrowed := true }
def FnMsgsUptoSaid : Prop := fnMsgsUptoRow.holds Try.pinned (OpenSpec.upto fnMsgsSpec)

/-- 'laws.FnInOrder', WHERE WHAT IT READS IS OF BULK AT MOST 1048576: true; the input reads as it did. -/
def fnInOrderUptoRow : OpenClaim := { program := "ytmbfhmpafjcneaa", sum := "fc96c58aa684136772dae2b855ef7e9e81b997f4d21b34fc117e332fb8a246ac", func := "loop.example/g00281/laws.FnInOrder", spec := "fnInOrder", apart := false, narrowed := true }
def FnInOrderUptoSaid : Prop := fnInOrderUptoRow.holds Try.pinned (OpenSpec.upto fnInOrderSpec)

/-- 'laws.FnHome', WHERE WHAT IT READS IS OF BULK AT MOST 1048576: true; the input reads as it did. -/
def fnHomeUptoRow : OpenClaim := { program := "ytmbfhmpafjcneaa", sum := "fc96c58aa684136772dae2b855ef7e9e81b997f4d21b34fc117e332fb8a246ac", func := "loop.example/g00281/laws.FnHome", spec := "fnHome", unfollowed := true, recurses := true, apart := false, narrowed := true }
def FnHomeUptoSaid : Prop := fnHomeUptoRow.holds Try.pinned (OpenSpec.upto fnHomeSpec)

/-- 'laws.FnHomeGives', WHERE WHAT IT READS IS OF BULK AT MOST 1048576: true; the input reads as it did. -/
def fnHomeGivesUptoRow : OpenClaim := { program := "ytmbfhmpafjcneaa", sum := "fc96c58aa684136772dae2b855ef7e9e81b997f4d21b34fc117e332fb8a246ac", func := "loop.example/g00281/laws.FnHomeGives", spec := "fnHomeGives", unfollowed := true, recurses := true, apart := false, narrowed := true }
def FnHomeGivesUptoSaid : Prop := fnHomeGivesUptoRow.holds Try.pinned (OpenSpec.upto fnHomeGivesSpec)

/-- 'laws.FnExactFrameHear', WHERE WHAT IT READS IS OF BULK AT MOST 1048576: true; the input reads as it did. -/
def fnExactFrameHearUptoRow : OpenClaim := { program := "ytmbfhmpafjcneaa", sum := "fc96c58aa684136772dae2b855ef7e9e81b997f4d21b34fc117e332fb8a246ac", func := "loop.example/g00281/laws.FnExactFrameHear", spec := "fnExactFrameHear", apart := false, narrowed := true }
def FnExactFrameHearUptoSaid : Prop := fnExactFrameHearUptoRow.holds Try.pinned (OpenSpec.upto fnExactFrameHearSpec)

/-- 'laws.FnExactHomeOk', WHERE WHAT IT READS IS OF BULK AT MOST 1048576: true; the input reads as it did. -/
def fnExactHomeOkUptoRow : OpenClaim := { program := "ytmbfhmpafjcneaa", sum := "fc96c58aa684136772dae2b855ef7e9e81b997f4d21b34fc117e332fb8a246ac", func := "loop.example/g00281/laws.FnExactHomeOk", spec := "fnExactHomeOk", apart := false, narrowed := true }
def FnExactHomeOkUptoSaid : Prop := fnExactHomeOkUptoRow.holds Try.pinned (OpenSpec.upto fnExactHomeOkSpec)

end Rows
end Go.Proofs.Ytmbfhmpafjcneaa
