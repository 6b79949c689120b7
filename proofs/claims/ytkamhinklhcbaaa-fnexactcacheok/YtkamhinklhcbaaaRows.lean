/-
  No cell of these rows narrows 'for every input' (looked for: loops, veiled, ifaces, maps, wideKeys, modest, calm, conditions, laid).
  DERIVED. THE GIVEN ROWS OF THIS SEAT. 5 by the template 'for every input the law returns true; each argument reads behind the call as it read before'; 0 by the template 'total and deterministic' (their statements: YtkamhinklhcbaaaTotals.lean).
  GIVEN WITH THE SEED: the statements are not yours to turn. If you find one false, say at which input.
  Laid BY PROGRAM, IN A SANDBOX (cutbox-rows.mjs): the forced cells as the released guide's own fill.sh prints them over the translation 2c19866961e94420… (all of the seat's roots in one cut). By AI agents, Wed Nov 11 2026. No macro, syntax, notation, axiom, sorry.
-/
import Derived.Test.YtkamhinklhcbaaaChecked
import GoSem.Claim
import GoSem.ClaimJoined
import GoSem.ClaimMapViews
import Derived.JoinedTies
import Derived.KernelRfl
namespace Go.Proofs.Ytkamhinklhcbaaa
/- THE CELL 'sum', in the pinned program and in every row, IS THE sha256 OF THE DUMP (.gsa) THAT YtkamhinklhcbaaaProg.lean LOADS. Nothing in Lean hashes anything: it is a label: what it is worth is what the hold of that sum in a sandbox is worth. -/
noncomputable def Try.pinned : Pinned := { name := "ytkamhinklhcbaaa", sum := "2c19866961e94420228c888607b0d6e31f49f2061c307e7030c480c461d9f035", checked := Try.checked }
namespace Rows
def none {H : Type} : Left H := { results := [], args := [] }

/-- 'laws.FnCaches': WHATEVER THE INPUT: true; the input reads as it did. -/
def fnCachesSpec : ChangeSpec := { name := "fnCaches", fn := fun _ => fun
  | [d] => { results := [.lit (.bool true)], args := [d] }
  | _ => none }
def fnCachesRow : OpenClaim := { program := "ytkamhinklhcbaaa", sum := "2c19866961e94420228c888607b0d6e31f49f2061c307e7030c480c461d9f035", func := "loop.example/g00281/laws.FnCaches", spec := "fnCaches", unfollowed := true, recurses := true, apart := false }
def FnCachesSaid : Prop := fnCachesRow.holds Try.pinned (OpenSpec.ofChange fnCachesSpec)

/-- ITS FALSE NEIGHBOUR: 'it returns false'. Refute it at one input. -/
def fnCachesWrong : ChangeSpec := { name := "fnCaches", fn := fun _ => fun
  | [d] => { results := [.lit (.bool false)], args := [d] }
  | _ => none }
def FnCachesWrongFalsely : Prop := fnCachesRow.holds Try.pinned (OpenSpec.ofChange fnCachesWrong)

/-- 'laws.FnExactCacheOk': WHATEVER THE INPUT: true; the input reads as it did. -/
def fnExactCacheOkSpec : ChangeSpec := { name := "fnExactCacheOk", fn := fun _ => fun
  | [d1, d2] => { results := [.lit (.bool true)], args := [d1, d2] }
  | _ => none }
def fnExactCacheOkRow : OpenClaim := { program := "ytkamhinklhcbaaa", sum := "2c19866961e94420228c888607b0d6e31f49f2061c307e7030c480c461d9f035", func := "loop.example/g00281/laws.FnExactCacheOk", spec := "fnExactCacheOk", unfollowed := true, recurses := true, apart := false }
def FnExactCacheOkSaid : Prop := fnExactCacheOkRow.holds Try.pinned (OpenSpec.ofChange fnExactCacheOkSpec)

/-- ITS FALSE NEIGHBOUR: 'it returns false'. Refute it at one input. -/
def fnExactCacheOkWrong : ChangeSpec := { name := "fnExactCacheOk", fn := fun _ => fun
  | [d1, d2] => { results := [.lit (.bool false)], args := [d1, d2] }
  | _ => none }
def FnExactCacheOkWrongFalsely : Prop := fnExactCacheOkRow.holds Try.pinned (OpenSpec.ofChange fnExactCacheOkWrong)

/-- 'laws.FnExactCacheFind': WHATEVER THE INPUT: true; the input reads as it did. -/
def fnExactCacheFindSpec : ChangeSpec := { name := "fnExactCacheFind", fn := fun _ => fun
  | [d1, d2] => { results := [.lit (.bool true)], args := [d1, d2] }
  | _ => none }
def fnExactCacheFindRow : OpenClaim := { program := "ytkamhinklhcbaaa", sum := "2c19866961e94420228c888607b0d6e31f49f2061c307e7030c480c461d9f035", func := "loop.example/g00281/laws.FnExactCacheFind", spec := "fnExactCacheFind", unfollowed := true, recurses := true, apart := false }
def FnExactCacheFindSaid : Prop := fnExactCacheFindRow.holds Try.pinned (OpenSpec.ofChange fnExactCacheFindSpec)

/-- ITS FALSE NEIGHBOUR: 'it returns false'. Refute it at one input. -/
def fnExactCacheFindWrong : ChangeSpec := { name := "fnExactCacheFind", fn := fun _ => fun
  | [d1, d2] => { results := [.lit (.bool false)], args := [d1, d2] }
  | _ => none }
def FnExactCacheFindWrongFalsely : Prop := fnExactCacheFindRow.holds Try.pinned (OpenSpec.ofChange fnExactCacheFindWrong)

/-- 'laws.FnExactCacheAdd': WHATEVER THE INPUT: true; the input reads as it did. -/
def fnExactCacheAddSpec : ChangeSpec := { name := "fnExactCacheAdd", fn := fun _ => fun
  | [d1, d2] => { results := [.lit (.bool true)], args := [d1, d2] }
  | _ => none }
def fnExactCacheAddRow : OpenClaim := { program := "ytkamhinklhcbaaa", sum := "2c19866961e94420228c888607b0d6e31f49f2061c307e7030c480c461d9f035", func := "loop.example/g00281/laws.FnExactCacheAdd", spec := "fnExactCacheAdd", unfollowed := true, recurses := true, apart := false }
def FnExactCacheAddSaid : Prop := fnExactCacheAddRow.holds Try.pinned (OpenSpec.ofChange fnExactCacheAddSpec)

/-- ITS FALSE NEIGHBOUR: 'it returns false'. Refute it at one input. -/
def fnExactCacheAddWrong : ChangeSpec := { name := "fnExactCacheAdd", fn := fun _ => fun
  | [d1, d2] => { results := [.lit (.bool false)], args := [d1, d2] }
  | _ => none }
def FnExactCacheAddWrongFalsely : Prop := fnExactCacheAddRow.holds Try.pinned (OpenSpec.ofChange fnExactCacheAddWrong)

/-- 'laws.FnExactPurge': WHATEVER THE INPUT: true; the input reads as it did. -/
def fnExactPurgeSpec : ChangeSpec := { name := "fnExactPurge", fn := fun _ => fun
  | [d1, d2] => { results := [.lit (.bool true)], args := [d1, d2] }
  | _ => none }
def fnExactPurgeRow : OpenClaim := { program := "ytkamhinklhcbaaa", sum := "2c19866961e94420228c888607b0d6e31f49f2061c307e7030c480c461d9f035", func := "loop.example/g00281/laws.FnExactPurge", spec := "fnExactPurge", unfollowed := true, recurses := true, apart := false }
def FnExactPurgeSaid : Prop := fnExactPurgeRow.holds Try.pinned (OpenSpec.ofChange fnExactPurgeSpec)

/-- ITS FALSE NEIGHBOUR: 'it returns false'. Refute it at one input. -/
def fnExactPurgeWrong : ChangeSpec := { name := "fnExactPurge", fn := fun _ => fun
  | [d1, d2] => { results := [.lit (.bool false)], args := [d1, d2] }
  | _ => none }
def FnExactPurgeWrongFalsely : Prop := fnExactPurgeRow.holds Try.pinned (OpenSpec.ofChange fnExactPurgeWrong)

/- THE SECOND FORM. 'bulk': how many values and letters a reading holds, each counted each time it is reached (what is shared counts as often as it is met; a slice's spare places count too). A statement '..UptoSaid' is the law's where the arguments, and the package variables that the reading takes, are together of bulk at most 1048576: NARROWER than '..Said'. Prove '..Said' where nothing that the law and all that it calls make is longer than what came in: it says more and counts as full. Else prove '..UptoSaid'. A law counts once. -/
mutual
def uptoBulk {H : Type} : DataW H → Nat
  | .lit (.string bytes) => bytes.length + 1
  | .lit _ => 1
  | .nil => 1
  | .ptr d => uptoBulk d + 1
  | .slice elems spare => uptoBulkAll elems + uptoBulkAll spare + 1
  | .agg parts => uptoBulkAll parts + 1
  | .iface _ d => uptoBulk d + 1
  | .map entries => uptoBulkEntries entries + 1
  | .held _ => 1
def uptoBulkAll {H : Type} : List (DataW H) → Nat
  | [] => 0
  | d :: r => uptoBulk d + uptoBulkAll r
def uptoBulkEntries {H : Type} : List (Lit × DataW H) → Nat
  | [] => 0
  | x :: r => uptoBulkEntry x + uptoBulkEntries r
def uptoBulkEntry {H : Type} : Lit × DataW H → Nat
  | (.string bytes, d) => bytes.length + uptoBulk d + 1
  | (_, d) => uptoBulk d + 1
 end
def uptoSmall : (H : Type) → List (DataW H) → Bool := fun _ ds => decide (uptoBulkAll ds ≤ 1048576)
def OpenSpec.upto (s : _root_.Go.ChangeSpec) : _root_.Go.OpenSpec := { _root_.Go.OpenSpec.ofChange s with cond := some uptoSmall }

/-- 'laws.FnCaches', WHERE WHAT IT READS IS OF BULK AT MOST 1048576: true; the input reads as it did. -/
def fnCachesUptoRow : OpenClaim := { program := "ytkamhinklhcbaaa", sum := "2c19866961e94420228c888607b0d6e31f49f2061c307e7030c480c461d9f035", func := "loop.example/g00281/laws.FnCaches", spec := "fnCaches", unfollowed := true, recurses := true, apart := false, narrowed := true }
def FnCachesUptoSaid : Prop := fnCachesUptoRow.holds Try.pinned (OpenSpec.upto fnCachesSpec)

/-- 'laws.FnExactCacheOk', WHERE WHAT IT READS IS OF BULK AT MOST 1048576: true; the input reads as it did. -/
def fnExactCacheOkUptoRow : OpenClaim := { program := "ytkamhinklhcbaaa", sum := "2c19866961e94420228c888607b0d6e31f49f2061c307e7030c480c461d9f035", func := "loop.example/g00281/laws.FnExactCacheOk", spec := "fnExactCacheOk", unfollowed := true, recurses := true, apart := false, narrowed := true }
def FnExactCacheOkUptoSaid : Prop := fnExactCacheOkUptoRow.holds Try.pinned (OpenSpec.upto fnExactCacheOkSpec)

/-- 'laws.FnExactCacheFind', WHERE WHAT IT READS IS OF BULK AT MOST 1048576: true; the input reads as it did. -/
def fnExactCacheFindUptoRow : OpenClaim := { program := "ytkamhinklhcbaaa", sum := "2c19866961e94420228c888607b0d6e31f49f2061c307e7030c480c461d9f035", func := "loop.example/g00281/laws.FnExactCacheFind", spec := "fnExactCacheFind", unfollowed := true, recurses := true, apart := false, narrowed := true }
def FnExactCacheFindUptoSaid : Prop := fnExactCacheFindUptoRow.holds Try.pinned (OpenSpec.upto fnExactCacheFindSpec)

/-- 'laws.FnExactCacheAdd', WHERE WHAT IT READS IS OF BULK AT MOST 1048576: true; the input reads as it did. -/
def fnExactCacheAddUptoRow : OpenClaim := { program := "ytkamhinklhcbaaa", sum := "2c19866961e94420228c888607b0d6e31f49f2061c307e7030c480c461d9f035", func := "loop.example/g00281/laws.FnExactCacheAdd", spec := "fnExactCacheAdd", unfollowed := true, recurses := true, apart := false, narrowed := true }
def FnExactCacheAddUptoSaid : Prop := fnExactCacheAddUptoRow.holds Try.pinned (OpenSpec.upto fnExactCacheAddSpec)

/-- 'laws.FnExactPurge', WHERE WHAT IT READS IS OF BULK AT MOST 1048576: true; the input reads as it did. -/
def fnExactPurgeUptoRow : OpenClaim := { program := "ytkamhinklhcbaaa", sum := "2c19866961e94420228c888607b0d6e31f49f2061c307e7030c480c461d9f035", func := "loop.example/g00281/laws.FnExactPurge", spec := "fnExactPurge", unfollowed := true, recurses := true, apart := false, narrowed := true }
def FnExactPurgeUptoSaid : Prop := fnExactPurgeUptoRow.holds Try.pinned (OpenSpec.upto fnExactPurgeSpec)

end Rows
end Go.Proofs.Ytkamhinklhcbaaa
