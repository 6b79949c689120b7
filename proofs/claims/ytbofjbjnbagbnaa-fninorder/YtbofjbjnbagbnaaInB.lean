/- FnInOrder's loop, taken out of its code; what stands at each round. -/
import Derived.Test.YtbofjbjnbagbnaaInO2
namespace Go.Proofs.Ytbofjbjnbagbnaa
open Go.RowKit
set_option linter.unusedVariables false

def firstLoop : Code → Option Code
  | .loop c => some c
  | .seq a b => match firstLoop a with
    | some c => some c
    | none => firstLoop b
  | .block _ c => firstLoop c
  | .scope c => firstLoop c
  | .cond _ a b => match firstLoop a with
    | some c => some c
    | none => firstLoop b
  | _ => none


def Rel (w : World) (sB rB : Nat) (v5 v6 v7 v8 : Value) (w' : World) : Prop :=
  ∃ (k : Nat) (aq : Option Addr) (cq : Nat) (S : St), v8 = .int .i64 k ∧ k ≤ 60 ∧ S.Ok ∧ S.P.length ≤ k ∧ S.ns.length ≤ k ∧ Lies w' w.heap.size sB rB v5 v6 v7 aq cq S ∧ Below w.heap.size w w'

set_option maxRecDepth 1000000 in
def WI (a : Option Addr) (ca : Nat) (bs : List Int) (w : World) (sB rB : Nat) (c1 c2 c19 c20 c21 c22 c23 c24 c25 c26 c123 c124 c125 c126 c127 c128 c129 c130 c131 c132 c133 c134 c135 c136 c137 c138 c139 c140 c141 c142 c143 c144 c145 c146 c147 c148 c149 c150 c151 c152 c153 : Value) (act : Act) (w' : World) : Prop :=
  ∃ v5 v6 v7 v8 u9 u10 u11 u12 u13 u14 u15 u16 u17 u18 u27 u28 u29 u30 u31 u32 u33 u34 u35 u36 u37 u38 u39 u40 u41 u42 u43 u44 u45 u46 u47 u48 u49 u50 u51 u52 u53 u54 u55 u56 u57 u58 u59 u60 u61 u62 u63 u64 u65 u66 u67 u68 u69 u70 u71 u72 u73 u74 u75 u76 u77 u78 u79 u80 u81 u82 u83 u84 u85 u86 u87 u88 u89 u90 u91 u92 u93 u94 u95 u96 u97 u98 u99 u100 u101 u102 u103 u104 u105 u106 u107 u108 u109 u110 u111 u112 u113 u114 u115 u116 u117 u118 u119 u120 u121 u122 : Value, Rel w sB rB v5 v6 v7 v8 w' ∧ act = ⟨#[.slice a bs.length ca, c1, c2, .pointer (some ⟨sB, 0, none⟩), .pointer (some ⟨rB, 0, none⟩), v5, v6, v7, v8, u9, u10, u11, u12, u13, u14, u15, u16, u17, u18, c19, c20, c21, c22, c23, c24, c25, c26, u27, u28, u29, u30, u31, u32, u33, u34, u35, u36, u37, u38, u39, u40, u41, u42, u43, u44, u45, u46, u47, u48, u49, u50, u51, u52, u53, u54, u55, u56, u57, u58, u59, u60, u61, u62, u63, u64, u65, u66, u67, u68, u69, u70, u71, u72, u73, u74, u75, u76, u77, u78, u79, u80, u81, u82, u83, u84, u85, u86, u87, u88, u89, u90, u91, u92, u93, u94, u95, u96, u97, u98, u99, u100, u101, u102, u103, u104, u105, u106, u107, u108, u109, u110, u111, u112, u113, u114, u115, u116, u117, u118, u119, u120, u121, u122, c123, c124, c125, c126, c127, c128, c129, c130, c131, c132, c133, c134, c135, c136, c137, c138, c139, c140, c141, c142, c143, c144, c145, c146, c147, c148, c149, c150, c151, c152, c153], []⟩

def Wmu (act : Act) (_ : World) : Nat := 60 - (intOf (act.tmps.getD 8 undef)).toNat
end Go.Proofs.Ytbofjbjnbagbnaa
