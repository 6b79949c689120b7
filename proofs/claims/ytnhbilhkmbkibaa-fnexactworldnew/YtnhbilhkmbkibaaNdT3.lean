/- What the law's toReceiverS and toNode do, as a reader is told of it. -/
import Derived.Test.YtnhbilhkmbkibaaNdT2
namespace Go.Proofs.Ytnhbilhkmbkibaa
open Go.RowKit
set_option linter.unusedVariables false



/-- How great a node may be. -/
structure Nsm (d : ND) : Prop where
  f : d.nf ≤ 1048576 ∧ ∀ i, i < d.nf → (d.f i).xs.length ≤ 1048576
  h : d.nh ≤ 1048576 ∧ ∀ i, i < d.nh → (d.h i).xs.length ≤ 1048576 ∧ (d.h i).bs.length ≤ 1048576 ∧ (d.h i).ws.length ≤ 1048576
  o : d.no ≤ 1048576 ∧ ∀ i, i < d.no → (d.y i).length ≤ 1048576 ∧ ∀ s ∈ d.y i, s.2.2.2.length ≤ 1048576
  i : d.ni ≤ 1048576

theorem Ab.mono {lo lo' : Nat} {w w' : World} (h : Ab lo w w') (hl : lo ≤ lo') : Ab lo' w w' := fun i h1 h2 => h i (by omega) h2

end Go.Proofs.Ytnhbilhkmbkibaa
