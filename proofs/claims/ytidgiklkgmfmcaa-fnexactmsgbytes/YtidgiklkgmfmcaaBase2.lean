/- More small facts on worlds: behind a reader that only draws; keeping cells behind a call. -/
import Derived.Test.YtidgiklkgmfmcaaBase
namespace Go.Proofs.Ytidgiklkgmfmcaa
open Go.RowKit
set_option linter.unusedVariables false

def lenOf : Value → Nat | .slice _ n _ => n | _ => 0

theorem owns_dr {w w' : World} {d : Nat} (h : w' = w.drewN d) {base e size : Nat} {v : Value} {n : Nat} {xs : List Value} (o : w.ownsRow base e size v n xs) : w'.ownsRow base e size v n xs := by subst h; exact o
theorem bel_dr {w w' : World} {d : Nat} (h : w' = w.drewN d) {B : Nat} {a : World} (b : Below B a w) : Below B a w' := by subst h; exact below_drewN b d
theorem row_dr {w w' : World} {d : Nat} (h : w' = w.drewN d) {k : IntKind} {a : Option Addr} {xs : List Int} (r : Row k w a xs) : Row k w' a xs := by subst h; exact r
theorem size_dr {w w' : World} {d : Nat} (h : w' = w.drewN d) : w'.heap.size = w.heap.size := by subst h; rfl
theorem owns_drew {w : World} {base e size : Nat} {v : Value} {n : Nat} {xs : List Value} (o : w.ownsRow base e size v n xs) : w.drew.ownsRow base e size v n xs := o

/-- Eight cells kept behind a call that turns nothing old. -/
theorem keep8 {W W' : World} (b : Below W.heap.size W W') {a0 a1 a2 a3 b0 b1 b2 b3 : Addr} {u0 u1 u2 u3 v0 v1 v2 v3 : Value}
    (h : W.cell? a0 = some u0 ∧ W.cell? a1 = some u1 ∧ W.cell? a2 = some u2 ∧ W.cell? a3 = some u3 ∧ W.cell? b0 = some v0 ∧ W.cell? b1 = some v1 ∧ W.cell? b2 = some v2 ∧ W.cell? b3 = some v3) :
    W'.cell? a0 = some u0 ∧ W'.cell? a1 = some u1 ∧ W'.cell? a2 = some u2 ∧ W'.cell? a3 = some u3 ∧ W'.cell? b0 = some v0 ∧ W'.cell? b1 = some v1 ∧ W'.cell? b2 = some v2 ∧ W'.cell? b3 = some v3 :=
  ⟨cell_later b h.1, cell_later b h.2.1, cell_later b h.2.2.1, cell_later b h.2.2.2.1, cell_later b h.2.2.2.2.1, cell_later b h.2.2.2.2.2.1, cell_later b h.2.2.2.2.2.2.1, cell_later b h.2.2.2.2.2.2.2⟩
end Go.Proofs.Ytidgiklkgmfmcaa
