/- What the law of Work's regions leave: an answer in its box. -/
import Derived.Deep.RegionWith
import Derived.BigRegion
import Derived.Deep.RegionHeld3
import Derived.Deep.DeepCutAuto
import Derived.Test.YtiilgkloddflcaaHx9
import Derived.Test.YtiilgkloddflcaaIn8L
import Derived.Test.YtiilgkloddflcaaOpenI
import Derived.Test.YtiilgkloddflcaaOpenHt
import Derived.Test.YtiilgkloddflcaaReg
namespace Go.Proofs.Ytiilgkloddflcaa
open Go.ChangeShapes Go.WideShapes Go.ChangeAt Go.RowKit
set_option linter.unusedVariables false

theorem keep8f {W : World} {x : Addr} {u : Value} {a0 a1 a2 a3 a4 a5 a6 a7 : Addr} {u0 u1 u2 u3 u4 u5 u6 u7 : Value}
    (h : W.cell? a0 = some u0 ∧ W.cell? a1 = some u1 ∧ W.cell? a2 = some u2 ∧ W.cell? a3 = some u3 ∧ W.cell? a4 = some u4 ∧ W.cell? a5 = some u5 ∧ W.cell? a6 = some u6 ∧ W.cell? a7 = some u7) (hlt : a0.block < x.block ∧ a1.block < x.block ∧ a2.block < x.block ∧ a3.block < x.block ∧ a4.block < x.block ∧ a5.block < x.block ∧ a6.block < x.block ∧ a7.block < x.block) :
    (W.setCell x u).cell? a0 = some u0 ∧ (W.setCell x u).cell? a1 = some u1 ∧ (W.setCell x u).cell? a2 = some u2 ∧ (W.setCell x u).cell? a3 = some u3 ∧ (W.setCell x u).cell? a4 = some u4 ∧ (W.setCell x u).cell? a5 = some u5 ∧ (W.setCell x u).cell? a6 = some u6 ∧ (W.setCell x u).cell? a7 = some u7 := by
  have far : ∀ y : Addr, ∀ v, y.block < x.block → W.cell? y = some v → (W.setCell x u).cell? y = some v := fun y v hy hv => by
    rw [World.cell?_setCell_other _ _ _ _ (fun e => by subst e; omega)]
    exact hv
  exact ⟨far _ _ hlt.1 h.1, far _ _ hlt.2.1 h.2.1, far _ _ hlt.2.2.1 h.2.2.1, far _ _ hlt.2.2.2.1 h.2.2.2.1, far _ _ hlt.2.2.2.2.1 h.2.2.2.2.1, far _ _ hlt.2.2.2.2.2.1 h.2.2.2.2.2.1, far _ _ hlt.2.2.2.2.2.2.1 h.2.2.2.2.2.2.1, far _ _ hlt.2.2.2.2.2.2.2 h.2.2.2.2.2.2.2⟩

/-- An answer in its box, and its number. -/
def AR (w0 : World) (L : List Int) (pq sq v : Int) (s8 s9 : Value) (wx : World) : Prop :=
  ∃ (A : Nat) (a : Option Addr) (c : Nat), s8 = .pointer (some ⟨A, 0, none⟩) ∧ s9 = .int .i64 v ∧ w0.heap.size ≤ A ∧ Box wx A #[.slice a L.length c, .int .i64 pq, .int .i64 sq] 27 ∧ wx.ownsRow w0.heap.size 3 1 (.slice a L.length c) L.length (L.map (Value.int .i64)) ∧ Below w0.heap.size w0 wx
theorem AR.new {w0 w5 : World} {L : List Int} {pq sq v : Int} {a : Option Addr} {c lo : Nat} (o : w5.ownsRow lo 3 1 (.slice a L.length c) L.length (L.map (Value.int .i64))) (hlo : w0.heap.size ≤ lo) (hb : Below w0.heap.size w0 w5) :
    AR w0 L pq sq v (.pointer (some ⟨w5.heap.size, 0, none⟩)) (.int .i64 v) (w5.alloc (.cells #[.slice a L.length c, .int .i64 pq, .int .i64 sq] 27)) :=
  ⟨_, a, c, rfl, rfl, hb.size, Box.new w5 _ _, owns_below (owns_base o hlo) (bel_alloc (Below.refl _ _) _), bel_alloc hb _⟩
theorem AR.set {w0 w5 : World} {A : Nat} {L : List Int} {pq sq v : Int} {a : Option Addr} {c lo : Nat} (X : Box w5 A #[.slice none 0 0, .int .i64 0, .int .i64 0] 27) (hA : w0.heap.size ≤ A) (hAl : A < lo) (o : w5.ownsRow lo 3 1 (.slice a L.length c) L.length (L.map (Value.int .i64))) (hb : Below w0.heap.size w0 w5) :
    AR w0 L pq sq v (.pointer (some ⟨A, 0, none⟩)) (.int .i64 v) (((w5.setCell ⟨A, 0, none⟩ (.slice a L.length c)).setCell ⟨A, 1, none⟩ (.int .i64 pq)).setCell ⟨A, 2, none⟩ (.int .i64 sq)) :=
  ⟨_, a, c, rfl, rfl, hA, heap_setCell_same _ _ 2 _ _ _ (heap_setCell_same _ _ 1 _ _ _ (heap_setCell_same _ _ 0 _ _ _ X)), owns_base (owns_setCell (owns_setCell (owns_setCell o (fun j hj => by have := (o.lt j hj).1; simp; omega) _) (fun j hj => by have := (o.lt j hj).1; simp; omega) _) (fun j hj => by have := (o.lt j hj).1; simp; omega) _) (by omega), bel_setCell (bel_setCell (bel_setCell hb _ _ hA) _ _ hA) _ _ hA⟩

end Go.Proofs.Ytiilgkloddflcaa
