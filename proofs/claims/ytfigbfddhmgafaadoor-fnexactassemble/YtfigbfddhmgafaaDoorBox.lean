/- A boxed struct of any size: its block, kept from world to world. -/
import Derived.Test.YtfigbfddhmgafaaDoorBase
import Derived.Test.YtfigbfddhmgafaaDoorBase2
namespace Go.Proofs.YtfigbfddhmgafaaDoor
open Go.RowKit
set_option linter.unusedVariables false

/-- Block m holds a struct's cells. -/
def Box (w : World) (m : Nat) (cs : Array Value) (t : TypeId) : Prop := w.heap[m]? = some (.cells cs t (0, 0))

section
variable {w w' : World} {m : Nat} {cs : Array Value} {t : TypeId}
theorem Box.lt (h : Box w m cs t) : m < w.heap.size := (Array.getElem?_eq_some_iff.1 h).1
theorem Box.below (h : Box w m cs t) (b : Below w.heap.size w w') : Box w' m cs t := (b.block m h.lt).trans h
theorem Box.kept (h : Box w m cs t) {row : Option Nat} (g : w.grownBy w' row) (hne : ∀ j, row = some j → j ≠ m) : Box w' m cs t :=
  (g.block m h.lt (fun e => hne m e.symm rfl)).trans h
theorem Box.dr (h : Box w m cs t) {d : Nat} (e : w' = w.drewN d) : Box w' m cs t := by subst e; exact h
theorem Box.new (w : World) (cs : Array Value) (t : TypeId) : Box (w.alloc (.cells cs t)) w.heap.size cs t := heap_alloc_new w _
theorem Box.cell (h : Box w m cs t) (i : Nat) : w.cell? ⟨m, i, none⟩ = cs[i]? := cell_of_row w m i _ _ _ h
theorem Box.far (h : Box w m cs t) (x : Addr) (u : Value) (hne : m ≠ x.block) : Box (w.setCell x u) m cs t := (Below.heap_setCell w x u m hne).trans h
theorem Box.at4 {c0 c1 c2 c3 : Value} (h : Box w m #[c0, c1, c2, c3] t) :
    w.cell? ⟨m, 0, none⟩ = some c0 ∧ w.cell? ⟨m, 1, none⟩ = some c1 ∧ w.cell? ⟨m, 2, none⟩ = some c2 ∧ w.cell? ⟨m, 3, none⟩ = some c3 ∧ m < w.heap.size :=
  ⟨by rw [h.cell]; rfl, by rw [h.cell]; rfl, by rw [h.cell]; rfl, by rw [h.cell]; rfl, h.lt⟩
theorem Box.frozen (h : Box w m cs t) (i : Nat) : w.frozen? ⟨m, i, none⟩ = false := frozen_of_row w m i _ _ h
theorem Box.at2 {c0 c1 : Value} (h : Box w m #[c0, c1] t) :
    w.cell? ⟨m, 0, none⟩ = some c0 ∧ w.cell? ⟨m, 1, none⟩ = some c1 ∧ m < w.heap.size :=
  ⟨by rw [h.cell]; rfl, by rw [h.cell]; rfl, h.lt⟩

/-- The first of two new boxes. -/
theorem Box.two (w : World) (cs cs2 : Array Value) (t t2 : TypeId) : Box ((w.alloc (.cells cs t)).alloc (.cells cs2 t2)) w.heap.size cs t ∧ Box ((w.alloc (.cells cs t)).alloc (.cells cs2 t2)) (w.heap.size + 1) cs2 t2 := by
  refine ⟨(Box.new w cs t).below (bel_alloc (Below.refl _ _) _), ?_⟩
  have h := Box.new (w.alloc (.cells cs t)) cs2 t2
  have e : (w.alloc (.cells cs t)).heap.size = w.heap.size + 1 := by simp
  rw [e] at h
  exact h
end
end Go.Proofs.YtfigbfddhmgafaaDoor
