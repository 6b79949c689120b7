/- How FnInOrder's rows grow. -/
import Derived.Test.YtbofjbjnbagbnaaInO2
import Derived.Deep.AppendLies
namespace Go.Proofs.Ytbofjbjnbagbnaa
open Go.RowKit
set_option linter.unusedVariables false

theorem info_packet : (Try.prog.info? 37).map (fun i => (i.zero, i.size, i.bytes)) = some (some (.agg #[.int .i64 0, .int .i64 0, .bool false, .int .i64 0, .int .i64 0, .int .i64 0, .bool false, .slice none 0 0]), 8, 80) := by kernel_rfl

theorem Lies.got {w : World} {lo sB rB : Nat} {v5 v6 v7 : Value} {aq : Option Addr} {cq : Nat} {S : St} (h : Lies w lo sB rB v5 v6 v7 aq cq S) (g' : Nat) :
    Lies (w.setCell ⟨rB, 0, none⟩ (.int .i64 g')) lo sB rB v5 v6 v7 aq cq { S with g := g' } := by
  have hrs := box_box h.s h.r (by decide)
  have n5 := box_ne h.r h.n (by decide)
  have n6 := box_ne h.r h.a (by decide)
  have n7 := box_ne h.r h.g (by decide)
  have nq := box_ne h.r h.q (by decide)
  refine ⟨h.ls, h.lr, h.s.far _ _ hrs, heap_setCell_same _ _ 0 _ _ _ h.r, ?_, ?_, ?_, ?_, h.daq, h.dgq, h.dag⟩
  · exact owns_setCell h.q (fun j hj e => nq (by rw [hj, ← e])) _
  · exact owns_setCell h.n (fun j hj e => n5 (by rw [hj, ← e])) _
  · exact owns_setCell h.a (fun j hj e => n6 (by rw [hj, ← e])) _
  · exact owns_setCell h.g (fun j hj e => n7 (by rw [hj, ← e])) _

theorem Lies.grow7 {w w' : World} {lo sB rB : Nat} {v5 v6 v7 : Value} {aq : Option Addr} {cq : Nat} {S : St} (h : Lies w lo sB rB v5 v6 v7 aq cq S) {m : M} {g cap : Nat}
    (o : w'.ownsRow lo 33 4 (.slice (some ⟨g, 0, none⟩) (S.gg.length + 1) cap) (S.gg.length + 1) (flat S.gg ++ m.cells)) (gr : w.grownBy w' v7.ownBlock) (at' : v7.ownBlock = some g ∨ g = w.heap.size) :
    Lies w' lo sB rB v5 v6 (.slice (some ⟨g, 0, none⟩) (S.gg.length + 1) cap) aq cq { S with gg := S.gg ++ [m] } := by
  have n7 := box_ne h.s h.g (by decide)
  have r7 := box_ne h.r h.g (by decide)
  refine ⟨h.ls, h.lr, h.s.kept gr (fun j hj e => n7 (by rw [hj, e])), h.r.kept gr (fun j hj e => r7 (by rw [hj, e])), ?_, ?_, ?_, ?_, h.daq, ?_, ?_⟩
  · exact owns_ne h.q gr (fun j hj e => h.dgq j e hj)
  · exact owns_ne h.n gr (fun j hj e => owns_types h.g h.n (by decide) e hj)
  · exact owns_ne h.a gr (fun j hj e => h.dag j hj e)
  · have e : flat (S.gg ++ [m]) = flat S.gg ++ m.cells := by rw [flat_append]; simp [flat]
    show w'.ownsRow lo _ 4 _ (S.gg ++ [m]).length (flat (S.gg ++ [m]))
    rw [e, List.length_append]
    exact o
  · intro j hj hq
    have hj' : g = j := by simpa [Value.ownBlock] using hj
    subst hj'
    rcases at' with h1 | h1
    · exact h.dgq g h1 hq
    · have := (h.q.lt g hq).2
      omega
  · intro j hj hv
    have hj' : g = j := by simpa [Value.ownBlock] using hv
    subst hj'
    rcases at' with h1 | h1
    · exact h.dag g hj h1
    · have := (h.a.lt g hj).2
      omega

theorem Lies.grow6 {w w' : World} {lo sB rB : Nat} {v5 v6 v7 : Value} {aq : Option Addr} {cq : Nat} {S : St} (h : Lies w lo sB rB v5 v6 v7 aq cq S) {m : M} {g cap : Nat}
    (o : w'.ownsRow lo 33 4 (.slice (some ⟨g, 0, none⟩) (S.aa.length + 1) cap) (S.aa.length + 1) (flat S.aa ++ m.cells)) (gr : w.grownBy w' v6.ownBlock) (at' : v6.ownBlock = some g ∨ g = w.heap.size) :
    Lies w' lo sB rB v5 (.slice (some ⟨g, 0, none⟩) (S.aa.length + 1) cap) v7 aq cq { S with aa := S.aa ++ [m] } := by
  have n6 := box_ne h.s h.a (by decide)
  have r6 := box_ne h.r h.a (by decide)
  refine ⟨h.ls, h.lr, h.s.kept gr (fun j hj e => n6 (by rw [hj, e])), h.r.kept gr (fun j hj e => r6 (by rw [hj, e])), ?_, ?_, ?_, ?_, ?_, h.dgq, ?_⟩
  · exact owns_ne h.q gr (fun j hj e => h.daq j e hj)
  · exact owns_ne h.n gr (fun j hj e => owns_types h.a h.n (by decide) e hj)
  · have e : flat (S.aa ++ [m]) = flat S.aa ++ m.cells := by rw [flat_append]; simp [flat]
    show w'.ownsRow lo _ 4 _ (S.aa ++ [m]).length (flat (S.aa ++ [m]))
    rw [e, List.length_append]
    exact o
  · exact owns_ne h.g gr (fun j hj e => h.dag j e hj)
  · intro j hj hq
    have hj' : g = j := by simpa [Value.ownBlock] using hj
    subst hj'
    rcases at' with h1 | h1
    · exact h.daq g h1 hq
    · have := (h.q.lt g hq).2
      omega
  · intro j hj hv
    have hj' : g = j := by simpa [Value.ownBlock] using hj
    subst hj'
    rcases at' with h1 | h1
    · exact h.dag g h1 hv
    · have := (h.g.lt g hv).2
      omega

theorem Lies.grow5 {w w' : World} {lo sB rB : Nat} {v5 v6 v7 : Value} {aq : Option Addr} {cq : Nat} {S : St} (h : Lies w lo sB rB v5 v6 v7 aq cq S) {t : Nat × M} {g cap : Nat}
    (o : w'.ownsRow lo 37 8 (.slice (some ⟨g, 0, none⟩) (S.ns.length + 1) cap) (S.ns.length + 1) (pflat S.ns ++ pcells t)) (gr : w.grownBy w' v5.ownBlock) :
    Lies w' lo sB rB (.slice (some ⟨g, 0, none⟩) (S.ns.length + 1) cap) v6 v7 aq cq { S with ns := S.ns ++ [t] } := by
  have n5 := box_ne h.s h.n (by decide)
  have r5 := box_ne h.r h.n (by decide)
  refine ⟨h.ls, h.lr, h.s.kept gr (fun j hj e => n5 (by rw [hj, e])), h.r.kept gr (fun j hj e => r5 (by rw [hj, e])), ?_, ?_, ?_, ?_, h.daq, h.dgq, h.dag⟩
  · exact owns_ne h.q gr (fun j hj e => owns_types h.n h.q (by decide) e hj)
  · have e : pflat (S.ns ++ [t]) = pflat S.ns ++ pcells t := by rw [pflat_append]; simp [pflat]
    show w'.ownsRow lo _ 8 _ (S.ns ++ [t]).length (pflat (S.ns ++ [t]))
    rw [e, List.length_append]
    exact o
  · exact owns_ne h.a gr (fun j hj e => owns_types h.n h.a (by decide) e hj)
  · exact owns_ne h.g gr (fun j hj e => owns_types h.n h.g (by decide) e hj)

/-- A row grew: what lay below the law's own world stays. -/
theorem bel_grown {w0 w w' : World} {lo e size n : Nat} {v : Value} {xs : List Value} (B : Below w0.heap.size w0 w) (o : w.ownsRow lo e size v n xs) (hl : w0.heap.size ≤ lo) (gr : w.grownBy w' v.ownBlock) : Below w0.heap.size w0 w' :=
  B.grown gr B.size (fun j hj => by have := (o.lt j hj).1; omega)

theorem msg_one' (m : M) : ∀ u ∈ m.cells, u.oneCell' = true := fun v hv => by
  simp [M.cells] at hv
  rcases hv with rfl | rfl | rfl | rfl <;> rfl
theorem pk_one (t : Nat × M) : ∀ u ∈ pcells t, u.oneCell' = true := fun v hv => by
  simp [pcells] at hv
  rcases hv with rfl | rfl | rfl | rfl | rfl | rfl | rfl <;> rfl
end Go.Proofs.Ytbofjbjnbagbnaa
