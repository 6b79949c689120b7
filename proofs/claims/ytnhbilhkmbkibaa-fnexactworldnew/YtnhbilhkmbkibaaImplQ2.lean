/- What impl's Queue and Acked answer. -/
import Derived.Test.YtnhbilhkmbkibaaImplQ
import Derived.Deep.DeepCutAuto
namespace Go.Proofs.Ytnhbilhkmbkibaa
open Go.RowKit
set_option linter.unusedVariables false

theorem shallow {w : World} {lo : Nat} {a : Option Addr} {c n : Nat} {ms : List M} (h : w.ownsRow lo 56 4 (.slice a n c) n (flat ms)) (hn : ms.length = n) (hl : n ≤ 1048577) (hR : ∀ m ∈ ms, Row .i64 w m.a m.xs) : MRow w a ms := by
  refine ⟨by omega, fun i m hm => ⟨?_, hR m (List.mem_of_getElem? hm)⟩⟩
  obtain ⟨hi, _⟩ := List.getElem?_eq_some_iff.1 hm
  obtain ⟨g, rfl⟩ := owns_addr h (by omega)
  refine ⟨g, 0, rfl, ?_⟩
  have key : ∀ j, j < 4 → w.cell? ⟨g, i * 4 + j, none⟩ = m.cells[j]? := fun j hj => by
    rw [h.cellAt (i * 4 + j) (by omega), flat_get ms i m hm j hj]
  rw [Nat.zero_add]
  exact ⟨by simpa [M.cells] using key 0 (by omega), by simpa [M.cells] using key 1 (by omega), by simpa [M.cells] using key 2 (by omega), by simpa [M.cells] using key 3 (by omega)⟩

theorem MRow.row {w : World} {a : Option Addr} {ms : List M} (h : MRow w a ms) {m : M} (hm : m ∈ ms) : Row .i64 w m.a m.xs := by
  obtain ⟨i, hi, rfl⟩ := List.getElem_of_mem hm
  exact (h.2 i _ (List.getElem?_eq_getElem hi)).2

theorem Deep.far {w : World} {lo : Nat} {a : Option Addr} {c : Nat} {ms : List M} (h : Deep w lo a c ms) (x : Addr) (u : Value) (hx : x.block < lo) : Deep (w.setCell x u) lo a c ms :=
  ⟨owns_setCell h.row (fun j hj => by have := (h.row.lt j hj).1; omega) u, h.lists.far x u (fun m hm j hj => by have := (h.lists.lt hm hj).1; omega)⟩
theorem Deep.base {w : World} {lo lo' : Nat} {a : Option Addr} {c : Nat} {ms : List M} (h : Deep w lo a c ms) (hl : lo' ≤ lo) : Deep w lo' a c ms := ⟨owns_base h.row hl, h.lists.base hl⟩

/-- What Queue answers. -/
def QPost (B : Int) (ms : List M) (m : M) (w : World) (e : Ending) (w' : World) : Prop :=
  ∃ (a' : Option Addr) (c' : Nat) (ds : List M), e = .returned (.tuple #[.agg #[.int .i64 B, .slice a' ds.length c'], .bool (senderB B (ms ++ [m]))]) ∧ ds.map M.say = (if senderB B (ms ++ [m]) then ms ++ [m] else ms).map M.say ∧ Deep w' w.heap.size a' c' ds ∧ Below w.heap.size w w'

/-- The sender with one more message, in its box. -/
def NextP (W : World) (B : Int) (ms : List M) (m : M) (s : Value) (wx : World) : Prop :=
  ∃ (A : Nat) (a' : Option Addr) (c' : Nat), s = .pointer (some ⟨A, 0, none⟩) ∧ Box wx A #[.int .i64 B, .slice a' (ms.length + 1) c'] 75 ∧ wx.ownsRow W.heap.size 56 4 (.slice a' (ms.length + 1) c') (ms.length + 1) (flat (ms ++ [m])) ∧ Below W.heap.size W wx

theorem keep6 {W W' : World} (b : Below W.heap.size W W') {a0 a1 a2 a3 a4 a5 : Addr} {u0 u1 u2 u3 u4 u5 : Value}
    (h : W.cell? a0 = some u0 ∧ W.cell? a1 = some u1 ∧ W.cell? a2 = some u2 ∧ W.cell? a3 = some u3 ∧ W.cell? a4 = some u4 ∧ W.cell? a5 = some u5) :
    W'.cell? a0 = some u0 ∧ W'.cell? a1 = some u1 ∧ W'.cell? a2 = some u2 ∧ W'.cell? a3 = some u3 ∧ W'.cell? a4 = some u4 ∧ W'.cell? a5 = some u5 :=
  ⟨cell_later b h.1, cell_later b h.2.1, cell_later b h.2.2.1, cell_later b h.2.2.2.1, cell_later b h.2.2.2.2.1, cell_later b h.2.2.2.2.2⟩

theorem keep6f {W : World} {x : Addr} {u : Value} {a0 a1 a2 a3 a4 a5 : Addr} {u0 u1 u2 u3 u4 u5 : Value}
    (h : W.cell? a0 = some u0 ∧ W.cell? a1 = some u1 ∧ W.cell? a2 = some u2 ∧ W.cell? a3 = some u3 ∧ W.cell? a4 = some u4 ∧ W.cell? a5 = some u5) (hlt : a0.block < x.block ∧ a1.block < x.block ∧ a2.block < x.block ∧ a3.block < x.block ∧ a4.block < x.block ∧ a5.block < x.block) :
    (W.setCell x u).cell? a0 = some u0 ∧ (W.setCell x u).cell? a1 = some u1 ∧ (W.setCell x u).cell? a2 = some u2 ∧ (W.setCell x u).cell? a3 = some u3 ∧ (W.setCell x u).cell? a4 = some u4 ∧ (W.setCell x u).cell? a5 = some u5 := by
  have far : ∀ y : Addr, ∀ v, y.block < x.block → W.cell? y = some v → (W.setCell x u).cell? y = some v := fun y v hy hv => by
    rw [World.cell?_setCell_other _ _ _ _ (fun e => by subst e; omega)]
    exact hv
  exact ⟨far _ _ hlt.1 h.1, far _ _ hlt.2.1 h.2.1, far _ _ hlt.2.2.1 h.2.2.1, far _ _ hlt.2.2.2.1 h.2.2.2.1, far _ _ hlt.2.2.2.2.1 h.2.2.2.2.1, far _ _ hlt.2.2.2.2.2 h.2.2.2.2.2⟩

/-- Three new boxes. -/
theorem Box.three (w : World) (cs cs2 cs3 : Array Value) (t t2 t3 : TypeId) : Box (((w.alloc (.cells cs t)).alloc (.cells cs2 t2)).alloc (.cells cs3 t3)) w.heap.size cs t ∧ Box (((w.alloc (.cells cs t)).alloc (.cells cs2 t2)).alloc (.cells cs3 t3)) (w.heap.size + 1) cs2 t2 ∧ Box (((w.alloc (.cells cs t)).alloc (.cells cs2 t2)).alloc (.cells cs3 t3)) (w.heap.size + 1 + 1) cs3 t3 := by
  obtain ⟨h0, h1⟩ := Box.two w cs cs2 t t2
  refine ⟨h0.below (bel_alloc (Below.refl _ _) _), h1.below (bel_alloc (Below.refl _ _) _), ?_⟩
  have h := Box.new ((w.alloc (.cells cs t)).alloc (.cells cs2 t2)) cs3 t3
  have e : ((w.alloc (.cells cs t)).alloc (.cells cs2 t2)).heap.size = w.heap.size + 1 + 1 := by simp
  rw [e] at h
  exact h

theorem nextp_new {W w1 : World} {B : Int} {ms : List M} {m : M} {a' : Option Addr} {c' : Nat} (o1 : w1.ownsRow W.heap.size 56 4 (.slice a' (ms.length + 1) c') (ms.length + 1) (flat (ms ++ [m]))) (b1 : Below W.heap.size W w1) :
    NextP W B ms m (.pointer (some ⟨w1.heap.size, 0, none⟩)) (w1.alloc (.cells #[.int .i64 B, .slice a' (ms.length + 1) c'] 75)) :=
  ⟨_, a', c', rfl, Box.new w1 _ _, owns_below o1 (bel_alloc (Below.refl _ _) _), bel_alloc b1 _⟩

theorem nextp_set {W w1 : World} {B : Int} {ms : List M} {m : M} {a' : Option Addr} {c' : Nat} (o1 : w1.ownsRow (W.alloc (.cells #[.int .i64 0, .slice none 0 0] 75)).heap.size 56 4 (.slice a' (ms.length + 1) c') (ms.length + 1) (flat (ms ++ [m]))) (b1 : Below (W.alloc (.cells #[.int .i64 0, .slice none 0 0] 75)).heap.size (W.alloc (.cells #[.int .i64 0, .slice none 0 0] 75)) w1) :
    NextP W B ms m (.pointer (some ⟨W.heap.size, 0, none⟩)) ((w1.setCell ⟨W.heap.size, 0, none⟩ (.int .i64 B)).setCell ⟨W.heap.size, 1, none⟩ (.slice a' (ms.length + 1) c')) := by
  have X := (Box.new W #[.int .i64 0, .slice none 0 0] 75).below b1
  have hlt : ∀ j, (Value.slice a' (ms.length + 1) c').ownBlock = some j → W.heap.size ≠ j := fun j hj => by have := (o1.lt j hj).1; simp at this; omega
  refine ⟨_, a', c', rfl, heap_setCell_same _ _ 1 _ _ _ (heap_setCell_same _ _ 0 _ _ _ X), owns_setCell (owns_setCell (owns_base o1 (by simp)) hlt _) hlt _, ?_⟩
  exact bel_setCell (bel_setCell (bel_trans (bel_alloc (Below.refl _ _) _) b1) _ _ (Nat.le_refl _)) _ _ (Nat.le_refl _)

end Go.Proofs.Ytnhbilhkmbkibaa
