/- What copySender does: all of it new memory. -/
import Derived.Test.YtpfppeifppdmbaaGreatCopy
import Derived.Deep.RegionWith
import Derived.BigRegion
import Derived.Deep.RegionHeld3
namespace Go.Proofs.YtpfppeifppdmbaaGreat
open Go.RowKit
set_option linter.unusedVariables false

theorem row_at4 {w : World} {base n g cap k : Nat} {ds ms : List M} {m : M} (hr : w.ownsRow base 69 4 (.slice (some ⟨g, 0, none⟩) n cap) n (flat ds ++ (flat ms).drop (k * 4))) (hd : ds.length = k) (hk : k < n) (hm : ms[k]? = some m) : At4 w g (k * 4) m := by
  have key : ∀ j, j < 4 → w.cell? ⟨g, k * 4 + j, none⟩ = m.cells[j]? := fun j hj => by
    rw [hr.cellAt (k * 4 + j) (by omega), List.getElem?_append_right (by rw [flat_length]; omega), flat_length, List.getElem?_drop, ← flat_get ms k m hm j hj]
    congr 1
    omega
  exact ⟨by simpa [M.cells] using key 0 (by omega), by simpa [M.cells] using key 1 (by omega), by simpa [M.cells] using key 2 (by omega), by simpa [M.cells] using key 3 (by omega)⟩

theorem lists_rows {w w' : World} {a : Option Addr} {ms : List M} (h : MRow w a ms) (hb : Below w.heap.size w w') {k : Nat} {m : M} (hm : ms[k]? = some m) : Row .i64 w' m.a m.xs := (h.2 k m hm).2.below hb

theorem slots4 {w : World} {base e n g cap k : Nat} {zs : List Value} (hr : w.ownsRow base e 4 (.slice (some ⟨g, 0, none⟩) n cap) n zs) (hk : k < n) :
    ∃ u0 u1 u2 u3, w.cell? ⟨g, k * 4, none⟩ = some u0 ∧ w.cell? ⟨g, k * 4 + 1, none⟩ = some u1 ∧ w.cell? ⟨g, k * 4 + 2, none⟩ = some u2 ∧ w.cell? ⟨g, k * 4 + 3, none⟩ = some u3 ∧ w.frozen? ⟨g, k * 4, none⟩ = false ∧ w.frozen? ⟨g, k * 4 + 1, none⟩ = false ∧ w.frozen? ⟨g, k * 4 + 2, none⟩ = false ∧ w.frozen? ⟨g, k * 4 + 3, none⟩ = false := by
  obtain ⟨u0, h0⟩ := cell_row4 hr (show k * 4 < n * 4 by omega)
  obtain ⟨u1, h1⟩ := cell_row4 hr (show k * 4 + 1 < n * 4 by omega)
  obtain ⟨u2, h2⟩ := cell_row4 hr (show k * 4 + 2 < n * 4 by omega)
  obtain ⟨u3, h3⟩ := cell_row4 hr (show k * 4 + 3 < n * 4 by omega)
  exact ⟨u0, u1, u2, u3, h0, h1, h2, h3, hr.frozenAt _, hr.frozenAt _, hr.frozenAt _, hr.frozenAt _⟩

/-- The four stores of one message into an owned row: all that the loop carries. -/
theorem put4 {w2 : World} {lo n g cap k : Nat} {ds ms : List M} {zs : List Value} {m : M} {a2 : Option Addr} {c2 base2 : Nat} (hr : w2.ownsRow lo 69 4 (.slice (some ⟨g, 0, none⟩) n cap) n (flat ds ++ zs.drop (k * 4))) (hd : ds.length = k) (hz : zs.length = n * 4) (hk : k < n)
    (hds : ds.map M.say = (ms.take k).map M.say) (hm : ms[k]? = some m) (hL : Lists w2 lo ds) (o2 : w2.ownsRow base2 3 1 (.slice a2 m.xs.length c2) m.xs.length (m.xs.map (Value.int .i64))) (hb : lo ≤ base2) (hlt : ∀ x ∈ ds, ∀ j, x.v.ownBlock = some j → j < base2) :
    ∃ ds' : List M, ds'.map M.say = (ms.take (k + 1)).map M.say ∧ ((((w2.setCell ⟨g, k * 4, none⟩ (.int .i64 m.k)).setCell ⟨g, k * 4 + 1, none⟩ (.int .i64 m.p)).setCell ⟨g, k * 4 + 2, none⟩ (.bool m.o)).setCell ⟨g, k * 4 + 3, none⟩ (.slice a2 m.xs.length c2)).ownsRow lo 69 4 (.slice (some ⟨g, 0, none⟩) n cap) n (flat ds' ++ zs.drop ((k + 1) * 4)) ∧ Lists ((((w2.setCell ⟨g, k * 4, none⟩ (.int .i64 m.k)).setCell ⟨g, k * 4 + 1, none⟩ (.int .i64 m.p)).setCell ⟨g, k * 4 + 2, none⟩ (.bool m.o)).setCell ⟨g, k * 4 + 3, none⟩ (.slice a2 m.xs.length c2)) lo ds' := by
  refine ⟨ds ++ [⟨m.k, m.p, m.o, a2, c2, m.xs⟩], ?_, stored4 ⟨m.k, m.p, m.o, a2, c2, m.xs⟩ hr hd hz hk, ?_⟩
  · have e : ms.take (k + 1) = ms.take k ++ [m] := by
      obtain ⟨hk', rfl⟩ := List.getElem?_eq_some_iff.1 hm
      rw [List.take_succ_eq_append_getElem hk']
    rw [e, List.map_append, List.map_append, hds]
    rfl
  · have hS : Lists w2 lo (ds ++ [⟨m.k, m.p, m.o, a2, c2, m.xs⟩]) := hL.snoc (owns_base o2 hb) (fun x hx j hj hk' => by
      have h1 := hlt x hx j hj
      have h2 := o2.lt j hk'
      omega)
    have hne : ∀ x ∈ ds ++ [⟨m.k, m.p, m.o, a2, c2, m.xs⟩], ∀ j, x.v.ownBlock = some j → g ≠ j := fun x hx j hj he => by
      subst he
      exact owns_types hr (hS.1 x hx) (by decide) rfl hj
    exact (((hS.far _ _ hne).far _ _ hne).far _ _ hne).far _ _ hne

end Go.Proofs.YtpfppeifppdmbaaGreat
