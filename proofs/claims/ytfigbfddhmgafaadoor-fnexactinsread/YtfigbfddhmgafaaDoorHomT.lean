/- What the law's small functions over homes do: szHome, toHome and what they call. -/
import Derived.Test.YtfigbfddhmgafaaDoorHom
namespace Go.Proofs.YtfigbfddhmgafaaDoor
open Go.RowKit
set_option linter.unusedVariables false


theorem bv_take (bs : List Bool) (k : Nat) (h : k < bs.length) : bv (bs.take (k + 1)) = bv (bs.take k) ++ [.bool (bs.getD k false)] := by
  have e : bs.getD k false = bs[k] := by simp [h]
  rw [e, List.take_succ_eq_append_getElem h, bv, bv, List.map_append]
  rfl
theorem wv_take (ws : List (Int × Bool)) (k : Nat) (h : k < ws.length) : wv (ws.take (k + 1)) = wv (ws.take k) ++ [.int .i64 (ws.getD k (0, false)).1, .bool (ws.getD k (0, false)).2] := by
  have e : ws.getD k (0, false) = ws[k] := by simp [h]
  rw [e, List.take_succ_eq_append_getElem h, wv_append]
  rfl

theorem stored2 {w : World} {base e n g cap k : Nat} {A zs : List Value} (u0 u1 : Value) (hr : w.ownsRow base e 2 (.slice (some ⟨g, 0, none⟩) n cap) n (A ++ zs.drop (k * 2))) (hA : A.length = k * 2) (hz : zs.length = n * 2) (hk : k < n) :
    ((w.setCell ⟨g, k * 2, none⟩ u0).setCell ⟨g, k * 2 + 1, none⟩ u1).ownsRow base e 2 (.slice (some ⟨g, 0, none⟩) n cap) n (A ++ [u0, u1] ++ zs.drop ((k + 1) * 2)) := by
  have h0 := (hr.stored (k * 2) u0).1
  rw [set_marks _ _ _ _ hA (by omega)] at h0
  have h1 := (h0.stored (k * 2 + 1) u1).1
  rw [set_marks _ _ _ _ (by rw [List.length_append, hA]; simp) (by omega)] at h1
  have e : A ++ [u0, u1] ++ zs.drop ((k + 1) * 2) = A ++ [u0] ++ [u1] ++ zs.drop (k * 2 + 1 + 1) := by
    rw [show (k + 1) * 2 = k * 2 + 1 + 1 by omega]
    simp
  rw [e]
  exact h1

theorem cell_rowN {w : World} {base e n g cap k size : Nat} {zs : List Value} (hr : w.ownsRow base e size (.slice (some ⟨g, 0, none⟩) n cap) n zs) (hlt : k < n * size) : ∃ u, w.cell? ⟨g, k, none⟩ = some u := by
  rw [hr.cellAt k hlt]
  exact ⟨_, List.getElem?_eq_getElem (by have := hr.1; omega)⟩





theorem Box.tri (w : World) (c0 c1 c2 : Array Value) (t0 t1 t2 : TypeId) : Box (((w.alloc (.cells c0 t0)).alloc (.cells c1 t1)).alloc (.cells c2 t2)) w.heap.size c0 t0 ∧ Box (((w.alloc (.cells c0 t0)).alloc (.cells c1 t1)).alloc (.cells c2 t2)) (w.heap.size + 1) c1 t1 ∧ Box (((w.alloc (.cells c0 t0)).alloc (.cells c1 t1)).alloc (.cells c2 t2)) (w.heap.size + 1 + 1) c2 t2 := by
  obtain ⟨h0, h1⟩ := Box.two w c0 c1 t0 t1
  have h2 := Box.new ((w.alloc (.cells c0 t0)).alloc (.cells c1 t1)) c2 t2
  have e : ((w.alloc (.cells c0 t0)).alloc (.cells c1 t1)).heap.size = w.heap.size + 1 + 1 := by simp
  rw [e] at h2
  exact ⟨h0.below (bel_alloc (Below.refl _ _) _), h1.below (bel_alloc (Below.refl _ _) _), h2⟩

theorem at8' {w : World} {m : Nat} {t : TypeId} {c0 c1 c2 c3 c4 c5 c6 c7 : Value} (h : Box w m #[c0, c1, c2, c3, c4, c5, c6, c7] t) :
    w.cell? ⟨m, 0, none⟩ = some c0 ∧ w.cell? ⟨m, 1, none⟩ = some c1 ∧ w.cell? ⟨m, 2, none⟩ = some c2 ∧ w.cell? ⟨m, 3, none⟩ = some c3 ∧ w.cell? ⟨m, 4, none⟩ = some c4 ∧ w.cell? ⟨m, 5, none⟩ = some c5 ∧ w.cell? ⟨m, 6, none⟩ = some c6 ∧ w.cell? ⟨m, 7, none⟩ = some c7 ∧ m < w.heap.size :=
  ⟨by rw [h.cell]; rfl, by rw [h.cell]; rfl, by rw [h.cell]; rfl, by rw [h.cell]; rfl, by rw [h.cell]; rfl, by rw [h.cell]; rfl, by rw [h.cell]; rfl, by rw [h.cell]; rfl, h.lt⟩

end Go.Proofs.YtfigbfddhmgafaaDoor
