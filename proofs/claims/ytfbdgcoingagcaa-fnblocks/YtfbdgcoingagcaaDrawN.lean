/- What the drawing functions for numbers give. -/
import Derived.Test.YtfbdgcoingagcaaCur2
import Derived.Test.YtfbdgcoingagcaaSpecPut
import Derived.Deep.RegionHeld3
namespace Go.Proofs.Ytfbdgcoingagcaa
open Go.RowKit
set_option linter.unusedVariables false

theorem row_lit (W : World) (xs : List Int) (hl : xs.length ≤ 1000) : Row .i64 (W.alloc (.cells (xs.map (Value.int .i64)).toArray 3)) (some ⟨W.heap.size, 0, none⟩) xs := by
  refine ⟨by omega, fun i hi => ⟨W.heap.size, 0, rfl, ?_⟩⟩
  have h := Box.new W (xs.map (Value.int .i64)).toArray 3
  rw [Nat.zero_add, h.cell]
  simp [hi]

theorem Cur.below {w w' : World} {r : Nat} {a : Option Addr} {n ca : Nat} (h : Cur w r a n ca) (b : Below w.heap.size w w') : Cur w' r a n ca := by
  obtain ⟨i, x, hi, hX⟩ := h
  exact ⟨i, x, hi, hX.below b⟩
theorem Cur.kept {w w' : World} {r : Nat} {a : Option Addr} {n ca : Nat} (h : Cur w r a n ca) {row : Option Nat} (g : w.grownBy w' row) (hne : ∀ j, row = some j → j ≠ r) : Cur w' r a n ca := by
  obtain ⟨i, x, hi, hX⟩ := h
  exact ⟨i, x, hi, hX.kept g hne⟩
theorem Cur.lt {w : World} {r : Nat} {a : Option Addr} {n ca : Nat} (h : Cur w r a n ca) : r < w.heap.size := by
  obtain ⟨i, x, hi, hX⟩ := h
  exact hX.lt
theorem Row.far {k : IntKind} {w : World} {a : Option Addr} {xs : List Int} (h : Row k w a xs) (h0 : 0 < xs.length) : ∀ x, a = some x → x.block < w.heap.size := fun x hx => by
  obtain ⟨b, off, e, hc⟩ := h.2 0 h0
  rw [hx] at e
  simp at e
  subst e
  exact lt_of_cell hc

/-- A code as the draws read it: where it is empty its address is of no matter. -/
theorem code_ne {w : World} {a : Option Addr} {bs : List Int} (h : Row .u8 w a bs) : ∃ a' : Option Addr, Row .u8 w a' bs ∧ (0 < bs.length → a' = a) ∧ ∀ x, a' = some x → x.block < w.heap.size := by
  by_cases h0 : 0 < bs.length
  · exact ⟨a, h, fun _ => rfl, h.far h0⟩
  · exact ⟨none, ⟨h.1, fun i hi => by omega⟩, fun h' => absurd h' h0, by simp⟩


theorem cells_src {w : World} {lo g n c : Nat} {xs : List Int} (h : w.ownsRow lo 5 1 (.slice (some ⟨g, 0, none⟩) n c) n (xs.map (Value.int .u8))) :
    ∀ j u, (xs.map (Value.int .u8))[j]? = some u → w.cell? ((⟨g, 0, none⟩ : Addr).add j) = some u := fun j u hu => by
  have hj : j < n := by
    have h1 := (List.getElem?_eq_some_iff.1 hu).1
    have h2 := h.1
    rw [h2] at h1
    omega
  have e : (⟨g, 0, none⟩ : Addr).add j = ⟨g, j, none⟩ := by unfold Addr.add; split <;> simp_all
  rw [e, h.cellAt j (by omega)]
  exact hu

theorem new_two (W : World) (u0 u1 : Value) : ∀ j u, [u0, u1][j]? = some u → (W.alloc (.cells #[u0, u1] 5)).cell? ((⟨W.heap.size, 0, none⟩ : Addr).add j) = some u := fun j u hu => by
  have h := Box.new W #[u0, u1] 5
  have e : (⟨W.heap.size, 0, none⟩ : Addr).add j = ⟨W.heap.size, j, none⟩ := by unfold Addr.add; split <;> simp_all
  rw [e, h.cell]
  simpa using hu

theorem bytes_app {xs ys : List Int} (hx : Bytes xs) (hy : Bytes ys) : Bytes (xs ++ ys) := fun z hz => by
  rcases List.mem_append.1 hz with h | h
  · exact hx z h
  · exact hy z h

end Go.Proofs.Ytfbdgcoingagcaa
