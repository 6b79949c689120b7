/- Small facts on worlds and owned rows, of no program: what the walks of this seat carry from call to call. -/
import Derived.WalkKit
import Derived.WalkSpells
import Derived.WalkLawsBesides
namespace Go.Proofs.Ytijdigkhfebemaf
open Go.RowKit
set_option linter.unusedVariables false

theorem bcell {W w1 : World} (hb : Below W.heap.size W w1) : (∀ b o, b < W.heap.size → w1.cell? ⟨b, o, none⟩ = W.cell? ⟨b, o, none⟩) ∧ (∀ b o, b < W.heap.size → w1.frozen? ⟨b, o, none⟩ = W.frozen? ⟨b, o, none⟩) :=
  ⟨fun b o h => hb.cell (p := ⟨b, o, none⟩) h, fun b o h => hb.frozen (p := ⟨b, o, none⟩) h⟩

section
variable {w w' : World} {base e size : Nat} {v : Value} {n : Nat} {xs : List Value}

/-- An owned row stays owned where nothing that was there has turned. -/
theorem owns_below (h : w.ownsRow base e size v n xs) (hb : Below w.heap.size w w') : w'.ownsRow base e size v n xs := by
  refine ⟨h.1, ?_⟩
  rcases h.2 with hn | ⟨g, cap, cur, rfl, hbg, hg, rest⟩
  · exact .inl hn
  · exact .inr ⟨g, cap, cur, rfl, hbg, (hb.block g (Array.getElem?_eq_some_iff.1 hg).1).trans hg, rest⟩

theorem owns_drewN (h : w.ownsRow base e size v n xs) (k : Nat) : (w.drewN k).ownsRow base e size v n xs := h

theorem owns_base (h : w.ownsRow base e size v n xs) {b' : Nat} (hb : b' ≤ base) : w.ownsRow b' e size v n xs := by
  refine ⟨h.1, ?_⟩
  rcases h.2 with hn | ⟨g, cap, cur, rfl, hbg, rest⟩
  · exact .inl hn
  · exact .inr ⟨g, cap, cur, rfl, by omega, rest⟩

/-- A row stays owned where all blocks but one other have stayed. -/
theorem owns_but (h : w.ownsRow base e size v n xs) {row : Option Nat} (hg : w.grownBy w' row) (hlt : ∀ k, row = some k → ∀ j, v.ownBlock = some j → j < k) : w'.ownsRow base e size v n xs := by
  refine h.kept hg ?_
  cases hv : v.ownBlock with
  | none => exact .inl rfl
  | some j =>
    right
    intro hr
    have := hlt j hr.symm j hv
    omega
end

/-- WHAT A READER IS TOLD OF A SLICE OF NUMBERS: where there is an element there is an address, and its cell holds the number. -/
def Row (k : IntKind) (w : World) (a : Option Addr) (xs : List Int) : Prop :=
  xs.length ≤ 140737488351232 ∧ ∀ i, i < xs.length → ∃ b off, a = some ⟨b, off, none⟩ ∧ w.cell? ⟨b, off + i, none⟩ = some (.int k (xs.getD i 0))

theorem Row.drewN {k : IntKind} {w : World} {a : Option Addr} {xs : List Int} (h : Row k w a xs) (m : Nat) : Row k (w.drewN m) a xs := h

theorem Row.nil (k : IntKind) (w : World) (a : Option Addr) : Row k w a [] := ⟨by simp, fun i h => by simp at h⟩

/-- From an owned row of one-cell numbers to its address, its length and what a reader is told. -/
theorem owns_row {k : IntKind} {w : World} {base e : Nat} {v : Value} {n : Nat} {xs : List Int} (h : w.ownsRow base e 1 v n (xs.map (Value.int k))) (hl : xs.length ≤ 140737488351232) :
    ∃ a cap, v = .slice a xs.length cap ∧ Row k w a xs ∧ xs.length ≤ cap ∧ cap ≤ maxLen := by
  have hn : xs.length = n := by simpa using h.1
  rcases h.2 with ⟨hv, h0⟩ | ⟨g, cap, cur, hv, hb, hg, hnc, hcm, hcs, ht⟩
  · subst h0
    have : xs = [] := List.length_eq_zero_iff.1 hn
    subst this
    exact ⟨none, 0, hv, Row.nil _ _ _, Nat.le_refl _, Nat.zero_le _⟩
  · refine ⟨some ⟨g, 0, none⟩, cap, by rw [hv, hn], ⟨hl, fun i hi => ⟨g, 0, rfl, ?_⟩⟩, by omega, hcm⟩
    have hc := World.ownsRow.cellAt (hv ▸ h) i (by omega)
    rw [Nat.zero_add, hc]
    simp [hi]

theorem lt_of_cell {w : World} {x : Addr} {v : Value} (h : w.cell? x = some v) : x.block < w.heap.size := by
  apply Classical.byContradiction
  intro hn
  have : w.heap[x.block]? = none := Array.getElem?_eq_none (by omega)
  simp [World.cell?, this] at h

/-- What a reader is told stays where nothing that was there has turned. -/
theorem Row.below {k : IntKind} {w w' : World} {a : Option Addr} {xs : List Int} (h : Row k w a xs) (hb : Below w.heap.size w w') : Row k w' a xs := by
  refine ⟨h.1, fun i hi => ?_⟩
  obtain ⟨b, off, rfl, hc⟩ := h.2 i hi
  exact ⟨b, off, rfl, (hb.cell (p := ⟨b, off + i, none⟩) (lt_of_cell hc)).trans hc⟩

theorem ret_int {k : IntKind} {a b : Int} (h : a = b) : Ending.returned (.int k a) = .returned (.int k b) := by rw [h]

end Go.Proofs.Ytijdigkhfebemaf
