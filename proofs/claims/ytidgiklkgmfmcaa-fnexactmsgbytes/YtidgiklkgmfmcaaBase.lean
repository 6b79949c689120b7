/- Small facts on worlds and owned rows, of no program: what the walks of this seat carry from call to call. -/
import Derived.WalkKit
import Derived.WalkSpells
import Derived.WalkLawsBesides
namespace Go.Proofs.Ytidgiklkgmfmcaa
open Go.RowKit
set_option linter.unusedVariables false

theorem bcell {W w1 : World} (hb : Below W.heap.size W w1) : (∀ b o, b < W.heap.size → w1.cell? ⟨b, o, none⟩ = W.cell? ⟨b, o, none⟩) ∧ (∀ b o, b < W.heap.size → w1.frozen? ⟨b, o, none⟩ = W.frozen? ⟨b, o, none⟩) :=
  ⟨fun b o h => hb.cell (p := ⟨b, o, none⟩) h, fun b o h => hb.frozen (p := ⟨b, o, none⟩) h⟩

theorem bel_alloc {w W : World} (h : Below w.heap.size w W) (o : Obj) : Below w.heap.size w (W.alloc o) := h.alloc h.size o
theorem bel_trans {w W W' : World} (h : Below w.heap.size w W) (k : Below W.heap.size W W') : Below w.heap.size w W' := h.trans (k.mono h.size)
theorem bel_setCell {w W : World} (h : Below w.heap.size w W) (a : Addr) (u : Value) (ha : w.heap.size ≤ a.block) : Below w.heap.size w (W.setCell a u) := h.setCell ha u

/-- A row stays owned where a cell of another block is written. -/
theorem owns_setCell {w : World} {base e size : Nat} {v : Value} {n : Nat} {xs : List Value} (h : w.ownsRow base e size v n xs) {a : Addr} (ha : ∀ j, v.ownBlock = some j → a.block ≠ j) (u : Value) : (w.setCell a u).ownsRow base e size v n xs := by
  refine ⟨h.1, ?_⟩
  rcases h.2 with hn | ⟨g, cap, cur, rfl, hbg, hg, rest⟩
  · exact .inl hn
  · exact .inr ⟨g, cap, cur, rfl, hbg, (Below.heap_setCell w a u g (fun e => ha g rfl e.symm)).trans hg, rest⟩

section
variable {w w' : World} {base e size : Nat} {v : Value} {n : Nat} {xs : List Value}

/-- An owned row stays owned where nothing that was there has turned. -/
theorem owns_below (h : w.ownsRow base e size v n xs) (hb : Below w.heap.size w w') : w'.ownsRow base e size v n xs := by
  refine ⟨h.1, ?_⟩
  rcases h.2 with hn | ⟨g, cap, cur, rfl, hbg, hg, rest⟩
  · exact .inl hn
  · exact .inr ⟨g, cap, cur, rfl, hbg, (hb.block g (Array.getElem?_eq_some_iff.1 hg).1).trans hg, rest⟩

theorem owns_drewN (h : w.ownsRow base e size v n xs) (k : Nat) : (w.drewN k).ownsRow base e size v n xs := h

theorem owns_base (h : w.ownsRow base e size v n xs) {b' : Nat} (hb : b' ≤ base) : w.ownsRow b' e size v n xs := by
  refine ⟨h.1, ?_⟩
  rcases h.2 with hn | ⟨g, cap, cur, rfl, hbg, rest⟩
  · exact .inl hn
  · exact .inr ⟨g, cap, cur, rfl, by omega, rest⟩

/-- A row stays owned where all blocks but one other have stayed. -/
theorem owns_but (h : w.ownsRow base e size v n xs) {row : Option Nat} (hg : w.grownBy w' row) (hlt : ∀ k, row = some k → ∀ j, v.ownBlock = some j → j < k) : w'.ownsRow base e size v n xs := by
  refine h.kept hg ?_
  cases hv : v.ownBlock with
  | none => exact .inl rfl
  | some j =>
    right
    intro hr
    have := hlt j hr.symm j hv
    omega
end

/-- WHAT A READER IS TOLD OF A SLICE OF NUMBERS: where there is an element there is an address, and its cell holds the number. -/
def Row (k : IntKind) (w : World) (a : Option Addr) (xs : List Int) : Prop :=
  xs.length ≤ 140737488351232 ∧ ∀ i, i < xs.length → ∃ b off, a = some ⟨b, off, none⟩ ∧ w.cell? ⟨b, off + i, none⟩ = some (.int k (xs.getD i 0))

theorem Row.drewN {k : IntKind} {w : World} {a : Option Addr} {xs : List Int} (h : Row k w a xs) (m : Nat) : Row k (w.drewN m) a xs := h

theorem Row.nil (k : IntKind) (w : World) (a : Option Addr) : Row k w a [] := ⟨by simp, fun i h => by simp at h⟩

/-- From an owned row of one-cell numbers to its address, its length and what a reader is told. -/
theorem owns_row {k : IntKind} {w : World} {base e : Nat} {v : Value} {n : Nat} {xs : List Int} (h : w.ownsRow base e 1 v n (xs.map (Value.int k))) (hl : xs.length ≤ 140737488351232) :
    ∃ a cap, v = .slice a xs.length cap ∧ Row k w a xs ∧ xs.length ≤ cap ∧ cap ≤ maxLen := by
  have hn : xs.length = n := by simpa using h.1
  rcases h.2 with ⟨hv, h0⟩ | ⟨g, cap, cur, hv, hb, hg, hnc, hcm, hcs, ht⟩
  · subst h0
    have : xs = [] := List.length_eq_zero_iff.1 hn
    subst this
    exact ⟨none, 0, hv, Row.nil _ _ _, Nat.le_refl _, Nat.zero_le _⟩
  · refine ⟨some ⟨g, 0, none⟩, cap, by rw [hv, hn], ⟨hl, fun i hi => ⟨g, 0, rfl, ?_⟩⟩, by omega, hcm⟩
    have hc := World.ownsRow.cellAt (hv ▸ h) i (by omega)
    rw [Nat.zero_add, hc]
    simp [hi]

theorem lt_of_cell {w : World} {x : Addr} {v : Value} (h : w.cell? x = some v) : x.block < w.heap.size := by
  apply Classical.byContradiction
  intro hn
  have : w.heap[x.block]? = none := Array.getElem?_eq_none (by omega)
  simp [World.cell?, this] at h

/-- What a reader is told stays where nothing that was there has turned. -/
theorem Row.below {k : IntKind} {w w' : World} {a : Option Addr} {xs : List Int} (h : Row k w a xs) (hb : Below w.heap.size w w') : Row k w' a xs := by
  refine ⟨h.1, fun i hi => ?_⟩
  obtain ⟨b, off, rfl, hc⟩ := h.2 i hi
  exact ⟨b, off, rfl, (hb.cell (p := ⟨b, off + i, none⟩) (lt_of_cell hc)).trans hc⟩

theorem owns_slice {w : World} {base e size n : Nat} {v : Value} {xs : List Value} (h : w.ownsRow base e size v n xs) : ∃ a cap, v = .slice a n cap := by
  rcases h.2 with ⟨rfl, rfl⟩ | ⟨g, cap, cur, rfl, _⟩
  · exact ⟨_, _, rfl⟩
  · exact ⟨_, _, rfl⟩

theorem owns_addr {w : World} {base e size n cap : Nat} {a : Option Addr} {xs : List Value} (h : w.ownsRow base e size (.slice a n cap) n xs) (hn : 0 < n) : ∃ g, a = some ⟨g, 0, none⟩ := by
  rcases h.2 with ⟨h1, h2⟩ | ⟨g, cap, cur, h1, _⟩
  · omega
  · simp only [Value.slice.injEq] at h1
    exact ⟨g, h1.1⟩

theorem set_marks {α : Type} (A xs : List α) (u : α) (k : Nat) (hA : A.length = k) (h : k < xs.length) : (A ++ xs.drop k).set k u = (A ++ [u]) ++ xs.drop (k + 1) := by
  rw [List.set_append_right _ _ (by omega), hA, Nat.sub_self, List.drop_eq_getElem_cons h, List.set_cons_zero]
  simp

theorem grownBy_trans {a b c : World} {row : Option Nat} (h : a.grownBy b row) (k : b.grownBy c row) : a.grownBy c row :=
  ⟨k.os.trans h.os, k.tape.trans h.tape, k.output.trans h.output, Nat.le_trans h.size k.size, fun i hi hr => (k.block i (Nat.lt_of_lt_of_le hi h.size) hr).trans (h.block i hi hr)⟩

theorem mark_step {w wr : World} {base e n g cap k : Nat} {A xs : List Value} (u : Value) (hA : A.length = k) (hxs : xs.length = n) (hlt : k < n)
    (hr : wr.ownsRow base e 1 (.slice (some ⟨g, 0, none⟩) n cap) n (A ++ xs.drop k)) (hg : w.grownBy wr (Value.slice (some ⟨g, 0, none⟩) n cap).ownBlock) :
    (wr.setCell ⟨g, k, none⟩ u).ownsRow base e 1 (.slice (some ⟨g, 0, none⟩) n cap) n ((A ++ [u]) ++ xs.drop (k + 1)) ∧
    w.grownBy (wr.setCell ⟨g, k, none⟩ u) (Value.slice (some ⟨g, 0, none⟩) n cap).ownBlock := by
  obtain ⟨h1, h2⟩ := hr.stored k u
  rw [set_marks _ _ _ _ hA (by omega)] at h1
  exact ⟨h1, grownBy_trans hg h2⟩

theorem copy_step {w wr : World} {base e n g cap k : Nat} {ki : IntKind} {xs : List Int} {zs : List Value} (hzs : zs.length = n) (hxs : xs.length = n) (hlt : k < n) (hbg : base ≤ g)
    (hr : wr.ownsRow base e 1 (.slice (some ⟨g, 0, none⟩) n cap) n ((xs.take k).map (Value.int ki) ++ zs.drop k)) (hb : Below base w wr) :
    (wr.setCell ⟨g, k, none⟩ (.int ki (xs.getD k 0))).ownsRow base e 1 (.slice (some ⟨g, 0, none⟩) n cap) n ((xs.take (k + 1)).map (Value.int ki) ++ zs.drop (k + 1)) ∧
    Below base w (wr.setCell ⟨g, k, none⟩ (.int ki (xs.getD k 0))) := by
  obtain ⟨h1, _⟩ := hr.stored k (.int ki (xs.getD k 0))
  rw [set_marks _ _ _ _ (by simp; omega) (by omega)] at h1
  refine ⟨?_, hb.setCell hbg _⟩
  rw [List.take_succ_eq_append_getElem (by omega), List.map_append]
  have e : xs.getD k 0 = xs[k]'(by omega) := by simp [show k < xs.length by omega]
  rw [e] at h1
  rw [e]
  exact h1

theorem cell_row {w : World} {base e n g cap k : Nat} {zs : List Value} (hr : w.ownsRow base e 1 (.slice (some ⟨g, 0, none⟩) n cap) n zs) (hlt : k < n) : ∃ u, w.cell? ⟨g, k, none⟩ = some u := by
  rw [hr.cellAt k (by omega)]
  exact ⟨_, List.getElem?_eq_getElem (by have := hr.1; omega)⟩

/-- Each number of the list is a byte. -/
def Bytes (xs : List Int) : Prop := ∀ x ∈ xs, 0 ≤ x ∧ x < 256
theorem Bytes.at {xs : List Int} (h : Bytes xs) (i : Nat) (hi : i < xs.length) : 0 ≤ xs.getD i 0 ∧ xs.getD i 0 < 256 := by
  have e : xs.getD i 0 = xs[i] := by simp [hi]
  rw [e]
  exact h _ (List.getElem_mem hi)
theorem drop_at (xs : List Int) (i : Nat) (hi : i < xs.length) : xs.drop i = xs.getD i 0 :: xs.drop (i + 1) := by
  rw [List.drop_eq_getElem_cons hi]; simp [hi]

theorem ret_bool {a b : Bool} (h : a = b) : Ending.returned (.bool a) = .returned (.bool b) := by rw [h]

/-- The four cells of a new box, in every later world. -/
theorem box4 {w w' : World} {t : TypeId} {c0 c1 c2 c3 : Value} (h : Below (w.alloc (.cells #[c0, c1, c2, c3] t)).heap.size (w.alloc (.cells #[c0, c1, c2, c3] t)) w') :
    w'.cell? ⟨w.heap.size, 0, none⟩ = some c0 ∧ w'.cell? ⟨w.heap.size, 1, none⟩ = some c1 ∧ w'.cell? ⟨w.heap.size, 2, none⟩ = some c2 ∧ w'.cell? ⟨w.heap.size, 3, none⟩ = some c3 ∧ w.heap.size < w'.heap.size := by
  have hz : w.heap.size < w'.heap.size := by have := h.size; simp at this; omega
  have g : ∀ o, w'.cell? ⟨w.heap.size, o, none⟩ = (w.alloc (.cells #[c0, c1, c2, c3] t)).cell? ⟨w.heap.size, o, none⟩ := fun o => h.cell (p := ⟨w.heap.size, o, none⟩) (by simp)
  exact ⟨by rw [g]; simp, by rw [g]; simp, by rw [g]; simp, by rw [g]; simp, hz⟩
theorem bel_undrew {w w' : World} (h : Below w.drew.heap.size w.drew w') : Below w.heap.size w w' := ⟨h.os, h.tape, h.output, h.size, h.block⟩

theorem owns_ne {w w' : World} {base e size : Nat} {v : Value} {n : Nat} {xs : List Value} (h : w.ownsRow base e size v n xs) {row : Option Nat} (hg : w.grownBy w' row) (hne : ∀ j, v.ownBlock = some j → row ≠ some j) : w'.ownsRow base e size v n xs := by
  refine h.kept hg ?_
  cases hv : v.ownBlock with
  | none => exact .inl rfl
  | some j => exact .inr (fun hr => hne j hv hr.symm)

/-- An owned row of one-cell numbers, its value written out already. -/
theorem owns_row' {k : IntKind} {w : World} {base e : Nat} {a : Option Addr} {n cap : Nat} {xs : List Int} (h : w.ownsRow base e 1 (.slice a n cap) n (xs.map (Value.int k))) (hl : xs.length ≤ 140737488351232) : Row k w a xs := by
  obtain ⟨a', c', e, hr, _⟩ := owns_row h hl
  simp only [Value.slice.injEq] at e
  rw [e.1]
  exact hr

theorem ret_int {k : IntKind} {a b : Int} (h : a = b) : Ending.returned (.int k a) = .returned (.int k b) := by rw [h]

end Go.Proofs.Ytidgiklkgmfmcaa
