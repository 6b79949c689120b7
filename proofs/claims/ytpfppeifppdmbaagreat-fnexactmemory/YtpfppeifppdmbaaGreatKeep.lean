/- Base and Base2 and Box and Keep: see the heads of the parts. -/
import Derived.WalkKit
import Derived.WalkSpells
import Derived.WalkLawsBesides
/- Small facts on worlds and owned rows, of no program: what the walks of this seat carry from call to call. -/
namespace Go.Proofs.YtpfppeifppdmbaaGreat
open Go.RowKit
set_option linter.unusedVariables false

theorem bcell {W w1 : World} (hb : Below W.heap.size W w1) : (∀ b o, b < W.heap.size → w1.cell? ⟨b, o, none⟩ = W.cell? ⟨b, o, none⟩) ∧ (∀ b o, b < W.heap.size → w1.frozen? ⟨b, o, none⟩ = W.frozen? ⟨b, o, none⟩) :=
  ⟨fun b o h => hb.cell (p := ⟨b, o, none⟩) h, fun b o h => hb.frozen (p := ⟨b, o, none⟩) h⟩

theorem bel_alloc {w W : World} (h : Below w.heap.size w W) (o : Obj) : Below w.heap.size w (W.alloc o) := h.alloc h.size o
theorem bel_trans {w W W' : World} (h : Below w.heap.size w W) (k : Below W.heap.size W W') : Below w.heap.size w W' := h.trans (k.mono h.size)
theorem bel_setCell {w W : World} (h : Below w.heap.size w W) (a : Addr) (u : Value) (ha : w.heap.size ≤ a.block) : Below w.heap.size w (W.setCell a u) := h.setCell ha u

/-- A row stays owned where a cell of another block is written. -/
theorem owns_setCell {w : World} {base e size : Nat} {v : Value} {n : Nat} {xs : List Value} (h : w.ownsRow base e size v n xs) {a : Addr} (ha : ∀ j, v.ownBlock = some j → a.block ≠ j) (u : Value) : (w.setCell a u).ownsRow base e size v n xs := by
  refine ⟨h.1, ?_⟩
  rcases h.2 with hn | ⟨g, cap, cur, rfl, hbg, hg, rest⟩
  · exact .inl hn
  · exact .inr ⟨g, cap, cur, rfl, hbg, (Below.heap_setCell w a u g (fun e => ha g rfl e.symm)).trans hg, rest⟩

section
variable {w w' : World} {base e size : Nat} {v : Value} {n : Nat} {xs : List Value}

/-- An owned row stays owned where nothing that was there has turned. -/
theorem owns_below (h : w.ownsRow base e size v n xs) (hb : Below w.heap.size w w') : w'.ownsRow base e size v n xs := by
  refine ⟨h.1, ?_⟩
  rcases h.2 with hn | ⟨g, cap, cur, rfl, hbg, hg, rest⟩
  · exact .inl hn
  · exact .inr ⟨g, cap, cur, rfl, hbg, (hb.block g (Array.getElem?_eq_some_iff.1 hg).1).trans hg, rest⟩

theorem owns_drewN (h : w.ownsRow base e size v n xs) (k : Nat) : (w.drewN k).ownsRow base e size v n xs := h

theorem owns_base (h : w.ownsRow base e size v n xs) {b' : Nat} (hb : b' ≤ base) : w.ownsRow b' e size v n xs := by
  refine ⟨h.1, ?_⟩
  rcases h.2 with hn | ⟨g, cap, cur, rfl, hbg, rest⟩
  · exact .inl hn
  · exact .inr ⟨g, cap, cur, rfl, by omega, rest⟩

/-- A row stays owned where all blocks but one other have stayed. -/
theorem owns_but (h : w.ownsRow base e size v n xs) {row : Option Nat} (hg : w.grownBy w' row) (hlt : ∀ k, row = some k → ∀ j, v.ownBlock = some j → j < k) : w'.ownsRow base e size v n xs := by
  refine h.kept hg ?_
  cases hv : v.ownBlock with
  | none => exact .inl rfl
  | some j =>
    right
    intro hr
    have := hlt j hr.symm j hv
    omega
end

/-- WHAT A READER IS TOLD OF A SLICE OF NUMBERS: where there is an element there is an address, and its cell holds the number. -/
def Row (k : IntKind) (w : World) (a : Option Addr) (xs : List Int) : Prop :=
  xs.length ≤ 140737488351232 ∧ ∀ i, i < xs.length → ∃ b off, a = some ⟨b, off, none⟩ ∧ w.cell? ⟨b, off + i, none⟩ = some (.int k (xs.getD i 0))

theorem Row.drewN {k : IntKind} {w : World} {a : Option Addr} {xs : List Int} (h : Row k w a xs) (m : Nat) : Row k (w.drewN m) a xs := h

theorem Row.nil (k : IntKind) (w : World) (a : Option Addr) : Row k w a [] := ⟨by simp, fun i h => by simp at h⟩

/-- From an owned row of one-cell numbers to its address, its length and what a reader is told. -/
theorem owns_row {k : IntKind} {w : World} {base e : Nat} {v : Value} {n : Nat} {xs : List Int} (h : w.ownsRow base e 1 v n (xs.map (Value.int k))) (hl : xs.length ≤ 140737488351232) :
    ∃ a cap, v = .slice a xs.length cap ∧ Row k w a xs ∧ xs.length ≤ cap ∧ cap ≤ maxLen := by
  have hn : xs.length = n := by simpa using h.1
  rcases h.2 with ⟨hv, h0⟩ | ⟨g, cap, cur, hv, hb, hg, hnc, hcm, hcs, ht⟩
  · subst h0
    have : xs = [] := List.length_eq_zero_iff.1 hn
    subst this
    exact ⟨none, 0, hv, Row.nil _ _ _, Nat.le_refl _, Nat.zero_le _⟩
  · refine ⟨some ⟨g, 0, none⟩, cap, by rw [hv, hn], ⟨hl, fun i hi => ⟨g, 0, rfl, ?_⟩⟩, by omega, hcm⟩
    have hc := World.ownsRow.cellAt (hv ▸ h) i (by omega)
    rw [Nat.zero_add, hc]
    simp [hi]

theorem lt_of_cell {w : World} {x : Addr} {v : Value} (h : w.cell? x = some v) : x.block < w.heap.size := by
  apply Classical.byContradiction
  intro hn
  have : w.heap[x.block]? = none := Array.getElem?_eq_none (by omega)
  simp [World.cell?, this] at h

/-- What a reader is told stays where nothing that was there has turned. -/
theorem Row.below {k : IntKind} {w w' : World} {a : Option Addr} {xs : List Int} (h : Row k w a xs) (hb : Below w.heap.size w w') : Row k w' a xs := by
  refine ⟨h.1, fun i hi => ?_⟩
  obtain ⟨b, off, rfl, hc⟩ := h.2 i hi
  exact ⟨b, off, rfl, (hb.cell (p := ⟨b, off + i, none⟩) (lt_of_cell hc)).trans hc⟩

theorem owns_slice {w : World} {base e size n : Nat} {v : Value} {xs : List Value} (h : w.ownsRow base e size v n xs) : ∃ a cap, v = .slice a n cap := by
  rcases h.2 with ⟨rfl, rfl⟩ | ⟨g, cap, cur, rfl, _⟩
  · exact ⟨_, _, rfl⟩
  · exact ⟨_, _, rfl⟩

theorem owns_addr {w : World} {base e size n cap : Nat} {a : Option Addr} {xs : List Value} (h : w.ownsRow base e size (.slice a n cap) n xs) (hn : 0 < n) : ∃ g, a = some ⟨g, 0, none⟩ := by
  rcases h.2 with ⟨h1, h2⟩ | ⟨g, cap, cur, h1, _⟩
  · omega
  · simp only [Value.slice.injEq] at h1
    exact ⟨g, h1.1⟩

theorem set_marks {α : Type} (A xs : List α) (u : α) (k : Nat) (hA : A.length = k) (h : k < xs.length) : (A ++ xs.drop k).set k u = (A ++ [u]) ++ xs.drop (k + 1) := by
  rw [List.set_append_right _ _ (by omega), hA, Nat.sub_self, List.drop_eq_getElem_cons h, List.set_cons_zero]
  simp

theorem grownBy_trans {a b c : World} {row : Option Nat} (h : a.grownBy b row) (k : b.grownBy c row) : a.grownBy c row :=
  ⟨k.os.trans h.os, k.tape.trans h.tape, k.output.trans h.output, Nat.le_trans h.size k.size, fun i hi hr => (k.block i (Nat.lt_of_lt_of_le hi h.size) hr).trans (h.block i hi hr)⟩

theorem mark_step {w wr : World} {base e n g cap k : Nat} {A xs : List Value} (u : Value) (hA : A.length = k) (hxs : xs.length = n) (hlt : k < n)
    (hr : wr.ownsRow base e 1 (.slice (some ⟨g, 0, none⟩) n cap) n (A ++ xs.drop k)) (hg : w.grownBy wr (Value.slice (some ⟨g, 0, none⟩) n cap).ownBlock) :
    (wr.setCell ⟨g, k, none⟩ u).ownsRow base e 1 (.slice (some ⟨g, 0, none⟩) n cap) n ((A ++ [u]) ++ xs.drop (k + 1)) ∧
    w.grownBy (wr.setCell ⟨g, k, none⟩ u) (Value.slice (some ⟨g, 0, none⟩) n cap).ownBlock := by
  obtain ⟨h1, h2⟩ := hr.stored k u
  rw [set_marks _ _ _ _ hA (by omega)] at h1
  exact ⟨h1, grownBy_trans hg h2⟩

theorem copy_step {w wr : World} {base e n g cap k : Nat} {ki : IntKind} {xs : List Int} {zs : List Value} (hzs : zs.length = n) (hxs : xs.length = n) (hlt : k < n) (hbg : base ≤ g)
    (hr : wr.ownsRow base e 1 (.slice (some ⟨g, 0, none⟩) n cap) n ((xs.take k).map (Value.int ki) ++ zs.drop k)) (hb : Below base w wr) :
    (wr.setCell ⟨g, k, none⟩ (.int ki (xs.getD k 0))).ownsRow base e 1 (.slice (some ⟨g, 0, none⟩) n cap) n ((xs.take (k + 1)).map (Value.int ki) ++ zs.drop (k + 1)) ∧
    Below base w (wr.setCell ⟨g, k, none⟩ (.int ki (xs.getD k 0))) := by
  obtain ⟨h1, _⟩ := hr.stored k (.int ki (xs.getD k 0))
  rw [set_marks _ _ _ _ (by simp; omega) (by omega)] at h1
  refine ⟨?_, hb.setCell hbg _⟩
  rw [List.take_succ_eq_append_getElem (by omega), List.map_append]
  have e : xs.getD k 0 = xs[k]'(by omega) := by simp [show k < xs.length by omega]
  rw [e] at h1
  rw [e]
  exact h1

theorem cell_row {w : World} {base e n g cap k : Nat} {zs : List Value} (hr : w.ownsRow base e 1 (.slice (some ⟨g, 0, none⟩) n cap) n zs) (hlt : k < n) : ∃ u, w.cell? ⟨g, k, none⟩ = some u := by
  rw [hr.cellAt k (by omega)]
  exact ⟨_, List.getElem?_eq_getElem (by have := hr.1; omega)⟩

/-- Each number of the list is a byte. -/
def Bytes (xs : List Int) : Prop := ∀ x ∈ xs, 0 ≤ x ∧ x < 256
theorem Bytes.at {xs : List Int} (h : Bytes xs) (i : Nat) (hi : i < xs.length) : 0 ≤ xs.getD i 0 ∧ xs.getD i 0 < 256 := by
  have e : xs.getD i 0 = xs[i] := by simp [hi]
  rw [e]
  exact h _ (List.getElem_mem hi)
theorem drop_at (xs : List Int) (i : Nat) (hi : i < xs.length) : xs.drop i = xs.getD i 0 :: xs.drop (i + 1) := by
  rw [List.drop_eq_getElem_cons hi]; simp [hi]

theorem ret_bool {a b : Bool} (h : a = b) : Ending.returned (.bool a) = .returned (.bool b) := by rw [h]

/-- The four cells of a new box, in every later world. -/
theorem box4 {w w' : World} {t : TypeId} {c0 c1 c2 c3 : Value} (h : Below (w.alloc (.cells #[c0, c1, c2, c3] t)).heap.size (w.alloc (.cells #[c0, c1, c2, c3] t)) w') :
    w'.cell? ⟨w.heap.size, 0, none⟩ = some c0 ∧ w'.cell? ⟨w.heap.size, 1, none⟩ = some c1 ∧ w'.cell? ⟨w.heap.size, 2, none⟩ = some c2 ∧ w'.cell? ⟨w.heap.size, 3, none⟩ = some c3 ∧ w.heap.size < w'.heap.size := by
  have hz : w.heap.size < w'.heap.size := by have := h.size; simp at this; omega
  have g : ∀ o, w'.cell? ⟨w.heap.size, o, none⟩ = (w.alloc (.cells #[c0, c1, c2, c3] t)).cell? ⟨w.heap.size, o, none⟩ := fun o => h.cell (p := ⟨w.heap.size, o, none⟩) (by simp)
  exact ⟨by rw [g]; simp, by rw [g]; simp, by rw [g]; simp, by rw [g]; simp, hz⟩
theorem bel_undrew {w w' : World} (h : Below w.drew.heap.size w.drew w') : Below w.heap.size w w' := ⟨h.os, h.tape, h.output, h.size, h.block⟩

theorem owns_ne {w w' : World} {base e size : Nat} {v : Value} {n : Nat} {xs : List Value} (h : w.ownsRow base e size v n xs) {row : Option Nat} (hg : w.grownBy w' row) (hne : ∀ j, v.ownBlock = some j → row ≠ some j) : w'.ownsRow base e size v n xs := by
  refine h.kept hg ?_
  cases hv : v.ownBlock with
  | none => exact .inl rfl
  | some j => exact .inr (fun hr => hne j hv hr.symm)

/-- An owned row of one-cell numbers, its value written out already. -/
theorem owns_row' {k : IntKind} {w : World} {base e : Nat} {a : Option Addr} {n cap : Nat} {xs : List Int} (h : w.ownsRow base e 1 (.slice a n cap) n (xs.map (Value.int k))) (hl : xs.length ≤ 140737488351232) : Row k w a xs := by
  obtain ⟨a', c', e, hr, _⟩ := owns_row h hl
  simp only [Value.slice.injEq] at e
  rw [e.1]
  exact hr

theorem ret_int {k : IntKind} {a b : Int} (h : a = b) : Ending.returned (.int k a) = .returned (.int k b) := by rw [h]

end Go.Proofs.YtpfppeifppdmbaaGreat

/- More small facts on worlds: behind a reader that only draws; keeping cells behind a call. -/
namespace Go.Proofs.YtpfppeifppdmbaaGreat
open Go.RowKit
set_option linter.unusedVariables false

def lenOf : Value → Nat | .slice _ n _ => n | _ => 0

theorem owns_dr {w w' : World} {d : Nat} (h : w' = w.drewN d) {base e size : Nat} {v : Value} {n : Nat} {xs : List Value} (o : w.ownsRow base e size v n xs) : w'.ownsRow base e size v n xs := by subst h; exact o
theorem bel_dr {w w' : World} {d : Nat} (h : w' = w.drewN d) {B : Nat} {a : World} (b : Below B a w) : Below B a w' := by subst h; exact below_drewN b d
theorem row_dr {w w' : World} {d : Nat} (h : w' = w.drewN d) {k : IntKind} {a : Option Addr} {xs : List Int} (r : Row k w a xs) : Row k w' a xs := by subst h; exact r
theorem size_dr {w w' : World} {d : Nat} (h : w' = w.drewN d) : w'.heap.size = w.heap.size := by subst h; rfl
theorem owns_drew {w : World} {base e size : Nat} {v : Value} {n : Nat} {xs : List Value} (o : w.ownsRow base e size v n xs) : w.drew.ownsRow base e size v n xs := o

/-- Eight cells kept behind a call that turns nothing old. -/
theorem keep8 {W W' : World} (b : Below W.heap.size W W') {a0 a1 a2 a3 b0 b1 b2 b3 : Addr} {u0 u1 u2 u3 v0 v1 v2 v3 : Value}
    (h : W.cell? a0 = some u0 ∧ W.cell? a1 = some u1 ∧ W.cell? a2 = some u2 ∧ W.cell? a3 = some u3 ∧ W.cell? b0 = some v0 ∧ W.cell? b1 = some v1 ∧ W.cell? b2 = some v2 ∧ W.cell? b3 = some v3) :
    W'.cell? a0 = some u0 ∧ W'.cell? a1 = some u1 ∧ W'.cell? a2 = some u2 ∧ W'.cell? a3 = some u3 ∧ W'.cell? b0 = some v0 ∧ W'.cell? b1 = some v1 ∧ W'.cell? b2 = some v2 ∧ W'.cell? b3 = some v3 :=
  ⟨cell_later b h.1, cell_later b h.2.1, cell_later b h.2.2.1, cell_later b h.2.2.2.1, cell_later b h.2.2.2.2.1, cell_later b h.2.2.2.2.2.1, cell_later b h.2.2.2.2.2.2.1, cell_later b h.2.2.2.2.2.2.2⟩
end Go.Proofs.YtpfppeifppdmbaaGreat

/- A boxed struct of any size: its block, kept from world to world. -/
namespace Go.Proofs.YtpfppeifppdmbaaGreat
open Go.RowKit
set_option linter.unusedVariables false

/-- Block m holds a struct's cells. -/
def Box (w : World) (m : Nat) (cs : Array Value) (t : TypeId) : Prop := w.heap[m]? = some (.cells cs t (0, 0))

section
variable {w w' : World} {m : Nat} {cs : Array Value} {t : TypeId}
theorem Box.lt (h : Box w m cs t) : m < w.heap.size := (Array.getElem?_eq_some_iff.1 h).1
theorem Box.below (h : Box w m cs t) (b : Below w.heap.size w w') : Box w' m cs t := (b.block m h.lt).trans h
theorem Box.kept (h : Box w m cs t) {row : Option Nat} (g : w.grownBy w' row) (hne : ∀ j, row = some j → j ≠ m) : Box w' m cs t :=
  (g.block m h.lt (fun e => hne m e.symm rfl)).trans h
theorem Box.dr (h : Box w m cs t) {d : Nat} (e : w' = w.drewN d) : Box w' m cs t := by subst e; exact h
theorem Box.new (w : World) (cs : Array Value) (t : TypeId) : Box (w.alloc (.cells cs t)) w.heap.size cs t := heap_alloc_new w _
theorem Box.cell (h : Box w m cs t) (i : Nat) : w.cell? ⟨m, i, none⟩ = cs[i]? := cell_of_row w m i _ _ _ h
theorem Box.far (h : Box w m cs t) (x : Addr) (u : Value) (hne : m ≠ x.block) : Box (w.setCell x u) m cs t := (Below.heap_setCell w x u m hne).trans h
theorem Box.at4 {c0 c1 c2 c3 : Value} (h : Box w m #[c0, c1, c2, c3] t) :
    w.cell? ⟨m, 0, none⟩ = some c0 ∧ w.cell? ⟨m, 1, none⟩ = some c1 ∧ w.cell? ⟨m, 2, none⟩ = some c2 ∧ w.cell? ⟨m, 3, none⟩ = some c3 ∧ m < w.heap.size :=
  ⟨by rw [h.cell]; rfl, by rw [h.cell]; rfl, by rw [h.cell]; rfl, by rw [h.cell]; rfl, h.lt⟩
theorem Box.frozen (h : Box w m cs t) (i : Nat) : w.frozen? ⟨m, i, none⟩ = false := frozen_of_row w m i _ _ h
theorem Box.at2 {c0 c1 : Value} (h : Box w m #[c0, c1] t) :
    w.cell? ⟨m, 0, none⟩ = some c0 ∧ w.cell? ⟨m, 1, none⟩ = some c1 ∧ m < w.heap.size :=
  ⟨by rw [h.cell]; rfl, by rw [h.cell]; rfl, h.lt⟩

/-- The first of two new boxes. -/
theorem Box.two (w : World) (cs cs2 : Array Value) (t t2 : TypeId) : Box ((w.alloc (.cells cs t)).alloc (.cells cs2 t2)) w.heap.size cs t ∧ Box ((w.alloc (.cells cs t)).alloc (.cells cs2 t2)) (w.heap.size + 1) cs2 t2 := by
  refine ⟨(Box.new w cs t).below (bel_alloc (Below.refl _ _) _), ?_⟩
  have h := Box.new (w.alloc (.cells cs t)) cs2 t2
  have e : (w.alloc (.cells cs t)).heap.size = w.heap.size + 1 := by simp
  rw [e] at h
  exact h
end
end Go.Proofs.YtpfppeifppdmbaaGreat

/- Nothing turned but blocks lo .. hi - 1. -/
namespace Go.Proofs.YtpfppeifppdmbaaGreat
open Go.RowKit
set_option linter.unusedVariables false

/-- Nothing turned but blocks lo .. hi - 1. -/
structure Kept (w w' : World) (lo hi : Nat) : Prop where
  os : w'.os = w.os
  tape : w'.tape = w.tape
  output : w'.output = w.output
  size : w.heap.size ≤ w'.heap.size
  block : ∀ i, i < w.heap.size → (i < lo ∨ hi ≤ i) → w'.heap[i]? = w.heap[i]?

theorem Kept.refl (w : World) (lo hi : Nat) : Kept w w lo hi := ⟨rfl, rfl, rfl, Nat.le_refl _, fun _ _ _ => rfl⟩
theorem Kept.grown {w w1 w2 : World} {lo hi : Nat} (h : Kept w w1 lo hi) {row : Option Nat} (g : w1.grownBy w2 row) (hr : ∀ j, row = some j → lo ≤ j ∧ j < hi) : Kept w w2 lo hi :=
  ⟨g.os.trans h.os, g.tape.trans h.tape, g.output.trans h.output, Nat.le_trans h.size g.size, fun i hi' ho => (g.block i (Nat.lt_of_lt_of_le hi' h.size) (fun e => by have := hr i e.symm; omega)).trans (h.block i hi' ho)⟩
theorem Kept.setCell {w w1 : World} {lo hi : Nat} (h : Kept w w1 lo hi) (x : Addr) (u : Value) (hx : lo ≤ x.block ∧ x.block < hi) : Kept w (w1.setCell x u) lo hi :=
  ⟨h.os, h.tape, h.output, by have := h.size; simp; omega, fun i hi' ho => (Below.heap_setCell w1 x u i (by omega)).trans (h.block i hi' ho)⟩
theorem Kept.below {w w1 w2 : World} {lo hi : Nat} (h : Kept w w1 lo hi) (b : Below w1.heap.size w1 w2) : Kept w w2 lo hi :=
  ⟨b.os.trans h.os, b.tape.trans h.tape, b.output.trans h.output, Nat.le_trans h.size b.size, fun i hi' ho => (b.block i (Nat.lt_of_lt_of_le hi' h.size)).trans (h.block i hi' ho)⟩
theorem Kept.of {w w1 w2 : World} {lo hi : Nat} (b : Below w.heap.size w w1) (h : Kept w1 w2 lo hi) : Kept w w2 lo hi :=
  ⟨h.os.trans b.os, h.tape.trans b.tape, h.output.trans b.output, Nat.le_trans b.size h.size, fun i hi' ho => (h.block i (Nat.lt_of_lt_of_le hi' b.size) ho).trans (b.block i hi')⟩
theorem Kept.bel {w0 w w' : World} {lo hi : Nat} (h : Kept w w' lo hi) (b : Below w0.heap.size w0 w) (hl : w0.heap.size ≤ lo) : Below w0.heap.size w0 w' :=
  b.trans ⟨h.os, h.tape, h.output, h.size, fun i hi' => h.block i (Nat.lt_of_lt_of_le hi' b.size) (.inl (by omega))⟩
theorem Kept.trans {w w1 w2 : World} {lo hi : Nat} (h : Kept w w1 lo hi) (k : Kept w1 w2 lo hi) : Kept w w2 lo hi :=
  ⟨k.os.trans h.os, k.tape.trans h.tape, k.output.trans h.output, Nat.le_trans h.size k.size, fun i hi' ho => (k.block i (Nat.lt_of_lt_of_le hi' h.size) ho).trans (h.block i hi' ho)⟩
theorem Box.keep {w w' : World} {lo hi m : Nat} {cs : Array Value} {t : TypeId} (h : Box w m cs t) (k : Kept w w' lo hi) (hm : m < lo ∨ hi ≤ m) : Box w' m cs t := (k.block m h.lt hm).trans h
theorem owns_keep {w w' : World} {lo hi base e size n : Nat} {v : Value} {xs : List Value} (h : w.ownsRow base e size v n xs) (k : Kept w w' lo hi) (hm : ∀ j, v.ownBlock = some j → j < lo ∨ hi ≤ j) : w'.ownsRow base e size v n xs := by
  refine ⟨h.1, ?_⟩
  rcases h.2 with hn | ⟨g, cap, cur, rfl, hbg, hg, rest⟩
  · exact .inl hn
  · exact .inr ⟨g, cap, cur, rfl, hbg, (k.block g (Array.getElem?_eq_some_iff.1 hg).1 (hm g rfl)).trans hg, rest⟩

/-- Nothing turned but blocks of S. -/
structure Only (w w' : World) (S : Nat → Prop) : Prop where
  os : w'.os = w.os
  tape : w'.tape = w.tape
  output : w'.output = w.output
  size : w.heap.size ≤ w'.heap.size
  block : ∀ i, i < w.heap.size → ¬ S i → w'.heap[i]? = w.heap[i]?

theorem Only.refl (w : World) (S : Nat → Prop) : Only w w S := ⟨rfl, rfl, rfl, Nat.le_refl _, fun _ _ _ => rfl⟩
theorem Only.grown {w w1 w2 : World} {S : Nat → Prop} (h : Only w w1 S) {row : Option Nat} (g : w1.grownBy w2 row) (hr : ∀ j, row = some j → S j) : Only w w2 S :=
  ⟨g.os.trans h.os, g.tape.trans h.tape, g.output.trans h.output, Nat.le_trans h.size g.size, fun i hi' ho => (g.block i (Nat.lt_of_lt_of_le hi' h.size) (fun e => ho (hr i e.symm))).trans (h.block i hi' ho)⟩
theorem Only.setCell {w w1 : World} {S : Nat → Prop} (h : Only w w1 S) (x : Addr) (u : Value) (hx : S x.block) : Only w (w1.setCell x u) S :=
  ⟨h.os, h.tape, h.output, by have := h.size; simp; omega, fun i hi' ho => (Below.heap_setCell w1 x u i (fun e => ho (e ▸ hx))).trans (h.block i hi' ho)⟩
theorem Only.below {w w1 w2 : World} {S : Nat → Prop} (h : Only w w1 S) (b : Below w1.heap.size w1 w2) : Only w w2 S :=
  ⟨b.os.trans h.os, b.tape.trans h.tape, b.output.trans h.output, Nat.le_trans h.size b.size, fun i hi' ho => (b.block i (Nat.lt_of_lt_of_le hi' h.size)).trans (h.block i hi' ho)⟩
theorem Only.of {w w1 w2 : World} {S : Nat → Prop} (b : Below w.heap.size w w1) (h : Only w1 w2 S) : Only w w2 S :=
  ⟨h.os.trans b.os, h.tape.trans b.tape, h.output.trans b.output, Nat.le_trans b.size h.size, fun i hi' ho => (h.block i (Nat.lt_of_lt_of_le hi' b.size) ho).trans (b.block i hi')⟩
theorem Only.trans {w w1 w2 : World} {S : Nat → Prop} (h : Only w w1 S) (k : Only w1 w2 S) : Only w w2 S :=
  ⟨k.os.trans h.os, k.tape.trans h.tape, k.output.trans h.output, Nat.le_trans h.size k.size, fun i hi' ho => (k.block i (Nat.lt_of_lt_of_le hi' h.size) ho).trans (h.block i hi' ho)⟩
theorem Only.more {w w1 : World} {S T : Nat → Prop} (h : Only w w1 S) (hs : ∀ i, S i → T i) : Only w w1 T := ⟨h.os, h.tape, h.output, h.size, fun i hi ho => h.block i hi (fun e => ho (hs i e))⟩
theorem Only.kept {w w1 : World} {S : Nat → Prop} {lo hi : Nat} (h : Only w w1 S) (hs : ∀ i, S i → lo ≤ i ∧ i < hi) : Kept w w1 lo hi := ⟨h.os, h.tape, h.output, h.size, fun i hi' ho => h.block i hi' (fun e => by have := hs i e; omega)⟩
theorem Box.only {w w' : World} {S : Nat → Prop} {m : Nat} {cs : Array Value} {t : TypeId} (h : Box w m cs t) (k : Only w w' S) (hm : ¬ S m) : Box w' m cs t := (k.block m h.lt hm).trans h
theorem owns_only {w w' : World} {S : Nat → Prop} {base e size n : Nat} {v : Value} {xs : List Value} (h : w.ownsRow base e size v n xs) (k : Only w w' S) (hm : ∀ j, v.ownBlock = some j → ¬ S j) : w'.ownsRow base e size v n xs := by
  refine ⟨h.1, ?_⟩
  rcases h.2 with hn | ⟨g, cap, cur, rfl, hbg, hg, rest⟩
  · exact .inl hn
  · exact .inr ⟨g, cap, cur, rfl, hbg, (k.block g (Array.getElem?_eq_some_iff.1 hg).1 (hm g rfl)).trans hg, rest⟩
theorem Only.bel {w0 w w' : World} {S : Nat → Prop} (k : Only w w' S) (b : Below w0.heap.size w0 w) (hs : ∀ i, S i → w0.heap.size ≤ i) : Below w0.heap.size w0 w' :=
  b.trans ⟨k.os, k.tape, k.output, k.size, fun i hi => k.block i (Nat.lt_of_lt_of_le hi b.size) (fun h => by have := hs i h; omega)⟩
end Go.Proofs.YtpfppeifppdmbaaGreat
