/- Base2 and Box and Keep: see the heads of the parts. -/
import Derived.Test.YtpahjfijpjgdnaaBase
/- More small facts on worlds: behind a reader that only draws; keeping cells behind a call. -/
namespace Go.Proofs.Ytpahjfijpjgdnaa
open Go.RowKit
set_option linter.unusedVariables false

def lenOf : Value → Nat | .slice _ n _ => n | _ => 0

theorem owns_dr {w w' : World} {d : Nat} (h : w' = w.drewN d) {base e size : Nat} {v : Value} {n : Nat} {xs : List Value} (o : w.ownsRow base e size v n xs) : w'.ownsRow base e size v n xs := by subst h; exact o
theorem bel_dr {w w' : World} {d : Nat} (h : w' = w.drewN d) {B : Nat} {a : World} (b : Below B a w) : Below B a w' := by subst h; exact below_drewN b d
theorem row_dr {w w' : World} {d : Nat} (h : w' = w.drewN d) {k : IntKind} {a : Option Addr} {xs : List Int} (r : Row k w a xs) : Row k w' a xs := by subst h; exact r
theorem size_dr {w w' : World} {d : Nat} (h : w' = w.drewN d) : w'.heap.size = w.heap.size := by subst h; rfl
theorem owns_drew {w : World} {base e size : Nat} {v : Value} {n : Nat} {xs : List Value} (o : w.ownsRow base e size v n xs) : w.drew.ownsRow base e size v n xs := o

/-- Eight cells kept behind a call that turns nothing old. -/
theorem keep8 {W W' : World} (b : Below W.heap.size W W') {a0 a1 a2 a3 b0 b1 b2 b3 : Addr} {u0 u1 u2 u3 v0 v1 v2 v3 : Value}
    (h : W.cell? a0 = some u0 ∧ W.cell? a1 = some u1 ∧ W.cell? a2 = some u2 ∧ W.cell? a3 = some u3 ∧ W.cell? b0 = some v0 ∧ W.cell? b1 = some v1 ∧ W.cell? b2 = some v2 ∧ W.cell? b3 = some v3) :
    W'.cell? a0 = some u0 ∧ W'.cell? a1 = some u1 ∧ W'.cell? a2 = some u2 ∧ W'.cell? a3 = some u3 ∧ W'.cell? b0 = some v0 ∧ W'.cell? b1 = some v1 ∧ W'.cell? b2 = some v2 ∧ W'.cell? b3 = some v3 :=
  ⟨cell_later b h.1, cell_later b h.2.1, cell_later b h.2.2.1, cell_later b h.2.2.2.1, cell_later b h.2.2.2.2.1, cell_later b h.2.2.2.2.2.1, cell_later b h.2.2.2.2.2.2.1, cell_later b h.2.2.2.2.2.2.2⟩
end Go.Proofs.Ytpahjfijpjgdnaa

/- A boxed struct of any size: its block, kept from world to world. -/
namespace Go.Proofs.Ytpahjfijpjgdnaa
open Go.RowKit
set_option linter.unusedVariables false

/-- Block m holds a struct's cells. -/
def Box (w : World) (m : Nat) (cs : Array Value) (t : TypeId) : Prop := w.heap[m]? = some (.cells cs t (0, 0))

section
variable {w w' : World} {m : Nat} {cs : Array Value} {t : TypeId}
theorem Box.lt (h : Box w m cs t) : m < w.heap.size := (Array.getElem?_eq_some_iff.1 h).1
theorem Box.below (h : Box w m cs t) (b : Below w.heap.size w w') : Box w' m cs t := (b.block m h.lt).trans h
theorem Box.kept (h : Box w m cs t) {row : Option Nat} (g : w.grownBy w' row) (hne : ∀ j, row = some j → j ≠ m) : Box w' m cs t :=
  (g.block m h.lt (fun e => hne m e.symm rfl)).trans h
theorem Box.dr (h : Box w m cs t) {d : Nat} (e : w' = w.drewN d) : Box w' m cs t := by subst e; exact h
theorem Box.new (w : World) (cs : Array Value) (t : TypeId) : Box (w.alloc (.cells cs t)) w.heap.size cs t := heap_alloc_new w _
theorem Box.cell (h : Box w m cs t) (i : Nat) : w.cell? ⟨m, i, none⟩ = cs[i]? := cell_of_row w m i _ _ _ h
theorem Box.far (h : Box w m cs t) (x : Addr) (u : Value) (hne : m ≠ x.block) : Box (w.setCell x u) m cs t := (Below.heap_setCell w x u m hne).trans h
theorem Box.at4 {c0 c1 c2 c3 : Value} (h : Box w m #[c0, c1, c2, c3] t) :
    w.cell? ⟨m, 0, none⟩ = some c0 ∧ w.cell? ⟨m, 1, none⟩ = some c1 ∧ w.cell? ⟨m, 2, none⟩ = some c2 ∧ w.cell? ⟨m, 3, none⟩ = some c3 ∧ m < w.heap.size :=
  ⟨by rw [h.cell]; rfl, by rw [h.cell]; rfl, by rw [h.cell]; rfl, by rw [h.cell]; rfl, h.lt⟩
theorem Box.frozen (h : Box w m cs t) (i : Nat) : w.frozen? ⟨m, i, none⟩ = false := frozen_of_row w m i _ _ h
theorem Box.at2 {c0 c1 : Value} (h : Box w m #[c0, c1] t) :
    w.cell? ⟨m, 0, none⟩ = some c0 ∧ w.cell? ⟨m, 1, none⟩ = some c1 ∧ m < w.heap.size :=
  ⟨by rw [h.cell]; rfl, by rw [h.cell]; rfl, h.lt⟩

/-- The first of two new boxes. -/
theorem Box.two (w : World) (cs cs2 : Array Value) (t t2 : TypeId) : Box ((w.alloc (.cells cs t)).alloc (.cells cs2 t2)) w.heap.size cs t ∧ Box ((w.alloc (.cells cs t)).alloc (.cells cs2 t2)) (w.heap.size + 1) cs2 t2 := by
  refine ⟨(Box.new w cs t).below (bel_alloc (Below.refl _ _) _), ?_⟩
  have h := Box.new (w.alloc (.cells cs t)) cs2 t2
  have e : (w.alloc (.cells cs t)).heap.size = w.heap.size + 1 := by simp
  rw [e] at h
  exact h
end
end Go.Proofs.Ytpahjfijpjgdnaa

/- Nothing turned but blocks lo .. hi - 1. -/
namespace Go.Proofs.Ytpahjfijpjgdnaa
open Go.RowKit
set_option linter.unusedVariables false

/-- Nothing turned but blocks lo .. hi - 1. -/
structure Kept (w w' : World) (lo hi : Nat) : Prop where
  os : w'.os = w.os
  tape : w'.tape = w.tape
  output : w'.output = w.output
  size : w.heap.size ≤ w'.heap.size
  block : ∀ i, i < w.heap.size → (i < lo ∨ hi ≤ i) → w'.heap[i]? = w.heap[i]?

theorem Kept.refl (w : World) (lo hi : Nat) : Kept w w lo hi := ⟨rfl, rfl, rfl, Nat.le_refl _, fun _ _ _ => rfl⟩
theorem Kept.grown {w w1 w2 : World} {lo hi : Nat} (h : Kept w w1 lo hi) {row : Option Nat} (g : w1.grownBy w2 row) (hr : ∀ j, row = some j → lo ≤ j ∧ j < hi) : Kept w w2 lo hi :=
  ⟨g.os.trans h.os, g.tape.trans h.tape, g.output.trans h.output, Nat.le_trans h.size g.size, fun i hi' ho => (g.block i (Nat.lt_of_lt_of_le hi' h.size) (fun e => by have := hr i e.symm; omega)).trans (h.block i hi' ho)⟩
theorem Kept.setCell {w w1 : World} {lo hi : Nat} (h : Kept w w1 lo hi) (x : Addr) (u : Value) (hx : lo ≤ x.block ∧ x.block < hi) : Kept w (w1.setCell x u) lo hi :=
  ⟨h.os, h.tape, h.output, by have := h.size; simp; omega, fun i hi' ho => (Below.heap_setCell w1 x u i (by omega)).trans (h.block i hi' ho)⟩
theorem Kept.below {w w1 w2 : World} {lo hi : Nat} (h : Kept w w1 lo hi) (b : Below w1.heap.size w1 w2) : Kept w w2 lo hi :=
  ⟨b.os.trans h.os, b.tape.trans h.tape, b.output.trans h.output, Nat.le_trans h.size b.size, fun i hi' ho => (b.block i (Nat.lt_of_lt_of_le hi' h.size)).trans (h.block i hi' ho)⟩
theorem Kept.of {w w1 w2 : World} {lo hi : Nat} (b : Below w.heap.size w w1) (h : Kept w1 w2 lo hi) : Kept w w2 lo hi :=
  ⟨h.os.trans b.os, h.tape.trans b.tape, h.output.trans b.output, Nat.le_trans b.size h.size, fun i hi' ho => (h.block i (Nat.lt_of_lt_of_le hi' b.size) ho).trans (b.block i hi')⟩
theorem Kept.bel {w0 w w' : World} {lo hi : Nat} (h : Kept w w' lo hi) (b : Below w0.heap.size w0 w) (hl : w0.heap.size ≤ lo) : Below w0.heap.size w0 w' :=
  b.trans ⟨h.os, h.tape, h.output, h.size, fun i hi' => h.block i (Nat.lt_of_lt_of_le hi' b.size) (.inl (by omega))⟩
theorem Kept.trans {w w1 w2 : World} {lo hi : Nat} (h : Kept w w1 lo hi) (k : Kept w1 w2 lo hi) : Kept w w2 lo hi :=
  ⟨k.os.trans h.os, k.tape.trans h.tape, k.output.trans h.output, Nat.le_trans h.size k.size, fun i hi' ho => (k.block i (Nat.lt_of_lt_of_le hi' h.size) ho).trans (h.block i hi' ho)⟩
theorem Box.keep {w w' : World} {lo hi m : Nat} {cs : Array Value} {t : TypeId} (h : Box w m cs t) (k : Kept w w' lo hi) (hm : m < lo ∨ hi ≤ m) : Box w' m cs t := (k.block m h.lt hm).trans h
theorem owns_keep {w w' : World} {lo hi base e size n : Nat} {v : Value} {xs : List Value} (h : w.ownsRow base e size v n xs) (k : Kept w w' lo hi) (hm : ∀ j, v.ownBlock = some j → j < lo ∨ hi ≤ j) : w'.ownsRow base e size v n xs := by
  refine ⟨h.1, ?_⟩
  rcases h.2 with hn | ⟨g, cap, cur, rfl, hbg, hg, rest⟩
  · exact .inl hn
  · exact .inr ⟨g, cap, cur, rfl, hbg, (k.block g (Array.getElem?_eq_some_iff.1 hg).1 (hm g rfl)).trans hg, rest⟩

/-- Nothing turned but blocks of S. -/
structure Only (w w' : World) (S : Nat → Prop) : Prop where
  os : w'.os = w.os
  tape : w'.tape = w.tape
  output : w'.output = w.output
  size : w.heap.size ≤ w'.heap.size
  block : ∀ i, i < w.heap.size → ¬ S i → w'.heap[i]? = w.heap[i]?

theorem Only.refl (w : World) (S : Nat → Prop) : Only w w S := ⟨rfl, rfl, rfl, Nat.le_refl _, fun _ _ _ => rfl⟩
theorem Only.grown {w w1 w2 : World} {S : Nat → Prop} (h : Only w w1 S) {row : Option Nat} (g : w1.grownBy w2 row) (hr : ∀ j, row = some j → S j) : Only w w2 S :=
  ⟨g.os.trans h.os, g.tape.trans h.tape, g.output.trans h.output, Nat.le_trans h.size g.size, fun i hi' ho => (g.block i (Nat.lt_of_lt_of_le hi' h.size) (fun e => ho (hr i e.symm))).trans (h.block i hi' ho)⟩
theorem Only.setCell {w w1 : World} {S : Nat → Prop} (h : Only w w1 S) (x : Addr) (u : Value) (hx : S x.block) : Only w (w1.setCell x u) S :=
  ⟨h.os, h.tape, h.output, by have := h.size; simp; omega, fun i hi' ho => (Below.heap_setCell w1 x u i (fun e => ho (e ▸ hx))).trans (h.block i hi' ho)⟩
theorem Only.below {w w1 w2 : World} {S : Nat → Prop} (h : Only w w1 S) (b : Below w1.heap.size w1 w2) : Only w w2 S :=
  ⟨b.os.trans h.os, b.tape.trans h.tape, b.output.trans h.output, Nat.le_trans h.size b.size, fun i hi' ho => (b.block i (Nat.lt_of_lt_of_le hi' h.size)).trans (h.block i hi' ho)⟩
theorem Only.of {w w1 w2 : World} {S : Nat → Prop} (b : Below w.heap.size w w1) (h : Only w1 w2 S) : Only w w2 S :=
  ⟨h.os.trans b.os, h.tape.trans b.tape, h.output.trans b.output, Nat.le_trans b.size h.size, fun i hi' ho => (h.block i (Nat.lt_of_lt_of_le hi' b.size) ho).trans (b.block i hi')⟩
theorem Only.trans {w w1 w2 : World} {S : Nat → Prop} (h : Only w w1 S) (k : Only w1 w2 S) : Only w w2 S :=
  ⟨k.os.trans h.os, k.tape.trans h.tape, k.output.trans h.output, Nat.le_trans h.size k.size, fun i hi' ho => (k.block i (Nat.lt_of_lt_of_le hi' h.size) ho).trans (h.block i hi' ho)⟩
theorem Only.more {w w1 : World} {S T : Nat → Prop} (h : Only w w1 S) (hs : ∀ i, S i → T i) : Only w w1 T := ⟨h.os, h.tape, h.output, h.size, fun i hi ho => h.block i hi (fun e => ho (hs i e))⟩
theorem Only.kept {w w1 : World} {S : Nat → Prop} {lo hi : Nat} (h : Only w w1 S) (hs : ∀ i, S i → lo ≤ i ∧ i < hi) : Kept w w1 lo hi := ⟨h.os, h.tape, h.output, h.size, fun i hi' ho => h.block i hi' (fun e => by have := hs i e; omega)⟩
theorem Box.only {w w' : World} {S : Nat → Prop} {m : Nat} {cs : Array Value} {t : TypeId} (h : Box w m cs t) (k : Only w w' S) (hm : ¬ S m) : Box w' m cs t := (k.block m h.lt hm).trans h
theorem owns_only {w w' : World} {S : Nat → Prop} {base e size n : Nat} {v : Value} {xs : List Value} (h : w.ownsRow base e size v n xs) (k : Only w w' S) (hm : ∀ j, v.ownBlock = some j → ¬ S j) : w'.ownsRow base e size v n xs := by
  refine ⟨h.1, ?_⟩
  rcases h.2 with hn | ⟨g, cap, cur, rfl, hbg, hg, rest⟩
  · exact .inl hn
  · exact .inr ⟨g, cap, cur, rfl, hbg, (k.block g (Array.getElem?_eq_some_iff.1 hg).1 (hm g rfl)).trans hg, rest⟩
theorem Only.bel {w0 w w' : World} {S : Nat → Prop} (k : Only w w' S) (b : Below w0.heap.size w0 w) (hs : ∀ i, S i → w0.heap.size ≤ i) : Below w0.heap.size w0 w' :=
  b.trans ⟨k.os, k.tape, k.output, k.size, fun i hi => k.block i (Nat.lt_of_lt_of_le hi b.size) (fun h => by have := hs i h; omega)⟩
end Go.Proofs.Ytpahjfijpjgdnaa
