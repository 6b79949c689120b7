/- Nothing turned but blocks lo .. hi - 1. -/
import Derived.Test.YtfigbfddhmgafaaDoorBox
namespace Go.Proofs.YtfigbfddhmgafaaDoor
open Go.RowKit
set_option linter.unusedVariables false

/-- Nothing turned but blocks lo .. hi - 1. -/
structure Kept (w w' : World) (lo hi : Nat) : Prop where
  os : w'.os = w.os
  tape : w'.tape = w.tape
  output : w'.output = w.output
  size : w.heap.size ≤ w'.heap.size
  block : ∀ i, i < w.heap.size → (i < lo ∨ hi ≤ i) → w'.heap[i]? = w.heap[i]?

theorem Kept.refl (w : World) (lo hi : Nat) : Kept w w lo hi := ⟨rfl, rfl, rfl, Nat.le_refl _, fun _ _ _ => rfl⟩
theorem Kept.grown {w w1 w2 : World} {lo hi : Nat} (h : Kept w w1 lo hi) {row : Option Nat} (g : w1.grownBy w2 row) (hr : ∀ j, row = some j → lo ≤ j ∧ j < hi) : Kept w w2 lo hi :=
  ⟨g.os.trans h.os, g.tape.trans h.tape, g.output.trans h.output, Nat.le_trans h.size g.size, fun i hi' ho => (g.block i (Nat.lt_of_lt_of_le hi' h.size) (fun e => by have := hr i e.symm; omega)).trans (h.block i hi' ho)⟩
theorem Kept.setCell {w w1 : World} {lo hi : Nat} (h : Kept w w1 lo hi) (x : Addr) (u : Value) (hx : lo ≤ x.block ∧ x.block < hi) : Kept w (w1.setCell x u) lo hi :=
  ⟨h.os, h.tape, h.output, by have := h.size; simp; omega, fun i hi' ho => (Below.heap_setCell w1 x u i (by omega)).trans (h.block i hi' ho)⟩
theorem Kept.below {w w1 w2 : World} {lo hi : Nat} (h : Kept w w1 lo hi) (b : Below w1.heap.size w1 w2) : Kept w w2 lo hi :=
  ⟨b.os.trans h.os, b.tape.trans h.tape, b.output.trans h.output, Nat.le_trans h.size b.size, fun i hi' ho => (b.block i (Nat.lt_of_lt_of_le hi' h.size)).trans (h.block i hi' ho)⟩
theorem Kept.of {w w1 w2 : World} {lo hi : Nat} (b : Below w.heap.size w w1) (h : Kept w1 w2 lo hi) : Kept w w2 lo hi :=
  ⟨h.os.trans b.os, h.tape.trans b.tape, h.output.trans b.output, Nat.le_trans b.size h.size, fun i hi' ho => (h.block i (Nat.lt_of_lt_of_le hi' b.size) ho).trans (b.block i hi')⟩
theorem Kept.bel {w0 w w' : World} {lo hi : Nat} (h : Kept w w' lo hi) (b : Below w0.heap.size w0 w) (hl : w0.heap.size ≤ lo) : Below w0.heap.size w0 w' :=
  b.trans ⟨h.os, h.tape, h.output, h.size, fun i hi' => h.block i (Nat.lt_of_lt_of_le hi' b.size) (.inl (by omega))⟩
theorem Kept.trans {w w1 w2 : World} {lo hi : Nat} (h : Kept w w1 lo hi) (k : Kept w1 w2 lo hi) : Kept w w2 lo hi :=
  ⟨k.os.trans h.os, k.tape.trans h.tape, k.output.trans h.output, Nat.le_trans h.size k.size, fun i hi' ho => (k.block i (Nat.lt_of_lt_of_le hi' h.size) ho).trans (h.block i hi' ho)⟩
theorem Box.keep {w w' : World} {lo hi m : Nat} {cs : Array Value} {t : TypeId} (h : Box w m cs t) (k : Kept w w' lo hi) (hm : m < lo ∨ hi ≤ m) : Box w' m cs t := (k.block m h.lt hm).trans h
theorem owns_keep {w w' : World} {lo hi base e size n : Nat} {v : Value} {xs : List Value} (h : w.ownsRow base e size v n xs) (k : Kept w w' lo hi) (hm : ∀ j, v.ownBlock = some j → j < lo ∨ hi ≤ j) : w'.ownsRow base e size v n xs := by
  refine ⟨h.1, ?_⟩
  rcases h.2 with hn | ⟨g, cap, cur, rfl, hbg, hg, rest⟩
  · exact .inl hn
  · exact .inr ⟨g, cap, cur, rfl, hbg, (k.block g (Array.getElem?_eq_some_iff.1 hg).1 (hm g rfl)).trans hg, rest⟩

/-- Nothing turned but blocks of S. -/
structure Only (w w' : World) (S : Nat → Prop) : Prop where
  os : w'.os = w.os
  tape : w'.tape = w.tape
  output : w'.output = w.output
  size : w.heap.size ≤ w'.heap.size
  block : ∀ i, i < w.heap.size → ¬ S i → w'.heap[i]? = w.heap[i]?

theorem Only.refl (w : World) (S : Nat → Prop) : Only w w S := ⟨rfl, rfl, rfl, Nat.le_refl _, fun _ _ _ => rfl⟩
theorem Only.grown {w w1 w2 : World} {S : Nat → Prop} (h : Only w w1 S) {row : Option Nat} (g : w1.grownBy w2 row) (hr : ∀ j, row = some j → S j) : Only w w2 S :=
  ⟨g.os.trans h.os, g.tape.trans h.tape, g.output.trans h.output, Nat.le_trans h.size g.size, fun i hi' ho => (g.block i (Nat.lt_of_lt_of_le hi' h.size) (fun e => ho (hr i e.symm))).trans (h.block i hi' ho)⟩
theorem Only.setCell {w w1 : World} {S : Nat → Prop} (h : Only w w1 S) (x : Addr) (u : Value) (hx : S x.block) : Only w (w1.setCell x u) S :=
  ⟨h.os, h.tape, h.output, by have := h.size; simp; omega, fun i hi' ho => (Below.heap_setCell w1 x u i (fun e => ho (e ▸ hx))).trans (h.block i hi' ho)⟩
theorem Only.below {w w1 w2 : World} {S : Nat → Prop} (h : Only w w1 S) (b : Below w1.heap.size w1 w2) : Only w w2 S :=
  ⟨b.os.trans h.os, b.tape.trans h.tape, b.output.trans h.output, Nat.le_trans h.size b.size, fun i hi' ho => (b.block i (Nat.lt_of_lt_of_le hi' h.size)).trans (h.block i hi' ho)⟩
theorem Only.of {w w1 w2 : World} {S : Nat → Prop} (b : Below w.heap.size w w1) (h : Only w1 w2 S) : Only w w2 S :=
  ⟨h.os.trans b.os, h.tape.trans b.tape, h.output.trans b.output, Nat.le_trans b.size h.size, fun i hi' ho => (h.block i (Nat.lt_of_lt_of_le hi' b.size) ho).trans (b.block i hi')⟩
theorem Only.trans {w w1 w2 : World} {S : Nat → Prop} (h : Only w w1 S) (k : Only w1 w2 S) : Only w w2 S :=
  ⟨k.os.trans h.os, k.tape.trans h.tape, k.output.trans h.output, Nat.le_trans h.size k.size, fun i hi' ho => (k.block i (Nat.lt_of_lt_of_le hi' h.size) ho).trans (h.block i hi' ho)⟩
theorem Only.more {w w1 : World} {S T : Nat → Prop} (h : Only w w1 S) (hs : ∀ i, S i → T i) : Only w w1 T := ⟨h.os, h.tape, h.output, h.size, fun i hi ho => h.block i hi (fun e => ho (hs i e))⟩
theorem Only.kept {w w1 : World} {S : Nat → Prop} {lo hi : Nat} (h : Only w w1 S) (hs : ∀ i, S i → lo ≤ i ∧ i < hi) : Kept w w1 lo hi := ⟨h.os, h.tape, h.output, h.size, fun i hi' ho => h.block i hi' (fun e => by have := hs i e; omega)⟩
theorem Box.only {w w' : World} {S : Nat → Prop} {m : Nat} {cs : Array Value} {t : TypeId} (h : Box w m cs t) (k : Only w w' S) (hm : ¬ S m) : Box w' m cs t := (k.block m h.lt hm).trans h
theorem owns_only {w w' : World} {S : Nat → Prop} {base e size n : Nat} {v : Value} {xs : List Value} (h : w.ownsRow base e size v n xs) (k : Only w w' S) (hm : ∀ j, v.ownBlock = some j → ¬ S j) : w'.ownsRow base e size v n xs := by
  refine ⟨h.1, ?_⟩
  rcases h.2 with hn | ⟨g, cap, cur, rfl, hbg, hg, rest⟩
  · exact .inl hn
  · exact .inr ⟨g, cap, cur, rfl, hbg, (k.block g (Array.getElem?_eq_some_iff.1 hg).1 (hm g rfl)).trans hg, rest⟩
theorem Only.bel {w0 w w' : World} {S : Nat → Prop} (k : Only w w' S) (b : Below w0.heap.size w0 w) (hs : ∀ i, S i → w0.heap.size ≤ i) : Below w0.heap.size w0 w' :=
  b.trans ⟨k.os, k.tape, k.output, k.size, fun i hi => k.block i (Nat.lt_of_lt_of_le hi b.size) (fun h => by have := hs i h; omega)⟩
end Go.Proofs.YtfigbfddhmgafaaDoor
