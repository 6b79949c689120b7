/- What the law's markMsgS and heldMsgS do. -/
import Derived.Test.YtbikiffgeinnnabImplQ2
namespace Go.Proofs.Ytbikiffgeinnnab
open Go.RowKit
set_option linter.unusedVariables false

/-- Nothing turned but blocks lo .. hi - 1. -/
structure Kept (w w' : World) (lo hi : Nat) : Prop where
  os : w'.os = w.os
  tape : w'.tape = w.tape
  output : w'.output = w.output
  size : w.heap.size ≤ w'.heap.size
  block : ∀ i, i < w.heap.size → (i < lo ∨ hi ≤ i) → w'.heap[i]? = w.heap[i]?

theorem Kept.refl (w : World) (lo hi : Nat) : Kept w w lo hi := ⟨rfl, rfl, rfl, Nat.le_refl _, fun _ _ _ => rfl⟩
theorem Kept.grown {w w1 w2 : World} {lo hi : Nat} (h : Kept w w1 lo hi) {row : Option Nat} (g : w1.grownBy w2 row) (hr : ∀ j, row = some j → lo ≤ j ∧ j < hi) : Kept w w2 lo hi :=
  ⟨g.os.trans h.os, g.tape.trans h.tape, g.output.trans h.output, Nat.le_trans h.size g.size, fun i hi' ho => (g.block i (Nat.lt_of_lt_of_le hi' h.size) (fun e => by have := hr i e.symm; omega)).trans (h.block i hi' ho)⟩
theorem Kept.setCell {w w1 : World} {lo hi : Nat} (h : Kept w w1 lo hi) (x : Addr) (u : Value) (hx : lo ≤ x.block ∧ x.block < hi) : Kept w (w1.setCell x u) lo hi :=
  ⟨h.os, h.tape, h.output, by have := h.size; simp; omega, fun i hi' ho => (Below.heap_setCell w1 x u i (by omega)).trans (h.block i hi' ho)⟩
theorem Kept.below {w w1 w2 : World} {lo hi : Nat} (h : Kept w w1 lo hi) (b : Below w1.heap.size w1 w2) : Kept w w2 lo hi :=
  ⟨b.os.trans h.os, b.tape.trans h.tape, b.output.trans h.output, Nat.le_trans h.size b.size, fun i hi' ho => (b.block i (Nat.lt_of_lt_of_le hi' h.size)).trans (h.block i hi' ho)⟩
theorem Kept.of {w w1 w2 : World} {lo hi : Nat} (b : Below w.heap.size w w1) (h : Kept w1 w2 lo hi) : Kept w w2 lo hi :=
  ⟨h.os.trans b.os, h.tape.trans b.tape, h.output.trans b.output, Nat.le_trans b.size h.size, fun i hi' ho => (h.block i (Nat.lt_of_lt_of_le hi' b.size) ho).trans (b.block i hi')⟩
theorem Kept.bel {w0 w w' : World} {lo hi : Nat} (h : Kept w w' lo hi) (b : Below w0.heap.size w0 w) (hl : w0.heap.size ≤ lo) : Below w0.heap.size w0 w' :=
  b.trans ⟨h.os, h.tape, h.output, h.size, fun i hi' => h.block i (Nat.lt_of_lt_of_le hi' b.size) (.inl (by omega))⟩
theorem Box.keep {w w' : World} {lo hi m : Nat} {cs : Array Value} {t : TypeId} (h : Box w m cs t) (k : Kept w w' lo hi) (hm : m < lo ∨ hi ≤ m) : Box w' m cs t := (k.block m h.lt hm).trans h
theorem owns_keep {w w' : World} {lo hi base e size n : Nat} {v : Value} {xs : List Value} (h : w.ownsRow base e size v n xs) (k : Kept w w' lo hi) (hm : ∀ j, v.ownBlock = some j → j < lo ∨ hi ≤ j) : w'.ownsRow base e size v n xs := by
  refine ⟨h.1, ?_⟩
  rcases h.2 with hn | ⟨g, cap, cur, rfl, hbg, hg, rest⟩
  · exact .inl hn
  · exact .inr ⟨g, cap, cur, rfl, hbg, (k.block g (Array.getElem?_eq_some_iff.1 hg).1 (hm g rfl)).trans hg, rest⟩

/-- All blocks of an owned row of messages lie below hi. -/
def Deep.Lt (a : Option Addr) (c : Nat) (ms : List M) (hi : Nat) : Prop := (∀ j, (Value.slice a ms.length c).ownBlock = some j → j < hi) ∧ ∀ m ∈ ms, ∀ j, m.v.ownBlock = some j → j < hi
theorem Deep.lt {w : World} {lo : Nat} {a : Option Addr} {c : Nat} {ms : List M} (h : Deep w lo a c ms) : Deep.Lt a c ms w.heap.size := ⟨fun j hj => (h.row.lt j hj).2, fun m hm j hj => (h.lists.lt hm hj).2⟩
theorem Deep.keep {w w' : World} {lo lo' hi : Nat} {a : Option Addr} {c : Nat} {ms : List M} (h : Deep w lo a c ms) (k : Kept w w' lo' hi) (hm : (∀ j, (Value.slice a ms.length c).ownBlock = some j → j < lo' ∨ hi ≤ j) ∧ ∀ m ∈ ms, ∀ j, m.v.ownBlock = some j → j < lo' ∨ hi ≤ j) : Deep w' lo a c ms :=
  ⟨owns_keep h.row k hm.1, fun m hx => owns_keep (h.lists.1 m hx) k (hm.2 m hx), h.lists.2⟩
theorem Deep.keepLow {w w' : World} {lo lo' hi : Nat} {a : Option Addr} {c : Nat} {ms : List M} (h : Deep w lo a c ms) (k : Kept w w' lo' hi) (hl : Deep.Lt a c ms lo') : Deep w' lo a c ms :=
  h.keep k ⟨fun j hj => .inl (hl.1 j hj), fun m hm j hj => .inl (hl.2 m hm j hj)⟩
theorem Deep.keepHigh {w w' : World} {lo lo' hi : Nat} {a : Option Addr} {c : Nat} {ms : List M} (h : Deep w lo a c ms) (k : Kept w w' lo' hi) (hl : hi ≤ lo) : Deep w' lo a c ms :=
  h.keep k ⟨fun j hj => .inr (by have := (h.row.lt j hj).1; omega), fun m hm j hj => .inr (by have := (h.lists.lt hm hj).1; omega)⟩

def markM (k : Int) (m : M) : M := ⟨k, k + 1, (k + 1 + 1) % 3 == 0, m.a, m.c, mki (k + 1 + 1 + 1) m.xs.length⟩
def markMs : Int → List M → List M
  | _, [] => []
  | k, m :: ms => markM k m :: markMs (k + 1 + 1 + 1 + m.xs.length) ms
def markEnd : Int → List M → Int
  | k, [] => k
  | k, m :: ms => markEnd (k + 1 + 1 + 1 + m.xs.length) ms

theorem markMs_length (k : Int) (ms : List M) : (markMs k ms).length = ms.length := by
  induction ms generalizing k with
  | nil => rfl
  | cons m ms ih => simp [markMs, ih]
theorem markMs_snoc (k : Int) (ms : List M) (m : M) : markMs k (ms ++ [m]) = markMs k ms ++ [markM (markEnd k ms) m] := by
  induction ms generalizing k with
  | nil => rfl
  | cons x ms ih => simp [markMs, markEnd, ih]
theorem markEnd_snoc (k : Int) (ms : List M) (m : M) : markEnd k (ms ++ [m]) = markEnd k ms + 1 + 1 + 1 + m.xs.length := by
  induction ms generalizing k with
  | nil => rfl
  | cons x ms ih => simp [markEnd, ih]
theorem markEnd_bound (k : Int) (ms : List M) (L : Nat) (h : ∀ m ∈ ms, m.xs.length ≤ L) : k ≤ markEnd k ms ∧ markEnd k ms ≤ k + ms.length * (3 + (L : Int)) := by
  induction ms generalizing k with
  | nil => simp [markEnd]
  | cons x ms ih =>
    have h1 := ih (k + 1 + 1 + 1 + x.xs.length) (fun m hm => h m (List.mem_cons_of_mem _ hm))
    have h2 := h x (List.mem_cons_self ..)
    have e : ((ms.length + 1 : Nat) : Int) * (3 + (L : Int)) = (ms.length : Int) * (3 + L) + (3 + L) := by rw [Int.natCast_add, Int.add_mul]; simp
    simp only [markEnd, List.length_cons]
    rw [e]
    omega
theorem markM_v (k : Int) (m : M) : (markM k m).v = m.v := by simp [markM, M.v, mki_length]

/-- The message at place j is marked: what the loop carries. -/
theorem mark_one {w w2 : World} {lo g c j : Nat} {A R : List M} {m : M} {k : Int} (hD : Deep w lo (some ⟨g, 0, none⟩) c (A ++ m :: R)) (hA : A.length = j)
    (g2 : (((w.setCell ⟨g, j * 4, none⟩ (.int .i64 k)).setCell ⟨g, j * 4 + 1, none⟩ (.int .i64 (k + 1))).setCell ⟨g, j * 4 + 2, none⟩ (.bool ((k + 1 + 1) % 3 == 0))).grownBy w2 m.v.ownBlock)
    (o2 : w2.ownsRow lo 3 1 m.v m.xs.length ((mki (k + 1 + 1 + 1) m.xs.length).map (Value.int .i64))) :
    Deep w2 lo (some ⟨g, 0, none⟩) c (A ++ markM k m :: R) := by
  have hr := hD.row
  have hlen : (A ++ markM k m :: R).length = (A ++ m :: R).length := by simp
  have hmm : m ∈ A ++ m :: R := by simp
  have h0 := (hr.stored (j * 4) (.int .i64 k)).1
  have h1 := (h0.stored (j * 4 + 1) (.int .i64 (k + 1))).1
  have h2 := (h1.stored (j * 4 + 2) (.bool ((k + 1 + 1) % 3 == 0))).1
  have hne : ∀ x ∈ A ++ m :: R, ∀ b, x.v.ownBlock = some b → g ≠ b := fun x hx b hb he => by
    subst he
    exact owns_types hr (hD.lists.1 x hx) (by decide) rfl hb
  have hL1 := ((hD.lists.far ⟨g, j * 4, none⟩ (.int .i64 k) hne).far ⟨g, j * 4 + 1, none⟩ (.int .i64 (k + 1)) hne).far ⟨g, j * 4 + 2, none⟩ (.bool ((k + 1 + 1) % 3 == 0)) hne
  have eq : (((flat (A ++ m :: R)).set (j * 4) (.int .i64 k)).set (j * 4 + 1) (.int .i64 (k + 1))).set (j * 4 + 2) (.bool ((k + 1 + 1) % 3 == 0)) = flat (A ++ markM k m :: R) := by
    have hfl : (flat A).length = j * 4 := by rw [flat_length, hA]
    rw [flat_append, flat_append, flat_cons, flat_cons]
    rw [List.set_append_right _ _ (by omega), List.set_append_right _ _ (by omega), List.set_append_right _ _ (by omega), hfl]
    have e0 : j * 4 - j * 4 = 0 := by omega
    have e1 : j * 4 + 1 - j * 4 = 1 := by omega
    have e2 : j * 4 + 2 - j * 4 = 2 := by omega
    rw [e0, e1, e2]
    congr 1
    simp [M.cells, markM, mki_length]
  rw [eq] at h2
  have hp := hD.lists.2
  rw [List.pairwise_append, List.pairwise_cons] at hp
  refine ⟨?_, ?_, ?_⟩
  · rw [hlen]
    refine owns_ne h2 g2 (fun b hb he => ?_)
    exact owns_types hr (hD.lists.1 m hmm) (by decide) hb he
  · intro x hx
    have hx' : x = markM k m ∨ (x ∈ A ∨ x ∈ R) := by
      simp at hx
      rcases hx with h | h | h
      · exact .inr (.inl h)
      · exact .inl h
      · exact .inr (.inr h)
    rcases hx' with rfl | hx'
    · have e : (markM k m).xs.length = m.xs.length := by simp [markM, mki_length]
      rw [markM_v, e]
      exact o2
    · have hin : x ∈ A ++ m :: R := by
        rcases hx' with h | h <;> simp [h]
      refine owns_ne (hL1.1 x hin) g2 (fun b hb he => ?_)
      rcases hx' with h | h
      · exact hp.2.2 x h m (by simp) b hb he
      · exact hp.2.1.1 x h b he hb
  · rw [List.pairwise_append, List.pairwise_cons]
    refine ⟨hp.1, ⟨?_, hp.2.1.2⟩, ?_⟩
    · intro x hx b hb
      rw [markM_v] at hb
      exact hp.2.1.1 x hx b hb
    · intro x hx y hy b hb
      simp at hy
      rcases hy with rfl | hy
      · rw [markM_v]
        exact hp.2.2 x hx m (by simp) b hb
      · exact hp.2.2 x hx y (by simp [hy]) b hb
end Go.Proofs.Ytbikiffgeinnnab
