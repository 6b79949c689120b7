/- What the law's markMsgS and heldMsgS do. -/
import Derived.Test.YtnhbilhkmbkibaaImplQ2
import Derived.Test.YtnhbilhkmbkibaaKeep
namespace Go.Proofs.Ytnhbilhkmbkibaa
open Go.RowKit
set_option linter.unusedVariables false

/-- All blocks of an owned row of messages lie below hi. -/
def Deep.Lt (a : Option Addr) (c : Nat) (ms : List M) (hi : Nat) : Prop := (∀ j, (Value.slice a ms.length c).ownBlock = some j → j < hi) ∧ ∀ m ∈ ms, ∀ j, m.v.ownBlock = some j → j < hi
theorem Deep.lt {w : World} {lo : Nat} {a : Option Addr} {c : Nat} {ms : List M} (h : Deep w lo a c ms) : Deep.Lt a c ms w.heap.size := ⟨fun j hj => (h.row.lt j hj).2, fun m hm j hj => (h.lists.lt hm hj).2⟩
theorem Deep.keep {w w' : World} {lo lo' hi : Nat} {a : Option Addr} {c : Nat} {ms : List M} (h : Deep w lo a c ms) (k : Kept w w' lo' hi) (hm : (∀ j, (Value.slice a ms.length c).ownBlock = some j → j < lo' ∨ hi ≤ j) ∧ ∀ m ∈ ms, ∀ j, m.v.ownBlock = some j → j < lo' ∨ hi ≤ j) : Deep w' lo a c ms :=
  ⟨owns_keep h.row k hm.1, fun m hx => owns_keep (h.lists.1 m hx) k (hm.2 m hx), h.lists.2⟩
theorem Deep.keepLow {w w' : World} {lo lo' hi : Nat} {a : Option Addr} {c : Nat} {ms : List M} (h : Deep w lo a c ms) (k : Kept w w' lo' hi) (hl : Deep.Lt a c ms lo') : Deep w' lo a c ms :=
  h.keep k ⟨fun j hj => .inl (hl.1 j hj), fun m hm j hj => .inl (hl.2 m hm j hj)⟩
theorem Deep.keepHigh {w w' : World} {lo lo' hi : Nat} {a : Option Addr} {c : Nat} {ms : List M} (h : Deep w lo a c ms) (k : Kept w w' lo' hi) (hl : hi ≤ lo) : Deep w' lo a c ms :=
  h.keep k ⟨fun j hj => .inr (by have := (h.row.lt j hj).1; omega), fun m hm j hj => .inr (by have := (h.lists.lt hm hj).1; omega)⟩

def markM (k : Int) (m : M) : M := ⟨k, k + 1, (k + 1 + 1) % 3 == 0, m.a, m.c, mki (k + 1 + 1 + 1) m.xs.length⟩
def markMs : Int → List M → List M
  | _, [] => []
  | k, m :: ms => markM k m :: markMs (k + 1 + 1 + 1 + m.xs.length) ms
def markEnd : Int → List M → Int
  | k, [] => k
  | k, m :: ms => markEnd (k + 1 + 1 + 1 + m.xs.length) ms

theorem markMs_length (k : Int) (ms : List M) : (markMs k ms).length = ms.length := by
  induction ms generalizing k with
  | nil => rfl
  | cons m ms ih => simp [markMs, ih]
theorem markMs_snoc (k : Int) (ms : List M) (m : M) : markMs k (ms ++ [m]) = markMs k ms ++ [markM (markEnd k ms) m] := by
  induction ms generalizing k with
  | nil => rfl
  | cons x ms ih => simp [markMs, markEnd, ih]
theorem markEnd_snoc (k : Int) (ms : List M) (m : M) : markEnd k (ms ++ [m]) = markEnd k ms + 1 + 1 + 1 + m.xs.length := by
  induction ms generalizing k with
  | nil => rfl
  | cons x ms ih => simp [markEnd, ih]
theorem markEnd_bound (k : Int) (ms : List M) (L : Nat) (h : ∀ m ∈ ms, m.xs.length ≤ L) : k ≤ markEnd k ms ∧ markEnd k ms ≤ k + ms.length * (3 + (L : Int)) := by
  induction ms generalizing k with
  | nil => simp [markEnd]
  | cons x ms ih =>
    have h1 := ih (k + 1 + 1 + 1 + x.xs.length) (fun m hm => h m (List.mem_cons_of_mem _ hm))
    have h2 := h x (List.mem_cons_self ..)
    have e : ((ms.length + 1 : Nat) : Int) * (3 + (L : Int)) = (ms.length : Int) * (3 + L) + (3 + L) := by rw [Int.natCast_add, Int.add_mul]; simp
    simp only [markEnd, List.length_cons]
    rw [e]
    omega
theorem markM_v (k : Int) (m : M) : (markM k m).v = m.v := by simp [markM, M.v, mki_length]

/-- The message at place j is marked: what the loop carries. -/
theorem mark_one {w w2 : World} {lo g c j : Nat} {A R : List M} {m : M} {k : Int} (hD : Deep w lo (some ⟨g, 0, none⟩) c (A ++ m :: R)) (hA : A.length = j)
    (g2 : (((w.setCell ⟨g, j * 4, none⟩ (.int .i64 k)).setCell ⟨g, j * 4 + 1, none⟩ (.int .i64 (k + 1))).setCell ⟨g, j * 4 + 2, none⟩ (.bool ((k + 1 + 1) % 3 == 0))).grownBy w2 m.v.ownBlock)
    (o2 : w2.ownsRow lo 3 1 m.v m.xs.length ((mki (k + 1 + 1 + 1) m.xs.length).map (Value.int .i64))) :
    Deep w2 lo (some ⟨g, 0, none⟩) c (A ++ markM k m :: R) := by
  have hr := hD.row
  have hlen : (A ++ markM k m :: R).length = (A ++ m :: R).length := by simp
  have hmm : m ∈ A ++ m :: R := by simp
  have h0 := (hr.stored (j * 4) (.int .i64 k)).1
  have h1 := (h0.stored (j * 4 + 1) (.int .i64 (k + 1))).1
  have h2 := (h1.stored (j * 4 + 2) (.bool ((k + 1 + 1) % 3 == 0))).1
  have hne : ∀ x ∈ A ++ m :: R, ∀ b, x.v.ownBlock = some b → g ≠ b := fun x hx b hb he => by
    subst he
    exact owns_types hr (hD.lists.1 x hx) (by decide) rfl hb
  have hL1 := ((hD.lists.far ⟨g, j * 4, none⟩ (.int .i64 k) hne).far ⟨g, j * 4 + 1, none⟩ (.int .i64 (k + 1)) hne).far ⟨g, j * 4 + 2, none⟩ (.bool ((k + 1 + 1) % 3 == 0)) hne
  have eq : (((flat (A ++ m :: R)).set (j * 4) (.int .i64 k)).set (j * 4 + 1) (.int .i64 (k + 1))).set (j * 4 + 2) (.bool ((k + 1 + 1) % 3 == 0)) = flat (A ++ markM k m :: R) := by
    have hfl : (flat A).length = j * 4 := by rw [flat_length, hA]
    rw [flat_append, flat_append, flat_cons, flat_cons]
    rw [List.set_append_right _ _ (by omega), List.set_append_right _ _ (by omega), List.set_append_right _ _ (by omega), hfl]
    have e0 : j * 4 - j * 4 = 0 := by omega
    have e1 : j * 4 + 1 - j * 4 = 1 := by omega
    have e2 : j * 4 + 2 - j * 4 = 2 := by omega
    rw [e0, e1, e2]
    congr 1
    simp [M.cells, markM, mki_length]
  rw [eq] at h2
  have hp := hD.lists.2
  rw [List.pairwise_append, List.pairwise_cons] at hp
  refine ⟨?_, ?_, ?_⟩
  · rw [hlen]
    refine owns_ne h2 g2 (fun b hb he => ?_)
    exact owns_types hr (hD.lists.1 m hmm) (by decide) hb he
  · intro x hx
    have hx' : x = markM k m ∨ (x ∈ A ∨ x ∈ R) := by
      simp at hx
      rcases hx with h | h | h
      · exact .inr (.inl h)
      · exact .inl h
      · exact .inr (.inr h)
    rcases hx' with rfl | hx'
    · have e : (markM k m).xs.length = m.xs.length := by simp [markM, mki_length]
      rw [markM_v, e]
      exact o2
    · have hin : x ∈ A ++ m :: R := by
        rcases hx' with h | h <;> simp [h]
      refine owns_ne (hL1.1 x hin) g2 (fun b hb he => ?_)
      rcases hx' with h | h
      · exact hp.2.2 x h m (by simp) b hb he
      · exact hp.2.1.1 x h b he hb
  · rw [List.pairwise_append, List.pairwise_cons]
    refine ⟨hp.1, ⟨?_, hp.2.1.2⟩, ?_⟩
    · intro x hx b hb
      rw [markM_v] at hb
      exact hp.2.1.1 x hx b hb
    · intro x hx y hy b hb
      simp at hy
      rcases hy with rfl | hy
      · rw [markM_v]
        exact hp.2.2 x hx m (by simp) b hb
      · exact hp.2.2 x hx y (by simp [hy]) b hb
end Go.Proofs.Ytnhbilhkmbkibaa
