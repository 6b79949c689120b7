/- Rows of truth values and of those who wait; what the law's small functions over homes do: eqHome and what it calls. -/
import Derived.Test.YtfigbfddhmgafaaDoorInts
import Derived.Test.YtfigbfddhmgafaaDoorBox
import Derived.Test.YtfigbfddhmgafaaDoorSeq
import Derived.Deep.RegionWith
import Derived.BigRegion
namespace Go.Proofs.YtfigbfddhmgafaaDoor
open Go.RowKit
set_option linter.unusedVariables false

/-- WHAT A READER IS TOLD OF A ROW OF CELLS. -/
def VRow (w : World) (a : Option Addr) (vs : List Value) : Prop :=
  vs.length ≤ 140737488351232 ∧ ∀ i v, vs[i]? = some v → ∃ b off, a = some ⟨b, off, none⟩ ∧ w.cell? ⟨b, off + i, none⟩ = some v

theorem VRow.below {w w' : World} {a : Option Addr} {vs : List Value} (h : VRow w a vs) (hb : Below w.heap.size w w') : VRow w' a vs := by
  refine ⟨h.1, fun i v hi => ?_⟩
  obtain ⟨b, off, rfl, hc⟩ := h.2 i v hi
  exact ⟨b, off, rfl, (hb.cell (p := ⟨b, off + i, none⟩) (lt_of_cell hc)).trans hc⟩

theorem VRow.drewN {w : World} {a : Option Addr} {vs : List Value} (h : VRow w a vs) (m : Nat) : VRow (w.drewN m) a vs := h

theorem owns_vrow {w : World} {base e size : Nat} {v : Value} {n : Nat} {vs : List Value} (h : w.ownsRow base e size v n vs) (hl : vs.length ≤ 140737488351232) :
    ∃ a cap, v = .slice a n cap ∧ VRow w a vs := by
  rcases h.2 with ⟨hv, h0⟩ | ⟨g, cap, cur, hv, hb, hg, hnc, hcm, hcs, ht⟩
  · subst h0
    have : vs = [] := List.length_eq_zero_iff.1 (by have := h.1; omega)
    subst this
    exact ⟨none, 0, hv, by simp, by simp⟩
  · refine ⟨some ⟨g, 0, none⟩, cap, hv, hl, fun i x hi => ⟨g, 0, rfl, ?_⟩⟩
    have hlt : i < vs.length := (List.getElem?_eq_some_iff.1 hi).1
    have hc := World.ownsRow.cellAt (hv ▸ h) i (by have := h.1; omega)
    rw [Nat.zero_add, hc]
    exact hi

theorem owns_vrow' {w : World} {base e size : Nat} {a : Option Addr} {n cap : Nat} {vs : List Value} (h : w.ownsRow base e size (.slice a n cap) n vs) (hl : vs.length ≤ 140737488351232) : VRow w a vs := by
  obtain ⟨a', c', e, hr⟩ := owns_vrow h hl
  simp only [Value.slice.injEq] at e
  rw [e.1]
  exact hr

/-- Truth values as cells. -/
def bv (bs : List Bool) : List Value := bs.map Value.bool
theorem bv_length (bs : List Bool) : (bv bs).length = bs.length := by simp [bv]
theorem VRow.bool {w : World} {a : Option Addr} {bs : List Bool} (h : VRow w a (bv bs)) (k : Nat) (hk : k < bs.length) : ∃ b off, a = some ⟨b, off, none⟩ ∧ w.cell? ⟨b, off + k, none⟩ = some (.bool (bs.getD k false)) :=
  h.2 k _ (by simp [bv, hk])

/-- Those who wait as cells. -/
def wv (ws : List (Int × Bool)) : List Value := ws.flatMap fun p => [.int .i64 p.1, .bool p.2]
theorem wv_cons (p : Int × Bool) (ws : List (Int × Bool)) : wv (p :: ws) = .int .i64 p.1 :: .bool p.2 :: wv ws := rfl
theorem wv_append (xs ys : List (Int × Bool)) : wv (xs ++ ys) = wv xs ++ wv ys := by simp [wv]
theorem wv_length (ws : List (Int × Bool)) : (wv ws).length = ws.length * 2 := by
  induction ws with
  | nil => rfl
  | cons m ms ih => rw [wv_cons]; simp [ih]; omega
theorem wv_get (ws : List (Int × Bool)) (k : Nat) (hk : k < ws.length) : (wv ws)[k * 2]? = some (.int .i64 (ws.getD k (0, false)).1) ∧ (wv ws)[k * 2 + 1]? = some (.bool (ws.getD k (0, false)).2) := by
  induction ws generalizing k with
  | nil => simp at hk
  | cons p ws ih =>
    cases k with
    | zero => simp [wv_cons]
    | succ k =>
      have h := ih k (by simpa using hk)
      rw [wv_cons]
      rw [show (k + 1) * 2 = k * 2 + 1 + 1 by omega, show k * 2 + 1 + 1 + 1 = (k * 2 + 1) + 1 + 1 by omega]
      simpa using h
theorem VRow.wait {w : World} {a : Option Addr} {ws : List (Int × Bool)} (h : VRow w a (wv ws)) (k : Nat) (hk : k < ws.length) : ∃ b off, a = some ⟨b, off, none⟩ ∧ w.cell? ⟨b, off + k * 2, none⟩ = some (.int .i64 (ws.getD k (0, false)).1) ∧ w.cell? ⟨b, off + k * 2 + 1, none⟩ = some (.bool (ws.getD k (0, false)).2) := by
  obtain ⟨g0, g1⟩ := wv_get ws k hk
  obtain ⟨b, off, rfl, h0⟩ := h.2 _ _ g0
  obtain ⟨b', off', e, h1⟩ := h.2 _ _ g1
  simp only [Option.some.injEq, Addr.mk.injEq, and_true] at e
  obtain ⟨rfl, rfl⟩ := e
  exact ⟨b, off, rfl, h0, by rw [Nat.add_assoc]; exact h1⟩





/-- Two rows of elements of other types do not share a block. -/
theorem owns_kinds {w : World} {b1 b2 e1 e2 s1 s2 n1 n2 : Nat} {v1 v2 : Value} {x1 x2 : List Value} (h1 : w.ownsRow b1 e1 s1 v1 n1 x1) (h2 : w.ownsRow b2 e2 s2 v2 n2 x2) (he : e1 ≠ e2) {j : Nat} (hj : v1.ownBlock = some j) : v2.ownBlock ≠ some j := by
  intro hk
  rcases h1.2 with ⟨rfl, _⟩ | ⟨g, cap, cur, rfl, _, hg, _⟩
  · simp [Value.ownBlock] at hj
  · rcases h2.2 with ⟨rfl, _⟩ | ⟨g', cap', cur', rfl, _, hg', _⟩
    · simp [Value.ownBlock] at hk
    · simp [Value.ownBlock] at hj hk
      subst hj
      subst hk
      rw [hg] at hg'
      simp at hg'
      exact he hg'.2
end Go.Proofs.YtfigbfddhmgafaaDoor
