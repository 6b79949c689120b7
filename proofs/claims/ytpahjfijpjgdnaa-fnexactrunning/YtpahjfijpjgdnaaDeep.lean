/- Rows of messages that are owned, with their words. -/
import Derived.Test.YtpahjfijpjgdnaaRwC
import Derived.Test.YtpahjfijpjgdnaaPacket
namespace Go.Proofs.Ytpahjfijpjgdnaa
open Go.RowKit
set_option linter.unusedVariables false

abbrev M.v (m : M) : Value := .slice m.a m.xs.length m.c
def M.cells (m : M) : List Value := [.int .i64 m.k, .int .i64 m.p, .bool m.o, m.v]
def flat (ms : List M) : List Value := ms.flatMap M.cells

theorem flat_nil : flat [] = [] := rfl
theorem flat_cons (m : M) (ms : List M) : flat (m :: ms) = m.cells ++ flat ms := rfl
theorem flat_append (xs ys : List M) : flat (xs ++ ys) = flat xs ++ flat ys := by simp [flat]
theorem flat_length (ms : List M) : (flat ms).length = ms.length * 4 := by
  induction ms with
  | nil => rfl
  | cons m ms ih => rw [flat_cons, List.length_append, ih]; simp [M.cells]; omega
theorem flat_get (ms : List M) (i : Nat) (m : M) (h : ms[i]? = some m) (j : Nat) (hj : j < 4) : (flat ms)[i * 4 + j]? = m.cells[j]? := by
  induction ms generalizing i with
  | nil => simp at h
  | cons m' ms ih =>
    rw [flat_cons]
    cases i with
    | zero =>
      simp at h
      subst h
      rw [List.getElem?_append_left (by simp [M.cells]; omega)]
      simp
    | succ i =>
      simp at h
      rw [List.getElem?_append_right (by simp [M.cells]; omega)]
      have e : (i + 1) * 4 + j - m'.cells.length = i * 4 + j := by simp [M.cells]; omega
      rw [e]
      exact ih i h

/-- The words' rows of messages: each owned, no two in one block. -/
def Lists (w : World) (lo : Nat) (ms : List M) : Prop :=
  (∀ m ∈ ms, w.ownsRow lo 3 1 m.v m.xs.length (m.xs.map (Value.int .i64))) ∧ ms.Pairwise (fun m m' => ∀ j, m.v.ownBlock = some j → m'.v.ownBlock ≠ some j)

theorem Lists.nil (w : World) (lo : Nat) : Lists w lo [] := ⟨by simp, List.Pairwise.nil⟩
theorem Lists.below {w w' : World} {lo : Nat} {ms : List M} (h : Lists w lo ms) (hb : Below w.heap.size w w') : Lists w' lo ms := ⟨fun m hm => owns_below (h.1 m hm) hb, h.2⟩
theorem Lists.base {w : World} {lo lo' : Nat} {ms : List M} (h : Lists w lo ms) (hl : lo' ≤ lo) : Lists w lo' ms := ⟨fun m hm => owns_base (h.1 m hm) hl, h.2⟩
theorem Lists.dr {w w' : World} {lo d : Nat} {ms : List M} (h : Lists w lo ms) (e : w' = w.drewN d) : Lists w' lo ms := by subst e; exact h
theorem Lists.lt {w : World} {lo : Nat} {ms : List M} (h : Lists w lo ms) {m : M} (hm : m ∈ ms) {j : Nat} (hj : m.v.ownBlock = some j) : lo ≤ j ∧ j < w.heap.size := (h.1 m hm).lt j hj
theorem Lists.snoc {w : World} {lo : Nat} {ms : List M} {m : M} (h : Lists w lo ms) (hm : w.ownsRow lo 3 1 m.v m.xs.length (m.xs.map (Value.int .i64)))
    (hne : ∀ x ∈ ms, ∀ j, x.v.ownBlock = some j → m.v.ownBlock ≠ some j) : Lists w lo (ms ++ [m]) := by
  refine ⟨fun x hx => ?_, ?_⟩
  · rcases List.mem_append.1 hx with hx | hx
    · exact h.1 x hx
    · simp at hx; subst hx; exact hm
  · rw [List.pairwise_append]
    refine ⟨h.2, by simp, fun x hx y hy => ?_⟩
    simp at hy
    subst hy
    exact hne x hx
theorem Lists.far {w : World} {lo : Nat} {ms : List M} (h : Lists w lo ms) (a : Addr) (u : Value) (hne : ∀ m ∈ ms, ∀ j, m.v.ownBlock = some j → a.block ≠ j) : Lists (w.setCell a u) lo ms :=
  ⟨fun m hm => owns_setCell (h.1 m hm) (hne m hm) u, h.2⟩

/-- Two rows of elements of other types do not share a block. -/
theorem owns_types {w : World} {b1 b2 e1 e2 s1 s2 n1 n2 : Nat} {v1 v2 : Value} {x1 x2 : List Value} (h1 : w.ownsRow b1 e1 s1 v1 n1 x1) (h2 : w.ownsRow b2 e2 s2 v2 n2 x2) (he : e1 ≠ e2) {j : Nat} (hj : v1.ownBlock = some j) : v2.ownBlock ≠ some j := by
  intro hk
  rcases h1.2 with ⟨rfl, _⟩ | ⟨g, cap, cur, rfl, _, hg, _⟩
  · simp [Value.ownBlock] at hj
  · rcases h2.2 with ⟨rfl, _⟩ | ⟨g', cap', cur', rfl, _, hg', _⟩
    · simp [Value.ownBlock] at hk
    · simp [Value.ownBlock] at hj hk
      subst hj
      subst hk
      rw [hg] at hg'
      simp at hg'
      exact he hg'.2

/-- An owned row of messages with their words. -/
structure Deep (w : World) (lo : Nat) (a : Option Addr) (c : Nat) (ms : List M) : Prop where
  row : w.ownsRow lo 88 4 (.slice a ms.length c) ms.length (flat ms)
  lists : Lists w lo ms

theorem Deep.below {w w' : World} {lo : Nat} {a : Option Addr} {c : Nat} {ms : List M} (h : Deep w lo a c ms) (hb : Below w.heap.size w w') : Deep w' lo a c ms := ⟨owns_below h.row hb, h.lists.below hb⟩
theorem Deep.dr {w w' : World} {lo d : Nat} {a : Option Addr} {c : Nat} {ms : List M} (h : Deep w lo a c ms) (e : w' = w.drewN d) : Deep w' lo a c ms := by subst e; exact ⟨h.row, h.lists⟩

/-- What a reader is told of an owned row. -/
theorem Deep.mrow {w : World} {lo : Nat} {a : Option Addr} {c : Nat} {ms : List M} (h : Deep w lo a c ms) (hl : ms.length ≤ 1048577) (hx : ∀ m ∈ ms, m.xs.length ≤ 1048577) : MRow w a ms := by
  refine ⟨hl, fun i m hm => ⟨?_, owns_row' (h.lists.1 m (List.mem_of_getElem? hm)) (by have := hx m (List.mem_of_getElem? hm); omega)⟩⟩
  obtain ⟨hi, _⟩ := List.getElem?_eq_some_iff.1 hm
  obtain ⟨g, rfl⟩ := owns_addr h.row (by omega)
  refine ⟨g, 0, rfl, ?_⟩
  have key : ∀ j, j < 4 → w.cell? ⟨g, i * 4 + j, none⟩ = m.cells[j]? := fun j hj => by
    rw [h.row.cellAt (i * 4 + j) (by omega), flat_get ms i m hm j hj]
  rw [Nat.zero_add]
  exact ⟨by simpa [M.cells] using key 0 (by omega), by simpa [M.cells] using key 1 (by omega), by simpa [M.cells] using key 2 (by omega), by simpa [M.cells] using key 3 (by omega)⟩

theorem stored4 {w : World} {base n g cap k : Nat} {ds : List M} {zs : List Value} (m : M) (hr : w.ownsRow base 88 4 (.slice (some ⟨g, 0, none⟩) n cap) n (flat ds ++ zs.drop (k * 4))) (hd : ds.length = k) (hz : zs.length = n * 4) (hk : k < n) :
    ((((w.setCell ⟨g, k * 4, none⟩ (.int .i64 m.k)).setCell ⟨g, k * 4 + 1, none⟩ (.int .i64 m.p)).setCell ⟨g, k * 4 + 2, none⟩ (.bool m.o)).setCell ⟨g, k * 4 + 3, none⟩ (.slice m.a m.xs.length m.c)).ownsRow base 88 4 (.slice (some ⟨g, 0, none⟩) n cap) n (flat (ds ++ [m]) ++ zs.drop ((k + 1) * 4)) := by
  have h0 := (hr.stored (k * 4) (.int .i64 m.k)).1
  rw [set_marks _ _ _ _ (by rw [flat_length]; omega) (by omega)] at h0
  have h1 := (h0.stored (k * 4 + 1) (.int .i64 m.p)).1
  rw [set_marks _ _ _ _ (by rw [List.length_append, flat_length]; simp; omega) (by omega)] at h1
  have h2 := (h1.stored (k * 4 + 1 + 1) (.bool m.o)).1
  rw [set_marks _ _ _ _ (by simp only [List.length_append, flat_length]; simp; omega) (by omega)] at h2
  have h3 := (h2.stored (k * 4 + 1 + 1 + 1) (.slice m.a m.xs.length m.c)).1
  rw [set_marks _ _ _ _ (by simp only [List.length_append, flat_length]; simp; omega) (by omega)] at h3
  have e : flat (ds ++ [m]) ++ zs.drop ((k + 1) * 4) = flat ds ++ [.int .i64 m.k] ++ [.int .i64 m.p] ++ [.bool m.o] ++ [.slice m.a m.xs.length m.c] ++ zs.drop (k * 4 + 1 + 1 + 1 + 1) := by
    rw [flat_append, show (k + 1) * 4 = k * 4 + 1 + 1 + 1 + 1 by omega]
    simp [flat, M.cells]
  rw [e]
  exact h3
end Go.Proofs.Ytpahjfijpjgdnaa
