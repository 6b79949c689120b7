/- A sender as the row hands it over. -/
import Derived.Test.YtiaiomjoapbalaaGreatOpenC
import Derived.Test.YtiaiomjoapbalaaGreatSndSz
import Derived.Deep.Slices
namespace Go.Proofs.YtiaiomjoapbalaaGreat
open Go.ChangeShapes Go.WideShapes Go.ChangeAt Go.RowKit
set_option linter.unusedVariables false

theorem add_off (a : Addr) (b off : Nat) (h : a = ⟨b, off, none⟩) (i : Nat) : a.add i = ⟨b, off + i, none⟩ := by
  subst h
  unfold Addr.add
  split <;> simp_all

/-- A list built index by index. -/
theorem list_of {α : Type} {p : Nat → α → Prop} (n : Nat) (h : ∀ i, i < n → ∃ x, p i x) : ∃ xs : List α, xs.length = n ∧ ∀ i x, xs[i]? = some x → p i x := by
  induction n with
  | zero => exact ⟨[], rfl, by simp⟩
  | succ n ih =>
    obtain ⟨xs, hl, hx⟩ := ih (fun i hi => h i (by omega))
    obtain ⟨y, hy⟩ := h n (by omega)
    refine ⟨xs ++ [y], by simp [hl], fun i x hi => ?_⟩
    by_cases hin : i < xs.length
    · rw [List.getElem?_append_left hin] at hi
      exact hx i x hi
    · rw [List.getElem?_append_right (by omega)] at hi
      have : i - xs.length = 0 := by
        have := (List.getElem?_eq_some_iff.1 hi).1
        simp at this
        omega
      rw [this] at hi
      simp at hi
      subst hi
      have e : i = n := by omega
      rw [e]
      exact hy

set_option maxRecDepth 100000 in
theorem open_msgs {H : Type} {enc : TypeId × Value → H} {W : World} {base : Nat} {held : Bool} {fuel : Nat} {v : Value} {x : DataW H × List MemPlace}
    (h : DataW.trod enc Tryz.prog W base (fun _ => true) held fuel 144 [v] = some x) :
    ∃ (a : Option Addr) (c : Nat) (ms : List M), v = .slice a ms.length c ∧ MCame W a c ms := by
  rcases Go.Deep.open_slice Tryz.underlying144 h with ⟨h0, _⟩ | ⟨a, len, cap, m, n, D, Pl, hcs, hb, hl, hm, hmm, _, hx⟩
  · simp at h0
    exact ⟨none, 0, [], h0, by simp [MCame]⟩
  · simp at hcs
    simp at hmm
    have key : ∀ i, i < len → ∃ x : M, (∃ b off, a = ⟨b, off, none⟩ ∧ At4 W b (off + i * 4) x) ∧ Came .i64 W x.a x.c x.xs := by
      intro i hi
      obtain ⟨cs', h1, h2⟩ := hx i (by omega)
      rw [cells_msg] at h1
      obtain ⟨k, p, o, a', c', xs, rfl, hcame, _, _⟩ := msg_cells h2
      obtain ⟨_, hlen, hcell⟩ := World.cells?_some h1
      have e0 := hcell 0 (by simp)
      have e1 := hcell 1 (by simp)
      have e2 := hcell 2 (by simp)
      have e3 := hcell 3 (by simp)
      rw [Go.Deep.add_add] at e0 e1 e2 e3
      have hs : a.spot = none := by
        obtain ⟨cs0, g1, g2⟩ := hx 0 (by omega)
        rw [cells_msg] at g1
        obtain ⟨_, _, _, _, _, _, rfl, _⟩ := msg_cells g2
        obtain ⟨_, _, gcell⟩ := World.cells?_some g1
        have g0 := gcell 0 (by simp)
        rw [Go.Deep.add_add] at g0
        simpa [Addr.add] using World.cell?_spot g0
      obtain ⟨b, off, spot⟩ := a
      have hspot : spot = none := hs
      subst hspot
      rw [add_off _ b off rfl] at e0 e1 e2 e3
      refine ⟨⟨k, p, o, a', c', xs⟩, ⟨b, off, rfl, ?_, ?_, ?_, ?_⟩, hcame⟩
      · simpa using e0
      · simpa [Nat.add_assoc] using e1
      · simpa [Nat.add_assoc] using e2
      · simpa [Nat.add_assoc] using e3
    obtain ⟨ms, hml, hms⟩ := list_of len key
    refine ⟨some a, cap, ms, by rw [hml]; exact hcs, by omega, hm, fun i x hi => ?_⟩
    obtain ⟨⟨b, off, rfl, h4⟩, hc⟩ := hms i x hi
    exact ⟨⟨b, off, rfl, h4⟩, hc⟩

set_option maxRecDepth 100000 in
theorem open_sender {H : Type} {enc : TypeId × Value → H} {W : World} {base : Nat} {held : Bool} {r : Reach} {b0 : Nat} {v : Value} {d : DataW H} {q : List MemPlace}
    (hv : Value.okWide Tryz.prog W r b0 146 v) (h : DataW.Trod enc Tryz.prog W base (fun _ => true) held 146 v d q) :
    ∃ (B : Int) (a : Option Addr) (c : Nat) (ms : List M), v = .agg #[.int .i64 B, .slice a ms.length c] ∧ MCame W a c ms ∧ (Lit.int .i64 B).wf = true := by
  obtain ⟨c0, c1, y0, y1, fu, rfl, _, _, hy0, hy1⟩ := Go.Joins.open_agg2 Tryz.underlying146 (by kernel_rfl) (by kernel_rfl) hv h
  obtain ⟨B, e0, _, wB⟩ := DataW.trod_int Tryz.underlying3 hy0
  obtain ⟨a, c, ms, rfl, hc⟩ := open_msgs hy1
  simp at e0
  subst e0
  exact ⟨B, a, c, ms, rfl, hc, wB⟩
end Go.Proofs.YtiaiomjoapbalaaGreat
