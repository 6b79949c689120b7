/- A row grows by one element. -/
import Derived.Test.YtnhbilhkmbkibaaWtP
namespace Go.Proofs.Ytnhbilhkmbkibaa
open Go.RowKit
set_option linter.unusedVariables false

/-- A row grows by one element. -/
theorem Rw.snoc {wr w2 w5 : World} {e s k c g cap : Nat} {a : Option Addr} {f : Nat → List Value} {Q : Nat → Nat → Prop} {E : Nat → World → Prop} (h : Rw wr e s a c k k f Q E) (b : Below wr.heap.size wr w2) {cs : List Value} {E' : World → Prop} {Q' : Nat → Prop}
    (he : E' w2) (hfix : Fix Q' E') (hQ : ∀ x, Q' x → wr.heap.size ≤ x ∧ x < w2.heap.size)
    (o5 : w5.ownsRow 0 e s (.slice (some ⟨g, 0, none⟩) (k + 1) cap) (k + 1) (chunks k f ++ cs)) (g5 : w2.grownBy w5 (Value.slice a k c).ownBlock) (hg : (Value.slice a k c).ownBlock = some g ∨ g = w2.heap.size) :
    Rw w5 e s (some ⟨g, 0, none⟩) cap (k + 1) (k + 1) (fun i => if i = k then cs else f i) (fun i => if i = k then Q' else Q i) (fun i => if i = k then E' else E i) := by
  have hold : ∀ x, (Value.slice a k c).ownBlock = some x → x < wr.heap.size := fun x hx => (h.row.lt x hx).2
  have on : Only w2 w5 (fun x => (Value.slice a k c).ownBlock = some x) := (Only.refl w2 _).grown g5 (fun j hj => hj)
  have hs := b.size
  refine ⟨?_, fun i hi => ?_, fun i hi => ?_, fun i hi g' hg' => ?_, fun i k' hi hk hne b' => ?_, fun i hi b' hb => ?_⟩
  · rw [chunks_succ]
    simp only [if_pos]
    rw [chunks_congr (n := k) (f := fun i => if i = k then cs else f i) (g := f) (fun i hi => by rw [if_neg (by omega)])]
    exact o5
  · by_cases e' : i = k
    · simp only [if_pos e']
      exact hfix w2 w5 (on.sm (fun x hx hs => by have := hQ x hx; have := hold x hs; omega)) he
    · simp only [if_neg e']
      have hi' : i < k := by omega
      exact h.fix i hi' wr w5 (Sm.trans (sm_bel b) (on.sm (fun x hx hs => h.out i hi' x (blk_eq hs) hx))) (h.el i hi')
  · by_cases e' : i = k
    · simp only [if_pos e']; exact hfix
    · simp only [if_neg e']; exact h.fix i (by omega)
  · simp [blk] at hg'
    subst hg'
    by_cases e' : i = k
    · simp only [if_pos e']
      intro hq
      have h1 := hQ g hq
      rcases hg with hg | hg
      · have := hold g hg; omega
      · omega
    · simp only [if_neg e']
      intro hq
      rcases hg with hg | hg
      · exact h.out i (by omega) g (blk_eq hg) hq
      · have := h.lt i (by omega) g hq
        omega
  · by_cases e1 : i = k
    · by_cases e2 : k' = k
      · exact absurd (e1.trans e2.symm) hne
      · simp only [if_pos e1, if_neg e2]
        intro h1 h2
        have h3 := hQ b' h1
        have h4 := h.lt k' (by omega) b' h2
        omega
    · by_cases e2 : k' = k
      · simp only [if_neg e1, if_pos e2]
        intro h1 h2
        have h3 := hQ b' h2
        have h4 := h.lt i (by omega) b' h1
        omega
      · simp only [if_neg e1, if_neg e2]; exact h.ap i k' (by omega) (by omega) hne b'
  · have h5 : w2.heap.size ≤ w5.heap.size := g5.size
    by_cases e' : i = k
    · simp only [if_pos e'] at hb
      have := hQ b' hb
      omega
    · simp only [if_neg e'] at hb
      have := h.lt i (by omega) b' hb
      omega

end Go.Proofs.Ytnhbilhkmbkibaa
