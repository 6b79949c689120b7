/- What the law's toFrameS, toHomeS, toSenderS, toReceiverS and toNode do, as a reader is told of it. -/
import Derived.Test.YtnhbilhkmbkibaaNdN
import Derived.Test.YtnhbilhkmbkibaaHomT
namespace Go.Proofs.Ytnhbilhkmbkibaa
open Go.RowKit
set_option linter.unusedVariables false

theorem cellN {w : World} {base e n g cap s : Nat} {zs : List Value} (hr : w.ownsRow base e s (.slice (some ⟨g, 0, none⟩) n cap) n zs) {k t : Nat} (hk : k < n) (ht : t < s) : ∃ u, w.cell? ⟨g, k * s + t, none⟩ = some u := by
  have h2 : (k + 1) * s ≤ n * s := Nat.mul_le_mul_right s hk
  rw [Nat.succ_mul] at h2
  exact cell_row4 hr (by omega)
theorem far_ne {w : World} {g e1 e2 s1 s2 n1 n2 l1 l2 c1 : Nat} {v : Value} {x1 x2 : List Value} (h1 : w.ownsRow l1 e1 s1 (.slice (some ⟨g, 0, none⟩) n1 c1) n1 x1) (h2 : w.ownsRow l2 e2 s2 v n2 x2) (he : e1 ≠ e2) : ∀ j, v.ownBlock = some j → g ≠ j := fun j hj e => by
  subst e
  exact owns_kinds h1 h2 he rfl hj

/-- From block lo on all that was there is as it was. -/
def Ab (lo : Nat) (w w' : World) : Prop := ∀ i, lo ≤ i → i < w.heap.size → w'.heap[i]? = w.heap[i]?
theorem Ab.refl (lo : Nat) (w : World) : Ab lo w w := fun _ _ _ => rfl
theorem Ab.trans {lo : Nat} {w w1 w2 : World} (h : Ab lo w w1) (hs : w.heap.size ≤ w1.heap.size) (k : Ab lo w1 w2) : Ab lo w w2 := fun i h1 h2 => (k i h1 (by omega)).trans (h i h1 h2)
theorem Ab.below {lo : Nat} {w w1 w2 : World} (h : Ab lo w w1) (hs : w.heap.size ≤ w1.heap.size) (b : Below w1.heap.size w1 w2) : Ab lo w w2 := fun i h1 h2 => (b.block i (by omega)).trans (h i h1 h2)
theorem Ab.set {lo : Nat} {w w1 : World} (h : Ab lo w w1) (x : Addr) (u : Value) (hx : x.block < lo) : Ab lo w (w1.setCell x u) := fun i h1 h2 => (Below.heap_setCell w1 x u i (by omega)).trans (h i h1 h2)
theorem owns_ab {w w' : World} {lo e s n : Nat} {v : Value} {xs : List Value} (h : w.ownsRow lo e s v n xs) (k : Ab lo w w') : w'.ownsRow lo e s v n xs := by
  refine ⟨h.1, ?_⟩
  rcases h.2 with hn | ⟨g, cap, cur, rfl, hbg, hg, rest⟩
  · exact .inl hn
  · exact .inr ⟨g, cap, cur, rfl, hbg, (k g hbg (Array.getElem?_eq_some_iff.1 hg).1).trans hg, rest⟩

theorem store1 {w : World} {lo e n g c k : Nat} {f : Nat → List Value} (h : w.ownsRow lo e 1 (.slice (some ⟨g, 0, none⟩) n c) n (chunks n f)) (hf : ∀ i, i < n → (f i).length = 1) (hk : k < n) (c0 : Value) :
    (w.setCell ⟨g, k, none⟩ c0).ownsRow lo e 1 (.slice (some ⟨g, 0, none⟩) n c) n (chunks n fun i => if i = k then [c0] else f i) := by
  have h1 := owns_stored h hf hk (j := 0) (by decide) c0
  rw [Nat.mul_one, Nat.add_zero] at h1
  refine owns_congr h1 (fun i hi => ?_)
  have hl := hf i hi
  by_cases e : i = k
  · simp only [if_pos e]
    match hq : f i, hl with
    | [x], _ => rfl
  · simp only [if_neg e]
theorem store2 {w : World} {lo e n g c k : Nat} {f : Nat → List Value} (h : w.ownsRow lo e 2 (.slice (some ⟨g, 0, none⟩) n c) n (chunks n f)) (hf : ∀ i, i < n → (f i).length = 2) (hk : k < n) (c0 c1 : Value) :
    ((w.setCell ⟨g, k * 2, none⟩ c0).setCell ⟨g, k * 2 + 1, none⟩ c1).ownsRow lo e 2 (.slice (some ⟨g, 0, none⟩) n c) n (chunks n fun i => if i = k then [c0, c1] else f i) := by
  have h1 := owns_stored h hf hk (j := 0) (by decide) c0
  have h2 := owns_stored h1 (set_len hf _ _ _) hk (j := 1) (by decide) c1
  refine owns_congr h2 (fun i hi => ?_)
  have hl := hf i hi
  by_cases e : i = k
  · simp only [if_pos e]
    match hq : f i, hl with
    | [x, y], _ => rfl
  · simp only [if_neg e]
theorem store3 {w : World} {lo e n g c k : Nat} {f : Nat → List Value} (h : w.ownsRow lo e 3 (.slice (some ⟨g, 0, none⟩) n c) n (chunks n f)) (hf : ∀ i, i < n → (f i).length = 3) (hk : k < n) (c0 c1 c2 : Value) :
    (((w.setCell ⟨g, k * 3, none⟩ c0).setCell ⟨g, k * 3 + 1, none⟩ c1).setCell ⟨g, k * 3 + 2, none⟩ c2).ownsRow lo e 3 (.slice (some ⟨g, 0, none⟩) n c) n (chunks n fun i => if i = k then [c0, c1, c2] else f i) := by
  have h1 := owns_stored h hf hk (j := 0) (by decide) c0
  have h2 := owns_stored h1 (set_len hf _ _ _) hk (j := 1) (by decide) c1
  have h3 := owns_stored h2 (set_len (set_len hf _ _ _) _ _ _) hk (j := 2) (by decide) c2
  refine owns_congr h3 (fun i hi => ?_)
  have hl := hf i hi
  by_cases e : i = k
  · simp only [if_pos e]
    match hq : f i, hl with
    | [x, y, z], _ => rfl
  · simp only [if_neg e]
theorem store8 {w : World} {lo e n g c k : Nat} {f : Nat → List Value} (h : w.ownsRow lo e 8 (.slice (some ⟨g, 0, none⟩) n c) n (chunks n f)) (hf : ∀ i, i < n → (f i).length = 8) (hk : k < n) (c0 c1 c2 c3 c4 c5 c6 c7 : Value) :
    (W8 w g (k * 8) c0 c1 c2 c3 c4 c5 c6 c7).ownsRow lo e 8 (.slice (some ⟨g, 0, none⟩) n c) n (chunks n fun i => if i = k then [c0, c1, c2, c3, c4, c5, c6, c7] else f i) := by
  have k0 := owns_stored h hf hk (j := 0) (by decide) c0
  have k1 := owns_stored k0 (set_len hf _ _ _) hk (j := 1) (by decide) c1
  have k2 := owns_stored k1 (set_len (set_len hf _ _ _) _ _ _) hk (j := 2) (by decide) c2
  have k3 := owns_stored k2 (set_len (set_len (set_len hf _ _ _) _ _ _) _ _ _) hk (j := 3) (by decide) c3
  have k4 := owns_stored k3 (set_len (set_len (set_len (set_len hf _ _ _) _ _ _) _ _ _) _ _ _) hk (j := 4) (by decide) c4
  have k5 := owns_stored k4 (set_len (set_len (set_len (set_len (set_len hf _ _ _) _ _ _) _ _ _) _ _ _) _ _ _) hk (j := 5) (by decide) c5
  have k6 := owns_stored k5 (set_len (set_len (set_len (set_len (set_len (set_len hf _ _ _) _ _ _) _ _ _) _ _ _) _ _ _) _ _ _) hk (j := 6) (by decide) c6
  have k7 := owns_stored k6 (set_len (set_len (set_len (set_len (set_len (set_len (set_len hf _ _ _) _ _ _) _ _ _) _ _ _) _ _ _) _ _ _) _ _ _) hk (j := 7) (by decide) c7
  refine owns_congr k7 (fun i hi => ?_)
  have hl := hf i hi
  by_cases e : i = k
  · simp only [if_pos e]
    match hq : f i, hl with
    | [x0, x1, x2, x3, x4, x5, x6, x7], _ => rfl
  · simp only [if_neg e]

/-- Laid as far as place k. -/
theorem far_step {n k : Nat} {m : Nat → List Value} {z c : List Value} {m' : Nat → List Value} (hm : ∀ i, i < k → m' i = m i) (hc : m' k = c) : ∀ i, i < n → (if i = k then c else (if i < k then m i else z)) = (if i < k + 1 then m' i else z) := fun i _ => by
  by_cases h : i = k
  · subst h
    rw [if_pos rfl, if_pos (by omega), hc]
  · rw [if_neg h]
    by_cases h2 : i < k
    · rw [if_pos h2, if_pos (by omega), hm i h2]
    · rw [if_neg h2, if_neg (by omega)]

/-- A row of frames that is laid as far as place k, each with its words. -/
structure FT (w : World) (lo g n k : Nat) (d : Nat → FD) (p : Nat → Pl) : Prop where
  row : w.ownsRow lo 70 3 (.slice (some ⟨g, 0, none⟩) n n) n (chunks n fun i => if i < k then fcells (d i) (p i) else f0 0 false)
  l : ∀ i, i < k → w.ownsRow lo 3 1 (.slice (p i).1 (d i).xs.length (p i).2) (d i).xs.length ((d i).xs.map (Value.int .i64))
theorem FT.step {w w2 : World} {lo g n k : Nat} {d : Nat → FD} {p : Nat → Pl} (h : FT w lo g n k d p) (hk : k < n) (b : Below w.heap.size w w2) (hlo : lo ≤ w.heap.size) {a2 : Option Addr} {c2 : Nat} (o2 : w2.ownsRow w.heap.size 3 1 (.slice a2 (d k).xs.length c2) (d k).xs.length ((d k).xs.map (Value.int .i64))) :
    FT (((w2.setCell ⟨g, k * 3, none⟩ (.int .i64 (d k).s)).setCell ⟨g, k * 3 + 1, none⟩ (.slice a2 (d k).xs.length c2)).setCell ⟨g, k * 3 + 2, none⟩ (.bool (d k).q)) lo g n (k + 1) d (fun i => if i = k then (a2, c2) else p i) := by
  have hr := owns_below h.row b
  have hf : ∀ i, i < n → ((fun i => if i < k then fcells (d i) (p i) else f0 0 false) i).length = 3 := fun i _ => by dsimp only; split <;> rfl
  have hs := store3 hr hf hk (.int .i64 (d k).s) (.slice a2 (d k).xs.length c2) (.bool (d k).q)
  have far : ∀ {e n2 lo2 : Nat} {v : Value} {xs : List Value}, w2.ownsRow lo2 e 1 v n2 xs → e ≠ 70 → (((w2.setCell ⟨g, k * 3, none⟩ (.int .i64 (d k).s)).setCell ⟨g, k * 3 + 1, none⟩ (.slice a2 (d k).xs.length c2)).setCell ⟨g, k * 3 + 2, none⟩ (.bool (d k).q)).ownsRow lo2 e 1 v n2 xs := fun ho he => by
    have ne := far_ne hr ho he.symm
    exact owns_setCell (owns_setCell (owns_setCell ho ne _) ne _) ne _
  refine ⟨owns_congr hs (far_step (fun i hi => by rw [if_neg (by omega)]) (by simp [fcells])), fun i hi => ?_⟩
  by_cases e : i = k
  · subst e
    simp only [if_pos]
    exact far (owns_base o2 hlo) (by decide)
  · simp only [if_neg e]
    exact far (owns_below (h.l i (by omega)) b) (by decide)
theorem FT.fr {w : World} {lo g n : Nat} {d : Nat → FD} {p : Nat → Pl} (h : FT w lo g n n d p) (hn : n ≤ 1048576) (hx : ∀ i, i < n → (d i).xs.length ≤ 1048576) : FR w (some ⟨g, 0, none⟩) n d p := by
  refine ⟨by omega, ?_, fun i hi => owns_row' (h.l i hi) (by have := hx i hi; omega)⟩
  have h1 := owns_congr (g := fun i => fcells (d i) (p i)) h.row (fun i hi => by rw [if_pos hi])
  exact owns_vrow' h1 (by rw [chunks_length (s := 3) n (fun i _ => rfl)]; omega)

theorem FT.ab {w w' : World} {lo g n k : Nat} {d : Nat → FD} {p : Nat → Pl} (h : FT w lo g n k d p) (b : Ab lo w w') : FT w' lo g n k d p := ⟨owns_ab h.row b, fun i hi => owns_ab (h.l i hi) b⟩

end Go.Proofs.Ytnhbilhkmbkibaa
