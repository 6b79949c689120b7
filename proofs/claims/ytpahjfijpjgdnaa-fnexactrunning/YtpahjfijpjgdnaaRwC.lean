/- Rows of any struct: their cells element by element; owned rows whose elements own memory besides, by the blocks of each. -/
import Derived.Test.YtpahjfijpjgdnaaHomM
import Derived.Test.YtpahjfijpjgdnaaKeep
namespace Go.Proofs.Ytpahjfijpjgdnaa
open Go.RowKit
set_option linter.unusedVariables false

theorem cell_row4 {w : World} {base e n g cap k size : Nat} {zs : List Value} (hr : w.ownsRow base e size (.slice (some ⟨g, 0, none⟩) n cap) n zs) (hlt : k < n * size) : ∃ u, w.cell? ⟨g, k, none⟩ = some u := by
  rw [hr.cellAt k hlt]
  exact ⟨_, List.getElem?_eq_getElem (by have := hr.1; omega)⟩

/-- A row's cells, element by element. -/
def chunks (n : Nat) (f : Nat → List Value) : List Value := (List.range n).flatMap f
theorem chunks_succ (n : Nat) (f : Nat → List Value) : chunks (n + 1) f = chunks n f ++ f n := by simp [chunks, List.range_succ]
theorem chunks_zero (f : Nat → List Value) : chunks 0 f = [] := rfl
theorem chunks_length {s : Nat} (n : Nat) {f : Nat → List Value} (hf : ∀ i, i < n → (f i).length = s) : (chunks n f).length = n * s := by
  induction n with
  | zero => simp [chunks]
  | succ n ih => rw [chunks_succ, List.length_append, ih (fun i hi => hf i (by omega)), hf n (by omega), Nat.succ_mul]
theorem chunks_get {s n : Nat} {f : Nat → List Value} (hf : ∀ i, i < n → (f i).length = s) {i j : Nat} (hi : i < n) (hj : j < s) : (chunks n f)[i * s + j]? = (f i)[j]? := by
  induction n with
  | zero => omega
  | succ n ih =>
    have hl := chunks_length n (f := f) (s := s) (fun i hi => hf i (by omega))
    rw [chunks_succ]
    by_cases h : i < n
    · have h2 : (i + 1) * s ≤ n * s := Nat.mul_le_mul_right s h
      rw [Nat.succ_mul] at h2
      rw [List.getElem?_append_left (by omega)]
      exact ih (fun i hi => hf i (by omega)) h
    · obtain rfl : i = n := by omega
      rw [List.getElem?_append_right (by omega), hl]
      congr 1
      omega
theorem chunks_congr {n : Nat} {f g : Nat → List Value} (h : ∀ i, i < n → f i = g i) : chunks n f = chunks n g := by
  induction n with
  | zero => rfl
  | succ n ih => rw [chunks_succ, chunks_succ, ih (fun i hi => h i (by omega)), h n (by omega)]
theorem chunks_set {s n : Nat} {f : Nat → List Value} (hf : ∀ i, i < n → (f i).length = s) {i j : Nat} (hi : i < n) (hj : j < s) (u : Value) :
    (chunks n f).set (i * s + j) u = chunks n (fun x => if x = i then (f x).set j u else f x) := by
  induction n with
  | zero => omega
  | succ n ih =>
    have hl := chunks_length n (f := f) (s := s) (fun i hi => hf i (by omega))
    rw [chunks_succ, chunks_succ]
    by_cases h : i < n
    · have h2 : (i + 1) * s ≤ n * s := Nat.mul_le_mul_right s h
      rw [Nat.succ_mul] at h2
      rw [List.set_append_left _ _ (by omega), ih (fun i hi => hf i (by omega)) h, if_neg (by omega)]
    · obtain rfl : i = n := by omega
      rw [List.set_append_right _ _ (by omega), hl, if_pos rfl]
      congr 1
      · exact chunks_congr (fun x hx => by rw [if_neg (by omega)])
      · congr 1
        omega
theorem VRow.chunk {w : World} {a : Option Addr} {s n : Nat} {f : Nat → List Value} (h : VRow w a (chunks n f)) (hf : ∀ i, i < n → (f i).length = s) (hs : 0 < s) {i : Nat} (hi : i < n) :
    ∃ b off, a = some ⟨b, off, none⟩ ∧ ∀ j v, (f i)[j]? = some v → w.cell? ⟨b, off + i * s + j, none⟩ = some v := by
  have hl := hf i hi
  obtain ⟨b, off, rfl, _⟩ := h.2 (i * s + 0) _ ((chunks_get hf hi hs).trans (List.getElem?_eq_getElem (by omega)))
  refine ⟨b, off, rfl, fun j v hv => ?_⟩
  have hj : j < s := by have := (List.getElem?_eq_some_iff.1 hv).1; omega
  obtain ⟨b', off', e, hc⟩ := h.2 (i * s + j) v ((chunks_get hf hi hj).trans hv)
  simp only [Option.some.injEq, Addr.mk.injEq, and_true] at e
  obtain ⟨rfl, rfl⟩ := e
  rw [Nat.add_assoc]
  exact hc
abbrev Pl := Option Addr × Nat

theorem row_drew {k : IntKind} {w : World} {a : Option Addr} {xs : List Int} (h : Row k w a xs) : Row k w.drew a xs := h
theorem vrow_drew {w : World} {a : Option Addr} {xs : List Value} (h : VRow w a xs) : VRow w.drew a xs := h

theorem owns_chunk {w : World} {lo e s n g c : Nat} {f : Nat → List Value} (h : w.ownsRow lo e s (.slice (some ⟨g, 0, none⟩) n c) n (chunks n f)) (hf : ∀ i, i < n → (f i).length = s) {i j : Nat} (hi : i < n) (hj : j < s) :
    w.cell? ⟨g, i * s + j, none⟩ = (f i)[j]? := by
  have h2 : (i + 1) * s ≤ n * s := Nat.mul_le_mul_right s hi
  rw [Nat.succ_mul] at h2
  rw [h.cellAt (i * s + j) (by omega), chunks_get hf hi hj]
theorem owns_stored {w : World} {lo e s n g c : Nat} {f : Nat → List Value} (h : w.ownsRow lo e s (.slice (some ⟨g, 0, none⟩) n c) n (chunks n f)) (hf : ∀ i, i < n → (f i).length = s) {i j : Nat} (hi : i < n) (hj : j < s) (u : Value) :
    (w.setCell ⟨g, i * s + j, none⟩ u).ownsRow lo e s (.slice (some ⟨g, 0, none⟩) n c) n (chunks n (fun x => if x = i then (f x).set j u else f x)) := by
  have h2 := (h.stored (i * s + j) u).1
  rw [chunks_set hf hi hj] at h2
  exact h2
theorem owns_congr {w : World} {lo e s n : Nat} {v : Value} {f g : Nat → List Value} (h : w.ownsRow lo e s v n (chunks n f)) (hfg : ∀ i, i < n → f i = g i) : w.ownsRow lo e s v n (chunks n g) := by
  rw [← chunks_congr hfg]
  exact h
theorem set_len {f : Nat → List Value} {n s : Nat} (hf : ∀ i, i < n → (f i).length = s) (i j : Nat) (u : Value) : ∀ x, x < n → ((fun x => if x = i then (f x).set j u else f x) x).length = s := fun x hx => by
  dsimp only
  by_cases e : x = i
  · rw [if_pos e, List.length_set]; exact hf x hx
  · rw [if_neg e]; exact hf x hx
theorem upto_step {n : Nat} {j : Nat} {m o : Nat → List Value} {c : List Value} (hc : c = m j) : ∀ i, i < n → (if i = j then c else (if i < j then m i else o i)) = (if i < j + 1 then m i else o i) := fun i _ => by
  by_cases h : i = j
  · subst h
    rw [if_pos rfl, if_pos (by omega), hc]
  · rw [if_neg h]
    by_cases h2 : i < j
    · rw [if_pos h2, if_pos (by omega)]
    · rw [if_neg h2, if_neg (by omega)]

def blk (p : Pl) : Option Nat := p.1.map (·.block)
theorem blk_eq {a : Option Addr} {n c j : Nat} (h : (Value.slice a n c).ownBlock = some j) : blk (a, c) = some j := by
  cases a with
  | none => simp [Value.ownBlock] at h
  | some x => simpa [Value.ownBlock, blk] using h
theorem owns_cast {w : World} {lo e s n n' : Nat} {v v' : Value} {xs xs' : List Value} (h : w.ownsRow lo e s v n xs) (h1 : v = v') (h2 : n = n') (h3 : xs = xs') : w.ownsRow lo e s v' n' xs' := by subst h1 h2 h3; exact h
theorem cell_kept {w w' : World} {row : Option Nat} (g : w.grownBy w' row) {m : Nat} (hm : m < w.heap.size) (hne : row ≠ some m) (t : Nat) : w'.cell? ⟨m, t, none⟩ = w.cell? ⟨m, t, none⟩ := by
  have h := g.block m hm (fun e => hne e.symm)
  simp only [World.cell?, h]
theorem frozen_kept {w w' : World} {row : Option Nat} (g : w.grownBy w' row) {m : Nat} (hm : m < w.heap.size) (hne : row ≠ some m) (t : Nat) : w'.frozen? ⟨m, t, none⟩ = w.frozen? ⟨m, t, none⟩ := by
  have h := g.block m hm (fun e => hne e.symm)
  simp only [World.frozen?, h]

theorem made_chunks (z : Array Value) (s n : Nat) (hs : z.size = s) (h0 : 0 < s) : (madeCells z (n * s)).toList = chunks n fun _ => z.toList := by
  apply List.ext_getElem?
  intro k
  by_cases hk : k < n * s
  · have hd : k / s < n := Nat.div_lt_of_lt_mul (by rw [Nat.mul_comm]; exact hk)
    have hm : k % s < s := Nat.mod_lt _ h0
    have e : k = k / s * s + k % s := by have := Nat.div_add_mod k s; rw [Nat.mul_comm] at this; omega
    have h1 : (chunks n fun _ => z.toList)[k / s * s + k % s]? = z.toList[k % s]? := chunks_get (s := s) (fun i _ => by simp [hs]) hd hm
    rw [← e] at h1
    rw [h1]
    simp [madeCells, hk, hs, hm]
  · rw [List.getElem?_eq_none (by simp [size_madeCells]; omega), List.getElem?_eq_none (by rw [chunks_length (s := s) n (fun i _ => by simp [hs])]; omega)]

theorem cellN {w : World} {base e n g cap s : Nat} {zs : List Value} (hr : w.ownsRow base e s (.slice (some ⟨g, 0, none⟩) n cap) n zs) {k t : Nat} (hk : k < n) (ht : t < s) : ∃ u, w.cell? ⟨g, k * s + t, none⟩ = some u := by
  have h2 : (k + 1) * s ≤ n * s := Nat.mul_le_mul_right s hk
  rw [Nat.succ_mul] at h2
  exact cell_row4 hr (by omega)
theorem far_ne {w : World} {g e1 e2 s1 s2 n1 n2 l1 l2 c1 : Nat} {v : Value} {x1 x2 : List Value} (h1 : w.ownsRow l1 e1 s1 (.slice (some ⟨g, 0, none⟩) n1 c1) n1 x1) (h2 : w.ownsRow l2 e2 s2 v n2 x2) (he : e1 ≠ e2) : ∀ j, v.ownBlock = some j → g ≠ j := fun j hj e => by
  subst e
  exact owns_kinds h1 h2 he rfl hj
/-- From block lo on all that was there is as it was. -/
def Ab (lo : Nat) (w w' : World) : Prop := ∀ i, lo ≤ i → i < w.heap.size → w'.heap[i]? = w.heap[i]?
theorem Ab.refl (lo : Nat) (w : World) : Ab lo w w := fun _ _ _ => rfl
theorem Ab.trans {lo : Nat} {w w1 w2 : World} (h : Ab lo w w1) (hs : w.heap.size ≤ w1.heap.size) (k : Ab lo w1 w2) : Ab lo w w2 := fun i h1 h2 => (k i h1 (by omega)).trans (h i h1 h2)
theorem Ab.below {lo : Nat} {w w1 w2 : World} (h : Ab lo w w1) (hs : w.heap.size ≤ w1.heap.size) (b : Below w1.heap.size w1 w2) : Ab lo w w2 := fun i h1 h2 => (b.block i (by omega)).trans (h i h1 h2)
theorem Ab.set {lo : Nat} {w w1 : World} (h : Ab lo w w1) (x : Addr) (u : Value) (hx : x.block < lo) : Ab lo w (w1.setCell x u) := fun i h1 h2 => (Below.heap_setCell w1 x u i (by omega)).trans (h i h1 h2)
theorem owns_ab {w w' : World} {lo e s n : Nat} {v : Value} {xs : List Value} (h : w.ownsRow lo e s v n xs) (k : Ab lo w w') : w'.ownsRow lo e s v n xs := by
  refine ⟨h.1, ?_⟩
  rcases h.2 with hn | ⟨g, cap, cur, rfl, hbg, hg, rest⟩
  · exact .inl hn
  · exact .inr ⟨g, cap, cur, rfl, hbg, (k g hbg (Array.getElem?_eq_some_iff.1 hg).1).trans hg, rest⟩
theorem store1 {w : World} {lo e n g c k : Nat} {f : Nat → List Value} (h : w.ownsRow lo e 1 (.slice (some ⟨g, 0, none⟩) n c) n (chunks n f)) (hf : ∀ i, i < n → (f i).length = 1) (hk : k < n) (c0 : Value) :
    (w.setCell ⟨g, k, none⟩ c0).ownsRow lo e 1 (.slice (some ⟨g, 0, none⟩) n c) n (chunks n fun i => if i = k then [c0] else f i) := by
  have h1 := owns_stored h hf hk (j := 0) (by decide) c0
  rw [Nat.mul_one, Nat.add_zero] at h1
  refine owns_congr h1 (fun i hi => ?_)
  have hl := hf i hi
  by_cases e : i = k
  · simp only [if_pos e]
    match hq : f i, hl with
    | [x], _ => rfl
  · simp only [if_neg e]
theorem store2 {w : World} {lo e n g c k : Nat} {f : Nat → List Value} (h : w.ownsRow lo e 2 (.slice (some ⟨g, 0, none⟩) n c) n (chunks n f)) (hf : ∀ i, i < n → (f i).length = 2) (hk : k < n) (c0 c1 : Value) :
    ((w.setCell ⟨g, k * 2, none⟩ c0).setCell ⟨g, k * 2 + 1, none⟩ c1).ownsRow lo e 2 (.slice (some ⟨g, 0, none⟩) n c) n (chunks n fun i => if i = k then [c0, c1] else f i) := by
  have h1 := owns_stored h hf hk (j := 0) (by decide) c0
  have h2 := owns_stored h1 (set_len hf _ _ _) hk (j := 1) (by decide) c1
  refine owns_congr h2 (fun i hi => ?_)
  have hl := hf i hi
  by_cases e : i = k
  · simp only [if_pos e]
    match hq : f i, hl with
    | [x, y], _ => rfl
  · simp only [if_neg e]
theorem store3 {w : World} {lo e n g c k : Nat} {f : Nat → List Value} (h : w.ownsRow lo e 3 (.slice (some ⟨g, 0, none⟩) n c) n (chunks n f)) (hf : ∀ i, i < n → (f i).length = 3) (hk : k < n) (c0 c1 c2 : Value) :
    (((w.setCell ⟨g, k * 3, none⟩ c0).setCell ⟨g, k * 3 + 1, none⟩ c1).setCell ⟨g, k * 3 + 2, none⟩ c2).ownsRow lo e 3 (.slice (some ⟨g, 0, none⟩) n c) n (chunks n fun i => if i = k then [c0, c1, c2] else f i) := by
  have h1 := owns_stored h hf hk (j := 0) (by decide) c0
  have h2 := owns_stored h1 (set_len hf _ _ _) hk (j := 1) (by decide) c1
  have h3 := owns_stored h2 (set_len (set_len hf _ _ _) _ _ _) hk (j := 2) (by decide) c2
  refine owns_congr h3 (fun i hi => ?_)
  have hl := hf i hi
  by_cases e : i = k
  · simp only [if_pos e]
    match hq : f i, hl with
    | [x, y, z], _ => rfl
  · simp only [if_neg e]
/-- Laid as far as place k. -/
theorem far_step {n k : Nat} {m : Nat → List Value} {z c : List Value} {m' : Nat → List Value} (hm : ∀ i, i < k → m' i = m i) (hc : m' k = c) : ∀ i, i < n → (if i = k then c else (if i < k then m i else z)) = (if i < k + 1 then m' i else z) := fun i _ => by
  by_cases h : i = k
  · subst h
    rw [if_pos rfl, if_pos (by omega), hc]
  · rw [if_neg h]
    by_cases h2 : i < k
    · rw [if_pos h2, if_pos (by omega), hm i h2]
    · rw [if_neg h2, if_neg (by omega)]

theorem Ab.mono {lo lo' : Nat} {w w' : World} (h : Ab lo w w') (hl : lo ≤ lo') : Ab lo' w w' := fun i h1 h2 => h i (by omega) h2

/-- On the blocks of P all is as it was. -/
structure Sm (P : Nat → Prop) (w w' : World) : Prop where
  size : w.heap.size ≤ w'.heap.size
  block : ∀ i, P i → i < w.heap.size → w'.heap[i]? = w.heap[i]?
theorem Sm.refl (P : Nat → Prop) (w : World) : Sm P w w := ⟨Nat.le_refl _, fun _ _ _ => rfl⟩
theorem Sm.trans {P : Nat → Prop} {w w1 w2 : World} (h : Sm P w w1) (k : Sm P w1 w2) : Sm P w w2 := ⟨Nat.le_trans h.size k.size, fun i hp hi => (k.block i hp (Nat.lt_of_lt_of_le hi h.size)).trans (h.block i hp hi)⟩
theorem Sm.mono {P Q : Nat → Prop} {w w' : World} (h : Sm P w w') (hq : ∀ i, Q i → P i) : Sm Q w w' := ⟨h.size, fun i hp hi => h.block i (hq i hp) hi⟩
theorem Only.sm {P S : Nat → Prop} {w w' : World} (k : Only w w' S) (h : ∀ i, P i → ¬ S i) : Sm P w w' := ⟨k.size, fun i hp hi => k.block i hi (h i hp)⟩
theorem sm_bel {P : Nat → Prop} {w w' : World} (b : Below w.heap.size w w') : Sm P w w' := ⟨b.size, fun i _ hi => b.block i hi⟩
theorem sm_drew {P : Nat → Prop} {w : World} : Sm P w w.drew := sm_bel (below_drewN (Below.refl _ _) 1)
theorem owns_sm {P : Nat → Prop} {w w' : World} {lo e s n : Nat} {v : Value} {xs : List Value} (h : w.ownsRow lo e s v n xs) (k : Sm P w w') (hp : ∀ j, v.ownBlock = some j → P j) : w'.ownsRow lo e s v n xs := by
  refine ⟨h.1, ?_⟩
  rcases h.2 with hn | ⟨g, cap, cur, rfl, hbg, hg, rest⟩
  · exact .inl hn
  · exact .inr ⟨g, cap, cur, rfl, hbg, (k.block g (hp g rfl) (Array.getElem?_eq_some_iff.1 hg).1).trans hg, rest⟩
/-- What is so as long as the blocks of P stay. -/
def Fix (P : Nat → Prop) (E : World → Prop) : Prop := ∀ w w', Sm P w w' → E w → E w'
/-- The blocks of a row and of its elements. -/
def RS (a : Option Addr) (c m : Nat) (Q : Nat → Nat → Prop) (b : Nat) : Prop := blk (a, c) = some b ∨ ∃ i, i < m ∧ Q i b
/-- An owned row of n elements; the first m of them own memory besides, in the blocks of Q. -/
structure Rw (w : World) (e s : Nat) (a : Option Addr) (c n m : Nat) (f : Nat → List Value) (Q : Nat → Nat → Prop) (E : Nat → World → Prop) : Prop where
  row : w.ownsRow 0 e s (.slice a n c) n (chunks n f)
  el : ∀ i, i < m → E i w
  fix : ∀ i, i < m → Fix (Q i) (E i)
  out : ∀ i, i < m → ∀ g, blk (a, c) = some g → ¬ Q i g
  ap : ∀ i k, i < m → k < m → i ≠ k → ∀ b, Q i b → ¬ Q k b
  lt : ∀ i, i < m → ∀ b, Q i b → b < w.heap.size
theorem Rw.sm {w w' : World} {e s : Nat} {a : Option Addr} {c n m : Nat} {f : Nat → List Value} {Q : Nat → Nat → Prop} {E : Nat → World → Prop} (h : Rw w e s a c n m f Q E) (k : Sm (RS a c m Q) w w') : Rw w' e s a c n m f Q E :=
  ⟨owns_sm h.row k (fun j hj => .inl (blk_eq hj)), fun i hi => h.fix i hi w w' (k.mono (fun b hb => .inr ⟨i, hi, hb⟩)) (h.el i hi), h.fix, h.out, h.ap, fun i hi b hb => Nat.lt_of_lt_of_le (h.lt i hi b hb) k.size⟩
theorem Rw.below {w w' : World} {e s : Nat} {a : Option Addr} {c n m : Nat} {f : Nat → List Value} {Q : Nat → Nat → Prop} {E : Nat → World → Prop} (h : Rw w e s a c n m f Q E) (b : Below w.heap.size w w') : Rw w' e s a c n m f Q E := h.sm (sm_bel b)
theorem Rw.slt {w : World} {e s : Nat} {a : Option Addr} {c n m : Nat} {f : Nat → List Value} {Q : Nat → Nat → Prop} {E : Nat → World → Prop} (h : Rw w e s a c n m f Q E) {b : Nat} (hb : RS a c m Q b) : b < w.heap.size := by
  rcases hb with hb | ⟨i, hi, hb⟩
  · cases a with
    | none => simp [blk] at hb
    | some x => exact (h.row.lt b (by simpa [Value.ownBlock, blk] using hb)).2
  · exact h.lt i hi b hb
theorem Rw.congr {w : World} {e s : Nat} {a : Option Addr} {c n m : Nat} {f f' : Nat → List Value} {Q Q' : Nat → Nat → Prop} {E E' : Nat → World → Prop} (h : Rw w e s a c n m f Q E) (hf : ∀ i, i < n → f i = f' i) (hQ : ∀ i, i < m → Q i = Q' i) (hE : ∀ i, i < m → E i = E' i) : Rw w e s a c n m f' Q' E' :=
  ⟨owns_congr h.row hf, fun i hi => by rw [← hE i hi]; exact h.el i hi, fun i hi => by rw [← hE i hi, ← hQ i hi]; exact h.fix i hi, fun i hi => by rw [← hQ i hi]; exact h.out i hi, fun i k hi hk => by rw [← hQ i hi, ← hQ k hk]; exact h.ap i k hi hk, fun i hi => by rw [← hQ i hi]; exact h.lt i hi⟩
/-- Element j is turned, in its own blocks. -/
theorem Rw.turn {w w' : World} {e s : Nat} {g c n m : Nat} {f f' : Nat → List Value} {Q : Nat → Nat → Prop} {E : Nat → World → Prop} (h : Rw w e s (some ⟨g, 0, none⟩) c n m f Q E) {j : Nat} (hj : j < m) {E' : World → Prop}
    (k : Only w w' (fun b => b = g ∨ Q j b)) (row : w'.ownsRow 0 e s (.slice (some ⟨g, 0, none⟩) n c) n (chunks n f')) (he : E' w') (hfix : Fix (Q j) E') : Rw w' e s (some ⟨g, 0, none⟩) c n m f' Q (fun i => if i = j then E' else E i) := by
  refine ⟨row, fun i hi => ?_, fun i hi => ?_, h.out, h.ap, fun i hi b hb => Nat.lt_of_lt_of_le (h.lt i hi b hb) k.size⟩
  · by_cases e' : i = j
    · simp only [if_pos e']; exact he
    · simp only [if_neg e']
      refine h.fix i hi w w' (k.sm (fun b hb hs => ?_)) (h.el i hi)
      rcases hs with rfl | hs
      · exact h.out i hi b rfl hb
      · exact h.ap i j hi hj e' b hb hs
  · by_cases e' : i = j
    · simp only [if_pos e']; subst e'; exact hfix
    · simp only [if_neg e']; exact h.fix i hi
/-- Element j is laid anew, in new blocks. -/
theorem Rw.put {w w2 w3 : World} {e s : Nat} {g c n m m' : Nat} {f f' : Nat → List Value} {Q : Nat → Nat → Prop} {E : Nat → World → Prop} (h : Rw w e s (some ⟨g, 0, none⟩) c n m f Q E) {j : Nat} (hm : ∀ i, i < m' → i ≠ j → i < m) {E' : World → Prop} {Q' : Nat → Prop}
    (b : Below w.heap.size w w2) (k : Only w2 w3 (fun b => b = g)) (row : w3.ownsRow 0 e s (.slice (some ⟨g, 0, none⟩) n c) n (chunks n f')) (he : E' w2) (hfix : Fix Q' E') (hQ : ∀ b, Q' b → w.heap.size ≤ b ∧ b < w2.heap.size) :
    Rw w3 e s (some ⟨g, 0, none⟩) c n m' f' (fun i => if i = j then Q' else Q i) (fun i => if i = j then E' else E i) := by
  have hg : g < w.heap.size := (h.row.lt g rfl).2
  refine ⟨row, fun i hi => ?_, fun i hi => ?_, fun i hi g' hg' => ?_, fun i k' hi hk hne b' => ?_, fun i hi b' hb => ?_⟩
  · by_cases e' : i = j
    · simp only [if_pos e']
      exact hfix w2 w3 (k.sm (fun b' hb hs => by have := hQ b' hb; omega)) he
    · simp only [if_neg e']
      have hi' := hm i hi e'
      exact h.fix i hi' w w3 (Sm.trans (sm_bel b) (k.sm (fun b' hb hs => by subst hs; exact h.out i hi' _ rfl hb))) (h.el i hi')
  · by_cases e' : i = j
    · simp only [if_pos e']; exact hfix
    · simp only [if_neg e']; exact h.fix i (hm i hi e')
  · by_cases e' : i = j
    · simp only [if_pos e']
      intro hq
      simp [blk] at hg'
      have := hQ g' hq
      omega
    · simp only [if_neg e']; exact h.out i (hm i hi e') g' hg'
  · by_cases e1 : i = j
    · by_cases e2 : k' = j
      · exact absurd (e1.trans e2.symm) hne
      · simp only [if_pos e1, if_neg e2]
        intro h1 h2
        have h3 := hQ b' h1
        have h4 := h.lt k' (hm k' hk e2) b' h2
        omega
    · by_cases e2 : k' = j
      · simp only [if_neg e1, if_pos e2]
        intro h1 h2
        have h3 := hQ b' h2
        have h4 := h.lt i (hm i hi e1) b' h1
        omega
      · simp only [if_neg e1, if_neg e2]; exact h.ap i k' (hm i hi e1) (hm k' hk e2) hne b'
  · have hs : w2.heap.size ≤ w3.heap.size := k.size
    by_cases e' : i = j
    · simp only [if_pos e'] at hb
      have := hQ b' hb
      omega
    · simp only [if_neg e'] at hb
      have := h.lt i (hm i hi e') b' hb
      have := b.size
      omega
/-- How far it is counted. -/
def sumN (c : Nat → Nat) : Nat → Nat
  | 0 => 0
  | j + 1 => sumN c j + c j
theorem sumN_le {c : Nat → Nat} {C : Nat} : ∀ {j : Nat}, (∀ i, i < j → c i ≤ C) → sumN c j ≤ j * C
  | 0, _ => by simp [sumN]
  | j + 1, h => by
    have h1 := sumN_le (j := j) (fun i hi => h i (by omega))
    have h2 := h j (by omega)
    rw [sumN, Nat.succ_mul]
    omega
def kt (k0 : Int) (c : Nat → Nat) (j : Nat) : Int := k0 + (sumN c j : Nat)
theorem kt_zero (k0 : Int) (c : Nat → Nat) : kt k0 c 0 = k0 := by simp [kt, sumN]
theorem kt_succ (k0 : Int) (c : Nat → Nat) (j : Nat) : kt k0 c (j + 1) = kt k0 c j + c j := by simp only [kt, sumN]; omega
theorem kt_le {k0 : Int} {c : Nat → Nat} {j n C : Nat} (hj : j ≤ n) (hc : ∀ i, i < n → c i ≤ C) : k0 ≤ kt k0 c j ∧ kt k0 c j ≤ k0 + ((n * C : Nat) : Int) := by
  have h1 := sumN_le (c := c) (j := j) (fun i hi => hc i (by omega))
  have h2 : j * C ≤ n * C := Nat.mul_le_mul_right C hj
  unfold kt
  omega
/-- A row that is laid as far as place k; what is laid lies from block lo on. -/
structure Tw (w : World) (lo e s : Nat) (a : Option Addr) (c n k : Nat) (cells z : Nat → List Value) (Q : Nat → Nat → Prop) (E : Nat → World → Prop) : Prop where
  r : Rw w e s a c n k (fun i => if i < k then cells i else z i) Q E
  lo : ∀ i, i < k → ∀ b, Q i b → lo ≤ b
theorem Tw.start {w : World} {lo e s : Nat} {a : Option Addr} {c n : Nat} {cells z : Nat → List Value} {Q : Nat → Nat → Prop} {E : Nat → World → Prop} (h : w.ownsRow 0 e s (.slice a n c) n (chunks n z)) : Tw w lo e s a c n 0 cells z Q E :=
  ⟨⟨owns_congr h (fun i hi => by rw [if_neg (Nat.not_lt_zero i)]), fun i hi => absurd hi (Nat.not_lt_zero i), fun i hi => absurd hi (Nat.not_lt_zero i), fun i hi => absurd hi (Nat.not_lt_zero i), fun i k hi => absurd hi (Nat.not_lt_zero i), fun i hi => absurd hi (Nat.not_lt_zero i)⟩, fun i hi => absurd hi (Nat.not_lt_zero i)⟩
theorem Tw.below {w w' : World} {lo e s : Nat} {a : Option Addr} {c n k : Nat} {cells z : Nat → List Value} {Q : Nat → Nat → Prop} {E : Nat → World → Prop} (h : Tw w lo e s a c n k cells z Q E) (b : Below w.heap.size w w') : Tw w' lo e s a c n k cells z Q E := ⟨h.r.below b, h.lo⟩
theorem Tw.congr {w : World} {lo e s : Nat} {a : Option Addr} {c n k : Nat} {cells cells' z : Nat → List Value} {Q Q' : Nat → Nat → Prop} {E E' : Nat → World → Prop} (h : Tw w lo e s a c n k cells z Q E) (hf : ∀ i, i < k → cells i = cells' i) (hQ : ∀ i, i < k → Q i = Q' i) (hE : ∀ i, i < k → E i = E' i) : Tw w lo e s a c n k cells' z Q' E' :=
  ⟨h.r.congr (fun i hi => by by_cases e : i < k <;> simp only [e, if_true, if_false]; exact hf i e) hQ hE, fun i hi => by rw [← hQ i hi]; exact h.lo i hi⟩
theorem Tw.step {w w2 w3 : World} {lo e s g c n k : Nat} {cells z : Nat → List Value} {Q : Nat → Nat → Prop} {E : Nat → World → Prop} (h : Tw w lo e s (some ⟨g, 0, none⟩) c n k cells z Q E) (b : Below w.heap.size w w2) (hlo : lo ≤ w.heap.size) {cs : List Value} {E' : World → Prop} {Q' : Nat → Prop}
    (on : Only w2 w3 (fun b => b = g)) (row : w3.ownsRow 0 e s (.slice (some ⟨g, 0, none⟩) n c) n (chunks n fun i => if i = k then cs else (if i < k then cells i else z i))) (he : E' w2) (hfix : Fix Q' E') (hQ : ∀ b, Q' b → w.heap.size ≤ b ∧ b < w2.heap.size) :
    Tw w3 lo e s (some ⟨g, 0, none⟩) c n (k + 1) (fun i => if i = k then cs else cells i) z (fun i => if i = k then Q' else Q i) (fun i => if i = k then E' else E i) := by
  refine ⟨(h.r.put (m' := k + 1) (j := k) (fun i hi hne => by omega) b on row he hfix hQ).congr (fun i hi => ?_) (fun i hi => rfl) (fun i hi => rfl), fun i hi b' hb => ?_⟩
  · by_cases e1 : i = k
    · subst e1; simp
    · by_cases e2 : i < k
      · simp [e1, e2, show i < k + 1 by omega]
      · simp [e1, e2, show ¬ i < k + 1 by omega]
  · by_cases e1 : i = k
    · simp only [if_pos e1] at hb
      have := hQ b' hb
      omega
    · simp only [if_neg e1] at hb
      exact h.lo i (by omega) b' hb
theorem Tw.all {w : World} {lo e s : Nat} {a : Option Addr} {c n : Nat} {cells z : Nat → List Value} {Q : Nat → Nat → Prop} {E : Nat → World → Prop} (h : Tw w lo e s a c n n cells z Q E) : Rw w e s a c n n cells Q E := h.r.congr (fun i hi => by rw [if_pos hi]) (fun i hi => rfl) (fun i hi => rfl)
theorem Tw.low {w : World} {lo e s : Nat} {a : Option Addr} {c n : Nat} {cells z : Nat → List Value} {Q : Nat → Nat → Prop} {E : Nat → World → Prop} (h : Tw w lo e s a c n n cells z Q E) (ha : ∀ g, blk (a, c) = some g → lo ≤ g) : ∀ b, RS a c n Q b → lo ≤ b := fun b hb => by
  rcases hb with hb | ⟨i, hi, hb⟩
  · exact ha b hb
  · exact h.lo i hi b hb
theorem owns_low {w : World} {lo e s n c : Nat} {a : Option Addr} {xs : List Value} (h : w.ownsRow lo e s (.slice a n c) n xs) : ∀ g, blk (a, c) = some g → lo ≤ g := fun g hg => by
  cases a with
  | none => simp [blk] at hg
  | some x => exact (h.lt g (by simpa [Value.ownBlock, blk] using hg)).1
theorem ab_sm {lo : Nat} {P : Nat → Prop} {w w' : World} (h : Ab lo w w') (hs : w.heap.size ≤ w'.heap.size) (hp : ∀ b, P b → lo ≤ b) : Sm P w w' := ⟨hs, fun i hi hlt => h i (hp i hi) hlt⟩

theorem blk_own {p : Pl} {b n : Nat} (h : blk p = some b) : (Value.slice p.1 n p.2).ownBlock = some b := by
  obtain ⟨a, c⟩ := p
  cases a with
  | none => simp [blk] at h
  | some x => simpa [Value.ownBlock, blk] using h

theorem upto {α : Type} (m d : Nat → α) (j i : Nat) : (if i = j then m j else (if i < j then m i else d i)) = (if i < j + 1 then m i else d i) := by
  by_cases h : i = j
  · subst h
    rw [if_pos rfl, if_pos (by omega)]
  · rw [if_neg h]
    by_cases h2 : i < j
    · rw [if_pos h2, if_pos (by omega)]
    · rw [if_neg h2, if_neg (by omega)]

/-- A row grows by one element. -/
theorem Rw.snoc {wr w2 w5 : World} {e s k c g cap : Nat} {a : Option Addr} {f : Nat → List Value} {Q : Nat → Nat → Prop} {E : Nat → World → Prop} (h : Rw wr e s a c k k f Q E) (b : Below wr.heap.size wr w2) {cs : List Value} {E' : World → Prop} {Q' : Nat → Prop}
    (he : E' w2) (hfix : Fix Q' E') (hQ : ∀ x, Q' x → wr.heap.size ≤ x ∧ x < w2.heap.size)
    (o5 : w5.ownsRow 0 e s (.slice (some ⟨g, 0, none⟩) (k + 1) cap) (k + 1) (chunks k f ++ cs)) (g5 : w2.grownBy w5 (Value.slice a k c).ownBlock) (hg : (Value.slice a k c).ownBlock = some g ∨ g = w2.heap.size) :
    Rw w5 e s (some ⟨g, 0, none⟩) cap (k + 1) (k + 1) (fun i => if i = k then cs else f i) (fun i => if i = k then Q' else Q i) (fun i => if i = k then E' else E i) := by
  have hold : ∀ x, (Value.slice a k c).ownBlock = some x → x < wr.heap.size := fun x hx => (h.row.lt x hx).2
  have on : Only w2 w5 (fun x => (Value.slice a k c).ownBlock = some x) := (Only.refl w2 _).grown g5 (fun j hj => hj)
  have hs := b.size
  refine ⟨?_, fun i hi => ?_, fun i hi => ?_, fun i hi g' hg' => ?_, fun i k' hi hk hne b' => ?_, fun i hi b' hb => ?_⟩
  · rw [chunks_succ]
    simp only [if_pos]
    rw [chunks_congr (n := k) (f := fun i => if i = k then cs else f i) (g := f) (fun i hi => by rw [if_neg (by omega)])]
    exact o5
  · by_cases e' : i = k
    · simp only [if_pos e']
      exact hfix w2 w5 (on.sm (fun x hx hs => by have := hQ x hx; have := hold x hs; omega)) he
    · simp only [if_neg e']
      have hi' : i < k := by omega
      exact h.fix i hi' wr w5 (Sm.trans (sm_bel b) (on.sm (fun x hx hs => h.out i hi' x (blk_eq hs) hx))) (h.el i hi')
  · by_cases e' : i = k
    · simp only [if_pos e']; exact hfix
    · simp only [if_neg e']; exact h.fix i (by omega)
  · simp [blk] at hg'
    subst hg'
    by_cases e' : i = k
    · simp only [if_pos e']
      intro hq
      have h1 := hQ g hq
      rcases hg with hg | hg
      · have := hold g hg; omega
      · omega
    · simp only [if_neg e']
      intro hq
      rcases hg with hg | hg
      · exact h.out i (by omega) g (blk_eq hg) hq
      · have := h.lt i (by omega) g hq
        omega
  · by_cases e1 : i = k
    · by_cases e2 : k' = k
      · exact absurd (e1.trans e2.symm) hne
      · simp only [if_pos e1, if_neg e2]
        intro h1 h2
        have h3 := hQ b' h1
        have h4 := h.lt k' (by omega) b' h2
        omega
    · by_cases e2 : k' = k
      · simp only [if_neg e1, if_pos e2]
        intro h1 h2
        have h3 := hQ b' h2
        have h4 := h.lt i (by omega) b' h1
        omega
      · simp only [if_neg e1, if_neg e2]; exact h.ap i k' (by omega) (by omega) hne b'
  · have h5 : w2.heap.size ≤ w5.heap.size := g5.size
    by_cases e' : i = k
    · simp only [if_pos e'] at hb
      have := hQ b' hb
      omega
    · simp only [if_neg e'] at hb
      have := h.lt i (by omega) b' hb
      omega
end Go.Proofs.Ytpahjfijpjgdnaa
