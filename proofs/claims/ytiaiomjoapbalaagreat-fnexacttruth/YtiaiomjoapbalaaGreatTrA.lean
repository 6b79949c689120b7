/- WtR and TrD and PgI and TrI and TrA: see the heads of the parts. -/
import Derived.Test.YtiaiomjoapbalaaGreatNdT3
import Derived.Test.YtiaiomjoapbalaaGreatWoS
/- Owned rows whose elements own memory besides, by the blocks of each. -/
namespace Go.Proofs.YtiaiomjoapbalaaGreat
open Go.RowKit
set_option linter.unusedVariables false

/-- On the blocks of P all is as it was. -/
structure Sm (P : Nat → Prop) (w w' : World) : Prop where
  size : w.heap.size ≤ w'.heap.size
  block : ∀ i, P i → i < w.heap.size → w'.heap[i]? = w.heap[i]?
theorem Sm.refl (P : Nat → Prop) (w : World) : Sm P w w := ⟨Nat.le_refl _, fun _ _ _ => rfl⟩
theorem Sm.trans {P : Nat → Prop} {w w1 w2 : World} (h : Sm P w w1) (k : Sm P w1 w2) : Sm P w w2 := ⟨Nat.le_trans h.size k.size, fun i hp hi => (k.block i hp (Nat.lt_of_lt_of_le hi h.size)).trans (h.block i hp hi)⟩
theorem Sm.mono {P Q : Nat → Prop} {w w' : World} (h : Sm P w w') (hq : ∀ i, Q i → P i) : Sm Q w w' := ⟨h.size, fun i hp hi => h.block i (hq i hp) hi⟩
theorem Only.sm {P S : Nat → Prop} {w w' : World} (k : Only w w' S) (h : ∀ i, P i → ¬ S i) : Sm P w w' := ⟨k.size, fun i hp hi => k.block i hi (h i hp)⟩
theorem sm_bel {P : Nat → Prop} {w w' : World} (b : Below w.heap.size w w') : Sm P w w' := ⟨b.size, fun i _ hi => b.block i hi⟩
theorem sm_drew {P : Nat → Prop} {w : World} : Sm P w w.drew := sm_bel (below_drewN (Below.refl _ _) 1)
theorem owns_sm {P : Nat → Prop} {w w' : World} {lo e s n : Nat} {v : Value} {xs : List Value} (h : w.ownsRow lo e s v n xs) (k : Sm P w w') (hp : ∀ j, v.ownBlock = some j → P j) : w'.ownsRow lo e s v n xs := by
  refine ⟨h.1, ?_⟩
  rcases h.2 with hn | ⟨g, cap, cur, rfl, hbg, hg, rest⟩
  · exact .inl hn
  · exact .inr ⟨g, cap, cur, rfl, hbg, (k.block g (hp g rfl) (Array.getElem?_eq_some_iff.1 hg).1).trans hg, rest⟩

/-- What is so as long as the blocks of P stay. -/
def Fix (P : Nat → Prop) (E : World → Prop) : Prop := ∀ w w', Sm P w w' → E w → E w'

/-- The blocks of a row and of its elements. -/
def RS (a : Option Addr) (c m : Nat) (Q : Nat → Nat → Prop) (b : Nat) : Prop := blk (a, c) = some b ∨ ∃ i, i < m ∧ Q i b

/-- An owned row of n elements; the first m of them own memory besides, in the blocks of Q. -/
structure Rw (w : World) (e s : Nat) (a : Option Addr) (c n m : Nat) (f : Nat → List Value) (Q : Nat → Nat → Prop) (E : Nat → World → Prop) : Prop where
  row : w.ownsRow 0 e s (.slice a n c) n (chunks n f)
  el : ∀ i, i < m → E i w
  fix : ∀ i, i < m → Fix (Q i) (E i)
  out : ∀ i, i < m → ∀ g, blk (a, c) = some g → ¬ Q i g
  ap : ∀ i k, i < m → k < m → i ≠ k → ∀ b, Q i b → ¬ Q k b
  lt : ∀ i, i < m → ∀ b, Q i b → b < w.heap.size

theorem Rw.sm {w w' : World} {e s : Nat} {a : Option Addr} {c n m : Nat} {f : Nat → List Value} {Q : Nat → Nat → Prop} {E : Nat → World → Prop} (h : Rw w e s a c n m f Q E) (k : Sm (RS a c m Q) w w') : Rw w' e s a c n m f Q E :=
  ⟨owns_sm h.row k (fun j hj => .inl (blk_eq hj)), fun i hi => h.fix i hi w w' (k.mono (fun b hb => .inr ⟨i, hi, hb⟩)) (h.el i hi), h.fix, h.out, h.ap, fun i hi b hb => Nat.lt_of_lt_of_le (h.lt i hi b hb) k.size⟩
theorem Rw.below {w w' : World} {e s : Nat} {a : Option Addr} {c n m : Nat} {f : Nat → List Value} {Q : Nat → Nat → Prop} {E : Nat → World → Prop} (h : Rw w e s a c n m f Q E) (b : Below w.heap.size w w') : Rw w' e s a c n m f Q E := h.sm (sm_bel b)
theorem Rw.slt {w : World} {e s : Nat} {a : Option Addr} {c n m : Nat} {f : Nat → List Value} {Q : Nat → Nat → Prop} {E : Nat → World → Prop} (h : Rw w e s a c n m f Q E) {b : Nat} (hb : RS a c m Q b) : b < w.heap.size := by
  rcases hb with hb | ⟨i, hi, hb⟩
  · cases a with
    | none => simp [blk] at hb
    | some x => exact (h.row.lt b (by simpa [Value.ownBlock, blk] using hb)).2
  · exact h.lt i hi b hb
theorem Rw.congr {w : World} {e s : Nat} {a : Option Addr} {c n m : Nat} {f f' : Nat → List Value} {Q Q' : Nat → Nat → Prop} {E E' : Nat → World → Prop} (h : Rw w e s a c n m f Q E) (hf : ∀ i, i < n → f i = f' i) (hQ : ∀ i, i < m → Q i = Q' i) (hE : ∀ i, i < m → E i = E' i) : Rw w e s a c n m f' Q' E' :=
  ⟨owns_congr h.row hf, fun i hi => by rw [← hE i hi]; exact h.el i hi, fun i hi => by rw [← hE i hi, ← hQ i hi]; exact h.fix i hi, fun i hi => by rw [← hQ i hi]; exact h.out i hi, fun i k hi hk => by rw [← hQ i hi, ← hQ k hk]; exact h.ap i k hi hk, fun i hi => by rw [← hQ i hi]; exact h.lt i hi⟩

/-- Element j is turned, in its own blocks. -/
theorem Rw.turn {w w' : World} {e s : Nat} {g c n m : Nat} {f f' : Nat → List Value} {Q : Nat → Nat → Prop} {E : Nat → World → Prop} (h : Rw w e s (some ⟨g, 0, none⟩) c n m f Q E) {j : Nat} (hj : j < m) {E' : World → Prop}
    (k : Only w w' (fun b => b = g ∨ Q j b)) (row : w'.ownsRow 0 e s (.slice (some ⟨g, 0, none⟩) n c) n (chunks n f')) (he : E' w') (hfix : Fix (Q j) E') : Rw w' e s (some ⟨g, 0, none⟩) c n m f' Q (fun i => if i = j then E' else E i) := by
  refine ⟨row, fun i hi => ?_, fun i hi => ?_, h.out, h.ap, fun i hi b hb => Nat.lt_of_lt_of_le (h.lt i hi b hb) k.size⟩
  · by_cases e' : i = j
    · simp only [if_pos e']; exact he
    · simp only [if_neg e']
      refine h.fix i hi w w' (k.sm (fun b hb hs => ?_)) (h.el i hi)
      rcases hs with rfl | hs
      · exact h.out i hi b rfl hb
      · exact h.ap i j hi hj e' b hb hs
  · by_cases e' : i = j
    · simp only [if_pos e']; subst e'; exact hfix
    · simp only [if_neg e']; exact h.fix i hi

/-- Element j is laid anew, in new blocks. -/
theorem Rw.put {w w2 w3 : World} {e s : Nat} {g c n m m' : Nat} {f f' : Nat → List Value} {Q : Nat → Nat → Prop} {E : Nat → World → Prop} (h : Rw w e s (some ⟨g, 0, none⟩) c n m f Q E) {j : Nat} (hm : ∀ i, i < m' → i ≠ j → i < m) {E' : World → Prop} {Q' : Nat → Prop}
    (b : Below w.heap.size w w2) (k : Only w2 w3 (fun b => b = g)) (row : w3.ownsRow 0 e s (.slice (some ⟨g, 0, none⟩) n c) n (chunks n f')) (he : E' w2) (hfix : Fix Q' E') (hQ : ∀ b, Q' b → w.heap.size ≤ b ∧ b < w2.heap.size) :
    Rw w3 e s (some ⟨g, 0, none⟩) c n m' f' (fun i => if i = j then Q' else Q i) (fun i => if i = j then E' else E i) := by
  have hg : g < w.heap.size := (h.row.lt g rfl).2
  refine ⟨row, fun i hi => ?_, fun i hi => ?_, fun i hi g' hg' => ?_, fun i k' hi hk hne b' => ?_, fun i hi b' hb => ?_⟩
  · by_cases e' : i = j
    · simp only [if_pos e']
      exact hfix w2 w3 (k.sm (fun b' hb hs => by have := hQ b' hb; omega)) he
    · simp only [if_neg e']
      have hi' := hm i hi e'
      exact h.fix i hi' w w3 (Sm.trans (sm_bel b) (k.sm (fun b' hb hs => by subst hs; exact h.out i hi' _ rfl hb))) (h.el i hi')
  · by_cases e' : i = j
    · simp only [if_pos e']; exact hfix
    · simp only [if_neg e']; exact h.fix i (hm i hi e')
  · by_cases e' : i = j
    · simp only [if_pos e']
      intro hq
      simp [blk] at hg'
      have := hQ g' hq
      omega
    · simp only [if_neg e']; exact h.out i (hm i hi e') g' hg'
  · by_cases e1 : i = j
    · by_cases e2 : k' = j
      · exact absurd (e1.trans e2.symm) hne
      · simp only [if_pos e1, if_neg e2]
        intro h1 h2
        have h3 := hQ b' h1
        have h4 := h.lt k' (hm k' hk e2) b' h2
        omega
    · by_cases e2 : k' = j
      · simp only [if_neg e1, if_pos e2]
        intro h1 h2
        have h3 := hQ b' h2
        have h4 := h.lt i (hm i hi e1) b' h1
        omega
      · simp only [if_neg e1, if_neg e2]; exact h.ap i k' (hm i hi e1) (hm k' hk e2) hne b'
  · have hs : w2.heap.size ≤ w3.heap.size := k.size
    by_cases e' : i = j
    · simp only [if_pos e'] at hb
      have := hQ b' hb
      omega
    · simp only [if_neg e'] at hb
      have := h.lt i (hm i hi e') b' hb
      have := b.size
      omega

/-- How far it is counted. -/
def sumN (c : Nat → Nat) : Nat → Nat
  | 0 => 0
  | j + 1 => sumN c j + c j
theorem sumN_le {c : Nat → Nat} {C : Nat} : ∀ {j : Nat}, (∀ i, i < j → c i ≤ C) → sumN c j ≤ j * C
  | 0, _ => by simp [sumN]
  | j + 1, h => by
    have h1 := sumN_le (j := j) (fun i hi => h i (by omega))
    have h2 := h j (by omega)
    rw [sumN, Nat.succ_mul]
    omega
def kt (k0 : Int) (c : Nat → Nat) (j : Nat) : Int := k0 + (sumN c j : Nat)
theorem kt_zero (k0 : Int) (c : Nat → Nat) : kt k0 c 0 = k0 := by simp [kt, sumN]
theorem kt_succ (k0 : Int) (c : Nat → Nat) (j : Nat) : kt k0 c (j + 1) = kt k0 c j + c j := by simp only [kt, sumN]; omega
theorem kt_le {k0 : Int} {c : Nat → Nat} {j n C : Nat} (hj : j ≤ n) (hc : ∀ i, i < n → c i ≤ C) : k0 ≤ kt k0 c j ∧ kt k0 c j ≤ k0 + ((n * C : Nat) : Int) := by
  have h1 := sumN_le (c := c) (j := j) (fun i hi => hc i (by omega))
  have h2 : j * C ≤ n * C := Nat.mul_le_mul_right C hj
  unfold kt
  omega

/-- Frames, homes, senders, receivers that are owned with all that they say. -/
def EF (d : FD) (p : Pl) (w : World) : Prop := w.ownsRow 0 3 1 (.slice p.1 d.xs.length p.2) d.xs.length (d.xs.map (Value.int .i64))
def QF (p : Pl) (b : Nat) : Prop := blk p = some b
def EH (d : HD) (p : HP) (w : World) : Prop := w.ownsRow 0 3 1 (.slice p.l.1 d.xs.length p.l.2) d.xs.length (d.xs.map (Value.int .i64)) ∧ w.ownsRow 0 4 1 (.slice p.r.1 d.bs.length p.r.2) d.bs.length (bv d.bs) ∧ w.ownsRow 0 103 2 (.slice p.q.1 d.ws.length p.q.2) d.ws.length (wv d.ws)
def QH (p : HP) (b : Nat) : Prop := blk p.l = some b ∨ blk p.r = some b ∨ blk p.q = some b
def ES (p : Pl) (ms : List M) (w : World) : Prop := Deep w 0 p.1 p.2 ms
def QS (p : Pl) (ms : List M) (b : Nat) : Prop := blk p = some b ∨ ∃ m ∈ ms, m.v.ownBlock = some b

theorem fix_f (d : FD) (p : Pl) : Fix (QF p) (EF d p) := fun w w' k h => owns_sm h k (fun j hj => blk_eq hj)
theorem fix_h (d : HD) (p : HP) : Fix (QH p) (EH d p) := fun w w' k h => ⟨owns_sm h.1 k (fun j hj => .inl (blk_eq hj)), owns_sm h.2.1 k (fun j hj => .inr (.inl (blk_eq hj))), owns_sm h.2.2 k (fun j hj => .inr (.inr (blk_eq hj)))⟩
theorem fix_s (p : Pl) (ms : List M) : Fix (QS p ms) (ES p ms) := fun w w' k h => ⟨owns_sm h.row k (fun j hj => .inl (blk_eq hj)), fun m hm => owns_sm (h.lists.1 m hm) k (fun j hj => .inr ⟨m, hm, hj⟩), h.lists.2⟩

def FO (w : World) (a : Option Addr) (c n : Nat) (d : Nat → FD) (p : Nat → Pl) : Prop := Rw w 108 3 a c n n (fun i => fcells (d i) (p i)) (fun i => QF (p i)) (fun i => EF (d i) (p i))
def HOw (w : World) (a : Option Addr) (c n : Nat) (d : Nat → HD) (p : Nat → HP) : Prop := Rw w 106 8 a c n n (fun i => hcells (d i) (p i)) (fun i => QH (p i)) (fun i => EH (d i) (p i))
def SO (w : World) (a : Option Addr) (c n : Nat) (b : Nat → Int) (p : Nat → Pl) (ms : Nat → List M) : Prop := Rw w 87 2 a c n n (fun i => scells (b i) (p i) (ms i).length) (fun i => QS (p i) (ms i)) (fun i => ES (p i) (ms i))
def GO (w : World) (a : Option Addr) (c n : Nat) (g : Nat → Int) : Prop := w.ownsRow 0 89 1 (.slice a n c) n (chunks n fun i => gcells (g i))

theorem FO.fr {w : World} {a : Option Addr} {c n : Nat} {d : Nat → FD} {p : Nat → Pl} (h : FO w a c n d p) (hn : n ≤ 1048576) (hx : ∀ i, i < n → (d i).xs.length ≤ 1048576) : FR w a n d p :=
  ⟨by omega, owns_vrow' h.row (by rw [chunks_length (s := 3) n (fun i _ => rfl)]; omega), fun i hi => owns_row' (h.el i hi) (by have := hx i hi; omega)⟩
theorem HOw.hr {w : World} {a : Option Addr} {c n : Nat} {d : Nat → HD} {p : Nat → HP} (h : HOw w a c n d p) (hn : n ≤ 1048576) (hx : ∀ i, i < n → (d i).xs.length ≤ 1048576 ∧ (d i).bs.length ≤ 1048576 ∧ (d i).ws.length ≤ 1048576) : HR2 w a n d p :=
  ⟨by omega, owns_vrow' h.row (by rw [chunks_length (s := 8) n (fun i _ => rfl)]; omega), fun i hi => ⟨owns_row' (h.el i hi).1 (by have := hx i hi; omega), owns_vrow' (h.el i hi).2.1 (by have := hx i hi; rw [bv_length]; omega), owns_vrow' (h.el i hi).2.2 (by have := hx i hi; rw [wv_length]; omega)⟩⟩
theorem GO.gr {w : World} {a : Option Addr} {c n : Nat} {g : Nat → Int} (h : GO w a c n g) (hn : n ≤ 1048576) : GR w a n g := ⟨by omega, owns_vrow' h (by rw [chunks_length (s := 1) n (fun i _ => rfl)]; omega)⟩
theorem SO.sr {w : World} {a : Option Addr} {c n : Nat} {b : Nat → Int} {y : Nat → List Say} {p : Nat → Pl} {ms : Nat → List M} (h : SO w a c n b p ms) (hn : n ≤ 1048576) (he : ∀ i, i < n → (ms i).map M.say = y i) (hx : ∀ i, i < n → (ms i).length ≤ 1048577 ∧ ∀ m ∈ ms i, m.xs.length ≤ 1048577) : SR w a n b y p ms := by
  have hl : ∀ i, i < n → (ms i).length = (y i).length := fun i hi => by rw [← he i hi, List.length_map]
  refine ⟨by omega, ?_, fun i hi => ⟨(h.el i hi).mrow (hx i hi).1 (hx i hi).2, he i hi⟩⟩
  have h1 := owns_congr (g := fun i => scells (b i) (p i) (y i).length) h.row (fun i hi => by rw [hl i hi])
  exact owns_vrow' h1 (by rw [chunks_length (s := 2) n (fun i _ => rfl)]; omega)
/-- A row that is laid as far as place k; what is laid lies from block lo on. -/
structure Tw (w : World) (lo e s : Nat) (a : Option Addr) (c n k : Nat) (cells z : Nat → List Value) (Q : Nat → Nat → Prop) (E : Nat → World → Prop) : Prop where
  r : Rw w e s a c n k (fun i => if i < k then cells i else z i) Q E
  lo : ∀ i, i < k → ∀ b, Q i b → lo ≤ b

theorem Tw.start {w : World} {lo e s : Nat} {a : Option Addr} {c n : Nat} {cells z : Nat → List Value} {Q : Nat → Nat → Prop} {E : Nat → World → Prop} (h : w.ownsRow 0 e s (.slice a n c) n (chunks n z)) : Tw w lo e s a c n 0 cells z Q E :=
  ⟨⟨owns_congr h (fun i hi => by rw [if_neg (Nat.not_lt_zero i)]), fun i hi => absurd hi (Nat.not_lt_zero i), fun i hi => absurd hi (Nat.not_lt_zero i), fun i hi => absurd hi (Nat.not_lt_zero i), fun i k hi => absurd hi (Nat.not_lt_zero i), fun i hi => absurd hi (Nat.not_lt_zero i)⟩, fun i hi => absurd hi (Nat.not_lt_zero i)⟩
theorem Tw.below {w w' : World} {lo e s : Nat} {a : Option Addr} {c n k : Nat} {cells z : Nat → List Value} {Q : Nat → Nat → Prop} {E : Nat → World → Prop} (h : Tw w lo e s a c n k cells z Q E) (b : Below w.heap.size w w') : Tw w' lo e s a c n k cells z Q E := ⟨h.r.below b, h.lo⟩
theorem Tw.congr {w : World} {lo e s : Nat} {a : Option Addr} {c n k : Nat} {cells cells' z : Nat → List Value} {Q Q' : Nat → Nat → Prop} {E E' : Nat → World → Prop} (h : Tw w lo e s a c n k cells z Q E) (hf : ∀ i, i < k → cells i = cells' i) (hQ : ∀ i, i < k → Q i = Q' i) (hE : ∀ i, i < k → E i = E' i) : Tw w lo e s a c n k cells' z Q' E' :=
  ⟨h.r.congr (fun i hi => by by_cases e : i < k <;> simp only [e, if_true, if_false]; exact hf i e) hQ hE, fun i hi => by rw [← hQ i hi]; exact h.lo i hi⟩
theorem Tw.step {w w2 w3 : World} {lo e s g c n k : Nat} {cells z : Nat → List Value} {Q : Nat → Nat → Prop} {E : Nat → World → Prop} (h : Tw w lo e s (some ⟨g, 0, none⟩) c n k cells z Q E) (b : Below w.heap.size w w2) (hlo : lo ≤ w.heap.size) {cs : List Value} {E' : World → Prop} {Q' : Nat → Prop}
    (on : Only w2 w3 (fun b => b = g)) (row : w3.ownsRow 0 e s (.slice (some ⟨g, 0, none⟩) n c) n (chunks n fun i => if i = k then cs else (if i < k then cells i else z i))) (he : E' w2) (hfix : Fix Q' E') (hQ : ∀ b, Q' b → w.heap.size ≤ b ∧ b < w2.heap.size) :
    Tw w3 lo e s (some ⟨g, 0, none⟩) c n (k + 1) (fun i => if i = k then cs else cells i) z (fun i => if i = k then Q' else Q i) (fun i => if i = k then E' else E i) := by
  refine ⟨(h.r.put (m' := k + 1) (j := k) (fun i hi hne => by omega) b on row he hfix hQ).congr (fun i hi => ?_) (fun i hi => rfl) (fun i hi => rfl), fun i hi b' hb => ?_⟩
  · by_cases e1 : i = k
    · subst e1; simp
    · by_cases e2 : i < k
      · simp [e1, e2, show i < k + 1 by omega]
      · simp [e1, e2, show ¬ i < k + 1 by omega]
  · by_cases e1 : i = k
    · simp only [if_pos e1] at hb
      have := hQ b' hb
      omega
    · simp only [if_neg e1] at hb
      exact h.lo i (by omega) b' hb
theorem Tw.all {w : World} {lo e s : Nat} {a : Option Addr} {c n : Nat} {cells z : Nat → List Value} {Q : Nat → Nat → Prop} {E : Nat → World → Prop} (h : Tw w lo e s a c n n cells z Q E) : Rw w e s a c n n cells Q E := h.r.congr (fun i hi => by rw [if_pos hi]) (fun i hi => rfl) (fun i hi => rfl)
theorem Tw.low {w : World} {lo e s : Nat} {a : Option Addr} {c n : Nat} {cells z : Nat → List Value} {Q : Nat → Nat → Prop} {E : Nat → World → Prop} (h : Tw w lo e s a c n n cells z Q E) (ha : ∀ g, blk (a, c) = some g → lo ≤ g) : ∀ b, RS a c n Q b → lo ≤ b := fun b hb => by
  rcases hb with hb | ⟨i, hi, hb⟩
  · exact ha b hb
  · exact h.lo i hi b hb
theorem owns_low {w : World} {lo e s n c : Nat} {a : Option Addr} {xs : List Value} (h : w.ownsRow lo e s (.slice a n c) n xs) : ∀ g, blk (a, c) = some g → lo ≤ g := fun g hg => by
  cases a with
  | none => simp [blk] at hg
  | some x => exact (h.lt g (by simpa [Value.ownBlock, blk] using hg)).1
theorem ab_sm {lo : Nat} {P : Nat → Prop} {w w' : World} (h : Ab lo w w') (hs : w.heap.size ≤ w'.heap.size) (hp : ∀ b, P b → lo ≤ b) : Sm P w w' := ⟨hs, fun i hi hlt => h i (hp i hi) hlt⟩

/-- A node that is owned with all that it says; no two of its rows share memory. -/
structure NOw (w : World) (d : ND) (p : NP) : Prop where
  f : FO w p.f.1 p.f.2 d.nf d.f p.fp
  h : HOw w p.h.1 p.h.2 d.nh d.h p.hp
  o : SO w p.o.1 p.o.2 d.no d.b p.op p.ms
  i : GO w p.i.1 p.i.2 d.ni d.g
  e : ∀ i, i < d.no → (p.ms i).map M.say = d.y i
  fh : ∀ b, RS p.f.1 p.f.2 d.nf (fun i => QF (p.fp i)) b → ¬ RS p.h.1 p.h.2 d.nh (fun i => QH (p.hp i)) b
  fo : ∀ b, RS p.f.1 p.f.2 d.nf (fun i => QF (p.fp i)) b → ¬ RS p.o.1 p.o.2 d.no (fun i => QS (p.op i) (p.ms i)) b
  fi : ∀ b, RS p.f.1 p.f.2 d.nf (fun i => QF (p.fp i)) b → blk p.i ≠ some b
  ho : ∀ b, RS p.h.1 p.h.2 d.nh (fun i => QH (p.hp i)) b → ¬ RS p.o.1 p.o.2 d.no (fun i => QS (p.op i) (p.ms i)) b
  hi : ∀ b, RS p.h.1 p.h.2 d.nh (fun i => QH (p.hp i)) b → blk p.i ≠ some b
  oi : ∀ b, RS p.o.1 p.o.2 d.no (fun i => QS (p.op i) (p.ms i)) b → blk p.i ≠ some b
/-- All blocks of a node. -/
def NBs (d : ND) (p : NP) (b : Nat) : Prop := RS p.f.1 p.f.2 d.nf (fun i => QF (p.fp i)) b ∨ RS p.h.1 p.h.2 d.nh (fun i => QH (p.hp i)) b ∨ RS p.o.1 p.o.2 d.no (fun i => QS (p.op i) (p.ms i)) b ∨ blk p.i = some b
theorem GO.sm {w w' : World} {a : Option Addr} {c n : Nat} {g : Nat → Int} {P : Nat → Prop} (h : GO w a c n g) (k : Sm P w w') (hp : ∀ b, blk (a, c) = some b → P b) : GO w' a c n g := owns_sm h k (fun j hj => hp j (blk_eq hj))
theorem NOw.sm {w w' : World} {d : ND} {p : NP} (h : NOw w d p) (k : Sm (NBs d p) w w') : NOw w' d p :=
  ⟨h.f.sm (k.mono (fun b hb => .inl hb)), h.h.sm (k.mono (fun b hb => .inr (.inl hb))), h.o.sm (k.mono (fun b hb => .inr (.inr (.inl hb)))), h.i.sm k (fun b hb => .inr (.inr (.inr hb))), h.e, h.fh, h.fo, h.fi, h.ho, h.hi, h.oi⟩
theorem NOw.below {w w' : World} {d : ND} {p : NP} (h : NOw w d p) (b : Below w.heap.size w w') : NOw w' d p := h.sm (sm_bel b)
theorem GO.lt {w : World} {a : Option Addr} {c n : Nat} {g : Nat → Int} (h : GO w a c n g) {b : Nat} (hb : blk (a, c) = some b) : b < w.heap.size := by
  cases a with
  | none => simp [blk] at hb
  | some x => exact (World.ownsRow.lt h b (by simpa [Value.ownBlock, blk] using hb)).2
theorem NOw.lt {w : World} {d : ND} {p : NP} (h : NOw w d p) {b : Nat} (hb : NBs d p b) : b < w.heap.size := by
  rcases hb with hb | hb | hb | hb
  · exact Rw.slt h.f hb
  · exact Rw.slt h.h hb
  · exact Rw.slt h.o hb
  · exact GO.lt h.i hb
theorem NOw.nr {w : World} {d : ND} {p : NP} (h : NOw w d p) (s : Nsm d) : NR w d p := by
  refine ⟨h.f.fr s.f.1 s.f.2, h.h.hr s.h.1 s.h.2, h.o.sr s.o.1 h.e (fun i hi => ?_), h.i.gr s.i⟩
  have h1 := s.o.2 i hi
  have h2 := h.e i hi
  refine ⟨?_, fun m hm => ?_⟩
  · have := congrArg List.length h2
    rw [List.length_map] at this
    omega
  · have h3 : m.say ∈ d.y i := by rw [← h2]; exact List.mem_map_of_mem hm
    have := h1.2 _ h3
    simp only [M.say] at this
    omega
end Go.Proofs.YtiaiomjoapbalaaGreat

/- What is coming and what is true, of what a world says; what a right world is. -/
namespace Go.Proofs.YtiaiomjoapbalaaGreat
open Go.RowKit
set_option linter.unusedVariables false

/-- What a right world is. -/
structure WOk (d : WoD) : Prop where
  n : d.size = (d.nn : Int) ∧ 1 ≤ d.nn ∧ d.nn ≤ 4
  k : d.nk ≤ 40
  c : ∀ i, i < d.nn → (d.d i).nf = 6 ∧ (d.d i).nh = 6 ∧ (d.d i).no = d.nn ∧ (d.d i).ni = d.nn
  f : ∀ i, i < d.nn → ∀ p, p < 6 → frB ((d.d i).f p) = true
  h : ∀ i, i < d.nn → ∀ p, p < 6 → hoB (d.nn : Int) ((d.d i).h p) = true
  o : ∀ i, i < d.nn → ∀ j, j < d.nn → sB ((d.d i).b j) ((d.d i).y j) = true
  g : ∀ i, i < d.nn → ∀ j, j < d.nn → 0 ≤ (d.d i).g j ∧ (d.d i).g j ≤ 100000
theorem nodeOk_parts {d : ND} {nodes : Int} (h : nodeOkB d nodes = true) : d.nf = 6 ∧ d.nh = 6 ∧ (d.no : Int) = nodes ∧ (d.ni : Int) = nodes ∧ allB d.nf (fun i => frB (d.f i)) = true ∧ allB d.nh (fun i => hoB nodes (d.h i)) = true ∧ allB d.no (fun i => sB (d.b i) (d.y i)) = true ∧ allB d.ni (fun i => inB (d.g i) 0 100000) = true := by
  unfold nodeOkB at h
  simp only [Bool.and_eq_true, decide_eq_true_eq] at h
  obtain ⟨_, h1, h2, h3, h4, h5, h6, h7, h8⟩ := h
  exact ⟨h1, h2, h3, h4, h5, h6, h7, h8⟩
theorem WOk.of {d : WoD} (h : worldB d = true) : WOk d := by
  unfold worldB at h
  simp only [Bool.and_eq_true, decide_eq_true_eq] at h
  obtain ⟨h1, h2, h3, h4, h5⟩ := h
  have hn : 1 ≤ d.nn ∧ d.nn ≤ 4 := by
    have : 1 ≤ d.size ∧ d.size ≤ 4 := by simpa [inB] using h1
    omega
  have hp : ∀ i, i < d.nn → _ := fun i hi => nodeOk_parts (d := d.d i) (nodes := d.size) (by
    have := allB_at h4 hi
    simp only [Bool.and_eq_true] at this
    exact this.1)
  refine ⟨⟨h2.symm, hn⟩, h3, fun i hi => ?_, fun i hi p hp' => ?_, fun i hi p hp' => ?_, fun i hi j hj => ?_, fun i hi j hj => ?_⟩
  · obtain ⟨a1, a2, a3, a4, _⟩ := hp i hi
    exact ⟨a1, a2, by omega, by omega⟩
  · obtain ⟨a1, a2, a3, a4, a5, _⟩ := hp i hi
    exact allB_at a5 (by omega)
  · obtain ⟨a1, a2, a3, a4, a5, a6, _⟩ := hp i hi
    have := allB_at a6 (i := p) (by omega)
    rw [← h2] at this
    exact this
  · obtain ⟨a1, a2, a3, a4, a5, a6, a7, _⟩ := hp i hi
    exact allB_at a7 (i := j) (by omega)
  · obtain ⟨a1, a2, a3, a4, a5, a6, a7, a8⟩ := hp i hi
    have := allB_at a8 (i := j) (by omega)
    simpa [inB] using this
theorem sB_parts {b : Int} {y : List Say} (h : sB b y = true) : (0 ≤ b ∧ b ≤ 100000) ∧ y.length ≤ 30 ∧ b + y.length ≤ 100000 ∧ ∀ s ∈ y, okS s = true := by
  unfold sB at h
  simp only [Bool.and_eq_true, decide_eq_true_eq, List.all_eq_true] at h
  exact ⟨h.1, h.2.1, h.2.2.1, h.2.2.2⟩
theorem okS_len {s : Say} (h : okS s = true) : s.2.2.2.length ≤ 4 ∧ (s.1 = 3 ∨ s.1 = 7 → s.2.2.2.length = 4) := by
  unfold okS msgOkB wordsB at h
  simp only [Bool.and_eq_true, beq_iff_eq] at h
  obtain ⟨_, _, h2⟩ := h
  split at h2
  · exact ⟨by omega, fun _ => by omega⟩
  · rename_i hk
    refine ⟨by omega, fun hs => ?_⟩
    simp only [Bool.or_eq_true, beq_iff_eq] at hk
    exact absurd hs hk
theorem hoB_parts {n : Int} {d : HD} (h : hoB n d = true) : d.xs.length = 4 ∧ -1 ≤ d.ow ∧ d.ow < n := by
  unfold hoB homeB wordsB inB at h
  simp only [Bool.and_eq_true, beq_iff_eq, decide_eq_true_eq] at h
  obtain ⟨_, ⟨_, h2⟩, ⟨h3, h4⟩, _⟩ := h
  exact ⟨by omega, h3, by omega⟩
theorem frB_parts {d : FD} (h : frB d = true) : (d.s = 0 ∧ d.xs.length = 0) ∨ (d.s ≠ 0 ∧ d.xs.length = 4) := by
  unfold frB frameOkB wordsB at h
  by_cases e : d.s = 0
  · rw [e] at h
    simp at h
    exact .inl ⟨e, by rw [h]; rfl⟩
  · have e2 : (d.s == 0) = false := by simpa using e
    rw [e2] at h
    simp only [Bool.and_eq_true, beq_iff_eq, Bool.false_eq_true, if_false] at h
    exact .inr ⟨e, by omega⟩

/-- What is coming. -/
def comY (base got : Int) (y : List Say) : List Say := y.drop (got - base).toNat
def comD (d : WoD) (f t : Nat) : List Say := comY ((d.d f).b t) ((d.d t).g f) ((d.d f).y t)
/-- The words of the last message of a kind of a page. -/
def isL (kind page : Int) (s : Say) : Bool := s.1 == kind && (s.2.1 == page && (s.2.2.1 || kind == 7))
def lastY (kind page : Int) (l : List Say) : List Int := l.foldl (fun acc s => if isL kind page s then s.2.2.2 else acc) []
theorem lastY_snoc (kind page : Int) (l : List Say) (s : Say) : lastY kind page (l ++ [s]) = if isL kind page s then s.2.2.2 else lastY kind page l := by simp [lastY]
theorem lastY_len (kind page : Int) {l : List Say} (h : ∀ s ∈ l, okS s = true) : (lastY kind page l).length ≤ 4 := by
  have key : ∀ (l : List Say) (acc : List Int), (∀ s ∈ l, okS s = true) → acc.length ≤ 4 → (l.foldl (fun acc s => if isL kind page s then s.2.2.2 else acc) acc).length ≤ 4 := by
    intro l
    induction l with
    | nil => intro acc _ ha; exact ha
    | cons s l ih =>
      intro acc hs ha
      rw [List.foldl_cons]
      refine ih _ (fun x hx => hs x (List.mem_cons_of_mem _ hx)) ?_
      split
      · exact (okS_len (hs s (List.mem_cons_self ..))).1
      · exact ha
  exact key l [] h (by simp)
/-- The words of a page. -/
def truthL (d : WoD) (page : Nat) : List Int :=
  if ((d.d (page % d.nn)).h page).ow < 0 then ((d.d (page % d.nn)).h page).xs
  else if ((d.d ((d.d (page % d.nn)).h page).ow.toNat).f page).s = 2 then ((d.d ((d.d (page % d.nn)).h page).ow.toNat).f page).xs
  else if (lastY 3 page (comD d (page % d.nn) ((d.d (page % d.nn)).h page).ow.toNat)).length = 0 then lastY 7 page (comD d ((d.d (page % d.nn)).h page).ow.toNat (page % d.nn))
  else lastY 3 page (comD d (page % d.nn) ((d.d (page % d.nn)).h page).ow.toNat)
def bit (b : Bool) : Nat := if b then 1 else 0
def haveN (d : WoD) (page k : Nat) : Nat := sumN (fun i => bit (((d.d i).f page).s != 0)) k
def writeN (d : WoD) (page k : Nat) : Nat := sumN (fun i => bit (((d.d i).f page).s == 2)) k
def aloneB (d : WoD) (page : Nat) : Bool := writeN d page d.nn == 0 || (writeN d page d.nn == 1 && haveN d page d.nn == 1)
def saneP (d : WoD) (page : Nat) : Bool := aloneB d page && (decide ((truthL d page).length = 4) && allB d.nn (fun i => ((d.d i).f page).s == 0 || decide (((d.d i).f page).xs = truthL d page)))
def sentB (d : WoD) (i k : Nat) : Bool := decide ((d.d i).g k ≤ (d.d k).b i + ((d.d k).y i).length)
def saneB (d : WoD) : Bool := allB 6 (fun p => saneP d p) && allB d.nn (fun i => allB d.nn (fun k => sentB d i k))
theorem bit_le (b : Bool) : bit b ≤ 1 := by unfold bit; split <;> omega
theorem haveN_le (d : WoD) (page k : Nat) : haveN d page k ≤ k ∧ writeN d page k ≤ k := by
  unfold haveN writeN
  refine ⟨?_, ?_⟩
  · have := sumN_le (c := fun i => bit (((d.d i).f page).s != 0)) (C := 1) (j := k) (fun i _ => bit_le _)
    omega
  · have := sumN_le (c := fun i => bit (((d.d i).f page).s == 2)) (C := 1) (j := k) (fun i _ => bit_le _)
    omega
end Go.Proofs.YtiaiomjoapbalaaGreat

/- What impl.isPage answers. -/
namespace Go.Proofs.YtiaiomjoapbalaaGreat
open Go.RowKit
set_option linter.unusedVariables false

set_option maxHeartbeats 400000 in
theorem isPage_v (x : Int) (w : World) :
    Calls Tryz.prog 37 #[.int .i64 x] w fun e w' => e = .returned (.bool (inB x 0 5)) ∧ w' = w := by
  by_cases h0 : 0 ≤ x
  · by_cases h1 : x ≤ 5
    · have hd : inB x 0 5 = true := by simp [inB, h0, h1]
      rw [hd]
      have h1' : x < 6 := by omega
      go_enter Tryz.func37, Tryz.ntmps37
      go_wp2
      go_ret
      exact ⟨rfl, rfl⟩
    · have hd : inB x 0 5 = false := by simp [inB, h1]
      rw [hd]
      have h1' : 6 ≤ x := by omega
      go_enter Tryz.func37, Tryz.ntmps37
      go_wp2
      go_ret
      exact ⟨ret_bool (by simp; omega), rfl⟩
  · have hd : inB x 0 5 = false := by simp [inB, h0]
    rw [hd]
    have h0' : x < 0 := by omega
    go_enter Tryz.func37, Tryz.ntmps37
    go_wp2
    go_ret
    exact ⟨rfl, rfl⟩

end Go.Proofs.YtiaiomjoapbalaaGreat

/- What the specification's l7Ints and l1Bit do. -/
namespace Go.Proofs.YtiaiomjoapbalaaGreat
open Go.RowKit
set_option linter.unusedVariables false


theorem ints_bad {xs ys : List Int} {k : Nat} (h : xs.getD k 0 ≠ ys.getD k 0) : decide (xs = ys) = false := by
  refine decide_eq_false (fun e => h (by rw [e]))
theorem ints_ok {xs ys : List Int} {n : Nat} (hx : xs.length = n) (hy : ys.length = n) (h : ∀ j, j < n → xs.getD j 0 = ys.getD j 0) : decide (xs = ys) = true := by
  refine decide_eq_true (List.ext_getElem (by omega) (fun i h1 h2 => ?_))
  have := h i (by omega)
  simpa [h1, h2] using this

end Go.Proofs.YtiaiomjoapbalaaGreat

/- What the specification's Alone answers. -/
namespace Go.Proofs.YtiaiomjoapbalaaGreat
open Go.RowKit
set_option linter.unusedVariables false

theorem haveN_succ {d : WoD} {pg k : Nat} {s : Int} (h : ((d.d k).f pg).s = s) : haveN d pg (k + 1) = haveN d pg k + bit (s != 0) := by simp only [haveN, sumN, h]
theorem writeN_succ {d : WoD} {pg k : Nat} {s : Int} (h : ((d.d k).f pg).s = s) : writeN d pg (k + 1) = writeN d pg k + bit (s == 2) := by simp only [writeN, sumN, h]



end Go.Proofs.YtiaiomjoapbalaaGreat
