/- HomM and NdM and NdH: see the heads of the parts. -/
import Derived.Test.YtiaiomjoapbalaaHom
import Derived.Test.YtiaiomjoapbalaaNd
import Derived.Test.YtiaiomjoapbalaaKeep
/- What the law's small functions over homes do: markHome and heldHome of a home for whom nobody waits, and what they call. -/
namespace Go.Proofs.Ytiaiomjoapbalaa
open Go.RowKit
set_option linter.unusedVariables false

/-- What is marked: so many truth values, counted on from k. -/
def mkb (k : Int) (n : Nat) : List Bool := (List.range n).map fun (i : Nat) => (k + (i : Int)) % 3 == 0
theorem mkb_length (k : Int) (n : Nat) : (mkb k n).length = n := by simp [mkb]
theorem mkb_get (k : Int) (n i : Nat) (h : i < n) : (mkb k n).getD i false = ((k + (i : Int)) % 3 == 0) := by
  simp [mkb, h]
theorem mkb_succ (k : Int) (n : Nat) : mkb k (n + 1) = mkb k n ++ [((k + (n : Int)) % 3 == 0)] := by
  simp [mkb, List.range_succ]






end Go.Proofs.Ytiaiomjoapbalaa

/- What the law's markFrameS, markSenderS, markReceiverS and the like of 'held' do at rows whose lists are empty. -/
namespace Go.Proofs.Ytiaiomjoapbalaa
open Go.RowKit
set_option linter.unusedVariables false

theorem owns_chunk {w : World} {lo e s n g c : Nat} {f : Nat → List Value} (h : w.ownsRow lo e s (.slice (some ⟨g, 0, none⟩) n c) n (chunks n f)) (hf : ∀ i, i < n → (f i).length = s) {i j : Nat} (hi : i < n) (hj : j < s) :
    w.cell? ⟨g, i * s + j, none⟩ = (f i)[j]? := by
  have h2 : (i + 1) * s ≤ n * s := Nat.mul_le_mul_right s hi
  rw [Nat.succ_mul] at h2
  rw [h.cellAt (i * s + j) (by omega), chunks_get hf hi hj]
theorem owns_stored {w : World} {lo e s n g c : Nat} {f : Nat → List Value} (h : w.ownsRow lo e s (.slice (some ⟨g, 0, none⟩) n c) n (chunks n f)) (hf : ∀ i, i < n → (f i).length = s) {i j : Nat} (hi : i < n) (hj : j < s) (u : Value) :
    (w.setCell ⟨g, i * s + j, none⟩ u).ownsRow lo e s (.slice (some ⟨g, 0, none⟩) n c) n (chunks n (fun x => if x = i then (f x).set j u else f x)) := by
  have h2 := (h.stored (i * s + j) u).1
  rw [chunks_set hf hi hj] at h2
  exact h2
theorem owns_congr {w : World} {lo e s n : Nat} {v : Value} {f g : Nat → List Value} (h : w.ownsRow lo e s v n (chunks n f)) (hfg : ∀ i, i < n → f i = g i) : w.ownsRow lo e s v n (chunks n g) := by
  rw [← chunks_congr hfg]
  exact h
theorem set_len {f : Nat → List Value} {n s : Nat} (hf : ∀ i, i < n → (f i).length = s) (i j : Nat) (u : Value) : ∀ x, x < n → ((fun x => if x = i then (f x).set j u else f x) x).length = s := fun x hx => by
  dsimp only
  by_cases e : x = i
  · rw [if_pos e, List.length_set]; exact hf x hx
  · rw [if_neg e]; exact hf x hx





/-- A frame without words; a sender that queues nothing. -/
def f0 (s : Int) (q : Bool) : List Value := [.int .i64 s, .slice none 0 0, .bool q]
def s0 (b : Int) : List Value := [.int .i64 b, .slice none 0 0]
/-- Marked: frames, senders, receivers, counted on from k. -/
def mf (k : Int) (i : Nat) : List Value := f0 (k + 2 * (i : Int)) ((k + 2 * (i : Int) + 1) % 3 == 0)
def ms' (k : Int) (i : Nat) : List Value := s0 (k + i)
def mg (k : Int) (i : Nat) : List Value := gcells (k + i)

theorem upto_step {n : Nat} {j : Nat} {m o : Nat → List Value} {c : List Value} (hc : c = m j) : ∀ i, i < n → (if i = j then c else (if i < j then m i else o i)) = (if i < j + 1 then m i else o i) := fun i _ => by
  by_cases h : i = j
  · subst h
    rw [if_pos rfl, if_pos (by omega), hc]
  · rw [if_neg h]
    by_cases h2 : i < j
    · rw [if_pos h2, if_pos (by omega)]
    · rw [if_neg h2, if_neg (by omega)]

theorem mark_f {w : World} {lo n g c j : Nat} {k : Int} {o : Nat → Int × Bool} (hr : w.ownsRow lo 42 3 (.slice (some ⟨g, 0, none⟩) n c) n (chunks n fun i => if i < j then mf k i else f0 (o i).1 (o i).2)) (hj : j < n) :
    ((w.setCell ⟨g, j * 3, none⟩ (.int .i64 (k + 2 * (j : Int)))).setCell ⟨g, j * 3 + 2, none⟩ (.bool ((k + 2 * (j : Int) + 1) % 3 == 0))).ownsRow lo 42 3 (.slice (some ⟨g, 0, none⟩) n c) n (chunks n fun i => if i < j + 1 then mf k i else f0 (o i).1 (o i).2) := by
  have hf : ∀ i, i < n → ((fun i => if i < j then mf k i else f0 (o i).1 (o i).2) i).length = 3 := fun i _ => by dsimp only; split <;> rfl
  have h1 := owns_stored hr hf hj (j := 0) (by decide) (.int .i64 (k + 2 * (j : Int)))
  have h2 := owns_stored h1 (set_len hf _ _ _) hj (j := 2) (by decide) (.bool ((k + 2 * (j : Int) + 1) % 3 == 0))
  refine owns_congr h2 (fun i hi => ?_)
  by_cases e : i = j
  · subst e
    simp [f0, mf]
  · try dsimp only
    rw [if_neg e, if_neg e]
    by_cases h : i < j
    · rw [if_pos h, if_pos (by omega)]
    · rw [if_neg h, if_neg (by omega)]

theorem grown_set {w wr : World} {lo e s n g c : Nat} {xs : List Value} (hg : w.grownBy wr (Value.slice (some ⟨g, 0, none⟩) n c).ownBlock) (hr : wr.ownsRow lo e s (.slice (some ⟨g, 0, none⟩) n c) n xs) (k : Nat) (u : Value) : w.grownBy (wr.setCell ⟨g, k, none⟩ u) (Value.slice (some ⟨g, 0, none⟩) n c).ownBlock :=
  grownBy_trans hg (hr.stored k u).2



theorem mark_s {w : World} {lo n g c j : Nat} {k : Int} {o : Nat → Int} (hr : w.ownsRow lo 93 2 (.slice (some ⟨g, 0, none⟩) n c) n (chunks n fun i => if i < j then ms' k i else s0 (o i))) (hj : j < n) :
    (w.setCell ⟨g, j * 2, none⟩ (.int .i64 (k + (j : Int)))).ownsRow lo 93 2 (.slice (some ⟨g, 0, none⟩) n c) n (chunks n fun i => if i < j + 1 then ms' k i else s0 (o i)) := by
  have hf : ∀ i, i < n → ((fun i => if i < j then ms' k i else s0 (o i)) i).length = 2 := fun i _ => by dsimp only; split <;> rfl
  have h1 := owns_stored hr hf hj (j := 0) (by decide) (.int .i64 (k + (j : Int)))
  refine owns_congr h1 (fun i hi => ?_)
  by_cases e : i = j
  · subst e
    simp [s0, ms']
  · try dsimp only
    rw [if_neg e]
    by_cases h : i < j
    · rw [if_pos h, if_pos (by omega)]
    · rw [if_neg h, if_neg (by omega)]



theorem mark_g {w : World} {lo n g c j : Nat} {k : Int} {o : Nat → Int} (hr : w.ownsRow lo 95 1 (.slice (some ⟨g, 0, none⟩) n c) n (chunks n fun i => if i < j then mg k i else gcells (o i))) (hj : j < n) :
    (w.setCell ⟨g, j, none⟩ (.int .i64 (k + (j : Int)))).ownsRow lo 95 1 (.slice (some ⟨g, 0, none⟩) n c) n (chunks n fun i => if i < j + 1 then mg k i else gcells (o i)) := by
  have hf : ∀ i, i < n → ((fun i => if i < j then mg k i else gcells (o i)) i).length = 1 := fun i _ => by dsimp only; split <;> rfl
  have h1 := owns_stored hr hf hj (j := 0) (by decide) (.int .i64 (k + (j : Int)))
  rw [Nat.mul_one, Nat.add_zero] at h1
  refine owns_congr h1 (fun i hi => ?_)
  by_cases e : i = j
  · subst e
    simp [gcells, mg]
  · try dsimp only
    rw [if_neg e]
    by_cases h : i < j
    · rw [if_pos h, if_pos (by omega)]
    · rw [if_neg h, if_neg (by omega)]


end Go.Proofs.Ytiaiomjoapbalaa

/- What the law's markHomeS and heldHomeS do at a row of homes for whom nobody waits. -/
namespace Go.Proofs.Ytiaiomjoapbalaa
open Go.RowKit
set_option linter.unusedVariables false

/-- A row of homes that is owned, with each one's words and readers. -/
structure HO (w : World) (lo : Nat) (a : Option Addr) (c n : Nat) (d : Nat → HD) (p : Nat → HP) : Prop where
  row : w.ownsRow lo 89 8 (.slice a n c) n (chunks n fun i => hcells (d i) (p i))
  l : ∀ i, i < n → w.ownsRow lo 3 1 (.slice (p i).l.1 (d i).xs.length (p i).l.2) (d i).xs.length ((d i).xs.map (Value.int .i64))
  r : ∀ i, i < n → w.ownsRow lo 4 1 (.slice (p i).r.1 (d i).bs.length (p i).r.2) (d i).bs.length (bv (d i).bs)

def blk (p : Pl) : Option Nat := p.1.map (·.block)
theorem blk_eq {a : Option Addr} {n c j : Nat} (h : (Value.slice a n c).ownBlock = some j) : blk (a, c) = some j := by
  cases a with
  | none => simp [Value.ownBlock] at h
  | some x => simpa [Value.ownBlock, blk] using h

/-- No two of them lie in one block. -/
def HApart (n : Nat) (p : Nat → HP) : Prop := ∀ i k, i < n → k < n → i ≠ k → (∀ j, blk (p i).l = some j → blk (p k).l ≠ some j) ∧ ∀ j, blk (p i).r = some j → blk (p k).r ≠ some j

/-- A marked home. -/
def mH (k : Int) (L R : Nat) : HD := ⟨mki k L, k + L, mkb (k + L + 1) R, (k + L + 1 + R) % 3 == 0, k + L + 1 + R + 1, (k + L + 1 + R + 1 + 1) % 3 == 0, k + L + 1 + R + 1 + 1 + 1, []⟩

theorem HO.below {w w' : World} {lo : Nat} {a : Option Addr} {c n : Nat} {d : Nat → HD} {p : Nat → HP} (h : HO w lo a c n d p) (b : Below w.heap.size w w') : HO w' lo a c n d p :=
  ⟨owns_below h.row b, fun i hi => owns_below (h.l i hi) b, fun i hi => owns_below (h.r i hi) b⟩
theorem HO.base {w : World} {lo lo' : Nat} {a : Option Addr} {c n : Nat} {d : Nat → HD} {p : Nat → HP} (h : HO w lo a c n d p) (b : lo' ≤ lo) : HO w lo' a c n d p :=
  ⟨owns_base h.row b, fun i hi => owns_base (h.l i hi) b, fun i hi => owns_base (h.r i hi) b⟩

theorem owns_cast {w : World} {lo e s n n' : Nat} {v v' : Value} {xs xs' : List Value} (h : w.ownsRow lo e s v n xs) (h1 : v = v') (h2 : n = n') (h3 : xs = xs') : w.ownsRow lo e s v' n' xs' := by subst h1 h2 h3; exact h

/-- The home at place j is marked. -/
theorem home_step {wr w1 w2 : World} {lo g c n j L R : Nat} {d : Nat → HD} {p : Nat → HP} {k : Int} (h : HO wr lo (some ⟨g, 0, none⟩) c n d p) (ap : HApart n p) (hj : j < n) (hL : (d j).xs.length = L) (hR : (d j).bs.length = R) (hQ : (d j).ws = [])
    (o1 : w1.ownsRow lo 3 1 (.slice (p j).l.1 L (p j).l.2) L ((mki k L).map (Value.int .i64))) (g1 : wr.grownBy w1 (Value.slice (p j).l.1 L (p j).l.2).ownBlock)
    (o2 : w2.ownsRow lo 4 1 (.slice (p j).r.1 R (p j).r.2) R (bv (mkb (k + L + 1) R))) (g2 : (w1.setCell ⟨g, j * 8 + 1, none⟩ (.int .i64 (k + L))).grownBy w2 (Value.slice (p j).r.1 R (p j).r.2).ownBlock) :
    HO ((((w2.setCell ⟨g, j * 8 + 3, none⟩ (.bool ((k + L + 1 + R) % 3 == 0))).setCell ⟨g, j * 8 + 4, none⟩ (.int .i64 (k + L + 1 + R + 1))).setCell ⟨g, j * 8 + 5, none⟩ (.bool ((k + L + 1 + R + 1 + 1) % 3 == 0))).setCell ⟨g, j * 8 + 6, none⟩ (.int .i64 (k + L + 1 + R + 1 + 1 + 1))) lo (some ⟨g, 0, none⟩) c n (fun i => if i = j then mH k L R else d i) p := by
  have hf : ∀ i, i < n → ((fun i => hcells (d i) (p i)) i).length = 8 := fun i _ => rfl
  have ol := h.l j hj
  have or' := h.r j hj
  rw [hL] at ol
  rw [hR] at or'
  have r1 := owns_ne h.row g1 (fun b hb he => owns_kinds ol h.row (by decide) he hb)
  have r2 := owns_stored r1 hf hj (j := 1) (by decide) (.int .i64 (k + L))
  have or1 := owns_ne or' g1 (fun b hb he => owns_kinds ol or' (by decide) he hb)
  have ne1 : ∀ {m : Nat} {x : Option Addr} {xs : List Value} {e : Nat} {W : World} {cc : Nat} {ys : List Value}, W.ownsRow lo e 1 (.slice x m cc) m xs → W.ownsRow lo 89 8 (.slice (some ⟨g, 0, none⟩) n c) n ys → e ≠ 89 → ∀ b, (Value.slice x m cc).ownBlock = some b → g ≠ b := fun ha hb he b h1 h2 => by
    subst h2
    exact owns_kinds ha hb he h1 rfl
  have or2 := owns_setCell or1 (a := ⟨g, j * 8 + 1, none⟩) (ne1 or1 r1 (by decide)) (.int .i64 (k + L))
  have r3 := owns_ne r2 g2 (fun b hb he => owns_kinds or2 r2 (by decide) he hb)
  have r4 := owns_stored r3 (set_len hf _ _ _) hj (j := 3) (by decide) (.bool ((k + L + 1 + R) % 3 == 0))
  have r5 := owns_stored r4 (set_len (set_len hf _ _ _) _ _ _) hj (j := 4) (by decide) (.int .i64 (k + L + 1 + R + 1))
  have r6 := owns_stored r5 (set_len (set_len (set_len hf _ _ _) _ _ _) _ _ _) hj (j := 5) (by decide) (.bool ((k + L + 1 + R + 1 + 1) % 3 == 0))
  have r7 := owns_stored r6 (set_len (set_len (set_len (set_len hf _ _ _) _ _ _) _ _ _) _ _ _) hj (j := 6) (by decide) (.int .i64 (k + L + 1 + R + 1 + 1 + 1))
  refine ⟨owns_congr r7 (fun i hi => ?_), fun i hi => ?_, fun i hi => ?_⟩
  · by_cases e : i = j
    · subst e
      simp [hcells, mH, hL, hR, hQ, mki_length, mkb_length]
    · simp [e]
  · have key : ∀ {m : Nat} {x : Option Addr} {xs : List Value} {cc : Nat}, w1.ownsRow lo 3 1 (.slice x m cc) m xs → ((((w2.setCell ⟨g, j * 8 + 3, none⟩ (.bool ((k + L + 1 + R) % 3 == 0))).setCell ⟨g, j * 8 + 4, none⟩ (.int .i64 (k + L + 1 + R + 1))).setCell ⟨g, j * 8 + 5, none⟩ (.bool ((k + L + 1 + R + 1 + 1) % 3 == 0))).setCell ⟨g, j * 8 + 6, none⟩ (.int .i64 (k + L + 1 + R + 1 + 1 + 1))).ownsRow lo 3 1 (.slice x m cc) m xs := fun ho => by
      have a1 := owns_setCell ho (a := ⟨g, j * 8 + 1, none⟩) (ne1 ho r1 (by decide)) (.int .i64 (k + L))
      have a2 := owns_ne a1 g2 (fun b hb he => owns_kinds or2 a1 (by decide) he hb)
      have nn := ne1 ho r1 (by decide)
      exact owns_setCell (owns_setCell (owns_setCell (owns_setCell a2 nn _) nn _) nn _) nn _
    by_cases e : i = j
    · subst e
      refine owns_cast (key o1) ?_ ?_ ?_ <;> simp [mH, mki_length]
    · refine owns_cast (key (owns_ne (h.l i hi) g1 (fun b hb he => ?_))) ?_ ?_ ?_
      · exact (ap i j hi hj e).1 b (blk_eq hb) (blk_eq he)
      all_goals simp [e]
  · have key : ∀ {m : Nat} {x : Option Addr} {xs : List Value} {cc : Nat}, w2.ownsRow lo 4 1 (.slice x m cc) m xs → ((((w2.setCell ⟨g, j * 8 + 3, none⟩ (.bool ((k + L + 1 + R) % 3 == 0))).setCell ⟨g, j * 8 + 4, none⟩ (.int .i64 (k + L + 1 + R + 1))).setCell ⟨g, j * 8 + 5, none⟩ (.bool ((k + L + 1 + R + 1 + 1) % 3 == 0))).setCell ⟨g, j * 8 + 6, none⟩ (.int .i64 (k + L + 1 + R + 1 + 1 + 1))).ownsRow lo 4 1 (.slice x m cc) m xs := fun ho => by
      have nn := ne1 ho r3 (by decide)
      exact owns_setCell (owns_setCell (owns_setCell (owns_setCell ho nn _) nn _) nn _) nn _
    by_cases e : i = j
    · subst e
      refine owns_cast (key o2) ?_ ?_ ?_ <;> simp [mH, mkb_length]
    · have b0 := h.r i hi
      have b1 := owns_ne b0 g1 (fun b hb he => owns_kinds ol b0 (by decide) he hb)
      have b2 := owns_setCell b1 (a := ⟨g, j * 8 + 1, none⟩) (ne1 b1 r1 (by decide)) (.int .i64 (k + L))
      refine owns_cast (key (owns_ne b2 g2 (fun b hb he => ?_))) ?_ ?_ ?_
      · exact (ap i j hi hj e).2 b (blk_eq hb) (blk_eq he)
      all_goals simp [e]

theorem cell_kept {w w' : World} {row : Option Nat} (g : w.grownBy w' row) {m : Nat} (hm : m < w.heap.size) (hne : row ≠ some m) (t : Nat) : w'.cell? ⟨m, t, none⟩ = w.cell? ⟨m, t, none⟩ := by
  have h := g.block m hm (fun e => hne e.symm)
  simp only [World.cell?, h]
theorem frozen_kept {w w' : World} {row : Option Nat} (g : w.grownBy w' row) {m : Nat} (hm : m < w.heap.size) (hne : row ≠ some m) (t : Nat) : w'.frozen? ⟨m, t, none⟩ = w.frozen? ⟨m, t, none⟩ := by
  have h := g.block m hm (fun e => hne e.symm)
  simp only [World.frozen?, h]

/-- How far it is counted. -/
def kk (k0 : Int) (S : Nat) (j : Nat) : Int := k0 + ((j * S : Nat) : Int)
theorem kk_succ (k0 : Int) (S j : Nat) : kk k0 S (j + 1) = kk k0 S j + S := by unfold kk; rw [Nat.succ_mul]; omega
theorem kk_le (k0 : Int) {S j n : Nat} (hS : S ≤ 20) (hj : j ≤ n) (hn : n ≤ 1048577) : k0 ≤ kk k0 S j ∧ kk k0 S j ≤ k0 + 20971540 := by
  unfold kk
  have : j * S ≤ 1048577 * 20 := Nat.mul_le_mul (by omega) hS
  omega

end Go.Proofs.Ytiaiomjoapbalaa
