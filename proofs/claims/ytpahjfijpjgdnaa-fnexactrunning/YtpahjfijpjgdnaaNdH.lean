/- What the law's markHomeS and heldHomeS do at a row of homes for whom nobody waits. -/
import Derived.Test.YtpahjfijpjgdnaaNdM
namespace Go.Proofs.Ytpahjfijpjgdnaa
open Go.RowKit
set_option linter.unusedVariables false

/-- A row of homes that is owned, with each one's words and readers. -/
structure HO (w : World) (lo : Nat) (a : Option Addr) (c n : Nat) (d : Nat → HD) (p : Nat → HP) : Prop where
  row : w.ownsRow lo 145 8 (.slice a n c) n (chunks n fun i => hcells (d i) (p i))
  l : ∀ i, i < n → w.ownsRow lo 3 1 (.slice (p i).l.1 (d i).xs.length (p i).l.2) (d i).xs.length ((d i).xs.map (Value.int .i64))
  r : ∀ i, i < n → w.ownsRow lo 4 1 (.slice (p i).r.1 (d i).bs.length (p i).r.2) (d i).bs.length (bv (d i).bs)

/-- No two of them lie in one block. -/
def HApart (n : Nat) (p : Nat → HP) : Prop := ∀ i k, i < n → k < n → i ≠ k → (∀ j, blk (p i).l = some j → blk (p k).l ≠ some j) ∧ ∀ j, blk (p i).r = some j → blk (p k).r ≠ some j

/-- A marked home. -/
def mH (k : Int) (L R : Nat) : HD := ⟨mki k L, k + L, mkb (k + L + 1) R, (k + L + 1 + R) % 3 == 0, k + L + 1 + R + 1, (k + L + 1 + R + 1 + 1) % 3 == 0, k + L + 1 + R + 1 + 1 + 1, []⟩

theorem HO.below {w w' : World} {lo : Nat} {a : Option Addr} {c n : Nat} {d : Nat → HD} {p : Nat → HP} (h : HO w lo a c n d p) (b : Below w.heap.size w w') : HO w' lo a c n d p :=
  ⟨owns_below h.row b, fun i hi => owns_below (h.l i hi) b, fun i hi => owns_below (h.r i hi) b⟩
theorem HO.base {w : World} {lo lo' : Nat} {a : Option Addr} {c n : Nat} {d : Nat → HD} {p : Nat → HP} (h : HO w lo a c n d p) (b : lo' ≤ lo) : HO w lo' a c n d p :=
  ⟨owns_base h.row b, fun i hi => owns_base (h.l i hi) b, fun i hi => owns_base (h.r i hi) b⟩

/-- The home at place j is marked. -/
theorem home_step {wr w1 w2 : World} {lo g c n j L R : Nat} {d : Nat → HD} {p : Nat → HP} {k : Int} (h : HO wr lo (some ⟨g, 0, none⟩) c n d p) (ap : HApart n p) (hj : j < n) (hL : (d j).xs.length = L) (hR : (d j).bs.length = R) (hQ : (d j).ws = [])
    (o1 : w1.ownsRow lo 3 1 (.slice (p j).l.1 L (p j).l.2) L ((mki k L).map (Value.int .i64))) (g1 : wr.grownBy w1 (Value.slice (p j).l.1 L (p j).l.2).ownBlock)
    (o2 : w2.ownsRow lo 4 1 (.slice (p j).r.1 R (p j).r.2) R (bv (mkb (k + L + 1) R))) (g2 : (w1.setCell ⟨g, j * 8 + 1, none⟩ (.int .i64 (k + L))).grownBy w2 (Value.slice (p j).r.1 R (p j).r.2).ownBlock) :
    HO ((((w2.setCell ⟨g, j * 8 + 3, none⟩ (.bool ((k + L + 1 + R) % 3 == 0))).setCell ⟨g, j * 8 + 4, none⟩ (.int .i64 (k + L + 1 + R + 1))).setCell ⟨g, j * 8 + 5, none⟩ (.bool ((k + L + 1 + R + 1 + 1) % 3 == 0))).setCell ⟨g, j * 8 + 6, none⟩ (.int .i64 (k + L + 1 + R + 1 + 1 + 1))) lo (some ⟨g, 0, none⟩) c n (fun i => if i = j then mH k L R else d i) p := by
  have hf : ∀ i, i < n → ((fun i => hcells (d i) (p i)) i).length = 8 := fun i _ => rfl
  have ol := h.l j hj
  have or' := h.r j hj
  rw [hL] at ol
  rw [hR] at or'
  have r1 := owns_ne h.row g1 (fun b hb he => owns_kinds ol h.row (by decide) he hb)
  have r2 := owns_stored r1 hf hj (j := 1) (by decide) (.int .i64 (k + L))
  have or1 := owns_ne or' g1 (fun b hb he => owns_kinds ol or' (by decide) he hb)
  have ne1 : ∀ {m : Nat} {x : Option Addr} {xs : List Value} {e : Nat} {W : World} {cc : Nat} {ys : List Value}, W.ownsRow lo e 1 (.slice x m cc) m xs → W.ownsRow lo 145 8 (.slice (some ⟨g, 0, none⟩) n c) n ys → e ≠ 145 → ∀ b, (Value.slice x m cc).ownBlock = some b → g ≠ b := fun ha hb he b h1 h2 => by
    subst h2
    exact owns_kinds ha hb he h1 rfl
  have or2 := owns_setCell or1 (a := ⟨g, j * 8 + 1, none⟩) (ne1 or1 r1 (by decide)) (.int .i64 (k + L))
  have r3 := owns_ne r2 g2 (fun b hb he => owns_kinds or2 r2 (by decide) he hb)
  have r4 := owns_stored r3 (set_len hf _ _ _) hj (j := 3) (by decide) (.bool ((k + L + 1 + R) % 3 == 0))
  have r5 := owns_stored r4 (set_len (set_len hf _ _ _) _ _ _) hj (j := 4) (by decide) (.int .i64 (k + L + 1 + R + 1))
  have r6 := owns_stored r5 (set_len (set_len (set_len hf _ _ _) _ _ _) _ _ _) hj (j := 5) (by decide) (.bool ((k + L + 1 + R + 1 + 1) % 3 == 0))
  have r7 := owns_stored r6 (set_len (set_len (set_len (set_len hf _ _ _) _ _ _) _ _ _) _ _ _) hj (j := 6) (by decide) (.int .i64 (k + L + 1 + R + 1 + 1 + 1))
  refine ⟨owns_congr r7 (fun i hi => ?_), fun i hi => ?_, fun i hi => ?_⟩
  · by_cases e : i = j
    · subst e
      simp [hcells, mH, hL, hR, hQ, mki_length, mkb_length]
    · simp [e]
  · have key : ∀ {m : Nat} {x : Option Addr} {xs : List Value} {cc : Nat}, w1.ownsRow lo 3 1 (.slice x m cc) m xs → ((((w2.setCell ⟨g, j * 8 + 3, none⟩ (.bool ((k + L + 1 + R) % 3 == 0))).setCell ⟨g, j * 8 + 4, none⟩ (.int .i64 (k + L + 1 + R + 1))).setCell ⟨g, j * 8 + 5, none⟩ (.bool ((k + L + 1 + R + 1 + 1) % 3 == 0))).setCell ⟨g, j * 8 + 6, none⟩ (.int .i64 (k + L + 1 + R + 1 + 1 + 1))).ownsRow lo 3 1 (.slice x m cc) m xs := fun ho => by
      have a1 := owns_setCell ho (a := ⟨g, j * 8 + 1, none⟩) (ne1 ho r1 (by decide)) (.int .i64 (k + L))
      have a2 := owns_ne a1 g2 (fun b hb he => owns_kinds or2 a1 (by decide) he hb)
      have nn := ne1 ho r1 (by decide)
      exact owns_setCell (owns_setCell (owns_setCell (owns_setCell a2 nn _) nn _) nn _) nn _
    by_cases e : i = j
    · subst e
      refine owns_cast (key o1) ?_ ?_ ?_ <;> simp [mH, mki_length]
    · refine owns_cast (key (owns_ne (h.l i hi) g1 (fun b hb he => ?_))) ?_ ?_ ?_
      · exact (ap i j hi hj e).1 b (blk_eq hb) (blk_eq he)
      all_goals simp [e]
  · have key : ∀ {m : Nat} {x : Option Addr} {xs : List Value} {cc : Nat}, w2.ownsRow lo 4 1 (.slice x m cc) m xs → ((((w2.setCell ⟨g, j * 8 + 3, none⟩ (.bool ((k + L + 1 + R) % 3 == 0))).setCell ⟨g, j * 8 + 4, none⟩ (.int .i64 (k + L + 1 + R + 1))).setCell ⟨g, j * 8 + 5, none⟩ (.bool ((k + L + 1 + R + 1 + 1) % 3 == 0))).setCell ⟨g, j * 8 + 6, none⟩ (.int .i64 (k + L + 1 + R + 1 + 1 + 1))).ownsRow lo 4 1 (.slice x m cc) m xs := fun ho => by
      have nn := ne1 ho r3 (by decide)
      exact owns_setCell (owns_setCell (owns_setCell (owns_setCell ho nn _) nn _) nn _) nn _
    by_cases e : i = j
    · subst e
      refine owns_cast (key o2) ?_ ?_ ?_ <;> simp [mH, mkb_length]
    · have b0 := h.r i hi
      have b1 := owns_ne b0 g1 (fun b hb he => owns_kinds ol b0 (by decide) he hb)
      have b2 := owns_setCell b1 (a := ⟨g, j * 8 + 1, none⟩) (ne1 b1 r1 (by decide)) (.int .i64 (k + L))
      refine owns_cast (key (owns_ne b2 g2 (fun b hb he => ?_))) ?_ ?_ ?_
      · exact (ap i j hi hj e).2 b (blk_eq hb) (blk_eq he)
      all_goals simp [e]

/-- How far it is counted. -/
def kk (k0 : Int) (S : Nat) (j : Nat) : Int := k0 + ((j * S : Nat) : Int)
theorem kk_succ (k0 : Int) (S j : Nat) : kk k0 S (j + 1) = kk k0 S j + S := by unfold kk; rw [Nat.succ_mul]; omega
theorem kk_le (k0 : Int) {S j n : Nat} (hS : S ≤ 20) (hj : j ≤ n) (hn : n ≤ 1048577) : k0 ≤ kk k0 S j ∧ kk k0 S j ≤ k0 + 20971540 := by
  unfold kk
  have : j * S ≤ 1048577 * 20 := Nat.mul_le_mul (by omega) hS
  omega

end Go.Proofs.Ytpahjfijpjgdnaa
