/- NdH and NdK: see the heads of the parts. -/
import Derived.Test.YtpfppeifppdmbaaGreatNdM
import Derived.Test.YtpfppeifppdmbaaGreatWoR
/- What the law's markHomeS and heldHomeS do at a row of homes for whom nobody waits. -/
namespace Go.Proofs.YtpfppeifppdmbaaGreat
open Go.RowKit
set_option linter.unusedVariables false

/-- A row of homes that is owned, with each one's words and readers. -/
structure HO (w : World) (lo : Nat) (a : Option Addr) (c n : Nat) (d : Nat → HD) (p : Nat → HP) : Prop where
  row : w.ownsRow lo 93 8 (.slice a n c) n (chunks n fun i => hcells (d i) (p i))
  l : ∀ i, i < n → w.ownsRow lo 3 1 (.slice (p i).l.1 (d i).xs.length (p i).l.2) (d i).xs.length ((d i).xs.map (Value.int .i64))
  r : ∀ i, i < n → w.ownsRow lo 4 1 (.slice (p i).r.1 (d i).bs.length (p i).r.2) (d i).bs.length (bv (d i).bs)

/-- No two of them lie in one block. -/
def HApart (n : Nat) (p : Nat → HP) : Prop := ∀ i k, i < n → k < n → i ≠ k → (∀ j, blk (p i).l = some j → blk (p k).l ≠ some j) ∧ ∀ j, blk (p i).r = some j → blk (p k).r ≠ some j

/-- A marked home. -/
def mH (k : Int) (L R : Nat) : HD := ⟨mki k L, k + L, mkb (k + L + 1) R, (k + L + 1 + R) % 3 == 0, k + L + 1 + R + 1, (k + L + 1 + R + 1 + 1) % 3 == 0, k + L + 1 + R + 1 + 1 + 1, []⟩

theorem HO.below {w w' : World} {lo : Nat} {a : Option Addr} {c n : Nat} {d : Nat → HD} {p : Nat → HP} (h : HO w lo a c n d p) (b : Below w.heap.size w w') : HO w' lo a c n d p :=
  ⟨owns_below h.row b, fun i hi => owns_below (h.l i hi) b, fun i hi => owns_below (h.r i hi) b⟩
theorem HO.base {w : World} {lo lo' : Nat} {a : Option Addr} {c n : Nat} {d : Nat → HD} {p : Nat → HP} (h : HO w lo a c n d p) (b : lo' ≤ lo) : HO w lo' a c n d p :=
  ⟨owns_base h.row b, fun i hi => owns_base (h.l i hi) b, fun i hi => owns_base (h.r i hi) b⟩

/-- The home at place j is marked. -/
theorem home_step {wr w1 w2 : World} {lo g c n j L R : Nat} {d : Nat → HD} {p : Nat → HP} {k : Int} (h : HO wr lo (some ⟨g, 0, none⟩) c n d p) (ap : HApart n p) (hj : j < n) (hL : (d j).xs.length = L) (hR : (d j).bs.length = R) (hQ : (d j).ws = [])
    (o1 : w1.ownsRow lo 3 1 (.slice (p j).l.1 L (p j).l.2) L ((mki k L).map (Value.int .i64))) (g1 : wr.grownBy w1 (Value.slice (p j).l.1 L (p j).l.2).ownBlock)
    (o2 : w2.ownsRow lo 4 1 (.slice (p j).r.1 R (p j).r.2) R (bv (mkb (k + L + 1) R))) (g2 : (w1.setCell ⟨g, j * 8 + 1, none⟩ (.int .i64 (k + L))).grownBy w2 (Value.slice (p j).r.1 R (p j).r.2).ownBlock) :
    HO ((((w2.setCell ⟨g, j * 8 + 3, none⟩ (.bool ((k + L + 1 + R) % 3 == 0))).setCell ⟨g, j * 8 + 4, none⟩ (.int .i64 (k + L + 1 + R + 1))).setCell ⟨g, j * 8 + 5, none⟩ (.bool ((k + L + 1 + R + 1 + 1) % 3 == 0))).setCell ⟨g, j * 8 + 6, none⟩ (.int .i64 (k + L + 1 + R + 1 + 1 + 1))) lo (some ⟨g, 0, none⟩) c n (fun i => if i = j then mH k L R else d i) p := by
  have hf : ∀ i, i < n → ((fun i => hcells (d i) (p i)) i).length = 8 := fun i _ => rfl
  have ol := h.l j hj
  have or' := h.r j hj
  rw [hL] at ol
  rw [hR] at or'
  have r1 := owns_ne h.row g1 (fun b hb he => owns_kinds ol h.row (by decide) he hb)
  have r2 := owns_stored r1 hf hj (j := 1) (by decide) (.int .i64 (k + L))
  have or1 := owns_ne or' g1 (fun b hb he => owns_kinds ol or' (by decide) he hb)
  have ne1 : ∀ {m : Nat} {x : Option Addr} {xs : List Value} {e : Nat} {W : World} {cc : Nat} {ys : List Value}, W.ownsRow lo e 1 (.slice x m cc) m xs → W.ownsRow lo 93 8 (.slice (some ⟨g, 0, none⟩) n c) n ys → e ≠ 93 → ∀ b, (Value.slice x m cc).ownBlock = some b → g ≠ b := fun ha hb he b h1 h2 => by
    subst h2
    exact owns_kinds ha hb he h1 rfl
  have or2 := owns_setCell or1 (a := ⟨g, j * 8 + 1, none⟩) (ne1 or1 r1 (by decide)) (.int .i64 (k + L))
  have r3 := owns_ne r2 g2 (fun b hb he => owns_kinds or2 r2 (by decide) he hb)
  have r4 := owns_stored r3 (set_len hf _ _ _) hj (j := 3) (by decide) (.bool ((k + L + 1 + R) % 3 == 0))
  have r5 := owns_stored r4 (set_len (set_len hf _ _ _) _ _ _) hj (j := 4) (by decide) (.int .i64 (k + L + 1 + R + 1))
  have r6 := owns_stored r5 (set_len (set_len (set_len hf _ _ _) _ _ _) _ _ _) hj (j := 5) (by decide) (.bool ((k + L + 1 + R + 1 + 1) % 3 == 0))
  have r7 := owns_stored r6 (set_len (set_len (set_len (set_len hf _ _ _) _ _ _) _ _ _) _ _ _) hj (j := 6) (by decide) (.int .i64 (k + L + 1 + R + 1 + 1 + 1))
  refine ⟨owns_congr r7 (fun i hi => ?_), fun i hi => ?_, fun i hi => ?_⟩
  · by_cases e : i = j
    · subst e
      simp [hcells, mH, hL, hR, hQ, mki_length, mkb_length]
    · simp [e]
  · have key : ∀ {m : Nat} {x : Option Addr} {xs : List Value} {cc : Nat}, w1.ownsRow lo 3 1 (.slice x m cc) m xs → ((((w2.setCell ⟨g, j * 8 + 3, none⟩ (.bool ((k + L + 1 + R) % 3 == 0))).setCell ⟨g, j * 8 + 4, none⟩ (.int .i64 (k + L + 1 + R + 1))).setCell ⟨g, j * 8 + 5, none⟩ (.bool ((k + L + 1 + R + 1 + 1) % 3 == 0))).setCell ⟨g, j * 8 + 6, none⟩ (.int .i64 (k + L + 1 + R + 1 + 1 + 1))).ownsRow lo 3 1 (.slice x m cc) m xs := fun ho => by
      have a1 := owns_setCell ho (a := ⟨g, j * 8 + 1, none⟩) (ne1 ho r1 (by decide)) (.int .i64 (k + L))
      have a2 := owns_ne a1 g2 (fun b hb he => owns_kinds or2 a1 (by decide) he hb)
      have nn := ne1 ho r1 (by decide)
      exact owns_setCell (owns_setCell (owns_setCell (owns_setCell a2 nn _) nn _) nn _) nn _
    by_cases e : i = j
    · subst e
      refine owns_cast (key o1) ?_ ?_ ?_ <;> simp [mH, mki_length]
    · refine owns_cast (key (owns_ne (h.l i hi) g1 (fun b hb he => ?_))) ?_ ?_ ?_
      · exact (ap i j hi hj e).1 b (blk_eq hb) (blk_eq he)
      all_goals simp [e]
  · have key : ∀ {m : Nat} {x : Option Addr} {xs : List Value} {cc : Nat}, w2.ownsRow lo 4 1 (.slice x m cc) m xs → ((((w2.setCell ⟨g, j * 8 + 3, none⟩ (.bool ((k + L + 1 + R) % 3 == 0))).setCell ⟨g, j * 8 + 4, none⟩ (.int .i64 (k + L + 1 + R + 1))).setCell ⟨g, j * 8 + 5, none⟩ (.bool ((k + L + 1 + R + 1 + 1) % 3 == 0))).setCell ⟨g, j * 8 + 6, none⟩ (.int .i64 (k + L + 1 + R + 1 + 1 + 1))).ownsRow lo 4 1 (.slice x m cc) m xs := fun ho => by
      have nn := ne1 ho r3 (by decide)
      exact owns_setCell (owns_setCell (owns_setCell (owns_setCell ho nn _) nn _) nn _) nn _
    by_cases e : i = j
    · subst e
      refine owns_cast (key o2) ?_ ?_ ?_ <;> simp [mH, mkb_length]
    · have b0 := h.r i hi
      have b1 := owns_ne b0 g1 (fun b hb he => owns_kinds ol b0 (by decide) he hb)
      have b2 := owns_setCell b1 (a := ⟨g, j * 8 + 1, none⟩) (ne1 b1 r1 (by decide)) (.int .i64 (k + L))
      refine owns_cast (key (owns_ne b2 g2 (fun b hb he => ?_))) ?_ ?_ ?_
      · exact (ap i j hi hj e).2 b (blk_eq hb) (blk_eq he)
      all_goals simp [e]

/-- How far it is counted. -/
def kk (k0 : Int) (S : Nat) (j : Nat) : Int := k0 + ((j * S : Nat) : Int)
theorem kk_succ (k0 : Int) (S j : Nat) : kk k0 S (j + 1) = kk k0 S j + S := by unfold kk; rw [Nat.succ_mul]; omega
theorem kk_le (k0 : Int) {S j n : Nat} (hS : S ≤ 20) (hj : j ≤ n) (hn : n ≤ 1048577) : k0 ≤ kk k0 S j ∧ kk k0 S j ≤ k0 + 20971540 := by
  unfold kk
  have : j * S ≤ 1048577 * 20 := Nat.mul_le_mul (by omega) hS
  omega

set_option maxRecDepth 100000 in
set_option maxHeartbeats 4000000 in
theorem markHomeS_none (S : Nat → Prop) (lo n L R : Nat) (a : Option Addr) (c : Nat) (d : Nat → HD) (p : Nat → HP) (k0 : Int) (w : World) (h0 : 0 ≤ k0) (h1 : k0 ≤ 100000000000) (hn : n ≤ 1048577) (hL : L ≤ 5) (hR : R ≤ 5) (hd : ∀ i, i < n → (d i).xs.length = L ∧ (d i).bs.length = R ∧ (d i).ws = [] ∧ (p i).q = (none, 0)) (ap : HApart n p) (hh : HO w lo a c n d p) (hz : (∀ j, blk (a, c) = some j → S j) ∧ ∀ i, i < n → ∀ j, (blk (p i).l = some j ∨ blk (p i).r = some j) → S j) :
    Calls Tryz.prog 37 #[.slice a n c, .int .i64 k0] w fun e w' => e = .returned (.int .i64 (kk k0 (L + R + 5) n)) ∧ HO w' lo a c n (fun i => mH (kk k0 (L + R + 5) i) L R) p ∧ Only w w' S := by
  have KL : Hid (∀ j, j ≤ n → k0 ≤ kk k0 (L + R + 5) j ∧ kk k0 (L + R + 5) j ≤ k0 + 20971540) := fun j hj => kk_le k0 (by omega) hj hn
  have HD' : Hid (∀ i, i < n → (d i).xs.length = L ∧ (d i).bs.length = R ∧ (d i).ws = [] ∧ (p i).q = (none, 0)) := hd
  have HA : Hid (HApart n p) := ap
  have HZ : Hid (∀ i, i < n → (∀ j, blk (p i).l = some j → S j) ∧ ∀ j, blk (p i).r = some j → S j) := fun i hi' => ⟨fun j hj => hz.2 i hi' j (.inl hj), fun j hj => hz.2 i hi' j (.inr hj)⟩
  have HG : Hid (∀ g, a = some ⟨g, 0, none⟩ → S g) := fun g e => hz.1 g (by rw [e]; rfl)
  clear hd ap hz
  go_enter Tryz.func37, Tryz.ntmps37
  go_wp2
  go_loopw [1, 5] (fun q i wr => ∃ j : Nat, j ≤ n ∧ i = .int .i64 j ∧ q = .int .i64 (kk k0 (L + R + 5) j) ∧ HO wr lo a c n (fun i => if i < j then mH (kk k0 (L + R + 5) i) L R else d i) p ∧ Only w wr S) (fun _ i _ => n - (intOf i).toNat)
  case atStart => exact ⟨0, Nat.zero_le _, rfl, by simp [kk], by simpa using hh, Only.refl _ _⟩
  case round =>
    obtain ⟨j, hj, rfl, rfl, hH, hK⟩ := hrel
    obtain ⟨k, hk⟩ : ∃ k, kk k0 (L + R + 5) j = k := ⟨_, rfl⟩
    have hkb := KL.out j hj
    rw [hk] at hkb
    obtain ⟨hk0, hk1⟩ := hkb
    have HKj : Hid (kk k0 (L + R + 5) j = k) := hk
    rw [hk]
    clear hk
    by_cases hlt : j < n
    · have hi' : (j : Int) < (n : Int) := by omega
      obtain ⟨g, rfl⟩ := owns_addr hH.row (by omega)
      have hgb : Hid (S g) := HG.out g rfl
      obtain ⟨e1, e2, e3, e4⟩ := HD'.out j hlt
      have E : Hid ((d j).xs.length = L ∧ (d j).bs.length = R ∧ (d j).ws = []) := ⟨e1, e2, e3⟩
      have hf : ∀ i, i < n → ((fun i => hcells ((fun i => if i < j then mH (kk k0 (L + R + 5) i) L R else d i) i) (p i)) i).length = 8 := fun i _ => rfl
      have cc : ∀ t, t < 8 → wr.cell? ⟨g, j * 8 + t, none⟩ = (hcells (d j) (p j))[t]? := fun t ht => by
        have := owns_chunk hH.row hf hlt ht
        simpa using this
      have c0 : wr.cell? ⟨g, j * 8, none⟩ = some (.slice (p j).l.1 L (p j).l.2) := by have := cc 0 (by decide); simpa [hcells, e1] using this
      have c1 : wr.cell? ⟨g, j * 8 + 1, none⟩ = some (.int .i64 (d j).ow) := by have := cc 1 (by decide); simpa [hcells] using this
      have c2 : wr.cell? ⟨g, j * 8 + 2, none⟩ = some (.slice (p j).r.1 R (p j).r.2) := by have := cc 2 (by decide); simpa [hcells, e2] using this
      have c3 : wr.cell? ⟨g, j * 8 + 3, none⟩ = some (.bool (d j).bz) := by have := cc 3 (by decide); simpa [hcells] using this
      have c4 : wr.cell? ⟨g, j * 8 + 4, none⟩ = some (.int .i64 (d j).wh) := by have := cc 4 (by decide); simpa [hcells] using this
      have c5 : wr.cell? ⟨g, j * 8 + 5, none⟩ = some (.bool (d j).wo) := by have := cc 5 (by decide); simpa [hcells] using this
      have c6 : wr.cell? ⟨g, j * 8 + 6, none⟩ = some (.int .i64 (d j).ak) := by have := cc 6 (by decide); simpa [hcells] using this
      have c7 : wr.cell? ⟨g, j * 8 + 7, none⟩ = some (.slice none 0 0) := by have := cc 7 (by decide); simpa [hcells, e3, e4] using this
      have ol : wr.ownsRow lo 3 1 (.slice (p j).l.1 L (p j).l.2) L ((d j).xs.map (Value.int .i64)) := owns_cast (hH.l j hlt) (by simp [e1]) (by simp [e1]) (by simp)
      have or' : wr.ownsRow lo 4 1 (.slice (p j).r.1 R (p j).r.2) R (bv (d j).bs) := owns_cast (hH.r j hlt) (by simp [e2]) (by simp [e2]) (by simp)
      have HH : Hid (HO wr lo (some ⟨g, 0, none⟩) c n (fun i => if i < j then mH (kk k0 (L + R + 5) i) L R else d i) p) := hH
      have HR : Hid (wr.ownsRow lo 93 8 (.slice (some ⟨g, 0, none⟩) n c) n (chunks n fun i => hcells ((fun i => if i < j then mH (kk k0 (L + R + 5) i) L R else d i) i) (p i))) := hH.row
      have HLg : Hid (∀ b, (Value.slice (p j).l.1 L (p j).l.2).ownBlock = some b → b ≠ g) := fun b hb he => owns_kinds ol HR.out (by decide) hb (by rw [he]; rfl)
      have HRg : Hid (∀ b, (Value.slice (p j).r.1 R (p j).r.2).ownBlock = some b → b ≠ g) := fun b hb he => owns_kinds or' HR.out (by decide) hb (by rw [he]; rfl)
      have HLR : Hid (∀ b, (Value.slice (p j).r.1 R (p j).r.2).ownBlock = some b → (Value.slice (p j).l.1 L (p j).l.2).ownBlock ≠ some b) := fun b hb he => owns_kinds ol or' (by decide) he hb
      have z : ∀ t, wr.frozen? ⟨g, t, none⟩ = false := fun t => hH.row.frozenAt t
      have HZ' : Hid ((∀ b, (Value.slice (p j).l.1 L (p j).l.2).ownBlock = some b → S b) ∧ ∀ b, (Value.slice (p j).r.1 R (p j).r.2).ownBlock = some b → S b) := ⟨fun b hb => (HZ.out j hlt).1 b (blk_eq hb), fun b hb => (HZ.out j hlt).2 b (blk_eq hb)⟩
      clear hH hh hf cc e1 e2 e3 e4
      go_wp2_with fail
      refine (markIntS_any lo L _ k _ _ (by omega) (by omega) (by omega) ol).mono ?_
      rintro e w1 ⟨rfl, o1, g1⟩
      have ne1 : ∀ t, w1.cell? ⟨g, t, none⟩ = wr.cell? ⟨g, t, none⟩ := fun t => cell_kept g1 (by have := (HR.out.lt g rfl).2; exact this) (fun e => HLg.out g e rfl) t
      have nf1 : ∀ t, w1.frozen? ⟨g, t, none⟩ = false := fun t => (frozen_kept g1 (by have := (HR.out.lt g rfl).2; exact this) (fun e => HLg.out g e rfl) t).trans (z t)
      have d1 := (ne1 (j * 8 + 1)).trans c1
      have d2 := (ne1 (j * 8 + 2)).trans c2
      have d3 := (ne1 (j * 8 + 3)).trans c3
      have d4 := (ne1 (j * 8 + 4)).trans c4
      have d5 := (ne1 (j * 8 + 5)).trans c5
      have d6 := (ne1 (j * 8 + 6)).trans c6
      have d7 := (ne1 (j * 8 + 7)).trans c7
      have or1 := owns_setCell (owns_ne or' g1 HLR.out) (a := ⟨g, j * 8 + 1, none⟩) (fun b hb he => HRg.out b hb he.symm) (.int .i64 (k + L))
      have hK1 := (hK.grown g1 HZ'.out.1).setCell ⟨g, j * 8 + 1, none⟩ (.int .i64 (k + L)) hgb.out
      have O1 : Hid (w1.ownsRow lo 3 1 (.slice (p j).l.1 L (p j).l.2) L ((mki k L).map (Value.int .i64))) := o1
      have G1 : Hid (wr.grownBy w1 (Value.slice (p j).l.1 L (p j).l.2).ownBlock) := g1
      have s1 : Hid (g < w1.heap.size) := Nat.lt_of_lt_of_le (HR.out.lt g rfl).2 g1.size
      clear c0 c1 c2 c3 c4 c5 c6 c7 z ol or' o1 g1 ne1 hK
      go_wp2_with fail
      refine (markBoolS_any lo R _ (k + L + 1) _ _ (by omega) (by omega) (by omega) or1).mono ?_
      rintro e w2 ⟨rfl, o2, g2⟩
      have ne2 : ∀ t, t ≠ j * 8 + 1 → w2.cell? ⟨g, t, none⟩ = w1.cell? ⟨g, t, none⟩ := fun t ht => (cell_kept g2 (by simpa using s1.out) (fun e => HRg.out g e rfl) t).trans (World.cell?_setCell_other _ _ _ _ (fun e => by simp only [Addr.mk.injEq, true_and, and_true] at e; exact ht e.symm))
      have nf2 : ∀ t, w2.frozen? ⟨g, t, none⟩ = false := fun t => (frozen_kept g2 (by simpa using s1.out) (fun e => HRg.out g e rfl) t).trans (by simpa using nf1 t)
      have f3 := (ne2 (j * 8 + 3) (by omega)).trans d3
      have f4 := (ne2 (j * 8 + 4) (by omega)).trans d4
      have f5 := (ne2 (j * 8 + 5) (by omega)).trans d5
      have f6 := (ne2 (j * 8 + 6) (by omega)).trans d6
      have f7 := (ne2 (j * 8 + 7) (by omega)).trans d7
      have hK2 := (((((hK1.grown g2 HZ'.out.2).setCell ⟨g, j * 8 + 3, none⟩ (.bool ((k + L + 1 + R) % 3 == 0)) hgb.out).setCell ⟨g, j * 8 + 4, none⟩ (.int .i64 (k + L + 1 + R + 1)) hgb.out).setCell ⟨g, j * 8 + 5, none⟩ (.bool ((k + L + 1 + R + 1 + 1) % 3 == 0)) hgb.out).setCell ⟨g, j * 8 + 6, none⟩ (.int .i64 (k + L + 1 + R + 1 + 1 + 1)) hgb.out)
      have ST0 := home_step HH.out HA.out hlt (by simpa using E.out.1) (by simpa using E.out.2.1) (by simpa using E.out.2.2) O1.out G1.out o2 g2
      have ST : Hid _ := ST0
      clear ST0 or1 o2 g2 ne2 d1 d2 d3 d4 d5 d6 d7 nf1 hK1
      go_wp2_with fail
      refine (markWaitS_none _ _).mono ?_
      rintro e w3 ⟨rfl, h⟩
      subst h
      clear f3 f4 f5 f6 f7 nf2
      go_wp2
      go_roundw
      case rel =>
        refine ⟨j + 1, by omega, by go_num, ?_, ?_, hK2⟩
        · have := kk_succ k0 (L + R + 5) j
          rw [HKj.out] at this
          rw [this]
          congr 1
          omega
        · have h := ST.out
          have e : (fun i => if i = j then mH k L R else (fun i => if i < j then mH (kk k0 (L + R + 5) i) L R else d i) i) = (fun i => if i < j + 1 then mH (kk k0 (L + R + 5) i) L R else d i) := by
            funext i
            by_cases e : i = j
            · subst e
              simp [HKj.out]
            · by_cases h : i < j
              · simp [e, h, show i < j + 1 by omega]
              · simp [e, h, show ¬ i < j + 1 by omega]
          rw [← e]
          exact h
      case measure => simp [intOf]; omega
    · have : j = n := by omega
      subst this
      have R' : Hid (HO wr lo a c j (fun i => mH (kk k0 (L + R + 5) i) L R) p) := ⟨owns_congr hH.row (fun i hi => by simp [hi]), fun i hi => owns_cast (hH.l i hi) (by simp [hi]) (by simp [hi]) (by simp [hi]), fun i hi => owns_cast (hH.r i hi) (by simp [hi]) (by simp [hi]) (by simp [hi])⟩
      clear hH hh
      go_wp2
      go_ret
      exact ⟨ret_int HKj.out.symm, R'.out, hK⟩
end Go.Proofs.YtpfppeifppdmbaaGreat

/- What the law's heldHomeS does at a row of marked homes; what markNode and heldNode do at a new node. -/
namespace Go.Proofs.YtpfppeifppdmbaaGreat
open Go.RowKit
set_option linter.unusedVariables false


/-- A node whose frames have no words, whose homes nobody waits at and whose lines queue nothing, owned. -/
structure NO (w : World) (lo : Nat) (d : ND) (p : NP) (L R : Nat) : Prop where
  f : w.ownsRow lo 95 3 (.slice p.f.1 d.nf p.f.2) d.nf (chunks d.nf fun i => f0 (d.f i).s (d.f i).q)
  fe : ∀ i, i < d.nf → (d.f i).xs = [] ∧ p.fp i = (none, 0)
  h : HO w lo p.h.1 p.h.2 d.nh d.h p.hp
  ha : HApart d.nh p.hp
  he : ∀ i, i < d.nh → (d.h i).xs.length = L ∧ (d.h i).bs.length = R ∧ (d.h i).ws = [] ∧ (p.hp i).q = (none, 0)
  o : w.ownsRow lo 115 2 (.slice p.o.1 d.no p.o.2) d.no (chunks d.no fun i => s0 (d.b i))
  oe : ∀ i, i < d.no → d.y i = [] ∧ p.op i = (none, 0) ∧ p.ms i = []
  i : w.ownsRow lo 118 1 (.slice p.i.1 d.ni p.i.2) d.ni (chunks d.ni fun i => gcells (d.g i))
  n : d.nf ≤ 100 ∧ d.nh ≤ 100 ∧ d.no ≤ 100 ∧ d.ni ≤ 100 ∧ L ≤ 5 ∧ R ≤ 5

theorem NO.below {w w' : World} {lo : Nat} {d : ND} {p : NP} {L R : Nat} (h : NO w lo d p L R) (b : Below w.heap.size w w') : NO w' lo d p L R :=
  ⟨owns_below h.f b, h.fe, h.h.below b, h.ha, h.he, owns_below h.o b, h.oe, owns_below h.i b, h.n⟩
theorem NO.base {w : World} {lo lo' : Nat} {d : ND} {p : NP} {L R : Nat} (h : NO w lo d p L R) (b : lo' ≤ lo) : NO w lo' d p L R :=
  ⟨owns_base h.f b, h.fe, h.h.base b, h.ha, h.he, owns_base h.o b, h.oe, owns_base h.i b, h.n⟩

theorem HO.hr {w : World} {lo : Nat} {a : Option Addr} {c n : Nat} {d : Nat → HD} {p : Nat → HP} (h : HO w lo a c n d p) (hn : n ≤ 100) (hl : ∀ i, i < n → (d i).xs.length ≤ 100 ∧ (d i).bs.length ≤ 100 ∧ (d i).ws = []) : HR2 w a n d p := by
  refine ⟨by omega, owns_vrow' h.row (by rw [chunks_length (s := 8) n (fun i _ => rfl)]; omega), fun i hi => ⟨owns_row' (h.l i hi) (by have := hl i hi; omega), owns_vrow' (h.r i hi) (by rw [bv_length]; have := hl i hi; omega), ?_⟩⟩
  rw [(hl i hi).2.2]
  exact ⟨by simp [wv], fun j v hv => by simp [wv] at hv⟩

/-- What a reader is told of it. -/
theorem NO.nr {w : World} {lo : Nat} {d : ND} {p : NP} {L R : Nat} (h : NO w lo d p L R) : NR w d p := by
  obtain ⟨n1, n2, n3, n4, n5, n6⟩ := h.n
  refine ⟨⟨by omega, ?_, fun i hi => ?_⟩, h.h.hr n2 (fun i hi => ?_), ⟨by omega, ?_, fun i hi => ?_⟩, by omega, ?_⟩
  · have e := chunks_congr (n := d.nf) (f := fun i => f0 (d.f i).s (d.f i).q) (g := fun i => fcells (d.f i) (p.fp i)) (fun i hi => by simp [f0, fcells, h.fe i hi])
    rw [← e]
    exact owns_vrow' h.f (by rw [chunks_length (s := 3) d.nf (fun i _ => rfl)]; omega)
  · rw [(h.fe i hi).1]
    exact ⟨by simp, fun j hj => by simp at hj⟩
  · obtain ⟨e1, e2, e3, e4⟩ := h.he i hi
    exact ⟨by omega, by omega, e3⟩
  · have e := chunks_congr (n := d.no) (f := fun i => s0 (d.b i)) (g := fun i => scells (d.b i) (p.op i) (d.y i).length) (fun i hi => by simp [s0, scells, h.oe i hi])
    rw [← e]
    exact owns_vrow' h.o (by rw [chunks_length (s := 2) d.no (fun i _ => rfl)]; omega)
  · obtain ⟨e1, e2, e3⟩ := h.oe i hi
    rw [e1, e3]
    exact ⟨⟨by simp, fun j m hm => by simp at hm⟩, rfl⟩
  · exact owns_vrow' h.i (by rw [chunks_length (s := 1) d.ni (fun i _ => rfl)]; omega)

/-- The node, marked, counted on from k. -/
def mN (k : Int) (d : ND) (L R : Nat) : ND :=
  let k1 := k + 2 * (d.nf : Int)
  let k2 := kk k1 (L + R + 5) d.nh
  ⟨d.id, d.nf, fun i => ⟨k + 2 * (i : Int), [], (k + 2 * (i : Int) + 1) % 3 == 0⟩, d.nh, fun i => mH (kk k1 (L + R + 5) i) L R, d.no, fun i => k2 + i, fun _ => [], d.ni, fun i => k2 + d.no + i⟩
def mEnd (k : Int) (d : ND) (L R : Nat) : Int := kk (k + 2 * (d.nf : Int)) (L + R + 5) d.nh + d.no + d.ni

/-- All its blocks lie below hi. -/
def NLt (d : ND) (p : NP) (hi : Nat) : Prop := (∀ j, blk p.f = some j → j < hi) ∧ (∀ j, blk p.h = some j → j < hi) ∧ (∀ i, i < d.nh → ∀ j, (blk (p.hp i).l = some j ∨ blk (p.hp i).r = some j) → j < hi) ∧ (∀ j, blk p.o = some j → j < hi) ∧ ∀ j, blk p.i = some j → j < hi
theorem own_blk {a : Option Addr} {c j n : Nat} (h : blk (a, c) = some j) : (Value.slice a n c).ownBlock = some j := by
  cases a with
  | none => simp [blk] at h
  | some x => simpa [blk, Value.ownBlock] using h
theorem NO.lt {w : World} {lo : Nat} {d : ND} {p : NP} {L R : Nat} (h : NO w lo d p L R) : NLt d p w.heap.size :=
  ⟨fun j hj => (h.f.lt j (own_blk hj)).2, fun j hj => (h.h.row.lt j (own_blk hj)).2, fun i hi j hj => hj.elim (fun hj => ((h.h.l i hi).lt j (own_blk hj)).2) (fun hj => ((h.h.r i hi).lt j (own_blk hj)).2), fun j hj => (h.o.lt j (own_blk hj)).2, fun j hj => (h.i.lt j (own_blk hj)).2⟩
theorem NO.lo {w : World} {lo : Nat} {d : ND} {p : NP} {L R : Nat} (h : NO w lo d p L R) : (∀ j, blk p.f = some j → lo ≤ j) ∧ (∀ j, blk p.o = some j → lo ≤ j) ∧ ∀ j, blk p.i = some j → lo ≤ j :=
  ⟨fun j hj => (h.f.lt j (own_blk hj)).1, fun j hj => (h.o.lt j (own_blk hj)).1, fun j hj => (h.i.lt j (own_blk hj)).1⟩

/-- A row stays where another row of another element type is turned. -/
theorem owns_other {w w' : World} {lo e s n : Nat} {v : Value} {xs : List Value} (h : w.ownsRow lo e s v n xs) {e2 s2 n2 lo2 : Nat} {v2 : Value} {xs2 : List Value} (g : w.grownBy w' v2.ownBlock) (h2 : w.ownsRow lo2 e2 s2 v2 n2 xs2) (he : e2 ≠ e) : w'.ownsRow lo e s v n xs :=
  owns_ne h g (fun j hj hk => owns_kinds h2 h he hk hj)
theorem HO.other {w w' : World} {lo : Nat} {a : Option Addr} {c n : Nat} {d : Nat → HD} {p : Nat → HP} (h : HO w lo a c n d p) {e2 s2 n2 lo2 : Nat} {v2 : Value} {xs2 : List Value} (g : w.grownBy w' v2.ownBlock) (h2 : w.ownsRow lo2 e2 s2 v2 n2 xs2) (h3 : e2 ≠ 93 ∧ e2 ≠ 3 ∧ e2 ≠ 4) : HO w' lo a c n d p :=
  ⟨owns_other h.row g h2 h3.1, fun i hi => owns_other (h.l i hi) g h2 h3.2.1, fun i hi => owns_other (h.r i hi) g h2 h3.2.2⟩

/-- Two boxes of blocks: what Kept leaves. -/
theorem HO.kinds {w : World} {lo : Nat} {a : Option Addr} {c n : Nat} {d : Nat → HD} {p : Nat → HP} (h : HO w lo a c n d p) {e s m lo2 : Nat} {v : Value} {xs : List Value} (h2 : w.ownsRow lo2 e s v m xs) (h3 : e ≠ 93 ∧ e ≠ 3 ∧ e ≠ 4) {j : Nat} (hj : v.ownBlock = some j) :
    blk (a, c) ≠ some j ∧ ∀ i, i < n → blk (p i).l ≠ some j ∧ blk (p i).r ≠ some j :=
  ⟨fun e => owns_kinds h2 h.row h3.1 hj (own_blk e), fun i hi => ⟨fun e => owns_kinds h2 (h.l i hi) h3.2.1 hj (own_blk e), fun e => owns_kinds h2 (h.r i hi) h3.2.2 hj (own_blk e)⟩⟩

/-- The blocks of a node. -/
def NB (d : ND) (p : NP) (j : Nat) : Prop := blk p.f = some j ∨ blk p.h = some j ∨ (∃ i, i < d.nh ∧ (blk (p.hp i).l = some j ∨ blk (p.hp i).r = some j)) ∨ blk p.o = some j ∨ blk p.i = some j
def HBk (p : NP) (n : Nat) (j : Nat) : Prop := blk p.h = some j ∨ ∃ i, i < n ∧ (blk (p.hp i).l = some j ∨ blk (p.hp i).r = some j)
theorem NO.nb {w : World} {lo : Nat} {d : ND} {p : NP} {L R : Nat} (h : NO w lo d p L R) {j : Nat} (hj : NB d p j) : lo ≤ j ∧ j < w.heap.size := by
  rcases hj with h1 | h1 | ⟨i, hi, h1 | h1⟩ | h1 | h1
  · exact h.f.lt j (own_blk h1)
  · exact h.h.row.lt j (own_blk h1)
  · exact (h.h.l i hi).lt j (own_blk h1)
  · exact (h.h.r i hi).lt j (own_blk h1)
  · exact h.o.lt j (own_blk h1)
  · exact h.i.lt j (own_blk h1)


end Go.Proofs.YtpfppeifppdmbaaGreat
