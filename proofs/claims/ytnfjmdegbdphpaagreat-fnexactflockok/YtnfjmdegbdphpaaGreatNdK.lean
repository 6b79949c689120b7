/- NdH and NdK: see the heads of the parts. -/
import Derived.Test.YtnfjmdegbdphpaaGreatWoR
/- What the law's markHomeS and heldHomeS do at a row of homes for whom nobody waits. -/
namespace Go.Proofs.YtnfjmdegbdphpaaGreat
open Go.RowKit
set_option linter.unusedVariables false

/-- A row of homes that is owned, with each one's words and readers. -/
structure HO (w : World) (lo : Nat) (a : Option Addr) (c n : Nat) (d : Nat → HD) (p : Nat → HP) : Prop where
  row : w.ownsRow lo 108 8 (.slice a n c) n (chunks n fun i => hcells (d i) (p i))
  l : ∀ i, i < n → w.ownsRow lo 3 1 (.slice (p i).l.1 (d i).xs.length (p i).l.2) (d i).xs.length ((d i).xs.map (Value.int .i64))
  r : ∀ i, i < n → w.ownsRow lo 4 1 (.slice (p i).r.1 (d i).bs.length (p i).r.2) (d i).bs.length (bv (d i).bs)

/-- No two of them lie in one block. -/
def HApart (n : Nat) (p : Nat → HP) : Prop := ∀ i k, i < n → k < n → i ≠ k → (∀ j, blk (p i).l = some j → blk (p k).l ≠ some j) ∧ ∀ j, blk (p i).r = some j → blk (p k).r ≠ some j

/-- A marked home. -/
def mH (k : Int) (L R : Nat) : HD := ⟨mki k L, k + L, mkb (k + L + 1) R, (k + L + 1 + R) % 3 == 0, k + L + 1 + R + 1, (k + L + 1 + R + 1 + 1) % 3 == 0, k + L + 1 + R + 1 + 1 + 1, []⟩

theorem HO.below {w w' : World} {lo : Nat} {a : Option Addr} {c n : Nat} {d : Nat → HD} {p : Nat → HP} (h : HO w lo a c n d p) (b : Below w.heap.size w w') : HO w' lo a c n d p :=
  ⟨owns_below h.row b, fun i hi => owns_below (h.l i hi) b, fun i hi => owns_below (h.r i hi) b⟩
theorem HO.base {w : World} {lo lo' : Nat} {a : Option Addr} {c n : Nat} {d : Nat → HD} {p : Nat → HP} (h : HO w lo a c n d p) (b : lo' ≤ lo) : HO w lo' a c n d p :=
  ⟨owns_base h.row b, fun i hi => owns_base (h.l i hi) b, fun i hi => owns_base (h.r i hi) b⟩

/-- The home at place j is marked. -/
theorem home_step {wr w1 w2 : World} {lo g c n j L R : Nat} {d : Nat → HD} {p : Nat → HP} {k : Int} (h : HO wr lo (some ⟨g, 0, none⟩) c n d p) (ap : HApart n p) (hj : j < n) (hL : (d j).xs.length = L) (hR : (d j).bs.length = R) (hQ : (d j).ws = [])
    (o1 : w1.ownsRow lo 3 1 (.slice (p j).l.1 L (p j).l.2) L ((mki k L).map (Value.int .i64))) (g1 : wr.grownBy w1 (Value.slice (p j).l.1 L (p j).l.2).ownBlock)
    (o2 : w2.ownsRow lo 4 1 (.slice (p j).r.1 R (p j).r.2) R (bv (mkb (k + L + 1) R))) (g2 : (w1.setCell ⟨g, j * 8 + 1, none⟩ (.int .i64 (k + L))).grownBy w2 (Value.slice (p j).r.1 R (p j).r.2).ownBlock) :
    HO ((((w2.setCell ⟨g, j * 8 + 3, none⟩ (.bool ((k + L + 1 + R) % 3 == 0))).setCell ⟨g, j * 8 + 4, none⟩ (.int .i64 (k + L + 1 + R + 1))).setCell ⟨g, j * 8 + 5, none⟩ (.bool ((k + L + 1 + R + 1 + 1) % 3 == 0))).setCell ⟨g, j * 8 + 6, none⟩ (.int .i64 (k + L + 1 + R + 1 + 1 + 1))) lo (some ⟨g, 0, none⟩) c n (fun i => if i = j then mH k L R else d i) p := by
  have hf : ∀ i, i < n → ((fun i => hcells (d i) (p i)) i).length = 8 := fun i _ => rfl
  have ol := h.l j hj
  have or' := h.r j hj
  rw [hL] at ol
  rw [hR] at or'
  have r1 := owns_ne h.row g1 (fun b hb he => owns_kinds ol h.row (by decide) he hb)
  have r2 := owns_stored r1 hf hj (j := 1) (by decide) (.int .i64 (k + L))
  have or1 := owns_ne or' g1 (fun b hb he => owns_kinds ol or' (by decide) he hb)
  have ne1 : ∀ {m : Nat} {x : Option Addr} {xs : List Value} {e : Nat} {W : World} {cc : Nat} {ys : List Value}, W.ownsRow lo e 1 (.slice x m cc) m xs → W.ownsRow lo 108 8 (.slice (some ⟨g, 0, none⟩) n c) n ys → e ≠ 108 → ∀ b, (Value.slice x m cc).ownBlock = some b → g ≠ b := fun ha hb he b h1 h2 => by
    subst h2
    exact owns_kinds ha hb he h1 rfl
  have or2 := owns_setCell or1 (a := ⟨g, j * 8 + 1, none⟩) (ne1 or1 r1 (by decide)) (.int .i64 (k + L))
  have r3 := owns_ne r2 g2 (fun b hb he => owns_kinds or2 r2 (by decide) he hb)
  have r4 := owns_stored r3 (set_len hf _ _ _) hj (j := 3) (by decide) (.bool ((k + L + 1 + R) % 3 == 0))
  have r5 := owns_stored r4 (set_len (set_len hf _ _ _) _ _ _) hj (j := 4) (by decide) (.int .i64 (k + L + 1 + R + 1))
  have r6 := owns_stored r5 (set_len (set_len (set_len hf _ _ _) _ _ _) _ _ _) hj (j := 5) (by decide) (.bool ((k + L + 1 + R + 1 + 1) % 3 == 0))
  have r7 := owns_stored r6 (set_len (set_len (set_len (set_len hf _ _ _) _ _ _) _ _ _) _ _ _) hj (j := 6) (by decide) (.int .i64 (k + L + 1 + R + 1 + 1 + 1))
  refine ⟨owns_congr r7 (fun i hi => ?_), fun i hi => ?_, fun i hi => ?_⟩
  · by_cases e : i = j
    · subst e
      simp [hcells, mH, hL, hR, hQ, mki_length, mkb_length]
    · simp [e]
  · have key : ∀ {m : Nat} {x : Option Addr} {xs : List Value} {cc : Nat}, w1.ownsRow lo 3 1 (.slice x m cc) m xs → ((((w2.setCell ⟨g, j * 8 + 3, none⟩ (.bool ((k + L + 1 + R) % 3 == 0))).setCell ⟨g, j * 8 + 4, none⟩ (.int .i64 (k + L + 1 + R + 1))).setCell ⟨g, j * 8 + 5, none⟩ (.bool ((k + L + 1 + R + 1 + 1) % 3 == 0))).setCell ⟨g, j * 8 + 6, none⟩ (.int .i64 (k + L + 1 + R + 1 + 1 + 1))).ownsRow lo 3 1 (.slice x m cc) m xs := fun ho => by
      have a1 := owns_setCell ho (a := ⟨g, j * 8 + 1, none⟩) (ne1 ho r1 (by decide)) (.int .i64 (k + L))
      have a2 := owns_ne a1 g2 (fun b hb he => owns_kinds or2 a1 (by decide) he hb)
      have nn := ne1 ho r1 (by decide)
      exact owns_setCell (owns_setCell (owns_setCell (owns_setCell a2 nn _) nn _) nn _) nn _
    by_cases e : i = j
    · subst e
      refine owns_cast (key o1) ?_ ?_ ?_ <;> simp [mH, mki_length]
    · refine owns_cast (key (owns_ne (h.l i hi) g1 (fun b hb he => ?_))) ?_ ?_ ?_
      · exact (ap i j hi hj e).1 b (blk_eq hb) (blk_eq he)
      all_goals simp [e]
  · have key : ∀ {m : Nat} {x : Option Addr} {xs : List Value} {cc : Nat}, w2.ownsRow lo 4 1 (.slice x m cc) m xs → ((((w2.setCell ⟨g, j * 8 + 3, none⟩ (.bool ((k + L + 1 + R) % 3 == 0))).setCell ⟨g, j * 8 + 4, none⟩ (.int .i64 (k + L + 1 + R + 1))).setCell ⟨g, j * 8 + 5, none⟩ (.bool ((k + L + 1 + R + 1 + 1) % 3 == 0))).setCell ⟨g, j * 8 + 6, none⟩ (.int .i64 (k + L + 1 + R + 1 + 1 + 1))).ownsRow lo 4 1 (.slice x m cc) m xs := fun ho => by
      have nn := ne1 ho r3 (by decide)
      exact owns_setCell (owns_setCell (owns_setCell (owns_setCell ho nn _) nn _) nn _) nn _
    by_cases e : i = j
    · subst e
      refine owns_cast (key o2) ?_ ?_ ?_ <;> simp [mH, mkb_length]
    · have b0 := h.r i hi
      have b1 := owns_ne b0 g1 (fun b hb he => owns_kinds ol b0 (by decide) he hb)
      have b2 := owns_setCell b1 (a := ⟨g, j * 8 + 1, none⟩) (ne1 b1 r1 (by decide)) (.int .i64 (k + L))
      refine owns_cast (key (owns_ne b2 g2 (fun b hb he => ?_))) ?_ ?_ ?_
      · exact (ap i j hi hj e).2 b (blk_eq hb) (blk_eq he)
      all_goals simp [e]

/-- How far it is counted. -/
def kk (k0 : Int) (S : Nat) (j : Nat) : Int := k0 + ((j * S : Nat) : Int)
theorem kk_succ (k0 : Int) (S j : Nat) : kk k0 S (j + 1) = kk k0 S j + S := by unfold kk; rw [Nat.succ_mul]; omega
theorem kk_le (k0 : Int) {S j n : Nat} (hS : S ≤ 20) (hj : j ≤ n) (hn : n ≤ 1048577) : k0 ≤ kk k0 S j ∧ kk k0 S j ≤ k0 + 20971540 := by
  unfold kk
  have : j * S ≤ 1048577 * 20 := Nat.mul_le_mul (by omega) hS
  omega

end Go.Proofs.YtnfjmdegbdphpaaGreat

/- What the law's heldHomeS does at a row of marked homes; what markNode and heldNode do at a new node. -/
namespace Go.Proofs.YtnfjmdegbdphpaaGreat
open Go.RowKit
set_option linter.unusedVariables false


/-- A node whose frames have no words, whose homes nobody waits at and whose lines queue nothing, owned. -/
structure NO (w : World) (lo : Nat) (d : ND) (p : NP) (L R : Nat) : Prop where
  f : w.ownsRow lo 101 3 (.slice p.f.1 d.nf p.f.2) d.nf (chunks d.nf fun i => f0 (d.f i).s (d.f i).q)
  fe : ∀ i, i < d.nf → (d.f i).xs = [] ∧ p.fp i = (none, 0)
  h : HO w lo p.h.1 p.h.2 d.nh d.h p.hp
  ha : HApart d.nh p.hp
  he : ∀ i, i < d.nh → (d.h i).xs.length = L ∧ (d.h i).bs.length = R ∧ (d.h i).ws = [] ∧ (p.hp i).q = (none, 0)
  o : w.ownsRow lo 112 2 (.slice p.o.1 d.no p.o.2) d.no (chunks d.no fun i => s0 (d.b i))
  oe : ∀ i, i < d.no → d.y i = [] ∧ p.op i = (none, 0) ∧ p.ms i = []
  i : w.ownsRow lo 114 1 (.slice p.i.1 d.ni p.i.2) d.ni (chunks d.ni fun i => gcells (d.g i))
  n : d.nf ≤ 100 ∧ d.nh ≤ 100 ∧ d.no ≤ 100 ∧ d.ni ≤ 100 ∧ L ≤ 5 ∧ R ≤ 5

theorem NO.below {w w' : World} {lo : Nat} {d : ND} {p : NP} {L R : Nat} (h : NO w lo d p L R) (b : Below w.heap.size w w') : NO w' lo d p L R :=
  ⟨owns_below h.f b, h.fe, h.h.below b, h.ha, h.he, owns_below h.o b, h.oe, owns_below h.i b, h.n⟩
theorem NO.base {w : World} {lo lo' : Nat} {d : ND} {p : NP} {L R : Nat} (h : NO w lo d p L R) (b : lo' ≤ lo) : NO w lo' d p L R :=
  ⟨owns_base h.f b, h.fe, h.h.base b, h.ha, h.he, owns_base h.o b, h.oe, owns_base h.i b, h.n⟩

theorem HO.hr {w : World} {lo : Nat} {a : Option Addr} {c n : Nat} {d : Nat → HD} {p : Nat → HP} (h : HO w lo a c n d p) (hn : n ≤ 100) (hl : ∀ i, i < n → (d i).xs.length ≤ 100 ∧ (d i).bs.length ≤ 100 ∧ (d i).ws = []) : HR2 w a n d p := by
  refine ⟨by omega, owns_vrow' h.row (by rw [chunks_length (s := 8) n (fun i _ => rfl)]; omega), fun i hi => ⟨owns_row' (h.l i hi) (by have := hl i hi; omega), owns_vrow' (h.r i hi) (by rw [bv_length]; have := hl i hi; omega), ?_⟩⟩
  rw [(hl i hi).2.2]
  exact ⟨by simp [wv], fun j v hv => by simp [wv] at hv⟩

/-- What a reader is told of it. -/
theorem NO.nr {w : World} {lo : Nat} {d : ND} {p : NP} {L R : Nat} (h : NO w lo d p L R) : NR w d p := by
  obtain ⟨n1, n2, n3, n4, n5, n6⟩ := h.n
  refine ⟨⟨by omega, ?_, fun i hi => ?_⟩, h.h.hr n2 (fun i hi => ?_), ⟨by omega, ?_, fun i hi => ?_⟩, by omega, ?_⟩
  · have e := chunks_congr (n := d.nf) (f := fun i => f0 (d.f i).s (d.f i).q) (g := fun i => fcells (d.f i) (p.fp i)) (fun i hi => by simp [f0, fcells, h.fe i hi])
    rw [← e]
    exact owns_vrow' h.f (by rw [chunks_length (s := 3) d.nf (fun i _ => rfl)]; omega)
  · rw [(h.fe i hi).1]
    exact ⟨by simp, fun j hj => by simp at hj⟩
  · obtain ⟨e1, e2, e3, e4⟩ := h.he i hi
    exact ⟨by omega, by omega, e3⟩
  · have e := chunks_congr (n := d.no) (f := fun i => s0 (d.b i)) (g := fun i => scells (d.b i) (p.op i) (d.y i).length) (fun i hi => by simp [s0, scells, h.oe i hi])
    rw [← e]
    exact owns_vrow' h.o (by rw [chunks_length (s := 2) d.no (fun i _ => rfl)]; omega)
  · obtain ⟨e1, e2, e3⟩ := h.oe i hi
    rw [e1, e3]
    exact ⟨⟨by simp, fun j m hm => by simp at hm⟩, rfl⟩
  · exact owns_vrow' h.i (by rw [chunks_length (s := 1) d.ni (fun i _ => rfl)]; omega)

/-- The node, marked, counted on from k. -/
def mN (k : Int) (d : ND) (L R : Nat) : ND :=
  let k1 := k + 2 * (d.nf : Int)
  let k2 := kk k1 (L + R + 5) d.nh
  ⟨d.id, d.nf, fun i => ⟨k + 2 * (i : Int), [], (k + 2 * (i : Int) + 1) % 3 == 0⟩, d.nh, fun i => mH (kk k1 (L + R + 5) i) L R, d.no, fun i => k2 + i, fun _ => [], d.ni, fun i => k2 + d.no + i⟩
def mEnd (k : Int) (d : ND) (L R : Nat) : Int := kk (k + 2 * (d.nf : Int)) (L + R + 5) d.nh + d.no + d.ni

/-- All its blocks lie below hi. -/
def NLt (d : ND) (p : NP) (hi : Nat) : Prop := (∀ j, blk p.f = some j → j < hi) ∧ (∀ j, blk p.h = some j → j < hi) ∧ (∀ i, i < d.nh → ∀ j, (blk (p.hp i).l = some j ∨ blk (p.hp i).r = some j) → j < hi) ∧ (∀ j, blk p.o = some j → j < hi) ∧ ∀ j, blk p.i = some j → j < hi
theorem own_blk {a : Option Addr} {c j n : Nat} (h : blk (a, c) = some j) : (Value.slice a n c).ownBlock = some j := by
  cases a with
  | none => simp [blk] at h
  | some x => simpa [blk, Value.ownBlock] using h
theorem NO.lt {w : World} {lo : Nat} {d : ND} {p : NP} {L R : Nat} (h : NO w lo d p L R) : NLt d p w.heap.size :=
  ⟨fun j hj => (h.f.lt j (own_blk hj)).2, fun j hj => (h.h.row.lt j (own_blk hj)).2, fun i hi j hj => hj.elim (fun hj => ((h.h.l i hi).lt j (own_blk hj)).2) (fun hj => ((h.h.r i hi).lt j (own_blk hj)).2), fun j hj => (h.o.lt j (own_blk hj)).2, fun j hj => (h.i.lt j (own_blk hj)).2⟩
theorem NO.lo {w : World} {lo : Nat} {d : ND} {p : NP} {L R : Nat} (h : NO w lo d p L R) : (∀ j, blk p.f = some j → lo ≤ j) ∧ (∀ j, blk p.o = some j → lo ≤ j) ∧ ∀ j, blk p.i = some j → lo ≤ j :=
  ⟨fun j hj => (h.f.lt j (own_blk hj)).1, fun j hj => (h.o.lt j (own_blk hj)).1, fun j hj => (h.i.lt j (own_blk hj)).1⟩

/-- A row stays where another row of another element type is turned. -/
theorem owns_other {w w' : World} {lo e s n : Nat} {v : Value} {xs : List Value} (h : w.ownsRow lo e s v n xs) {e2 s2 n2 lo2 : Nat} {v2 : Value} {xs2 : List Value} (g : w.grownBy w' v2.ownBlock) (h2 : w.ownsRow lo2 e2 s2 v2 n2 xs2) (he : e2 ≠ e) : w'.ownsRow lo e s v n xs :=
  owns_ne h g (fun j hj hk => owns_kinds h2 h he hk hj)
theorem HO.other {w w' : World} {lo : Nat} {a : Option Addr} {c n : Nat} {d : Nat → HD} {p : Nat → HP} (h : HO w lo a c n d p) {e2 s2 n2 lo2 : Nat} {v2 : Value} {xs2 : List Value} (g : w.grownBy w' v2.ownBlock) (h2 : w.ownsRow lo2 e2 s2 v2 n2 xs2) (h3 : e2 ≠ 108 ∧ e2 ≠ 3 ∧ e2 ≠ 4) : HO w' lo a c n d p :=
  ⟨owns_other h.row g h2 h3.1, fun i hi => owns_other (h.l i hi) g h2 h3.2.1, fun i hi => owns_other (h.r i hi) g h2 h3.2.2⟩

/-- Two boxes of blocks: what Kept leaves. -/
theorem HO.kinds {w : World} {lo : Nat} {a : Option Addr} {c n : Nat} {d : Nat → HD} {p : Nat → HP} (h : HO w lo a c n d p) {e s m lo2 : Nat} {v : Value} {xs : List Value} (h2 : w.ownsRow lo2 e s v m xs) (h3 : e ≠ 108 ∧ e ≠ 3 ∧ e ≠ 4) {j : Nat} (hj : v.ownBlock = some j) :
    blk (a, c) ≠ some j ∧ ∀ i, i < n → blk (p i).l ≠ some j ∧ blk (p i).r ≠ some j :=
  ⟨fun e => owns_kinds h2 h.row h3.1 hj (own_blk e), fun i hi => ⟨fun e => owns_kinds h2 (h.l i hi) h3.2.1 hj (own_blk e), fun e => owns_kinds h2 (h.r i hi) h3.2.2 hj (own_blk e)⟩⟩

/-- The blocks of a node. -/
def NB (d : ND) (p : NP) (j : Nat) : Prop := blk p.f = some j ∨ blk p.h = some j ∨ (∃ i, i < d.nh ∧ (blk (p.hp i).l = some j ∨ blk (p.hp i).r = some j)) ∨ blk p.o = some j ∨ blk p.i = some j
def HBk (p : NP) (n : Nat) (j : Nat) : Prop := blk p.h = some j ∨ ∃ i, i < n ∧ (blk (p.hp i).l = some j ∨ blk (p.hp i).r = some j)
theorem NO.nb {w : World} {lo : Nat} {d : ND} {p : NP} {L R : Nat} (h : NO w lo d p L R) {j : Nat} (hj : NB d p j) : lo ≤ j ∧ j < w.heap.size := by
  rcases hj with h1 | h1 | ⟨i, hi, h1 | h1⟩ | h1 | h1
  · exact h.f.lt j (own_blk h1)
  · exact h.h.row.lt j (own_blk h1)
  · exact (h.h.l i hi).lt j (own_blk h1)
  · exact (h.h.r i hi).lt j (own_blk h1)
  · exact h.o.lt j (own_blk h1)
  · exact h.i.lt j (own_blk h1)


end Go.Proofs.YtnfjmdegbdphpaaGreat
