/- What the law's heldHomeS does at a row of marked homes; what markNode and heldNode do at a new node. -/
import Derived.Test.YtpahjfijpjgdnaaNdH
import Derived.Test.YtpahjfijpjgdnaaNdE
namespace Go.Proofs.Ytpahjfijpjgdnaa
open Go.RowKit
set_option linter.unusedVariables false


/-- A node whose frames have no words, whose homes nobody waits at and whose lines queue nothing, owned. -/
structure NO (w : World) (lo : Nat) (d : ND) (p : NP) (L R : Nat) : Prop where
  f : w.ownsRow lo 140 3 (.slice p.f.1 d.nf p.f.2) d.nf (chunks d.nf fun i => f0 (d.f i).s (d.f i).q)
  fe : ∀ i, i < d.nf → (d.f i).xs = [] ∧ p.fp i = (none, 0)
  h : HO w lo p.h.1 p.h.2 d.nh d.h p.hp
  ha : HApart d.nh p.hp
  he : ∀ i, i < d.nh → (d.h i).xs.length = L ∧ (d.h i).bs.length = R ∧ (d.h i).ws = [] ∧ (p.hp i).q = (none, 0)
  o : w.ownsRow lo 149 2 (.slice p.o.1 d.no p.o.2) d.no (chunks d.no fun i => s0 (d.b i))
  oe : ∀ i, i < d.no → d.y i = [] ∧ p.op i = (none, 0) ∧ p.ms i = []
  i : w.ownsRow lo 152 1 (.slice p.i.1 d.ni p.i.2) d.ni (chunks d.ni fun i => gcells (d.g i))
  n : d.nf ≤ 100 ∧ d.nh ≤ 100 ∧ d.no ≤ 100 ∧ d.ni ≤ 100 ∧ L ≤ 5 ∧ R ≤ 5

theorem NO.below {w w' : World} {lo : Nat} {d : ND} {p : NP} {L R : Nat} (h : NO w lo d p L R) (b : Below w.heap.size w w') : NO w' lo d p L R :=
  ⟨owns_below h.f b, h.fe, h.h.below b, h.ha, h.he, owns_below h.o b, h.oe, owns_below h.i b, h.n⟩
theorem NO.base {w : World} {lo lo' : Nat} {d : ND} {p : NP} {L R : Nat} (h : NO w lo d p L R) (b : lo' ≤ lo) : NO w lo' d p L R :=
  ⟨owns_base h.f b, h.fe, h.h.base b, h.ha, h.he, owns_base h.o b, h.oe, owns_base h.i b, h.n⟩

theorem HO.hr {w : World} {lo : Nat} {a : Option Addr} {c n : Nat} {d : Nat → HD} {p : Nat → HP} (h : HO w lo a c n d p) (hn : n ≤ 100) (hl : ∀ i, i < n → (d i).xs.length ≤ 100 ∧ (d i).bs.length ≤ 100 ∧ (d i).ws = []) : HR2 w a n d p := by
  refine ⟨by omega, owns_vrow' h.row (by rw [chunks_length (s := 8) n (fun i _ => rfl)]; omega), fun i hi => ⟨owns_row' (h.l i hi) (by have := hl i hi; omega), owns_vrow' (h.r i hi) (by rw [bv_length]; have := hl i hi; omega), ?_⟩⟩
  rw [(hl i hi).2.2]
  exact ⟨by simp [wv], fun j v hv => by simp [wv] at hv⟩

/-- What a reader is told of it. -/
theorem NO.nr {w : World} {lo : Nat} {d : ND} {p : NP} {L R : Nat} (h : NO w lo d p L R) : NR w d p := by
  obtain ⟨n1, n2, n3, n4, n5, n6⟩ := h.n
  refine ⟨⟨by omega, ?_, fun i hi => ?_⟩, h.h.hr n2 (fun i hi => ?_), ⟨by omega, ?_, fun i hi => ?_⟩, by omega, ?_⟩
  · have e := chunks_congr (n := d.nf) (f := fun i => f0 (d.f i).s (d.f i).q) (g := fun i => fcells (d.f i) (p.fp i)) (fun i hi => by simp [f0, fcells, h.fe i hi])
    rw [← e]
    exact owns_vrow' h.f (by rw [chunks_length (s := 3) d.nf (fun i _ => rfl)]; omega)
  · rw [(h.fe i hi).1]
    exact ⟨by simp, fun j hj => by simp at hj⟩
  · obtain ⟨e1, e2, e3, e4⟩ := h.he i hi
    exact ⟨by omega, by omega, e3⟩
  · have e := chunks_congr (n := d.no) (f := fun i => s0 (d.b i)) (g := fun i => scells (d.b i) (p.op i) (d.y i).length) (fun i hi => by simp [s0, scells, h.oe i hi])
    rw [← e]
    exact owns_vrow' h.o (by rw [chunks_length (s := 2) d.no (fun i _ => rfl)]; omega)
  · obtain ⟨e1, e2, e3⟩ := h.oe i hi
    rw [e1, e3]
    exact ⟨⟨by simp, fun j m hm => by simp at hm⟩, rfl⟩
  · exact owns_vrow' h.i (by rw [chunks_length (s := 1) d.ni (fun i _ => rfl)]; omega)

/-- The node, marked, counted on from k. -/
def mN (k : Int) (d : ND) (L R : Nat) : ND :=
  let k1 := k + 2 * (d.nf : Int)
  let k2 := kk k1 (L + R + 5) d.nh
  ⟨d.id, d.nf, fun i => ⟨k + 2 * (i : Int), [], (k + 2 * (i : Int) + 1) % 3 == 0⟩, d.nh, fun i => mH (kk k1 (L + R + 5) i) L R, d.no, fun i => k2 + i, fun _ => [], d.ni, fun i => k2 + d.no + i⟩
def mEnd (k : Int) (d : ND) (L R : Nat) : Int := kk (k + 2 * (d.nf : Int)) (L + R + 5) d.nh + d.no + d.ni

/-- All its blocks lie below hi. -/
def NLt (d : ND) (p : NP) (hi : Nat) : Prop := (∀ j, blk p.f = some j → j < hi) ∧ (∀ j, blk p.h = some j → j < hi) ∧ (∀ i, i < d.nh → ∀ j, (blk (p.hp i).l = some j ∨ blk (p.hp i).r = some j) → j < hi) ∧ (∀ j, blk p.o = some j → j < hi) ∧ ∀ j, blk p.i = some j → j < hi
theorem own_blk {a : Option Addr} {c j n : Nat} (h : blk (a, c) = some j) : (Value.slice a n c).ownBlock = some j := by
  cases a with
  | none => simp [blk] at h
  | some x => simpa [blk, Value.ownBlock] using h
theorem NO.lt {w : World} {lo : Nat} {d : ND} {p : NP} {L R : Nat} (h : NO w lo d p L R) : NLt d p w.heap.size :=
  ⟨fun j hj => (h.f.lt j (own_blk hj)).2, fun j hj => (h.h.row.lt j (own_blk hj)).2, fun i hi j hj => hj.elim (fun hj => ((h.h.l i hi).lt j (own_blk hj)).2) (fun hj => ((h.h.r i hi).lt j (own_blk hj)).2), fun j hj => (h.o.lt j (own_blk hj)).2, fun j hj => (h.i.lt j (own_blk hj)).2⟩
theorem NO.lo {w : World} {lo : Nat} {d : ND} {p : NP} {L R : Nat} (h : NO w lo d p L R) : (∀ j, blk p.f = some j → lo ≤ j) ∧ (∀ j, blk p.o = some j → lo ≤ j) ∧ ∀ j, blk p.i = some j → lo ≤ j :=
  ⟨fun j hj => (h.f.lt j (own_blk hj)).1, fun j hj => (h.o.lt j (own_blk hj)).1, fun j hj => (h.i.lt j (own_blk hj)).1⟩

/-- A row stays where another row of another element type is turned. -/
theorem owns_other {w w' : World} {lo e s n : Nat} {v : Value} {xs : List Value} (h : w.ownsRow lo e s v n xs) {e2 s2 n2 lo2 : Nat} {v2 : Value} {xs2 : List Value} (g : w.grownBy w' v2.ownBlock) (h2 : w.ownsRow lo2 e2 s2 v2 n2 xs2) (he : e2 ≠ e) : w'.ownsRow lo e s v n xs :=
  owns_ne h g (fun j hj hk => owns_kinds h2 h he hk hj)
theorem HO.other {w w' : World} {lo : Nat} {a : Option Addr} {c n : Nat} {d : Nat → HD} {p : Nat → HP} (h : HO w lo a c n d p) {e2 s2 n2 lo2 : Nat} {v2 : Value} {xs2 : List Value} (g : w.grownBy w' v2.ownBlock) (h2 : w.ownsRow lo2 e2 s2 v2 n2 xs2) (h3 : e2 ≠ 145 ∧ e2 ≠ 3 ∧ e2 ≠ 4) : HO w' lo a c n d p :=
  ⟨owns_other h.row g h2 h3.1, fun i hi => owns_other (h.l i hi) g h2 h3.2.1, fun i hi => owns_other (h.r i hi) g h2 h3.2.2⟩

/-- Two boxes of blocks: what Kept leaves. -/
theorem HO.kinds {w : World} {lo : Nat} {a : Option Addr} {c n : Nat} {d : Nat → HD} {p : Nat → HP} (h : HO w lo a c n d p) {e s m lo2 : Nat} {v : Value} {xs : List Value} (h2 : w.ownsRow lo2 e s v m xs) (h3 : e ≠ 145 ∧ e ≠ 3 ∧ e ≠ 4) {j : Nat} (hj : v.ownBlock = some j) :
    blk (a, c) ≠ some j ∧ ∀ i, i < n → blk (p i).l ≠ some j ∧ blk (p i).r ≠ some j :=
  ⟨fun e => owns_kinds h2 h.row h3.1 hj (own_blk e), fun i hi => ⟨fun e => owns_kinds h2 (h.l i hi) h3.2.1 hj (own_blk e), fun e => owns_kinds h2 (h.r i hi) h3.2.2 hj (own_blk e)⟩⟩

/-- The blocks of a node. -/
def NB (d : ND) (p : NP) (j : Nat) : Prop := blk p.f = some j ∨ blk p.h = some j ∨ (∃ i, i < d.nh ∧ (blk (p.hp i).l = some j ∨ blk (p.hp i).r = some j)) ∨ blk p.o = some j ∨ blk p.i = some j
def HBk (p : NP) (n : Nat) (j : Nat) : Prop := blk p.h = some j ∨ ∃ i, i < n ∧ (blk (p.hp i).l = some j ∨ blk (p.hp i).r = some j)
theorem NO.nb {w : World} {lo : Nat} {d : ND} {p : NP} {L R : Nat} (h : NO w lo d p L R) {j : Nat} (hj : NB d p j) : lo ≤ j ∧ j < w.heap.size := by
  rcases hj with h1 | h1 | ⟨i, hi, h1 | h1⟩ | h1 | h1
  · exact h.f.lt j (own_blk h1)
  · exact h.h.row.lt j (own_blk h1)
  · exact (h.h.l i hi).lt j (own_blk h1)
  · exact (h.h.r i hi).lt j (own_blk h1)
  · exact h.o.lt j (own_blk h1)
  · exact h.i.lt j (own_blk h1)


end Go.Proofs.Ytpahjfijpjgdnaa
