/- What the law's heldHomeS does at a row of marked homes; what markNode and heldNode do at a new node. -/
import Derived.Test.YtfeabhknkoifeaaNdH
import Derived.Test.YtfeabhknkoifeaaWoR
namespace Go.Proofs.Ytfeabhknkoifeaa
open Go.RowKit
set_option linter.unusedVariables false

set_option maxRecDepth 100000 in
set_option maxHeartbeats 4000000 in
theorem heldHomeS_none (n L R : Nat) (a : Option Addr) (c : Nat) (p : Nat → HP) (k0 : Int) (w : World) (h0 : 0 ≤ k0) (h1 : k0 ≤ 100000000000) (hn : n ≤ 1048577) (hL : L ≤ 5) (hR : R ≤ 5) (hq : ∀ i, i < n → (p i).q = (none, 0)) (hh : HR2 w a n (fun i => mH (kk k0 (L + R + 5) i) L R) p) :
    Calls Try.prog 55 #[.slice a n c, .int .i64 k0] w fun e w' => e = .returned (.int .i64 (kk k0 (L + R + 5) n)) ∧ ∃ d, w' = w.drewN d := by
  have KL : Hid (∀ j, j ≤ n → k0 ≤ kk k0 (L + R + 5) j ∧ kk k0 (L + R + 5) j ≤ k0 + 20971540) := fun j hj => kk_le k0 (by omega) hj hn
  have HQ : Hid (∀ i, i < n → (p i).q = (none, 0)) := hq
  have HH : Hid (HR2 w a n (fun i => mH (kk k0 (L + R + 5) i) L R) p) := hh
  clear hq hh
  go_enter Try.func55, Try.ntmps55
  go_wp2
  go_loopw [1, 5] (fun q i wr => ∃ j d : Nat, j ≤ n ∧ i = .int .i64 j ∧ q = .int .i64 (kk k0 (L + R + 5) j) ∧ wr = w.drewN d) (fun _ i _ => n - (intOf i).toNat)
  case atStart => exact ⟨0, 0, Nat.zero_le _, rfl, by simp [kk], rfl⟩
  case round =>
    obtain ⟨j, dd, hj, rfl, rfl, rfl⟩ := hrel
    obtain ⟨k, hk⟩ : ∃ k, kk k0 (L + R + 5) j = k := ⟨_, rfl⟩
    have hkb := KL.out j hj
    rw [hk] at hkb
    obtain ⟨hk0, hk1⟩ := hkb
    have HKj : Hid (kk k0 (L + R + 5) j = k) := hk
    rw [hk]
    clear hk
    by_cases hlt : j < n
    · have hi' : (j : Int) < (n : Int) := by omega
      obtain ⟨b, off, ea, c0, c1, c2, c3, c4, c5, c6, c7⟩ := HH.out.at hlt
      subst ea
      obtain ⟨rl, rr, _⟩ := HH.out.2.2 j hlt
      have eq := HQ.out j hlt
      simp only [HKj.out, mH, mki_length, mkb_length, eq, List.length_nil] at c0 c1 c2 c3 c4 c5 c6 c7 rl rr
      have q1 : decide (k + (L : Int) < 0) = false := by simp; omega
      have q2 : decide (k + (L : Int) + 1 + (R : Int) < 0) = false := by simp; omega
      have q3 : decide (k + (L : Int) + 1 + (R : Int) + 1 + 1 + 1 + 1 < 0) = false := by simp; omega
      go_wp2_with fail
      have rl2 : Row .i64 (w.drewN dd) (p j).l.1 (mki k L) := rl
      refine (heldIntS_any _ _ L k _ (by omega) (by omega) rl2).mono ?_
      rintro e w1 ⟨rfl, h⟩
      subst h
      go_wp2_with fail
      refine (heldBoolS_any _ _ R (k + L + 1) _ (by omega) (by omega) (rr.drewN dd)).mono ?_
      rintro e w1 ⟨rfl, d2, rfl⟩
      go_wp2_with fail
      refine (heldWaitS_none _ _).mono ?_
      rintro e w1 ⟨rfl, h⟩
      subst h
      clear c0 c1 c2 c3 c4 c5 c6 c7 rl rr rl2
      go_wp2
      go_roundw
      case rel =>
        refine ⟨j + 1, dd + d2, by omega, by go_num, ?_, rfl⟩
        have := kk_succ k0 (L + R + 5) j
        rw [HKj.out] at this
        rw [this]
        congr 1
        omega
      case measure => simp [intOf]; omega
    · have : j = n := by omega
      subst this
      go_wp2
      go_ret
      exact ⟨ret_int HKj.out.symm, dd, rfl⟩

/-- A node whose frames have no words, whose homes nobody waits at and whose lines queue nothing, owned. -/
structure NO (w : World) (lo : Nat) (d : ND) (p : NP) (L R : Nat) : Prop where
  f : w.ownsRow lo 101 3 (.slice p.f.1 d.nf p.f.2) d.nf (chunks d.nf fun i => f0 (d.f i).s (d.f i).q)
  fe : ∀ i, i < d.nf → (d.f i).xs = [] ∧ p.fp i = (none, 0)
  h : HO w lo p.h.1 p.h.2 d.nh d.h p.hp
  ha : HApart d.nh p.hp
  he : ∀ i, i < d.nh → (d.h i).xs.length = L ∧ (d.h i).bs.length = R ∧ (d.h i).ws = [] ∧ (p.hp i).q = (none, 0)
  o : w.ownsRow lo 106 2 (.slice p.o.1 d.no p.o.2) d.no (chunks d.no fun i => s0 (d.b i))
  oe : ∀ i, i < d.no → d.y i = [] ∧ p.op i = (none, 0) ∧ p.ms i = []
  i : w.ownsRow lo 109 1 (.slice p.i.1 d.ni p.i.2) d.ni (chunks d.ni fun i => gcells (d.g i))
  n : d.nf ≤ 100 ∧ d.nh ≤ 100 ∧ d.no ≤ 100 ∧ d.ni ≤ 100 ∧ L ≤ 5 ∧ R ≤ 5

theorem NO.below {w w' : World} {lo : Nat} {d : ND} {p : NP} {L R : Nat} (h : NO w lo d p L R) (b : Below w.heap.size w w') : NO w' lo d p L R :=
  ⟨owns_below h.f b, h.fe, h.h.below b, h.ha, h.he, owns_below h.o b, h.oe, owns_below h.i b, h.n⟩
theorem NO.base {w : World} {lo lo' : Nat} {d : ND} {p : NP} {L R : Nat} (h : NO w lo d p L R) (b : lo' ≤ lo) : NO w lo' d p L R :=
  ⟨owns_base h.f b, h.fe, h.h.base b, h.ha, h.he, owns_base h.o b, h.oe, owns_base h.i b, h.n⟩

theorem HO.hr {w : World} {lo : Nat} {a : Option Addr} {c n : Nat} {d : Nat → HD} {p : Nat → HP} (h : HO w lo a c n d p) (hn : n ≤ 100) (hl : ∀ i, i < n → (d i).xs.length ≤ 100 ∧ (d i).bs.length ≤ 100 ∧ (d i).ws = []) : HR2 w a n d p := by
  refine ⟨by omega, owns_vrow' h.row (by rw [chunks_length (s := 8) n (fun i _ => rfl)]; omega), fun i hi => ⟨owns_row' (h.l i hi) (by have := hl i hi; omega), owns_vrow' (h.r i hi) (by rw [bv_length]; have := hl i hi; omega), ?_⟩⟩
  rw [(hl i hi).2.2]
  exact ⟨by simp [wv], fun j v hv => by simp [wv] at hv⟩

/-- What a reader is told of it. -/
theorem NO.nr {w : World} {lo : Nat} {d : ND} {p : NP} {L R : Nat} (h : NO w lo d p L R) : NR w d p := by
  obtain ⟨n1, n2, n3, n4, n5, n6⟩ := h.n
  refine ⟨⟨by omega, ?_, fun i hi => ?_⟩, h.h.hr n2 (fun i hi => ?_), ⟨by omega, ?_, fun i hi => ?_⟩, by omega, ?_⟩
  · have e := chunks_congr (n := d.nf) (f := fun i => f0 (d.f i).s (d.f i).q) (g := fun i => fcells (d.f i) (p.fp i)) (fun i hi => by simp [f0, fcells, h.fe i hi])
    rw [← e]
    exact owns_vrow' h.f (by rw [chunks_length (s := 3) d.nf (fun i _ => rfl)]; omega)
  · rw [(h.fe i hi).1]
    exact ⟨by simp, fun j hj => by simp at hj⟩
  · obtain ⟨e1, e2, e3, e4⟩ := h.he i hi
    exact ⟨by omega, by omega, e3⟩
  · have e := chunks_congr (n := d.no) (f := fun i => s0 (d.b i)) (g := fun i => scells (d.b i) (p.op i) (d.y i).length) (fun i hi => by simp [s0, scells, h.oe i hi])
    rw [← e]
    exact owns_vrow' h.o (by rw [chunks_length (s := 2) d.no (fun i _ => rfl)]; omega)
  · obtain ⟨e1, e2, e3⟩ := h.oe i hi
    rw [e1, e3]
    exact ⟨⟨by simp, fun j m hm => by simp at hm⟩, rfl⟩
  · exact owns_vrow' h.i (by rw [chunks_length (s := 1) d.ni (fun i _ => rfl)]; omega)

/-- The node, marked, counted on from k. -/
def mN (k : Int) (d : ND) (L R : Nat) : ND :=
  let k1 := k + 2 * (d.nf : Int)
  let k2 := kk k1 (L + R + 5) d.nh
  ⟨d.id, d.nf, fun i => ⟨k + 2 * (i : Int), [], (k + 2 * (i : Int) + 1) % 3 == 0⟩, d.nh, fun i => mH (kk k1 (L + R + 5) i) L R, d.no, fun i => k2 + i, fun _ => [], d.ni, fun i => k2 + d.no + i⟩
def mEnd (k : Int) (d : ND) (L R : Nat) : Int := kk (k + 2 * (d.nf : Int)) (L + R + 5) d.nh + d.no + d.ni

/-- All its blocks lie below hi. -/
def NLt (d : ND) (p : NP) (hi : Nat) : Prop := (∀ j, blk p.f = some j → j < hi) ∧ (∀ j, blk p.h = some j → j < hi) ∧ (∀ i, i < d.nh → ∀ j, (blk (p.hp i).l = some j ∨ blk (p.hp i).r = some j) → j < hi) ∧ (∀ j, blk p.o = some j → j < hi) ∧ ∀ j, blk p.i = some j → j < hi
theorem own_blk {a : Option Addr} {c j n : Nat} (h : blk (a, c) = some j) : (Value.slice a n c).ownBlock = some j := by
  cases a with
  | none => simp [blk] at h
  | some x => simpa [blk, Value.ownBlock] using h
theorem NO.lt {w : World} {lo : Nat} {d : ND} {p : NP} {L R : Nat} (h : NO w lo d p L R) : NLt d p w.heap.size :=
  ⟨fun j hj => (h.f.lt j (own_blk hj)).2, fun j hj => (h.h.row.lt j (own_blk hj)).2, fun i hi j hj => hj.elim (fun hj => ((h.h.l i hi).lt j (own_blk hj)).2) (fun hj => ((h.h.r i hi).lt j (own_blk hj)).2), fun j hj => (h.o.lt j (own_blk hj)).2, fun j hj => (h.i.lt j (own_blk hj)).2⟩
theorem NO.lo {w : World} {lo : Nat} {d : ND} {p : NP} {L R : Nat} (h : NO w lo d p L R) : (∀ j, blk p.f = some j → lo ≤ j) ∧ (∀ j, blk p.o = some j → lo ≤ j) ∧ ∀ j, blk p.i = some j → lo ≤ j :=
  ⟨fun j hj => (h.f.lt j (own_blk hj)).1, fun j hj => (h.o.lt j (own_blk hj)).1, fun j hj => (h.i.lt j (own_blk hj)).1⟩

/-- A row stays where another row of another element type is turned. -/
theorem owns_other {w w' : World} {lo e s n : Nat} {v : Value} {xs : List Value} (h : w.ownsRow lo e s v n xs) {e2 s2 n2 lo2 : Nat} {v2 : Value} {xs2 : List Value} (g : w.grownBy w' v2.ownBlock) (h2 : w.ownsRow lo2 e2 s2 v2 n2 xs2) (he : e2 ≠ e) : w'.ownsRow lo e s v n xs :=
  owns_ne h g (fun j hj hk => owns_kinds h2 h he hk hj)
theorem HO.other {w w' : World} {lo : Nat} {a : Option Addr} {c n : Nat} {d : Nat → HD} {p : Nat → HP} (h : HO w lo a c n d p) {e2 s2 n2 lo2 : Nat} {v2 : Value} {xs2 : List Value} (g : w.grownBy w' v2.ownBlock) (h2 : w.ownsRow lo2 e2 s2 v2 n2 xs2) (h3 : e2 ≠ 46 ∧ e2 ≠ 3 ∧ e2 ≠ 4) : HO w' lo a c n d p :=
  ⟨owns_other h.row g h2 h3.1, fun i hi => owns_other (h.l i hi) g h2 h3.2.1, fun i hi => owns_other (h.r i hi) g h2 h3.2.2⟩

/-- Two boxes of blocks: what Kept leaves. -/
theorem HO.kinds {w : World} {lo : Nat} {a : Option Addr} {c n : Nat} {d : Nat → HD} {p : Nat → HP} (h : HO w lo a c n d p) {e s m lo2 : Nat} {v : Value} {xs : List Value} (h2 : w.ownsRow lo2 e s v m xs) (h3 : e ≠ 46 ∧ e ≠ 3 ∧ e ≠ 4) {j : Nat} (hj : v.ownBlock = some j) :
    blk (a, c) ≠ some j ∧ ∀ i, i < n → blk (p i).l ≠ some j ∧ blk (p i).r ≠ some j :=
  ⟨fun e => owns_kinds h2 h.row h3.1 hj (own_blk e), fun i hi => ⟨fun e => owns_kinds h2 (h.l i hi) h3.2.1 hj (own_blk e), fun e => owns_kinds h2 (h.r i hi) h3.2.2 hj (own_blk e)⟩⟩

/-- The blocks of a node. -/
def NB (d : ND) (p : NP) (j : Nat) : Prop := blk p.f = some j ∨ blk p.h = some j ∨ (∃ i, i < d.nh ∧ (blk (p.hp i).l = some j ∨ blk (p.hp i).r = some j)) ∨ blk p.o = some j ∨ blk p.i = some j
def HBk (p : NP) (n : Nat) (j : Nat) : Prop := blk p.h = some j ∨ ∃ i, i < n ∧ (blk (p.hp i).l = some j ∨ blk (p.hp i).r = some j)
theorem NO.nb {w : World} {lo : Nat} {d : ND} {p : NP} {L R : Nat} (h : NO w lo d p L R) {j : Nat} (hj : NB d p j) : lo ≤ j ∧ j < w.heap.size := by
  rcases hj with h1 | h1 | ⟨i, hi, h1 | h1⟩ | h1 | h1
  · exact h.f.lt j (own_blk h1)
  · exact h.h.row.lt j (own_blk h1)
  · exact (h.h.l i hi).lt j (own_blk h1)
  · exact (h.h.r i hi).lt j (own_blk h1)
  · exact h.o.lt j (own_blk h1)
  · exact h.i.lt j (own_blk h1)


end Go.Proofs.Ytfeabhknkoifeaa
