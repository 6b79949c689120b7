/- What the law's heldHomeS does at a row of marked homes; what markNode and heldNode do at a new node. -/
import Derived.Test.YtcneocbadobcfaaGreatNdH
import Derived.Test.YtcneocbadobcfaaGreatNdE
namespace Go.Proofs.YtcneocbadobcfaaGreat
open Go.RowKit
set_option linter.unusedVariables false

set_option maxRecDepth 100000 in
set_option maxHeartbeats 4000000 in
theorem heldHomeS_none (n L R : Nat) (a : Option Addr) (c : Nat) (p : Nat → HP) (k0 : Int) (w : World) (h0 : 0 ≤ k0) (h1 : k0 ≤ 100000000000) (hn : n ≤ 1048577) (hL : L ≤ 5) (hR : R ≤ 5) (hq : ∀ i, i < n → (p i).q = (none, 0)) (hh : HR2 w a n (fun i => mH (kk k0 (L + R + 5) i) L R) p) :
    Calls Tryz.prog 40 #[.slice a n c, .int .i64 k0] w fun e w' => e = .returned (.int .i64 (kk k0 (L + R + 5) n)) ∧ ∃ d, w' = w.drewN d := by
  have KL : Hid (∀ j, j ≤ n → k0 ≤ kk k0 (L + R + 5) j ∧ kk k0 (L + R + 5) j ≤ k0 + 20971540) := fun j hj => kk_le k0 (by omega) hj hn
  have HQ : Hid (∀ i, i < n → (p i).q = (none, 0)) := hq
  have HH : Hid (HR2 w a n (fun i => mH (kk k0 (L + R + 5) i) L R) p) := hh
  clear hq hh
  go_enter Tryz.func40, Tryz.ntmps40
  go_wp2
  go_loopw [1, 5] (fun q i wr => ∃ j d : Nat, j ≤ n ∧ i = .int .i64 j ∧ q = .int .i64 (kk k0 (L + R + 5) j) ∧ wr = w.drewN d) (fun _ i _ => n - (intOf i).toNat)
  case atStart => exact ⟨0, 0, Nat.zero_le _, rfl, by simp [kk], rfl⟩
  case round =>
    obtain ⟨j, dd, hj, rfl, rfl, rfl⟩ := hrel
    obtain ⟨k, hk⟩ : ∃ k, kk k0 (L + R + 5) j = k := ⟨_, rfl⟩
    have hkb := KL.out j hj
    rw [hk] at hkb
    obtain ⟨hk0, hk1⟩ := hkb
    have HKj : Hid (kk k0 (L + R + 5) j = k) := hk
    rw [hk]
    clear hk
    by_cases hlt : j < n
    · have hi' : (j : Int) < (n : Int) := by omega
      obtain ⟨b, off, ea, c0, c1, c2, c3, c4, c5, c6, c7⟩ := HH.out.at hlt
      subst ea
      obtain ⟨rl, rr, _⟩ := HH.out.2.2 j hlt
      have eq := HQ.out j hlt
      simp only [HKj.out, mH, mki_length, mkb_length, eq, List.length_nil] at c0 c1 c2 c3 c4 c5 c6 c7 rl rr
      have q1 : decide (k + (L : Int) < 0) = false := by simp; omega
      have q2 : decide (k + (L : Int) + 1 + (R : Int) < 0) = false := by simp; omega
      have q3 : decide (k + (L : Int) + 1 + (R : Int) + 1 + 1 + 1 + 1 < 0) = false := by simp; omega
      go_wp2_with fail
      have rl2 : Row .i64 (w.drewN dd) (p j).l.1 (mki k L) := rl
      refine (heldIntS_any _ _ L k _ (by omega) (by omega) rl2).mono ?_
      rintro e w1 ⟨rfl, h⟩
      subst h
      go_wp2_with fail
      refine (heldBoolS_any _ _ R (k + L + 1) _ (by omega) (by omega) (rr.drewN dd)).mono ?_
      rintro e w1 ⟨rfl, d2, rfl⟩
      go_wp2_with fail
      refine (heldWaitS_none _ _).mono ?_
      rintro e w1 ⟨rfl, h⟩
      subst h
      clear c0 c1 c2 c3 c4 c5 c6 c7 rl rr rl2
      go_wp2
      go_roundw
      case rel =>
        refine ⟨j + 1, dd + d2, by omega, by go_num, ?_, rfl⟩
        have := kk_succ k0 (L + R + 5) j
        rw [HKj.out] at this
        rw [this]
        congr 1
        omega
      case measure => simp [intOf]; omega
    · have : j = n := by omega
      subst this
      go_wp2
      go_ret
      exact ⟨ret_int HKj.out.symm, dd, rfl⟩

/-- A node whose frames have no words, whose homes nobody waits at and whose lines queue nothing, owned. -/
structure NO (w : World) (lo : Nat) (d : ND) (p : NP) (L R : Nat) : Prop where
  f : w.ownsRow lo 50 3 (.slice p.f.1 d.nf p.f.2) d.nf (chunks d.nf fun i => f0 (d.f i).s (d.f i).q)
  fe : ∀ i, i < d.nf → (d.f i).xs = [] ∧ p.fp i = (none, 0)
  h : HO w lo p.h.1 p.h.2 d.nh d.h p.hp
  ha : HApart d.nh p.hp
  he : ∀ i, i < d.nh → (d.h i).xs.length = L ∧ (d.h i).bs.length = R ∧ (d.h i).ws = [] ∧ (p.hp i).q = (none, 0)
  o : w.ownsRow lo 54 2 (.slice p.o.1 d.no p.o.2) d.no (chunks d.no fun i => s0 (d.b i))
  oe : ∀ i, i < d.no → d.y i = [] ∧ p.op i = (none, 0) ∧ p.ms i = []
  i : w.ownsRow lo 100 1 (.slice p.i.1 d.ni p.i.2) d.ni (chunks d.ni fun i => gcells (d.g i))
  n : d.nf ≤ 100 ∧ d.nh ≤ 100 ∧ d.no ≤ 100 ∧ d.ni ≤ 100 ∧ L ≤ 5 ∧ R ≤ 5

theorem NO.below {w w' : World} {lo : Nat} {d : ND} {p : NP} {L R : Nat} (h : NO w lo d p L R) (b : Below w.heap.size w w') : NO w' lo d p L R :=
  ⟨owns_below h.f b, h.fe, h.h.below b, h.ha, h.he, owns_below h.o b, h.oe, owns_below h.i b, h.n⟩
theorem NO.base {w : World} {lo lo' : Nat} {d : ND} {p : NP} {L R : Nat} (h : NO w lo d p L R) (b : lo' ≤ lo) : NO w lo' d p L R :=
  ⟨owns_base h.f b, h.fe, h.h.base b, h.ha, h.he, owns_base h.o b, h.oe, owns_base h.i b, h.n⟩

theorem HO.hr {w : World} {lo : Nat} {a : Option Addr} {c n : Nat} {d : Nat → HD} {p : Nat → HP} (h : HO w lo a c n d p) (hn : n ≤ 100) (hl : ∀ i, i < n → (d i).xs.length ≤ 100 ∧ (d i).bs.length ≤ 100 ∧ (d i).ws = []) : HR2 w a n d p := by
  refine ⟨by omega, owns_vrow' h.row (by rw [chunks_length (s := 8) n (fun i _ => rfl)]; omega), fun i hi => ⟨owns_row' (h.l i hi) (by have := hl i hi; omega), owns_vrow' (h.r i hi) (by rw [bv_length]; have := hl i hi; omega), ?_⟩⟩
  rw [(hl i hi).2.2]
  exact ⟨by simp [wv], fun j v hv => by simp [wv] at hv⟩

/-- What a reader is told of it. -/
theorem NO.nr {w : World} {lo : Nat} {d : ND} {p : NP} {L R : Nat} (h : NO w lo d p L R) : NR w d p := by
  obtain ⟨n1, n2, n3, n4, n5, n6⟩ := h.n
  refine ⟨⟨by omega, ?_, fun i hi => ?_⟩, h.h.hr n2 (fun i hi => ?_), ⟨by omega, ?_, fun i hi => ?_⟩, by omega, ?_⟩
  · have e := chunks_congr (n := d.nf) (f := fun i => f0 (d.f i).s (d.f i).q) (g := fun i => fcells (d.f i) (p.fp i)) (fun i hi => by simp [f0, fcells, h.fe i hi])
    rw [← e]
    exact owns_vrow' h.f (by rw [chunks_length (s := 3) d.nf (fun i _ => rfl)]; omega)
  · rw [(h.fe i hi).1]
    exact ⟨by simp, fun j hj => by simp at hj⟩
  · obtain ⟨e1, e2, e3, e4⟩ := h.he i hi
    exact ⟨by omega, by omega, e3⟩
  · have e := chunks_congr (n := d.no) (f := fun i => s0 (d.b i)) (g := fun i => scells (d.b i) (p.op i) (d.y i).length) (fun i hi => by simp [s0, scells, h.oe i hi])
    rw [← e]
    exact owns_vrow' h.o (by rw [chunks_length (s := 2) d.no (fun i _ => rfl)]; omega)
  · obtain ⟨e1, e2, e3⟩ := h.oe i hi
    rw [e1, e3]
    exact ⟨⟨by simp, fun j m hm => by simp at hm⟩, rfl⟩
  · exact owns_vrow' h.i (by rw [chunks_length (s := 1) d.ni (fun i _ => rfl)]; omega)

/-- The node, marked, counted on from k. -/
def mN (k : Int) (d : ND) (L R : Nat) : ND :=
  let k1 := k + 2 * (d.nf : Int)
  let k2 := kk k1 (L + R + 5) d.nh
  ⟨d.id, d.nf, fun i => ⟨k + 2 * (i : Int), [], (k + 2 * (i : Int) + 1) % 3 == 0⟩, d.nh, fun i => mH (kk k1 (L + R + 5) i) L R, d.no, fun i => k2 + i, fun _ => [], d.ni, fun i => k2 + d.no + i⟩
def mEnd (k : Int) (d : ND) (L R : Nat) : Int := kk (k + 2 * (d.nf : Int)) (L + R + 5) d.nh + d.no + d.ni

/-- All its blocks lie below hi. -/
def NLt (d : ND) (p : NP) (hi : Nat) : Prop := (∀ j, blk p.f = some j → j < hi) ∧ (∀ j, blk p.h = some j → j < hi) ∧ (∀ i, i < d.nh → ∀ j, (blk (p.hp i).l = some j ∨ blk (p.hp i).r = some j) → j < hi) ∧ (∀ j, blk p.o = some j → j < hi) ∧ ∀ j, blk p.i = some j → j < hi
theorem own_blk {a : Option Addr} {c j n : Nat} (h : blk (a, c) = some j) : (Value.slice a n c).ownBlock = some j := by
  cases a with
  | none => simp [blk] at h
  | some x => simpa [blk, Value.ownBlock] using h
theorem NO.lt {w : World} {lo : Nat} {d : ND} {p : NP} {L R : Nat} (h : NO w lo d p L R) : NLt d p w.heap.size :=
  ⟨fun j hj => (h.f.lt j (own_blk hj)).2, fun j hj => (h.h.row.lt j (own_blk hj)).2, fun i hi j hj => hj.elim (fun hj => ((h.h.l i hi).lt j (own_blk hj)).2) (fun hj => ((h.h.r i hi).lt j (own_blk hj)).2), fun j hj => (h.o.lt j (own_blk hj)).2, fun j hj => (h.i.lt j (own_blk hj)).2⟩
theorem NO.lo {w : World} {lo : Nat} {d : ND} {p : NP} {L R : Nat} (h : NO w lo d p L R) : (∀ j, blk p.f = some j → lo ≤ j) ∧ (∀ j, blk p.o = some j → lo ≤ j) ∧ ∀ j, blk p.i = some j → lo ≤ j :=
  ⟨fun j hj => (h.f.lt j (own_blk hj)).1, fun j hj => (h.o.lt j (own_blk hj)).1, fun j hj => (h.i.lt j (own_blk hj)).1⟩

/-- A row stays where another row of another element type is turned. -/
theorem owns_other {w w' : World} {lo e s n : Nat} {v : Value} {xs : List Value} (h : w.ownsRow lo e s v n xs) {e2 s2 n2 lo2 : Nat} {v2 : Value} {xs2 : List Value} (g : w.grownBy w' v2.ownBlock) (h2 : w.ownsRow lo2 e2 s2 v2 n2 xs2) (he : e2 ≠ e) : w'.ownsRow lo e s v n xs :=
  owns_ne h g (fun j hj hk => owns_kinds h2 h he hk hj)
theorem HO.other {w w' : World} {lo : Nat} {a : Option Addr} {c n : Nat} {d : Nat → HD} {p : Nat → HP} (h : HO w lo a c n d p) {e2 s2 n2 lo2 : Nat} {v2 : Value} {xs2 : List Value} (g : w.grownBy w' v2.ownBlock) (h2 : w.ownsRow lo2 e2 s2 v2 n2 xs2) (h3 : e2 ≠ 93 ∧ e2 ≠ 3 ∧ e2 ≠ 4) : HO w' lo a c n d p :=
  ⟨owns_other h.row g h2 h3.1, fun i hi => owns_other (h.l i hi) g h2 h3.2.1, fun i hi => owns_other (h.r i hi) g h2 h3.2.2⟩

/-- Two boxes of blocks: what Kept leaves. -/
theorem HO.kinds {w : World} {lo : Nat} {a : Option Addr} {c n : Nat} {d : Nat → HD} {p : Nat → HP} (h : HO w lo a c n d p) {e s m lo2 : Nat} {v : Value} {xs : List Value} (h2 : w.ownsRow lo2 e s v m xs) (h3 : e ≠ 93 ∧ e ≠ 3 ∧ e ≠ 4) {j : Nat} (hj : v.ownBlock = some j) :
    blk (a, c) ≠ some j ∧ ∀ i, i < n → blk (p i).l ≠ some j ∧ blk (p i).r ≠ some j :=
  ⟨fun e => owns_kinds h2 h.row h3.1 hj (own_blk e), fun i hi => ⟨fun e => owns_kinds h2 (h.l i hi) h3.2.1 hj (own_blk e), fun e => owns_kinds h2 (h.r i hi) h3.2.2 hj (own_blk e)⟩⟩

/-- The blocks of a node. -/
def NB (d : ND) (p : NP) (j : Nat) : Prop := blk p.f = some j ∨ blk p.h = some j ∨ (∃ i, i < d.nh ∧ (blk (p.hp i).l = some j ∨ blk (p.hp i).r = some j)) ∨ blk p.o = some j ∨ blk p.i = some j
def HBk (p : NP) (n : Nat) (j : Nat) : Prop := blk p.h = some j ∨ ∃ i, i < n ∧ (blk (p.hp i).l = some j ∨ blk (p.hp i).r = some j)
theorem NO.nb {w : World} {lo : Nat} {d : ND} {p : NP} {L R : Nat} (h : NO w lo d p L R) {j : Nat} (hj : NB d p j) : lo ≤ j ∧ j < w.heap.size := by
  rcases hj with h1 | h1 | ⟨i, hi, h1 | h1⟩ | h1 | h1
  · exact h.f.lt j (own_blk h1)
  · exact h.h.row.lt j (own_blk h1)
  · exact (h.h.l i hi).lt j (own_blk h1)
  · exact (h.h.r i hi).lt j (own_blk h1)
  · exact h.o.lt j (own_blk h1)
  · exact h.i.lt j (own_blk h1)

set_option maxRecDepth 100000 in
set_option maxHeartbeats 4000000 in
theorem markNode_new (lo L R : Nat) (d : ND) (p : NP) (w : World) (hN : NO w lo d p L R) :
    Calls Tryz.prog 9 #[.agg (ncells d p), .int .i64 1] w fun e w' => e = .returned (.int .i64 (mEnd 1 d L R)) ∧ NO w' lo (mN 1 d L R) p L R ∧ Only w w' (NB d p) := by
  have bA := bel_alloc (Below.refl w.heap.size w) (.cells (ncells d p) 34)
  have X := Box.new w (ncells d p) 34
  have HNB : Hid (∀ j, NB d p j → j < w.heap.size) := fun j hj => (hN.nb hj).2
  have HE : Hid ((∀ i, i < d.nh → (d.h i).xs.length = L ∧ (d.h i).bs.length = R ∧ (d.h i).ws = [] ∧ (p.hp i).q = (none, 0)) ∧ HApart d.nh p.hp ∧ (∀ i, i < d.nf → p.fp i = (none, 0)) ∧ ∀ i, i < d.no → p.op i = (none, 0) ∧ p.ms i = []) := ⟨hN.he, hN.ha, fun i hi => (hN.fe i hi).2, fun i hi => (hN.oe i hi).2⟩
  obtain ⟨n1, n2, n3, n4, n5, n6⟩ := hN.n
  have qf := owns_below hN.f bA
  have qh := hN.h.below bA
  have qo := owns_below hN.o bA
  have qi := owns_below hN.i bA
  clear hN
  obtain ⟨k1, hk1⟩ : ∃ k1 : Int, (1 : Int) + 2 * (d.nf : Int) = k1 := ⟨_, rfl⟩
  obtain ⟨k2, hk2⟩ : ∃ k2 : Int, kk k1 (L + R + 5) d.nh = k2 := ⟨_, rfl⟩
  have b1 : 0 ≤ k1 ∧ k1 ≤ 1000 := by omega
  have b2 : 0 ≤ k2 ∧ k2 ≤ 30000000 := by have := kk_le k1 (S := L + R + 5) (by omega) (Nat.le_refl d.nh) (by omega); omega
  have HK1 : Hid ((1 : Int) + 2 * (d.nf : Int) = k1) := hk1
  have HK2 : Hid (kk k1 (L + R + 5) d.nh = k2) := hk2
  clear hk1 hk2
  go_enter Tryz.func9, Tryz.ntmps9
  go_wp2_with fail
  refine (markFrameS_none lo d.nf p.f.1 p.f.2 (fun i => ((d.f i).s, (d.f i).q)) 1 _ (by omega) (by omega) (by omega) qf).mono ?_
  rintro e w1 ⟨rfl, pf, g1⟩
  replace qh := qh.other g1 qf ⟨by decide, by decide, by decide⟩
  replace qo := owns_other qo g1 qf (by decide)
  replace qi := owns_other qi g1 qf (by decide)
  replace X := X.kept g1 (fun j hj e => by have := HNB.out j (.inl (blk_eq hj)); omega)
  have K := (Only.of (S := NB d p) bA (Only.refl _ _)).grown g1 (fun j hj => .inl (blk_eq hj))
  clear g1 qf bA
  obtain ⟨x0, x1, x2, x3, x4, zx⟩ := X.at5
  rw [HK1.out]
  go_wp2_with fail
  refine (markHomeS_none (HBk p d.nh) lo d.nh L R p.h.1 p.h.2 d.h p.hp k1 _ (by omega) (by omega) (by omega) (by omega) (by omega) HE.out.1 HE.out.2.1 qh ⟨fun j hj => .inl hj, fun i hi j hj => .inr ⟨i, hi, hj⟩⟩).mono ?_
  rintro e w2 ⟨rfl, ph, o2⟩
  have nk : ∀ {e s m : Nat} {v : Value} {xs : List Value}, w1.ownsRow lo e s v m xs → (e ≠ 93 ∧ e ≠ 3 ∧ e ≠ 4) → ∀ j, v.ownBlock = some j → ¬ HBk p d.nh j := fun ho h3 j hj hb => by
    have h := qh.kinds ho h3 hj
    rcases hb with hb | ⟨i, hi, hb | hb⟩
    · exact h.1 hb
    · exact (h.2 i hi).1 hb
    · exact (h.2 i hi).2 hb
  replace pf := owns_only pf o2 (nk pf ⟨by decide, by decide, by decide⟩)
  replace qo := owns_only qo o2 (nk qo ⟨by decide, by decide, by decide⟩)
  replace qi := owns_only qi o2 (nk qi ⟨by decide, by decide, by decide⟩)
  replace X := X.only o2 (fun hb => by
    have : NB d p w.heap.size := by
      rcases hb with hb | hb
      · exact .inr (.inl hb)
      · exact .inr (.inr (.inl hb))
    have := HNB.out _ this
    omega)
  replace K := K.trans (o2.more (T := NB d p) (fun j hb => by
    rcases hb with hb | hb
    · exact .inr (.inl hb)
    · exact .inr (.inr (.inl hb))))
  clear o2 qh nk x0 x1 x2 x3 x4 zx
  obtain ⟨x0, x1, x2, x3, x4, zx⟩ := X.at5
  rw [HK2.out]
  go_wp2_with fail
  refine (markSenderS_none lo d.no p.o.1 p.o.2 d.b k2 _ (by omega) (by omega) (by omega) qo).mono ?_
  rintro e w3 ⟨rfl, po, g3⟩
  replace pf := owns_other pf g3 qo (by decide)
  replace ph := ph.other g3 qo ⟨by decide, by decide, by decide⟩
  replace qi := owns_other qi g3 qo (by decide)
  replace X := X.kept g3 (fun j hj e => by have := HNB.out j (.inr (.inr (.inr (.inl (blk_eq hj))))); omega)
  replace K := K.grown g3 (fun j hj => .inr (.inr (.inr (.inl (blk_eq hj)))))
  clear g3 qo x0 x1 x2 x3 x4 zx
  obtain ⟨x0, x1, x2, x3, x4, zx⟩ := X.at5
  go_wp2_with fail
  refine (markReceiverS_any lo d.ni p.i.1 p.i.2 d.g (k2 + d.no) _ (by omega) (by omega) (by omega) qi).mono ?_
  rintro e w4 ⟨rfl, pi, g4⟩
  replace pf := owns_other pf g4 qi (by decide)
  replace ph := ph.other g4 qi ⟨by decide, by decide, by decide⟩
  replace po := owns_other po g4 qi (by decide)
  replace K := K.grown g4 (fun j hj => .inr (.inr (.inr (.inr (blk_eq hj)))))
  clear g4 qi x0 x1 x2 x3 x4 zx X
  go_wp2
  go_ret
  refine ⟨ret_int ?_, ?_, K⟩
  · unfold mEnd
    rw [HK1.out, HK2.out]
  · have e : mN 1 d L R = ⟨d.id, d.nf, fun i => ⟨1 + 2 * (i : Int), [], (1 + 2 * (i : Int) + 1) % 3 == 0⟩, d.nh, fun i => mH (kk k1 (L + R + 5) i) L R, d.no, fun i => k2 + i, fun _ => [], d.ni, fun i => k2 + d.no + i⟩ := by
      unfold mN
      simp only [HK1.out, HK2.out]
    rw [e]
    exact ⟨pf, fun i hi => ⟨rfl, HE.out.2.2.1 i hi⟩, ph, HE.out.2.1, fun i hi => ⟨by simp [mH, mki_length], by simp [mH, mkb_length], rfl, (HE.out.1 i hi).2.2.2⟩, po, fun i hi => ⟨rfl, HE.out.2.2.2 i hi⟩, pi, n1, n2, n3, n4, n5, n6⟩

set_option maxRecDepth 100000 in
set_option maxHeartbeats 4000000 in
theorem heldNode_new (lo L R : Nat) (d : ND) (p : NP) (w : World) (hN : NO w lo (mN 1 d L R) p L R) :
    Calls Tryz.prog 10 #[.agg (ncells d p), .int .i64 1] w fun e w' => e = .returned (.int .i64 (mEnd 1 d L R)) ∧ Below w.heap.size w w' := by
  have bA := bel_alloc (Below.refl w.heap.size w) (.cells (ncells d p) 34)
  have HNR : Hid (NR (w.alloc (.cells (ncells d p) 34)) (mN 1 d L R) p) := (hN.below bA).nr
  have hq := fun i hi => (hN.he i hi).2.2.2
  obtain ⟨n1, n2, n3, n4, n5, n6⟩ := hN.n
  replace n1 : d.nf ≤ 100 := n1
  replace n2 : d.nh ≤ 100 := n2
  replace n3 : d.no ≤ 100 := n3
  replace n4 : d.ni ≤ 100 := n4
  obtain ⟨k1, hk1⟩ : ∃ k1 : Int, (1 : Int) + 2 * (d.nf : Int) = k1 := ⟨_, rfl⟩
  obtain ⟨k2, hk2⟩ : ∃ k2 : Int, kk k1 (L + R + 5) d.nh = k2 := ⟨_, rfl⟩
  have b1 : 0 ≤ k1 ∧ k1 ≤ 1000 := by omega
  have b2 : 0 ≤ k2 ∧ k2 ≤ 30000000 := by have := kk_le k1 (S := L + R + 5) (by omega) (Nat.le_refl d.nh) (by omega); omega
  have e : mN 1 d L R = ⟨d.id, d.nf, fun i => ⟨1 + 2 * (i : Int), [], (1 + 2 * (i : Int) + 1) % 3 == 0⟩, d.nh, fun i => mH (kk k1 (L + R + 5) i) L R, d.no, fun i => k2 + i, fun _ => [], d.ni, fun i => k2 + d.no + i⟩ := by
    unfold mN
    simp only [hk1, hk2]
  have vf : VRow (w.alloc (.cells (ncells d p) 34)) p.f.1 (chunks d.nf (mf 1)) := owns_vrow' (e := 50) (size := 3) (base := lo) (n := d.nf) (cap := p.f.2) (by have h := owns_below hN.f bA; rw [e] at h; exact h) (by rw [chunks_length (s := 3) d.nf (fun i _ => rfl)]; omega)
  have vo : VRow (w.alloc (.cells (ncells d p) 34)) p.o.1 (chunks d.no (ms' k2)) := owns_vrow' (e := 54) (size := 2) (base := lo) (n := d.no) (cap := p.o.2) (by have h := owns_below hN.o bA; rw [e] at h; exact h) (by rw [chunks_length (s := 2) d.no (fun i _ => rfl)]; omega)
  have vi : VRow (w.alloc (.cells (ncells d p) 34)) p.i.1 (chunks d.ni (mg (k2 + d.no))) := owns_vrow' (e := 100) (size := 1) (base := lo) (n := d.ni) (cap := p.i.2) (by have h := owns_below hN.i bA; rw [e] at h; exact h) (by rw [chunks_length (s := 1) d.ni (fun i _ => rfl)]; omega)
  have vh : HR2 (w.alloc (.cells (ncells d p) 34)) p.h.1 d.nh (fun i => mH (kk k1 (L + R + 5) i) L R) p.hp := by have h := HNR.out.h; rw [e] at h; exact h
  have X := Box.new w (ncells d p) 34
  have HK1 : Hid ((1 : Int) + 2 * (d.nf : Int) = k1) := hk1
  have HK2 : Hid (kk k1 (L + R + 5) d.nh = k2) := hk2
  have HQ : Hid (∀ i, i < d.nh → (p.hp i).q = (none, 0)) := hq
  clear hk1 hk2 e hN HNR hq
  have q1 : decide (k1 < 0) = false := by simp; omega
  have q2 : decide (k2 < 0) = false := by simp; omega
  have q3 : decide (k2 + (d.no : Int) < 0) = false := by simp; omega
  have q4 : decide (k2 + (d.no : Int) + (d.ni : Int) < 0) = false := by simp; omega
  go_enter Tryz.func10, Tryz.ntmps10
  go_wp2_with fail
  refine (heldFrameS_none d.nf p.f.1 p.f.2 1 _ (by omega) (by omega) (by omega) vf).mono ?_
  rintro e w1 ⟨rfl, h⟩
  subst h
  rw [HK1.out]
  go_wp2_with fail
  refine (heldHomeS_none d.nh L R p.h.1 p.h.2 p.hp k1 _ (by omega) (by omega) (by omega) (by omega) (by omega) HQ.out vh).mono ?_
  rintro e w1 ⟨rfl, d2, rfl⟩
  rw [HK2.out]
  have vo2 := vo.drewN d2
  have vi2 := vi.drewN d2
  go_wp2_with fail
  refine (heldSenderS_none d.no p.o.1 p.o.2 k2 _ (by omega) (by omega) (by omega) vo2).mono ?_
  rintro e w1 ⟨rfl, h⟩
  subst h
  go_wp2_with fail
  refine (heldReceiverS_any d.ni p.i.1 p.i.2 (k2 + d.no) _ (by omega) (by omega) (by omega) vi2).mono ?_
  rintro e w1 ⟨rfl, h⟩
  subst h
  clear vo vi vf vh vo2 vi2 X
  go_wp2
  go_ret
  refine ⟨ret_int ?_, below_drewN bA d2⟩
  unfold mEnd
  rw [HK1.out, HK2.out]
end Go.Proofs.YtcneocbadobcfaaGreat
