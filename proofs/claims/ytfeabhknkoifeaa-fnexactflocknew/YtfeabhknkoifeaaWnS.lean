/- WnN and WnS: see the heads of the parts. -/
import Derived.Test.YtfeabhknkoifeaaWnM
import Derived.Test.YtfeabhknkoifeaaWoO0
import Derived.Test.YtfeabhknkoifeaaNdS
/- A new node is owned, and not great; what WorldNew answers. -/
namespace Go.Proofs.Ytfeabhknkoifeaa
open Go.RowKit
set_option linter.unusedVariables false

theorem qf_none {b : Nat} : ¬ QF (none, 0) b := by simp [QF, blk]
theorem NO.now {w : World} {lo : Nat} {d : ND} {p : NP} {L R : Nat} (h : NO w lo d p L R) : NOw w d p ∧ (∀ b, NBs d p b → lo ≤ b) ∧ Nti d p := by
  have nf : ∀ b, RS p.f.1 p.f.2 d.nf (fun i => QF (p.fp i)) b → blk p.f = some b := fun b hb => by
    rcases hb with hb | ⟨i, hi, hb⟩
    · exact hb
    · rw [(h.fe i hi).2] at hb
      exact absurd hb qf_none
  have no : ∀ b, RS p.o.1 p.o.2 d.no (fun i => QS (p.op i) (p.ms i)) b → blk p.o = some b := fun b hb => by
    rcases hb with hb | ⟨i, hi, hb⟩
    · exact hb
    · rw [(h.oe i hi).2.1, (h.oe i hi).2.2] at hb
      simp [QS, blk] at hb
  have nh : ∀ b, RS p.h.1 p.h.2 d.nh (fun i => QH (p.hp i)) b → blk p.h = some b ∨ ∃ i, i < d.nh ∧ (blk (p.hp i).l = some b ∨ blk (p.hp i).r = some b) := fun b hb => by
    rcases hb with hb | ⟨i, hi, hb | hb | hb⟩
    · exact .inl hb
    · exact .inr ⟨i, hi, .inl hb⟩
    · exact .inr ⟨i, hi, .inr hb⟩
    · rw [(h.he i hi).2.2.2] at hb
      simp [blk] at hb
  have hh : ∀ {e s n c : Nat} {a : Option Addr} {xs : List Value}, w.ownsRow lo e s (.slice a n c) n xs → e ≠ 46 → e ≠ 3 → e ≠ 4 → ∀ b, RS p.h.1 p.h.2 d.nh (fun i => QH (p.hp i)) b → blk (a, c) ≠ some b := fun ho e1 e2 e3 b hb hc => by
    rcases nh b hb with hb | ⟨i, hi, hb | hb⟩
    · exact owns_kinds ho h.h.row e1 (own_blk hc) (own_blk hb)
    · exact owns_kinds ho (h.h.l i hi) e2 (own_blk hc) (own_blk hb)
    · exact owns_kinds ho (h.h.r i hi) e3 (own_blk hc) (own_blk hb)
  refine ⟨⟨⟨?_, ?_, ?_, ?_, ?_, ?_⟩, ⟨?_, ?_, ?_, ?_, ?_, ?_⟩, ⟨?_, ?_, ?_, ?_, ?_, ?_⟩, owns_base h.i (Nat.zero_le _), ?_, ?_, ?_, ?_, ?_, ?_, ?_⟩, ?_, ?_⟩
  · exact owns_congr (owns_base h.f (Nat.zero_le _)) (fun i hi => by simp [fcells, f0, (h.fe i hi).1, (h.fe i hi).2])
  · intro i hi
    unfold EF
    rw [(h.fe i hi).1, (h.fe i hi).2]
    exact World.ownsRow_nil _ _ _ _
  · exact fun i hi => fix_f _ _
  · intro i hi g hg hq
    rw [(h.fe i hi).2] at hq
    exact qf_none hq
  · intro i k hi hk hne b hb
    rw [(h.fe i hi).2] at hb
    exact absurd hb qf_none
  · intro i hi b hb
    rw [(h.fe i hi).2] at hb
    exact absurd hb qf_none
  · exact owns_base h.h.row (Nat.zero_le _)
  · intro i hi
    refine ⟨owns_base (h.h.l i hi) (Nat.zero_le _), owns_base (h.h.r i hi) (Nat.zero_le _), ?_⟩
    rw [(h.he i hi).2.2.1, (h.he i hi).2.2.2]
    exact World.ownsRow_nil _ _ _ _
  · exact fun i hi => fix_h _ _
  · intro i hi g hg hq
    rcases hq with hq | hq | hq
    · exact owns_kinds (h.h.l i hi) h.h.row (by decide) (own_blk hq) (own_blk hg)
    · exact owns_kinds (h.h.r i hi) h.h.row (by decide) (own_blk hq) (own_blk hg)
    · rw [(h.he i hi).2.2.2] at hq
      simp [blk] at hq
  · intro i k hi hk hne b hb hc
    have e1 := (h.he i hi).2.2.2
    have e2 := (h.he k hk).2.2.2
    rcases hb with hb | hb | hb
    · rcases hc with hc | hc | hc
      · exact (h.ha i k hi hk hne).1 b hb hc
      · exact owns_kinds (h.h.l i hi) (h.h.r k hk) (by decide) (own_blk hb) (own_blk hc)
      · rw [e2] at hc
        simp [blk] at hc
    · rcases hc with hc | hc | hc
      · exact owns_kinds (h.h.r i hi) (h.h.l k hk) (by decide) (own_blk hb) (own_blk hc)
      · exact (h.ha i k hi hk hne).2 b hb hc
      · rw [e2] at hc
        simp [blk] at hc
    · rw [e1] at hb
      simp [blk] at hb
  · intro i hi b hb
    rcases hb with hb | hb | hb
    · exact ((h.h.l i hi).lt b (own_blk hb)).2
    · exact ((h.h.r i hi).lt b (own_blk hb)).2
    · rw [(h.he i hi).2.2.2] at hb
      simp [blk] at hb
  · exact owns_congr (owns_base h.o (Nat.zero_le _)) (fun i hi => by simp [scells, s0, (h.oe i hi).2.1, (h.oe i hi).2.2])
  · intro i hi
    unfold ES
    rw [(h.oe i hi).2.1, (h.oe i hi).2.2]
    exact ⟨World.ownsRow_nil _ _ _ _, by refine ⟨fun m hm => ?_, ?_⟩ <;> simp_all⟩
  · exact fun i hi => fix_s _ _
  · intro i hi g hg hq
    rw [(h.oe i hi).2.1, (h.oe i hi).2.2] at hq
    simp [QS, blk] at hq
  · intro i k hi hk hne b hb
    rw [(h.oe i hi).2.1, (h.oe i hi).2.2] at hb
    simp [QS, blk] at hb
  · intro i hi b hb
    rw [(h.oe i hi).2.1, (h.oe i hi).2.2] at hb
    simp [QS, blk] at hb
  · intro i hi
    rw [(h.oe i hi).1, (h.oe i hi).2.2]
    rfl
  · exact fun b hb hc => hh h.f (by decide) (by decide) (by decide) b hc (nf b hb)
  · exact fun b hb hc => owns_kinds h.f h.o (by decide) (own_blk (nf b hb)) (own_blk (no b hc))
  · exact fun b hb hc => owns_kinds h.f h.i (by decide) (own_blk (nf b hb)) (own_blk hc)
  · exact fun b hb hc => hh h.o (by decide) (by decide) (by decide) b hb (no b hc)
  · exact fun b hb hc => hh h.i (by decide) (by decide) (by decide) b hb hc
  · exact fun b hb hc => owns_kinds h.o h.i (by decide) (own_blk (no b hb)) (own_blk hc)
  · intro b hb
    rcases hb with hb | hb | hb | hb
    · exact (h.nb (.inl (nf b hb))).1
    · rcases nh b hb with hb | hb
      · exact (h.nb (.inr (.inl hb))).1
      · exact (h.nb (.inr (.inr (.inl hb)))).1
    · exact (h.nb (.inr (.inr (.inr (.inl (no b hb)))))).1
    · exact (h.nb (.inr (.inr (.inr (.inr hb))))).1
  · obtain ⟨n1, n2, n3, n4, n5, n6⟩ := h.n
    have a1 : ∀ i, i < d.nf → (d.f i).xs.length = 0 := fun i hi => by rw [(h.fe i hi).1]; rfl
    have a2 : ∀ i, i < d.nh → (d.h i).xs.length ≤ 5 ∧ (d.h i).bs.length ≤ 5 ∧ (d.h i).ws.length = 0 := fun i hi => by
      obtain ⟨e1, e2, e3, _⟩ := h.he i hi
      rw [e1, e2, e3]
      exact ⟨n5, n6, rfl⟩
    refine ⟨⟨⟨by omega, fun i hi => by have := a1 i hi; omega⟩, ⟨by omega, fun i hi => by have := a2 i hi; omega⟩, ⟨by omega, fun i hi => ?_⟩, by omega⟩, ⟨by omega, fun i hi => by have := a1 i hi; omega⟩, ⟨by omega, fun i hi => by have := a2 i hi; omega⟩, ⟨by omega, fun i hi => ?_⟩, by omega⟩
    · rw [(h.oe i hi).1]
      simp
    · rw [(h.oe i hi).2.2]
      simp

def zPkD : PkD := ⟨0, 0, false, 0, 0, 0, false, []⟩
/-- A new world. -/
def newWD (n : Nat) : WoD := ⟨n, n, fun i => newND i n, 0, fun _ => zPkD⟩
def badWD : WoD := ⟨0, 0, fun _ => badND, 0, fun _ => zPkD⟩
def theWD (size : Int) : WoD := if inB size 1 4 then newWD size.toNat else badWD
theorem theWD_nk (size : Int) : (theWD size).nk = 0 := by
  unfold theWD
  split <;> rfl
/-- What WorldNew answers. -/
def WNewP (size : Int) (w : World) (e : Ending) (w' : World) : Prop :=
  ∃ (a : Option Addr) (c : Nat) (np : Nat → NP), e = .returned (.tuple #[.agg #[.int .i64 (theWD size).size, .slice a (theWD size).nn c, .slice none 0 0], .bool (inB size 1 4)]) ∧ NsO w' a c (theWD size).nn (theWD size).d np ∧ (∀ i, i < (theWD size).nn → Nti ((theWD size).d i) (np i)) ∧ (∀ b, RS a c (theWD size).nn (fun i => NBs ((theWD size).d i) (np i)) b → w.heap.size ≤ b) ∧ (theWD size).nn ≤ 4 ∧ Below w.heap.size w w'

theorem wnew_bad {size : Int} (h : inB size 1 4 = false) {w w' : World} (b : Below w.heap.size w w') : WNewP size w (.returned (.tuple #[.agg #[.int .i64 0, .slice none 0 0, .slice none 0 0], .bool false])) w' := by
  unfold WNewP theWD
  rw [h]
  refine ⟨none, 0, fun _ => ⟨(none, 0), fun _ => (none, 0), (none, 0), fun _ => ⟨(none, 0), (none, 0), (none, 0)⟩, (none, 0), fun _ => (none, 0), fun _ => [], (none, 0)⟩, rfl, ⟨World.ownsRow_nil _ _ _ _, fun i hi => absurd hi (Nat.not_lt_zero i), fun i hi => absurd hi (Nat.not_lt_zero i), fun i hi => absurd hi (Nat.not_lt_zero i), fun i k hi => absurd hi (Nat.not_lt_zero i), fun i hi => absurd hi (Nat.not_lt_zero i)⟩, fun i hi => absurd hi (Nat.not_lt_zero i), fun x hx => ?_, (by decide : (0 : Nat) ≤ 4), b⟩
  rcases hx with hx | ⟨i, hi, _⟩
  · simp [blk] at hx
  · exact absurd hi (Nat.not_lt_zero i)
theorem wnew_ok {n : Nat} (h : inB (n : Int) 1 4 = true) {w w' : World} {a : Option Addr} {c : Nat} {np : Nat → NP} (o : NsO w' a c n (fun i => newND i n) np) (t : ∀ i, i < n → Nti (newND i n) (np i)) (l : ∀ b, RS a c n (fun i => NBs (newND i n) (np i)) b → w.heap.size ≤ b) (b : Below w.heap.size w w') :
    WNewP n w (.returned (.tuple #[.agg #[.int .i64 n, .slice a n c, .slice none 0 0], .bool true])) w' := by
  have h4 : n ≤ 4 := by simp [inB] at h; omega
  unfold WNewP theWD
  rw [h]
  exact ⟨a, c, np, rfl, o, t, l, h4, b⟩

/-- What NodeNew answers for a node of a new world. -/
theorem nnew_at {n k : Nat} (hn : inB (n : Int) 1 4 = true) (hk : k < n) {W W' : World} {e : Ending} (h : NNewP (k : Int) n W e W') : ∃ p2 : NP, e = .returned (.tuple #[.agg #[.int .i64 (k : Int), .slice p2.f.1 6 p2.f.2, .slice p2.h.1 6 p2.h.2, .slice p2.o.1 n p2.o.2, .slice p2.i.1 n p2.i.2], .bool true]) ∧ NOw W' (newND k n) p2 ∧ (∀ b, NBs (newND k n) p2 b → W.heap.size ≤ b) ∧ Nti (newND k n) p2 ∧ Below W.heap.size W W' := by
  have hb : nodeB (k : Int) n = true := by unfold nodeB; rw [hn]; simp [inB]; omega
  unfold NNewP theND at h
  rw [hb] at h
  obtain ⟨p, he, ho, hB⟩ := h
  obtain ⟨q1, q2, q3⟩ := ho.now
  exact ⟨p, he, q1, q2, q3, hB⟩

/-- Five cells are written. -/
abbrev W5 (w : World) (g o : Nat) (c0 c1 c2 c3 c4 : Value) : World := ((((w.setCell ⟨g, o, none⟩ c0).setCell ⟨g, o + 1, none⟩ c1).setCell ⟨g, o + 2, none⟩ c2).setCell ⟨g, o + 3, none⟩ c3).setCell ⟨g, o + 4, none⟩ c4
theorem w5_bel {w0 w : World} {g : Nat} (h : Below w0.heap.size w0 w) (hg : w0.heap.size ≤ g) (o : Nat) (c0 c1 c2 c3 c4 : Value) : Below w0.heap.size w0 (W5 w g o c0 c1 c2 c3 c4) :=
  bel_setCell (bel_setCell (bel_setCell (bel_setCell (bel_setCell h _ _ hg) _ _ hg) _ _ hg) _ _ hg) _ _ hg
theorem w5_box {w : World} {g m : Nat} {cs : Array Value} {t : TypeId} (h : Box w m cs t) (hne : m ≠ g) (o : Nat) (c0 c1 c2 c3 c4 : Value) : Box (W5 w g o c0 c1 c2 c3 c4) m cs t :=
  ((((h.far _ _ hne).far _ _ hne).far _ _ hne).far _ _ hne).far _ _ hne
end Go.Proofs.Ytfeabhknkoifeaa

/- What the specification's WorldNew does. -/
namespace Go.Proofs.Ytfeabhknkoifeaa
open Go.RowKit
set_option linter.unusedVariables false

/-- The first j nodes lie behind each other. -/
structure WN (w0 w : World) (n j : Nat) (a : Option Addr) (c : Nat) (p : Nat → NP) : Prop where
  r : NsO w a c j (fun i => newND i n) p
  t : ∀ i, i < j → Nti (newND i n) (p i)
  lo : ∀ b, RS a c j (fun i => NBs (newND i n) (p i)) b → w0.heap.size + 2 ≤ b
  X : Box w (w0.heap.size + 1) #[.int .i64 (n : Int), .slice a j c, .slice none 0 0] 26
  X0 : Box w w0.heap.size #[.int .i64 0, .slice none 0 0, .slice none 0 0] 26
  b : Below w0.heap.size w0 w

theorem WN.next {w0 wr w1 V w5 : World} {n j g cap : Nat} {a : Option Addr} {c : Nat} {p : Nat → NP} {p2 : NP} (h : WN w0 wr n j a c p) (o1 : NOw w1 (newND j n) p2) (l1 : ∀ b, NBs (newND j n) p2 b → wr.heap.size ≤ b) (t1 : Nti (newND j n) p2) (b1 : Below wr.heap.size wr w1) (b2 : Below w1.heap.size w1 V)
    (o5 : w5.ownsRow 0 52 5 (.slice (some ⟨g, 0, none⟩) (j + 1) cap) (j + 1) (chunks j (fun i => nlist (newND i n) (p i)) ++ [.int .i64 (j : Int), .slice p2.f.1 6 p2.f.2, .slice p2.h.1 6 p2.h.2, .slice p2.o.1 n p2.o.2, .slice p2.i.1 n p2.i.2])) (g5 : V.grownBy w5 (Value.slice a j c).ownBlock) (hg : (Value.slice a j c).ownBlock = some g ∨ g = V.heap.size) :
    WN w0 (w5.setCell ⟨w0.heap.size + 1, 1, none⟩ (.slice (some ⟨g, 0, none⟩) (j + 1) cap)) n (j + 1) (some ⟨g, 0, none⟩) cap (fun i => if i = j then p2 else p i) := by
  have b12 := bel_trans b1 b2
  have hm := h.X.lt
  have hs := b12.size
  have oV := o1.below b2
  have R5 := Rw.snoc (E' := fun w => NOw w (newND j n) p2) h.r b12 oV (fix_n _ _) (fun x hx => ⟨l1 x hx, oV.lt hx⟩) o5 g5 hg
  have R6 : NsO w5 (some ⟨g, 0, none⟩) cap (j + 1) (fun i => newND i n) (fun i => if i = j then p2 else p i) := R5.congr (fun i hi => by
      by_cases e : i = j
      · subst e; simp [nlist, newND]
      · simp [e]) (fun i hi => by
      by_cases e : i = j
      · subst e; simp
      · simp [e]) (fun i hi => by
      by_cases e : i = j
      · subst e; simp
      · simp [e])
  have on5 : Only V w5 (fun x => (Value.slice a j c).ownBlock = some x) := (Only.refl V _).grown g5 (fun j hj => hj)
  have lo5 : ∀ b, RS (some ⟨g, 0, none⟩) cap (j + 1) (fun i => NBs (newND i n) (if i = j then p2 else p i)) b → w0.heap.size + 2 ≤ b := fun b hb => by
    rcases hb with hb | ⟨i, hi, hb⟩
    · simp [blk] at hb
      subst hb
      rcases hg with hg | hg
      · exact h.lo _ (.inl (blk_eq hg))
      · omega
    · by_cases e : i = j
      · rw [if_pos e, e] at hb
        have := l1 b hb
        omega
      · rw [if_neg e] at hb
        exact h.lo b (.inr ⟨i, by omega, hb⟩)
  have nm : ¬ (Value.slice a j c).ownBlock = some (w0.heap.size + 1) := fun e => by have := h.lo _ (.inl (blk_eq e)); omega
  have n0 : ¬ (Value.slice a j c).ownBlock = some w0.heap.size := fun e => by have := h.lo _ (.inl (blk_eq e)); omega
  have X5 := (h.X.below b12).only on5 nm
  have Y5 := (h.X0.below b12).only on5 n0
  refine ⟨?_, fun i hi => ?_, lo5, heap_setCell_same _ _ 1 _ _ _ X5, Y5.far _ _ (by simp), ?_⟩
  · refine Rw.sm R6 (((Only.refl w5 (fun b => b = w0.heap.size + 1)).setCell _ _ rfl).sm (fun b hb e => ?_))
    have := lo5 b hb
    omega
  · by_cases e : i = j
    · rw [if_pos e, e]; exact t1
    · rw [if_neg e]; exact h.t i (by omega)
  · have hB := bel_trans h.b b12
    have B5 : Below w0.heap.size w0 w5 := hB.grown g5 hB.size (fun x hx => by have := h.lo _ (.inl (blk_eq hx)); omega)
    exact bel_setCell B5 _ _ (by simp)

set_option maxRecDepth 100000 in
set_option maxHeartbeats 4000000 in
theorem specWorldNew_any (size : Int) (w : World) : Calls Try.prog 12 #[.int .i64 size] w (WNewP size w) := by
  cases hb : inB size 1 4
  · have HB : Hid (inB size 1 4 = false) := hb
    clear hb
    go_enter Try.func12, Try.ntmps12
    go_wp2_with fail
    refine (specIn_b size 1 4 _).mono ?_
    rintro e w1 ⟨rfl, h⟩
    subst h
    rw [HB.out]
    go_wp2
    refine bodyPost_ret (v := .tuple #[.agg #[.int .i64 0, .slice none 0 0, .slice none 0 0], .bool false]) (by simp [results, Try.results12, go_sem]) rfl (wnew_bad HB.out ?_)
    exact bel_alloc (Below.refl _ _) _
  · obtain ⟨h1, h4⟩ : 1 ≤ size ∧ size ≤ 4 := by simpa [inB] using hb
    obtain ⟨n, hn⟩ : ∃ n : Nat, size = (n : Int) := ⟨size.toNat, by omega⟩
    subst hn
    have HI : Hid (inB (n : Int) 1 4 = true) := hb
    clear hb
    obtain ⟨i0, hi0, hz0, hz1, hz2⟩ := info_parts info_nodeW
    have B0 := bel_alloc (bel_alloc (Below.refl w.heap.size w) (.cells #[.int .i64 0, .slice none 0 0, .slice none 0 0] 26)) (.cells #[.int .i64 (n : Int), .slice none 0 0, .slice none 0 0] 26)
    obtain ⟨XR, XW⟩ := Box.two w #[.int .i64 0, .slice none 0 0, .slice none 0 0] #[.int .i64 (n : Int), .slice none 0 0, .slice none 0 0] 26 26
    have H0 : Hid (WN w _ n 0 none 0 (fun _ => ⟨(none, 0), fun _ => (none, 0), (none, 0), fun _ => ⟨(none, 0), (none, 0), (none, 0)⟩, (none, 0), fun _ => (none, 0), fun _ => [], (none, 0)⟩)) :=
      ⟨⟨World.ownsRow_nil _ _ _ _, fun i hi => absurd hi (Nat.not_lt_zero i), fun i hi => absurd hi (Nat.not_lt_zero i), fun i hi => absurd hi (Nat.not_lt_zero i), fun i k hi => absurd hi (Nat.not_lt_zero i), fun i hi => absurd hi (Nat.not_lt_zero i)⟩, fun i hi => absurd hi (Nat.not_lt_zero i), fun b hb => by
        rcases hb with hb | ⟨i, hi, _⟩
        · simp [blk] at hb
        · exact absurd hi (Nat.not_lt_zero i), XW, XR, B0⟩
    clear B0 XR XW
    go_enter Try.func12, Try.ntmps12
    go_wp2_with fail
    refine (specIn_b _ 1 4 _).mono ?_
    rintro e w1 ⟨rfl, h⟩
    subst h
    rw [HI.out]
    go_wp2_with fail
    go_loopw [5] (fun i wr => ∃ j : Nat, j ≤ n ∧ i = .int .i64 j ∧ ∃ a c p', WN w wr n j a c p') (fun i _ => n - (intOf i).toNat)
    case atStart => exact ⟨0, Nat.zero_le _, rfl, _, _, _, H0.out⟩
    case round =>
      obtain ⟨j, hj, rfl, a, c, p', hN⟩ := hrel
      clear H0
      have HN : Hid (WN w wr n j a c p') := hN
      by_cases hlt : j < n
      · have hi : (j : Int) < (n : Int) := by omega
        clear hN
        go_wp2_with fail
        refine (specNodeNew_any j n _).mono ?_
        intro e w1 hp
        obtain ⟨p2, rfl, o1, l1, t1, b1⟩ := nnew_at HI.out hlt hp
        clear hp
        have HO : Hid (NOw w1 (newND j n) p2 ∧ (∀ b, NBs (newND j n) p2 b → wr.heap.size ≤ b) ∧ Nti (newND j n) p2 ∧ Below wr.heap.size wr w1) := ⟨o1, l1, t1, b1⟩
        have b2 := bel_alloc (bel_alloc (Below.refl w1.heap.size w1) (.cells #[.int .i64 (j : Int), .slice p2.f.1 6 p2.f.2, .slice p2.h.1 6 p2.h.2, .slice p2.o.1 n p2.o.2, .slice p2.i.1 n p2.i.2] 52)) (.cells #[.int .i64 (j : Int), .slice p2.f.1 6 p2.f.2, .slice p2.h.1 6 p2.h.2, .slice p2.o.1 n p2.o.2, .slice p2.i.1 n p2.i.2] 52)
        obtain ⟨XA, XE⟩ := Box.two w1 #[.int .i64 (j : Int), .slice p2.f.1 6 p2.f.2, .slice p2.h.1 6 p2.h.2, .slice p2.o.1 n p2.o.2, .slice p2.i.1 n p2.i.2] #[.int .i64 (j : Int), .slice p2.f.1 6 p2.f.2, .slice p2.h.1 6 p2.h.2, .slice p2.o.1 n p2.o.2, .slice p2.i.1 n p2.i.2] 52 52
        have hr2 := owns_below (owns_below HN.out.r.row b1) b2
        obtain ⟨x0, x1, x2, xz⟩ := (HN.out.X.below b1).at3
        have HX : Hid (Box _ (w.heap.size + 1) #[.int .i64 (n : Int), .slice a j c, .slice none 0 0] 26) := HN.out.X.below (bel_trans b1 b2)
        clear o1 l1 t1 b1
        go_wp2_with (at_builtin; refine wpList_append_lies _ rfl (.tmp 26) (.tmp 28) 23 rfl 0 52 i0 (.agg #[.int .i64 0, .slice none 0 0, .slice none 0 0, .slice none 0 0, .slice none 0 0]) 5 104 Try.underlying23 hi0 hz0 hz1 hz2 rfl (by decide) (.slice a j c) j (chunks j (fun i => nlist (newND i n) (p' i))) (by rfl) hr2 ⟨w1.heap.size + 1, 0, none⟩ 1 1 [.int .i64 (j : Int), .slice p2.f.1 6 p2.f.2, .slice p2.h.1 6 p2.h.2, .slice p2.o.1 n p2.o.2, .slice p2.i.1 n p2.i.2] (by rfl) (by rfl) (World.news_of_block XE) (by intro u hu; simp at hu; rcases hu with rfl | rfl | rfl | rfl | rfl <;> rfl) (by decide) (by unfold maxLen; omega) (by omega) (Nat.zero_le _) _ rfl ?_)
        intro g cap w5 o5 g5 at5 lt5
        have HQ : Hid _ := HN.out.next HO.out.1 HO.out.2.1 HO.out.2.2.1 HO.out.2.2.2 b2 o5 g5 (by simpa using at5)
        have X5 := HX.out.only ((Only.refl _ (fun x => (Value.slice a j c).ownBlock = some x)).grown g5 (fun j hj => hj)) (fun e => by have := HN.out.lo _ (.inl (blk_eq e)); omega)
        obtain ⟨y0, y1, y2, yz⟩ := X5.at3
        have yf := X5.frozen 1
        clear x0 x1 x2 xz hr2 XA XE b2 o5 g5 at5 X5
        go_wp2
        go_roundw
        case rel => exact ⟨j + 1, by omega, by go_num, _, _, _, HQ.out⟩
        case measure => simp [intOf]; omega
      · have : j = n := by omega
        subst this
        obtain ⟨x0, x1, x2, zx⟩ := hN.X.at3
        obtain ⟨y0, y1, y2, zy⟩ := hN.X0.at3
        have f0 := hN.X0.frozen 0
        have f1 := hN.X0.frozen 1
        have f2 := hN.X0.frozen 2
        clear hN
        go_wp2
        refine bodyPost_ret (v := .tuple #[.agg #[.int .i64 (j : Int), .slice a j c, .slice none 0 0], .bool true]) (by simp [results, Try.results12, go_sem, y0, y1, y2]) rfl (wnew_ok HI.out ?_ HN.out.t (fun b hb => by have := HN.out.lo b hb; omega) ?_)
        · refine Rw.sm HN.out.r (((((Only.refl wr (fun b => b = w.heap.size)).setCell _ _ rfl).setCell _ _ rfl).setCell _ _ rfl).sm (fun b hb e => ?_))
          have := HN.out.lo b hb
          omega
        · exact bel_setCell (bel_setCell (bel_setCell HN.out.b _ _ (Nat.le_refl _)) _ _ (Nat.le_refl _)) _ _ (Nat.le_refl _)
end Go.Proofs.Ytfeabhknkoifeaa
