/- Fw2 and Fw4: see the heads of the parts. -/
import Derived.Test.YtfeabhknkoifeaaFw1
import Derived.Test.YtfeabhknkoifeaaFk1
import Derived.Test.YtfeabhknkoifeaaWnW
/- What the specification's FlockNew answers. -/
namespace Go.Proofs.Ytfeabhknkoifeaa
open Go.RowKit
set_option linter.unusedVariables false

theorem flND_nti {mem : List Int} {n P x : Nat} {p : NP} {w : World} (h24 : mem.length = 24) (hn : n ≤ 4) (hP : P ≤ 6) (o : NOw w (flND mem n P x) p) : Nti (flND mem n P x) p := by
  have hx : ∀ i, i < 6 → ((flND mem n P x).h i).xs.length ≤ 4 ∧ ((flND mem n P x).h i).bs.length ≤ 4 ∧ ((flND mem n P x).h i).ws.length = 0 := fun i hi => by
    unfold flND
    dsimp only
    split
    · rw [pgW_len h24 hi]
      simp
      omega
    · unfold newHD
      simp
      omega
  have hm : ∀ i, i < n → p.ms i = [] := fun i hi => by
    have := o.e i hi
    simpa [flND] using this
  refine ⟨⟨⟨(by decide : (6 : Nat) ≤ 1048576), fun i hi => by simp [flND]⟩, ⟨(by decide : (6 : Nat) ≤ 1048576), fun i hi => by have := hx i hi; omega⟩, ⟨by show n ≤ _; omega, fun i hi => by simp [flND]⟩, by show n ≤ _; omega⟩, ⟨(by decide : (6 : Nat) ≤ 1000), fun i hi => by simp [flND]⟩, ⟨(by decide : (6 : Nat) ≤ 1000), fun i hi => by have := hx i hi; omega⟩, ⟨by show n ≤ _; omega, fun i hi => by rw [hm i hi]; simp⟩, by show n ≤ _; omega⟩

/-- The words of the first P pages are laid. -/
structure FN1 (w0 w : World) (B : Nat) (mem : List Int) (n P : Nat) (a : Option Addr) (c : Nat) (p : Nat → NP) : Prop where
  r : NsO w a c n (flND mem n P) p
  lo : ∀ b, RS a c n (fun i => NBs (flND mem n P i) (p i)) b → w0.heap.size + 1 ≤ b ∧ b ≠ B
  lB : w0.heap.size + 1 ≤ B
  X : Box w B #[.int .i64 (n : Int), .slice a n c, .slice none 0 0, .slice none 0 0] 29
  X0 : Box w w0.heap.size #[.int .i64 0, .slice none 0 0, .slice none 0 0, .slice none 0 0] 29
  b : Below w0.heap.size w0 w

theorem FN1.step {w0 wr w5 : World} {B n P i G c g c1 c2 : Nat} {mem : List Int} {p : Nat → NP} {a2 : Option Addr} (h : FN1 w0 wr B mem n P (some ⟨G, 0, none⟩) c p) (h24 : mem.length = 24) (hP : P < 6) (hi : P % n = i) (hin : i < n) (hp : (p i).h = (some ⟨g, 0, none⟩, c1))
    (b5 : Below wr.heap.size wr w5) (o5 : w5.ownsRow wr.heap.size 3 1 (.slice a2 4 c2) 4 ((pgW mem P).map (Value.int .i64))) :
    FN1 w0 (w5.setCell ⟨g, P * 8, none⟩ (.slice a2 4 c2)) B mem n (P + 1) (some ⟨G, 0, none⟩) c (fun x => if x = i then setNP (p i) P (a2, c2) else p x) := by
  have hl := pgW_len h24 hP
  have key := nodes_list h.r hin hp (j := P) hP b5 (ys := pgW mem P) (a2 := a2) (c2 := c2) (by rw [hl]; exact o5)
  rw [hl] at key
  have e1 := flND_step mem n P i hi
  rw [e1] at key
  have hgb : NBs (flND mem n P i) (p i) g := .inr (.inl (.inl (by rw [hp]; rfl)))
  obtain ⟨g1, g2⟩ := h.lo g (.inr ⟨i, hin, hgb⟩)
  have hXB := h.X.lt
  have hz := b5.size
  refine ⟨key, fun b hb => ?_, h.lB, (h.X.below b5).far _ _ (fun e => g2 e.symm), (h.X0.below b5).far _ _ (by simp; omega), bel_setCell (bel_trans h.b b5) _ _ (by simp; omega)⟩
  rcases hb with hb | ⟨x, hx, hb⟩
  · exact h.lo b (.inl hb)
  · have e2 := congrFun e1 x
    rw [← e2] at hb
    by_cases e : x = i
    · rw [if_pos e, if_pos e] at hb
      rcases nbs_set hb with hb | hb
      · exact h.lo b (.inr ⟨i, hin, hb⟩)
      · have := o5.lt b (blk_own (p := (a2, c2)) hb)
        have := h.b.size
        have := h.lB
        omega
    · rw [if_neg e, if_neg e] at hb
      exact h.lo b (.inr ⟨x, hx, hb⟩)

/-- The first j cores stand. -/
structure FN2 (w0 w : World) (B : Nat) (mem starts : List Int) (n j : Nat) (a : Option Addr) (c : Nat) (p : Nat → NP) (a2 : Option Addr) (c2 : Nat) (q : Nat → CoP) : Prop where
  r : NsO w a c n (flND mem n 6) p
  lo : ∀ b, RS a c n (fun i => NBs (flND mem n 6 i) (p i)) b → w0.heap.size + 1 ≤ b ∧ b ≠ B
  k : CsO w a2 c2 j (fun i => newCo (starts.getD i 0)) q
  lk : ∀ b, RS a2 c2 j (fun i => QCo (newCo (starts.getD i 0)) (q i)) b → w0.heap.size + 1 ≤ b ∧ b ≠ B
  ap : ∀ b, RS a c n (fun i => NBs (flND mem n 6 i) (p i)) b → ¬ RS a2 c2 j (fun i => QCo (newCo (starts.getD i 0)) (q i)) b
  lB : w0.heap.size + 1 ≤ B
  X : Box w B #[.int .i64 (n : Int), .slice a n c, .slice none 0 0, .slice a2 j c2] 29
  X0 : Box w w0.heap.size #[.int .i64 0, .slice none 0 0, .slice none 0 0, .slice none 0 0] 29
  b : Below w0.heap.size w0 w

theorem nco_blocks {s : Int} {ah : Option Addr} {ch b : Nat} (h : QCo (newCo s) ⟨(ah, ch), (none, 0), fun _ => (none, 0)⟩ b) : blk (ah, ch) = some b := by
  rcases h with h | h
  · exact h
  · rcases h with h | ⟨i, hi, h⟩
    · simp [blk] at h
    · exact absurd hi (Nat.not_lt_zero i)

theorem FN1.two {w0 w : World} {B n c : Nat} {mem : List Int} (starts : List Int) {a : Option Addr} {p : Nat → NP} (h : FN1 w0 w B mem n 6 a c p) : FN2 w0 w B mem starts n 0 a c p none 0 (fun _ => ⟨(none, 0), (none, 0), fun _ => (none, 0)⟩) := by
  have hk : ∀ b, ¬ RS none 0 0 (fun i => QCo (newCo (starts.getD i 0)) ((fun _ => ⟨(none, 0), (none, 0), fun _ => (none, 0)⟩ : Nat → CoP) i)) b := fun b hb => by
    rcases hb with hb | ⟨i, hi, _⟩
    · simp [blk] at hb
    · exact absurd hi (Nat.not_lt_zero i)
  exact ⟨h.r, h.lo, ⟨World.ownsRow_nil _ _ _ _, fun i hi => absurd hi (Nat.not_lt_zero i), fun i hi => absurd hi (Nat.not_lt_zero i), fun i hi => absurd hi (Nat.not_lt_zero i), fun i k hi => absurd hi (Nat.not_lt_zero i), fun i hi => absurd hi (Nat.not_lt_zero i)⟩, fun b hb => absurd hb (hk b), fun b _ hb => hk b hb, h.lB, h.X, h.X0, h.b⟩

theorem FN2.step {w0 wr w1 V w5 : World} {B n j c c2 g cap ch : Nat} {mem starts : List Int} {a a2 ah : Option Addr} {p : Nat → NP} {q : Nat → CoP} (h : FN2 w0 wr B mem starts n j a c p a2 c2 q) {s : Int} (hs : s = starts.getD j 0)
    (o1 : w1.ownsRow wr.heap.size 3 1 (.slice ah 4 ch) 4 ([0, 0, 0, 0].map (Value.int .i64))) (b1 : Below wr.heap.size wr w1) (b2 : Below w1.heap.size w1 V)
    (o5 : w5.ownsRow 0 58 4 (.slice (some ⟨g, 0, none⟩) (j + 1) cap) (j + 1) (chunks j (fun i => clist (newCo (starts.getD i 0)) (q i)) ++ [.slice ah 4 ch, .int .i64 (s % 24), .int .i64 0, .slice none 0 0])) (g5 : V.grownBy w5 (Value.slice a2 j c2).ownBlock) (hg : (Value.slice a2 j c2).ownBlock = some g ∨ g = V.heap.size) :
    FN2 w0 (w5.setCell ⟨B, 3, none⟩ (.slice (some ⟨g, 0, none⟩) (j + 1) cap)) B mem starts n (j + 1) a c p (some ⟨g, 0, none⟩) cap (fun i => if i = j then ⟨(ah, ch), (none, 0), fun _ => (none, 0)⟩ else q i) := by
  subst hs
  have b12 := bel_trans b1 b2
  have hm := h.X.lt
  have hsz := b12.size
  have hz0 := h.b.size
  have oV : ECo (newCo (starts.getD j 0)) ⟨(ah, ch), (none, 0), fun _ => (none, 0)⟩ V := ⟨owns_below (owns_base o1 (Nat.zero_le _)) b2, ⟨World.ownsRow_nil _ _ _ _, fun i hi => absurd hi (Nat.not_lt_zero i), fun i hi => absurd hi (Nat.not_lt_zero i), fun i hi => absurd hi (Nat.not_lt_zero i), fun i k hi => absurd hi (Nat.not_lt_zero i), fun i hi => absurd hi (Nat.not_lt_zero i)⟩, fun b _ hb => by
    rcases hb with hb | ⟨i, hi, _⟩
    · simp [blk] at hb
    · exact absurd hi (Nat.not_lt_zero i)⟩
  have lV : ∀ x, QCo (newCo (starts.getD j 0)) ⟨(ah, ch), (none, 0), fun _ => (none, 0)⟩ x → wr.heap.size ≤ x ∧ x < w1.heap.size := fun x hx => o1.lt x (blk_own (p := (ah, ch)) (nco_blocks hx))
  have R5 := Rw.snoc (E' := ECo (newCo (starts.getD j 0)) ⟨(ah, ch), (none, 0), fun _ => (none, 0)⟩) h.k b12 oV (fix_co _ _) (fun x hx => ⟨(lV x hx).1, oV.lt hx⟩) o5 g5 hg
  have R6 : CsO w5 (some ⟨g, 0, none⟩) cap (j + 1) (fun i => newCo (starts.getD i 0)) (fun i => if i = j then ⟨(ah, ch), (none, 0), fun _ => (none, 0)⟩ else q i) := R5.congr (fun i hi => by
      by_cases e : i = j
      · subst e; simp [clist, newCo]
      · simp [e]) (fun i hi => by
      by_cases e : i = j
      · subst e; simp
      · simp [e]) (fun i hi => by
      by_cases e : i = j
      · subst e; simp
      · simp [e])
  have on5 : Only V w5 (fun x => (Value.slice a2 j c2).ownBlock = some x) := (Only.refl V _).grown g5 (fun j hj => hj)
  have lk5 : ∀ b, RS (some ⟨g, 0, none⟩) cap (j + 1) (fun i => QCo (newCo (starts.getD i 0)) ((fun i => if i = j then ⟨(ah, ch), (none, 0), fun _ => (none, 0)⟩ else q i : Nat → CoP) i)) b → RS a2 c2 j (fun i => QCo (newCo (starts.getD i 0)) (q i)) b ∨ wr.heap.size ≤ b := fun b hb => by
    rcases hb with hb | ⟨i, hi, hb⟩
    · simp [blk] at hb
      subst hb
      rcases hg with hg | hg
      · exact .inl (.inl (blk_eq hg))
      · right; omega
    · dsimp only at hb
      by_cases e : i = j
      · rw [if_pos e, e] at hb
        exact .inr (lV b hb).1
      · rw [if_neg e] at hb
        exact .inl (.inr ⟨i, by omega, hb⟩)
  have nB : ¬ (Value.slice a2 j c2).ownBlock = some B := fun e => (h.lk _ (.inl (blk_eq e))).2 rfl
  have n0 : ¬ (Value.slice a2 j c2).ownBlock = some w0.heap.size := fun e => by have := (h.lk _ (.inl (blk_eq e))).1; omega
  have X5 := (h.X.below b12).only on5 nB
  have Y5 := (h.X0.below b12).only on5 n0
  have lo6 : ∀ b, RS (some ⟨g, 0, none⟩) cap (j + 1) (fun i => QCo (newCo (starts.getD i 0)) ((fun i => if i = j then ⟨(ah, ch), (none, 0), fun _ => (none, 0)⟩ else q i : Nat → CoP) i)) b → w0.heap.size + 1 ≤ b ∧ b ≠ B := fun b hb => by
    rcases lk5 b hb with hb | hb
    · exact h.lk b hb
    · have := h.lB; omega
  refine ⟨?_, h.lo, ?_, lo6, fun b hb hc => ?_, h.lB, heap_setCell_same _ _ 3 _ _ _ X5, Y5.far _ _ (by have := h.lB; simp; omega), ?_⟩
  · have r5 : NsO w5 a c n (flND mem n 6) p := Rw.sm h.r (Sm.trans (sm_bel b12) (on5.sm (fun b hb e => h.ap b hb (.inl (blk_eq e)))))
    exact Rw.sm r5 (((Only.refl w5 (fun b => b = B)).setCell _ _ rfl).sm (fun b hb e => (h.lo b hb).2 e))
  · exact Rw.sm R6 (((Only.refl w5 (fun b => b = B)).setCell _ _ rfl).sm (fun b hb e => (lo6 b hb).2 e))
  · rcases lk5 b hc with hc | hc
    · exact h.ap b hb hc
    · have := Rw.slt h.r hb; omega
  · have hB := bel_trans h.b b12
    have B5 : Below w0.heap.size w0 w5 := hB.grown g5 hB.size (fun x hx => by have := (h.lk _ (.inl (blk_eq hx))).1; omega)
    exact bel_setCell B5 _ _ (by have := h.lB; simp; omega)

/-- What a new flock says. -/
def flkB (size : Int) (mem : List Int) : Bool := inB size 1 4 && wordsB mem 24
def theFD (size : Int) (mem starts : List Int) : FkD := if flkB size mem then ⟨⟨size, size.toNat, flND mem size.toNat 6, 0, fun _ => zPkD⟩, size.toNat, fun i => newCo (starts.getD i 0)⟩ else ⟨badWD, 0, fun _ => newCo 0⟩
/-- What FlockNew answers. -/
def FNewP (size : Int) (mem starts : List Int) (w : World) (e : Ending) (w' : World) : Prop :=
  ∃ p : FkP, e = .returned (.tuple #[.agg (fkcells (theFD size mem starts) p), .bool (flkB size mem)]) ∧ p.w.k = (none, 0) ∧ FkO w' (theFD size mem starts) p ∧ (∀ b, FkB (theFD size mem starts) p b → w.heap.size ≤ b) ∧ Below w.heap.size w w'
theorem fnew_bad {size : Int} {mem starts : List Int} (h : flkB size mem = false) {w w' : World} (b : Below w.heap.size w w') : FNewP size mem starts w (.returned (.tuple #[.agg #[.int .i64 0, .slice none 0 0, .slice none 0 0, .slice none 0 0], .bool false])) w' := by
  unfold FNewP theFD
  rw [h]
  refine ⟨⟨⟨(none, 0), fun _ => ⟨(none, 0), fun _ => (none, 0), (none, 0), fun _ => ⟨(none, 0), (none, 0), (none, 0)⟩, (none, 0), fun _ => (none, 0), fun _ => [], (none, 0)⟩, (none, 0), fun _ => (none, 0)⟩, (none, 0), fun _ => ⟨(none, 0), (none, 0), fun _ => (none, 0)⟩⟩, rfl, rfl, ⟨⟨⟨World.ownsRow_nil _ _ _ _, fun i hi => absurd hi (Nat.not_lt_zero i), fun i hi => absurd hi (Nat.not_lt_zero i), fun i hi => absurd hi (Nat.not_lt_zero i), fun i k hi => absurd hi (Nat.not_lt_zero i), fun i hi => absurd hi (Nat.not_lt_zero i)⟩, ⟨World.ownsRow_nil _ _ _ _, fun i hi => absurd hi (Nat.not_lt_zero i), fun i hi => absurd hi (Nat.not_lt_zero i), fun i hi => absurd hi (Nat.not_lt_zero i), fun i k hi => absurd hi (Nat.not_lt_zero i), fun i hi => absurd hi (Nat.not_lt_zero i)⟩, fun b hb => ?_⟩, ⟨World.ownsRow_nil _ _ _ _, fun i hi => absurd hi (Nat.not_lt_zero i), fun i hi => absurd hi (Nat.not_lt_zero i), fun i hi => absurd hi (Nat.not_lt_zero i), fun i k hi => absurd hi (Nat.not_lt_zero i), fun i hi => absurd hi (Nat.not_lt_zero i)⟩, fun b hb => ?_⟩, fun b hb => ?_, b⟩
  · rcases hb with hb | ⟨i, hi, _⟩
    · simp [blk] at hb
    · exact absurd hi (Nat.not_lt_zero i)
  · rcases hb with (hb | ⟨i, hi, _⟩) | (hb | ⟨i, hi, _⟩)
    · simp [blk] at hb
    · exact absurd hi (Nat.not_lt_zero i)
    · simp [blk] at hb
    · exact absurd hi (Nat.not_lt_zero i)
  · rcases hb with (hb | hb) | hb
    · rcases hb with hb | ⟨i, hi, _⟩
      · simp [blk] at hb
      · exact absurd hi (Nat.not_lt_zero i)
    · rcases hb with hb | ⟨i, hi, _⟩
      · simp [blk] at hb
      · exact absurd hi (Nat.not_lt_zero i)
    · rcases hb with hb | ⟨i, hi, _⟩
      · simp [blk] at hb
      · exact absurd hi (Nat.not_lt_zero i)
theorem fnew_ok {n : Nat} {mem starts : List Int} (h : flkB (n : Int) mem = true) {w w' : World} {a a2 : Option Addr} {c c2 : Nat} {p : Nat → NP} {q : Nat → CoP} (r : NsO w' a c n (flND mem n 6) p) (k : CsO w' a2 c2 n (fun i => newCo (starts.getD i 0)) q) (ap : ∀ b, RS a c n (fun i => NBs (flND mem n 6 i) (p i)) b → ¬ RS a2 c2 n (fun i => QCo (newCo (starts.getD i 0)) (q i)) b)
    (lo : ∀ b, RS a c n (fun i => NBs (flND mem n 6 i) (p i)) b → w.heap.size ≤ b) (lk : ∀ b, RS a2 c2 n (fun i => QCo (newCo (starts.getD i 0)) (q i)) b → w.heap.size ≤ b) (b : Below w.heap.size w w') :
    FNewP n mem starts w (.returned (.tuple #[.agg #[.int .i64 n, .slice a n c, .slice none 0 0, .slice a2 n c2], .bool true])) w' := by
  unfold FNewP theFD
  rw [h]
  have hk : ∀ b, ¬ RS none 0 0 (fun _ => QF ((none, 0) : Pl)) b := fun b hb => by
    rcases hb with hb | ⟨i, hi, _⟩
    · simp [blk] at hb
    · exact absurd hi (Nat.not_lt_zero i)
  refine ⟨⟨⟨(a, c), p, (none, 0), fun _ => (none, 0)⟩, (a2, c2), q⟩, rfl, rfl, ⟨⟨r, ⟨World.ownsRow_nil _ _ _ _, fun i hi => absurd hi (Nat.not_lt_zero i), fun i hi => absurd hi (Nat.not_lt_zero i), fun i hi => absurd hi (Nat.not_lt_zero i), fun i k hi => absurd hi (Nat.not_lt_zero i), fun i hi => absurd hi (Nat.not_lt_zero i)⟩, fun b _ hb => hk b hb⟩, k, fun b hb => ?_⟩, fun b hb => ?_, b⟩
  · rcases hb with hb | hb
    · exact ap b hb
    · exact absurd hb (hk b)
  · rcases hb with (hb | hb) | hb
    · exact lo b hb
    · exact absurd hb (hk b)
    · exact lk b hb
end Go.Proofs.Ytfeabhknkoifeaa

/- What the law's markFlock and heldFlock do at a flock whose nodes and cores are not great and whose net is empty; a new flock is such. -/
namespace Go.Proofs.Ytfeabhknkoifeaa
open Go.RowKit
set_option linter.unusedVariables false

/-- A flock that is not great, its net empty. -/
structure Fti (d : FkD) (p : FkP) : Prop where
  k : d.w.nk = 0 ∧ p.w.k = (none, 0)
  n : d.w.nn ≤ 4 ∧ ∀ i, i < d.w.nn → Nti (d.w.d i) (p.w.np i)
  c : d.n ≤ 4 ∧ ∀ i, i < d.n → Cti (d.c i)
theorem Fti.s {d : FkD} {p : FkP} (h : Fti d p) : FkS d := ⟨⟨⟨by have := h.n.1; omega, fun i hi => (h.n.2 i hi).s⟩, ⟨by rw [h.k.1]; omega, fun i hi => by rw [h.k.1] at hi; omega⟩⟩, by have := h.c.1; omega, fun i hi => (h.c.2 i hi).s⟩
/-- The numbers behind the world's marks, and behind all. -/
def kF1 (d : FkD) (p : FkP) : Int := kt 1 (fun i => cNd (d.w.d i) (p.w.np i)) d.w.nn
def kF2 (d : FkD) (p : FkP) : Int := kt (kF1 d p) (fun i => cCo (d.c i)) d.n
theorem kF1_le {d : FkD} {p : FkP} (h : Fti d p) : 1 ≤ kF1 d p ∧ kF1 d p ≤ 1 + ((4 * 2000000000 : Nat) : Int) := by
  have h1 := kt_le (k0 := 1) (c := fun i => cNd (d.w.d i) (p.w.np i)) (C := 2000000000) (Nat.le_refl d.w.nn) (fun i hi => (cNd_le (h.n.2 i hi)).2.2.2)
  have h2 : d.w.nn * 2000000000 ≤ 4 * 2000000000 := Nat.mul_le_mul_right _ h.n.1
  unfold kF1
  exact ⟨h1.1, Int.le_trans h1.2 (by omega)⟩
theorem kF2_le {d : FkD} {p : FkP} (h : Fti d p) : kF1 d p ≤ kF2 d p := by
  have h1 := kt_le (k0 := kF1 d p) (c := fun i => cCo (d.c i)) (C := 10000000) (Nat.le_refl d.n) (fun i hi => cCo_le (h.c.2 i hi))
  exact h1.1
/-- A flock that is marked. -/
structure MkF (w : World) (d : FkD) (p : FkP) : Prop where
  n : MNj w p.w.n.1 p.w.n.2 d.w.nn d.w.nn 1 d.w.d p.w.np
  c : CsO w p.c.1 p.c.2 d.n (fun i => mCr (kt (kF1 d p) (fun i => cCo (d.c i)) i) (d.c i)) p.q
theorem MkF.below {w w' : World} {d : FkD} {p : FkP} (h : MkF w d p) (b : Below w.heap.size w w') : MkF w' d p := ⟨h.n.below b, Rw.below h.c b⟩

set_option maxRecDepth 100000 in
set_option maxHeartbeats 2000000 in
theorem markFlock_new (d : FkD) (p : FkP) (w : World) (t : Fti d p) (h : FkO w d p) :
    Calls Try.prog 10 #[.agg (fkcells d p), .int .i64 1] w fun e w' => e = .returned (.int .i64 (kF2 d p)) ∧ MkF w' d p ∧ Only w w' (FkB d p) := by
  have k1 := kF1_le t
  have hc4 := t.c.1
  have HM : Hid (∀ W, NsO W p.w.n.1 p.w.n.2 d.w.nn d.w.d p.w.np → Calls Try.prog 20 #[.agg #[.int .i64 d.w.size, .slice p.w.n.1 d.w.nn p.w.n.2, .slice none 0 0], .int .i64 1] W fun e w' => e = .returned (.int .i64 (kF1 d p)) ∧ MNj w' p.w.n.1 p.w.n.2 d.w.nn d.w.nn 1 d.w.d p.w.np ∧ Only W w' (RS p.w.n.1 p.w.n.2 d.w.nn (fun i => NBs (d.w.d i) (p.w.np i)))) := fun W hh => markWorld_new d.w.size d.w.nn p.w.n.1 p.w.n.2 d.w.d p.w.np W t.n.1 t.n.2 hh
  have HC : Hid (∀ W, CsO W p.c.1 p.c.2 d.n d.c p.q → Calls Try.prog 21 #[.slice p.c.1 d.n p.c.2, .int .i64 (kF1 d p)] W fun e w' => e = .returned (.int .i64 (kF2 d p)) ∧ CsO w' p.c.1 p.c.2 d.n (fun i => mCr (kt (kF1 d p) (fun i => cCo (d.c i)) i) (d.c i)) p.q ∧ Only W w' (RS p.c.1 p.c.2 d.n (fun i => QCo (d.c i) (p.q i)))) := fun W hh => markCoreS_all _ d.n p.c.1 p.c.2 d.c p.q (kF1 d p) W (by omega) (by omega) (by omega) t.c.2 hh (fun b hb => hb)
  have ek : fkcells d p = #[.int .i64 d.w.size, .slice p.w.n.1 d.w.nn p.w.n.2, .slice none 0 0, .slice p.c.1 d.n p.c.2] := by
    show #[_, _, _, _] = _
    rw [t.k.1, t.k.2]
  rw [ek]
  obtain ⟨K1, hK1⟩ : ∃ K, kF1 d p = K := ⟨_, rfl⟩
  obtain ⟨K2, hK2⟩ : ∃ K, kF2 d p = K := ⟨_, rfl⟩
  rw [hK1] at HM HC
  rw [hK2] at HC ⊢
  have HK1 : Hid (kF1 d p = K1) := hK1
  have bA := bel_alloc (Below.refl w.heap.size w) (.cells #[.int .i64 d.w.size, .slice p.w.n.1 d.w.nn p.w.n.2, .slice none 0 0, .slice p.c.1 d.n p.c.2] 29)
  have X := Box.new w #[.int .i64 d.w.size, .slice p.w.n.1 d.w.nn p.w.n.2, .slice none 0 0, .slice p.c.1 d.n p.c.2] 29
  have HL : Hid (∀ b, FkB d p b → b < w.heap.size) := fun b hb => h.lt hb
  have HO : Hid (FkO w d p) := h
  have hh1 := h.below bA
  clear h t ek hK1 hK2 k1
  obtain ⟨x0, x1, x2, x3, xz⟩ := X.at4
  go_enter Try.func10, Try.ntmps10
  go_wp2_with fail
  refine (HM.out _ hh1.o.n).mono ?_
  rintro e w1 ⟨rfl, q1, k1⟩
  have X1 := X.only k1 (fun hb => by have := HL.out _ (.inl (.inl hb)); omega)
  have c1 : CsO w1 p.c.1 p.c.2 d.n d.c p.q := Rw.sm hh1.c (k1.sm (fun b hb e => hh1.ap b (.inl e) hb))
  have R1 : Hid (MNj w1 p.w.n.1 p.w.n.2 d.w.nn d.w.nn 1 d.w.d p.w.np ∧ Only w w1 (RS p.w.n.1 p.w.n.2 d.w.nn (fun i => NBs (d.w.d i) (p.w.np i)))) := ⟨q1, Only.of bA k1⟩
  clear x0 x1 x2 x3 xz X q1 k1 hh1 bA
  obtain ⟨x0, x1, x2, x3, xz⟩ := X1.at4
  go_wp2_with fail
  refine (HC.out _ c1).mono ?_
  rintro e w2 ⟨rfl, q2, k2⟩
  have R2 : Hid (MkF w2 d p ∧ Only w w2 (FkB d p)) := ⟨⟨Rw.sm R1.out.1 (k2.sm (fun b hb e => HO.out.ap b (.inl hb) e)), by rw [HK1.out]; exact q2⟩, (R1.out.2.more (fun b hb => .inl (.inl hb))).trans (k2.more (fun b hb => .inr hb))⟩
  clear x0 x1 x2 x3 xz q2 k2 c1 X1
  go_wp2
  go_ret
  exact ⟨rfl, R2.out.1, R2.out.2⟩

set_option maxRecDepth 100000 in
set_option maxHeartbeats 2000000 in
theorem heldFlock_new (d : FkD) (p : FkP) (w : World) (t : Fti d p) (h : MkF w d p) :
    Calls Try.prog 11 #[.agg (fkcells d p), .int .i64 1] w fun e w' => e = .returned (.int .i64 (kF2 d p)) ∧ Below w.heap.size w w' := by
  have k1 := kF1_le t
  have k2 := kF2_le t
  have hc4 := t.c.1
  have hd : decide (kt 1 (fun i => cNd (d.w.d i) (p.w.np i)) d.w.nn < 0) = false := by
    have := k1.1
    unfold kF1 at this
    simp
    omega
  have HM : Hid (∀ W, MNj W p.w.n.1 p.w.n.2 d.w.nn d.w.nn 1 d.w.d p.w.np → Calls Try.prog 22 #[.agg #[.int .i64 d.w.size, .slice p.w.n.1 d.w.nn p.w.n.2, .slice none 0 0], .int .i64 1] W fun e w' => e = .returned (.int .i64 (kF1 d p)) ∧ Below W.heap.size W w') := fun W hh => heldWorld_new d.w.size d.w.nn p.w.n.1 p.w.n.2 d.w.d p.w.np W t.n.1 t.n.2 hh hd
  have HC : Hid (∀ W, CsO W p.c.1 p.c.2 d.n (fun i => mCr (kt (kF1 d p) (fun i => cCo (d.c i)) i) (d.c i)) p.q → Calls Try.prog 23 #[.slice p.c.1 d.n p.c.2, .int .i64 (kF1 d p)] W fun e w' => e = .returned (.int .i64 (kF2 d p)) ∧ Below W.heap.size W w') := fun W hh => heldCoreS_all d.n p.c.1 p.c.2 d.c p.q (kF1 d p) W (by omega) (by omega) (by omega) t.c.2 hh
  have ek : fkcells d p = #[.int .i64 d.w.size, .slice p.w.n.1 d.w.nn p.w.n.2, .slice none 0 0, .slice p.c.1 d.n p.c.2] := by
    show #[_, _, _, _] = _
    rw [t.k.1, t.k.2]
  rw [ek]
  obtain ⟨K1, hK1⟩ : ∃ K, kF1 d p = K := ⟨_, rfl⟩
  obtain ⟨K2, hK2⟩ : ∃ K, kF2 d p = K := ⟨_, rfl⟩
  rw [hK1] at HM HC k1 k2
  rw [hK2] at HC k2 ⊢
  have HK1 : Hid (kF1 d p = K1) := hK1
  have d1 : decide (K1 < 0) = false := by simp; omega
  have d2 : decide (K2 < 0) = false := by simp; omega
  have bA := bel_alloc (Below.refl w.heap.size w) (.cells #[.int .i64 d.w.size, .slice p.w.n.1 d.w.nn p.w.n.2, .slice none 0 0, .slice p.c.1 d.n p.c.2] 29)
  have X := Box.new w #[.int .i64 d.w.size, .slice p.w.n.1 d.w.nn p.w.n.2, .slice none 0 0, .slice p.c.1 d.n p.c.2] 29
  have hh1 := h.below bA
  clear h t ek hK1 hK2 hd
  obtain ⟨x0, x1, x2, x3, xz⟩ := X.at4
  go_enter Try.func11, Try.ntmps11
  go_wp2_with fail
  refine (HM.out _ hh1.n).mono ?_
  rintro e w1 ⟨rfl, b1⟩
  have X1 := X.below b1
  have c1 := Rw.below hh1.c b1
  have B1 := bel_trans bA b1
  clear x0 x1 x2 x3 xz X hh1 bA b1
  obtain ⟨x0, x1, x2, x3, xz⟩ := X1.at4
  go_wp2_with fail
  refine (HC.out _ (by rw [HK1.out] at c1; exact c1)).mono ?_
  rintro e w2 ⟨rfl, b2⟩
  have B2 := bel_trans B1 b2
  clear x0 x1 x2 x3 xz c1 X1 B1 b2
  go_wp2
  go_ret
  exact ⟨rfl, B2⟩

theorem newCo_ti (s : Int) : Cti (newCo s) := ⟨by simp [newCo], by simp [newCo], fun i hi => absurd hi (Nat.not_lt_zero i)⟩
theorem fnew_ti {size : Int} {mem starts : List Int} {w : World} {p : FkP} (hk : p.w.k = (none, 0)) (h : FkO w (theFD size mem starts) p) : Fti (theFD size mem starts) p := by
  cases hb : flkB size mem
  · have e : theFD size mem starts = ⟨badWD, 0, fun _ => newCo 0⟩ := by unfold theFD; rw [hb]; rfl
    rw [e]
    exact ⟨⟨rfl, hk⟩, ⟨by simp [badWD], fun i hi => absurd hi (Nat.not_lt_zero i)⟩, ⟨by simp, fun i hi => absurd hi (Nat.not_lt_zero i)⟩⟩
  · have e : theFD size mem starts = ⟨⟨size, size.toNat, flND mem size.toNat 6, 0, fun _ => zPkD⟩, size.toNat, fun i => newCo (starts.getD i 0)⟩ := by unfold theFD; rw [hb]; rfl
    rw [e] at h ⊢
    obtain ⟨h1, h2⟩ : inB size 1 4 = true ∧ wordsB mem 24 = true := by simpa [flkB] using hb
    have hs : 1 ≤ size ∧ size ≤ 4 := by simpa [inB] using h1
    have h24 : mem.length = 24 := by simp [wordsB] at h2; omega
    exact ⟨⟨rfl, hk⟩, ⟨by show size.toNat ≤ 4; omega, fun i hi => flND_nti h24 (by omega) (Nat.le_refl _) (h.o.n.el i hi)⟩, ⟨by show size.toNat ≤ 4; omega, fun i hi => newCo_ti _⟩⟩
end Go.Proofs.Ytfeabhknkoifeaa
