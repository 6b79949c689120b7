/- A home's list turned in its own block, in an owned node and in a row of nodes; a hart laid into a row of new cores; 'copy' into the front of an owned row. -/
import Derived.Test.YtfeabhknkoifeaaFw3
import Derived.Test.YtfeabhknkoifeaaWnI
import Derived.Test.YtfeabhknkoifeaaHi9
import Derived.Test.YtfeabhknkoifeaaCopy
namespace Go.Proofs.Ytfeabhknkoifeaa
open Go.RowKit
set_option linter.unusedVariables false

theorem homes_turn {w w5 : World} {g c n : Nat} {d : Nat → HD} {p : Nat → HP} (h : HOw w (some ⟨g, 0, none⟩) c n d p) {j : Nat} (hj : j < n) {gl cl : Nat} (hl : (p j).l = (some ⟨gl, 0, none⟩, cl)) {ys : List Int} (hy : ys.length = (d j).xs.length)
    (k : Only w w5 (fun x => x = gl)) (o5 : w5.ownsRow 0 3 1 (.slice (some ⟨gl, 0, none⟩) ys.length cl) ys.length (ys.map (Value.int .i64))) : HOw w5 (some ⟨g, 0, none⟩) c n (setHD d j ys) p := by
  have hq : QH (p j) gl := .inl (by rw [hl]; rfl)
  have hg : g ≠ gl := fun e => h.out j hj g rfl (by rw [e]; exact hq)
  have hE := h.el j hj
  have ol := hE.1
  rw [hl] at ol
  have row := owns_only h.row k (fun x hx e => by simp [Value.ownBlock] at hx; omega)
  have he : EH { d j with xs := ys } (p j) w5 := ⟨by rw [hl]; exact o5, owns_only hE.2.1 k (fun x hx e => far_ne ol hE.2.1 (by decide) x hx e.symm), owns_only hE.2.2 k (fun x hx e => far_ne ol hE.2.2 (by decide) x hx e.symm)⟩
  refine (h.turn hj (k.more (fun x hx => .inr (by rw [hx]; exact hq))) row he (fix_h _ _)).congr (fun i hi => ?_) (fun i hi => rfl) (fun i hi => ?_)
  · by_cases e : i = j
    · subst e; simp [setHD, hcells, hy]
    · simp [setHD, e]
  · by_cases e : i = j
    · subst e; simp [setHD]
    · simp [setHD, e]
theorem node_turn {w w5 : World} {d : ND} {p : NP} (h : NOw w d p) {g c : Nat} (hp : p.h = (some ⟨g, 0, none⟩, c)) {j : Nat} (hj : j < d.nh) {gl cl : Nat} (hl : (p.hp j).l = (some ⟨gl, 0, none⟩, cl)) {ys : List Int} (hy : ys.length = (d.h j).xs.length)
    (k : Only w w5 (fun x => x = gl)) (o5 : w5.ownsRow 0 3 1 (.slice (some ⟨gl, 0, none⟩) ys.length cl) ys.length (ys.map (Value.int .i64))) : NOw w5 (setND d j ys) p := by
  have hh := h.h
  rw [hp] at hh
  have hgb : RS p.h.1 p.h.2 d.nh (fun i => QH (p.hp i)) gl := .inr ⟨j, hj, .inl (by rw [hl]; rfl)⟩
  have sm : ∀ P : Nat → Prop, (¬ P gl) → Sm P w w5 := fun P hP => k.sm (fun x hx e => hP (by rw [← e]; exact hx))
  have hs := homes_turn hh hj hl hy k o5
  refine ⟨Rw.sm h.f (sm _ (fun hx => h.fh gl hx hgb)), ?_, Rw.sm h.o (sm _ (fun hx => h.ho gl hgb hx)), GO.sm h.i (sm (fun x => blk p.i = some x) (h.hi gl hgb)) (fun x hx => hx), h.e, h.fh, h.fo, h.fi, h.ho, h.hi, h.oi⟩
  show HOw _ p.h.1 p.h.2 d.nh _ _
  rw [hp]
  exact hs
theorem nodes_turn {w w5 : World} {G c n : Nat} {d : Nat → ND} {p : Nat → NP} (h : NsO w (some ⟨G, 0, none⟩) c n d p) {i : Nat} (hi : i < n) {g c1 : Nat} (hp : (p i).h = (some ⟨g, 0, none⟩, c1)) {j : Nat} (hj : j < (d i).nh) {gl cl : Nat} (hl : ((p i).hp j).l = (some ⟨gl, 0, none⟩, cl)) {ys : List Int} (hy : ys.length = ((d i).h j).xs.length)
    (k : Only w w5 (fun x => x = gl)) (o5 : w5.ownsRow 0 3 1 (.slice (some ⟨gl, 0, none⟩) ys.length cl) ys.length (ys.map (Value.int .i64))) : NsO w5 (some ⟨G, 0, none⟩) c n (fun x => if x = i then setND (d i) j ys else d x) p := by
  have hgb : NBs (d i) (p i) gl := .inr (.inl (.inr ⟨j, hj, .inl (by rw [hl]; rfl)⟩))
  have hG : G ≠ gl := fun e => h.out i hi G rfl (by rw [e]; exact hgb)
  have row := owns_only h.row k (fun x hx e => by simp [Value.ownBlock] at hx; omega)
  refine (h.turn hi (k.more (fun x hx => .inr (by rw [hx]; exact hgb))) row (E' := fun w => NOw w (setND (d i) j ys) (p i)) (node_turn (h.el i hi) hp hj hl hy k o5) (fun w w' k h => NOw.sm h (k.mono (fun b hb => hb)))).congr (fun x hx => ?_) (fun x hx => ?_) (fun x hx => ?_)
  · by_cases e : x = i
    · subst e; simp [nlist, setND]
    · simp [e]
  · by_cases e : x = i
    · subst e; simp only [if_pos]; rfl
    · simp [e]
  · by_cases e : x = i
    · subst e; simp
    · simp [e]

/-- The words of the first P pages are laid, in the homes' own rows. -/
structure FI1 (w0 w : World) (B : Nat) (mem : List Int) (n P : Nat) (a : Option Addr) (c : Nat) (p : Nat → NP) : Prop where
  r : NsO w a c n (flND mem n P) p
  lo : ∀ b, RS a c n (fun i => NBs (flND mem n P i) (p i)) b → w0.heap.size + 1 ≤ b ∧ b ≠ B
  lB : w0.heap.size + 1 ≤ B
  X : Box w B #[.int .i64 (n : Int), .slice a n c, .slice none 0 0] 26
  X0 : Box w w0.heap.size #[.int .i64 0, .slice none 0 0, .slice none 0 0, .slice none 0 0] 29
  b : Below w0.heap.size w0 w
theorem FI1.step {w0 wr w5 : World} {B n P i G c g c1 gl cl : Nat} {mem : List Int} {p : Nat → NP} (h : FI1 w0 wr B mem n P (some ⟨G, 0, none⟩) c p) (h24 : mem.length = 24) (hP : P < 6) (hi : P % n = i) (hin : i < n) (hp : (p i).h = (some ⟨g, 0, none⟩, c1)) (hl : ((p i).hp P).l = (some ⟨gl, 0, none⟩, cl))
    (k : Only wr w5 (fun x => x = gl)) (o5 : w5.ownsRow 0 3 1 (.slice (some ⟨gl, 0, none⟩) 4 cl) 4 ((pgW mem P).map (Value.int .i64))) : FI1 w0 w5 B mem n (P + 1) (some ⟨G, 0, none⟩) c p := by
  have hpl := pgW_len h24 hP
  have hx : ((flND mem n P i).h P).xs.length = 4 := by simp [flND, newHD]
  have key := nodes_turn h.r hin hp (j := P) hP hl (ys := pgW mem P) (by rw [hpl, hx]) k (by rw [hpl]; exact o5)
  have e1 := flND_step mem n P i hi
  rw [e1] at key
  have hgb : NBs (flND mem n P i) (p i) gl := .inr (.inl (.inr ⟨P, hP, .inl (by rw [hl]; rfl)⟩))
  obtain ⟨g1, g2⟩ := h.lo gl (.inr ⟨i, hin, hgb⟩)
  refine ⟨key, fun b hb => h.lo b ?_, h.lB, h.X.only k (fun e => g2 e.symm), h.X0.only k (fun e => by omega), k.bel h.b (fun x hx => by omega)⟩
  rcases hb with hb | ⟨x, hx, hb⟩
  · exact .inl hb
  · refine .inr ⟨x, hx, ?_⟩
    have e2 := congrFun e1 x
    rw [← e2] at hb
    by_cases e : x = i
    · subst e
      simpa [setND, NBs] using hb
    · simpa [e] using hb

theorem core_put3 {w w2 : World} {lo g c n k : Nat} {d : Nat → CoD} {p : Nat → CoP} (h : CTw w lo (some ⟨g, 0, none⟩) c n k d p (fun _ => [.slice none 0 0, .int .i64 0, .int .i64 0, .slice none 0 0])) (hk : k < n) (b : Below w.heap.size w w2) (hlo : lo ≤ w.heap.size) {p2 : CoP} (hc : p2.c = (none, 0)) (hn : (d k).n = 0) (o2 : ECo (d k) p2 w2) (l2 : ∀ b, QCo (d k) p2 b → w.heap.size ≤ b) :
    CTw (((w2.setCell ⟨g, k * 4, none⟩ (.slice p2.r.1 (d k).h.xs.length p2.r.2)).setCell ⟨g, k * 4 + 1, none⟩ (.int .i64 (d k).h.pc)).setCell ⟨g, k * 4 + 2, none⟩ (.int .i64 (d k).h.st)) lo (some ⟨g, 0, none⟩) c n (k + 1) d (fun i => if i = k then p2 else p i) (fun _ => [.slice none 0 0, .int .i64 0, .int .i64 0, .slice none 0 0]) := by
  have hr := owns_below h.r.row b
  have hf : ∀ i, i < n → ((fun i => if i < k then clist (d i) (p i) else [.slice none 0 0, .int .i64 0, .int .i64 0, .slice none 0 0]) i).length = 4 := fun i hi => by dsimp only; split <;> rfl
  have h1 := owns_stored hr hf hk (j := 0) (by decide) (.slice p2.r.1 (d k).h.xs.length p2.r.2)
  have h2 := owns_stored h1 (set_len hf _ _ _) hk (j := 1) (by decide) (.int .i64 (d k).h.pc)
  have h3 := owns_stored h2 (set_len (set_len hf _ _ _) _ _ _) hk (j := 2) (by decide) (.int .i64 (d k).h.st)
  rw [Nat.add_zero] at h3
  have on : Only w2 (((w2.setCell ⟨g, k * 4, none⟩ (.slice p2.r.1 (d k).h.xs.length p2.r.2)).setCell ⟨g, k * 4 + 1, none⟩ (.int .i64 (d k).h.pc)).setCell ⟨g, k * 4 + 2, none⟩ (.int .i64 (d k).h.st)) (fun b => b = g) := (((Only.refl w2 (fun b => b = g)).setCell ⟨g, k * 4, none⟩ _ rfl).setCell ⟨g, k * 4 + 1, none⟩ _ rfl).setCell ⟨g, k * 4 + 2, none⟩ _ rfl
  refine (h.step b hlo on (cs := clist (d k) p2) (owns_congr h3 (fun i hi => ?_)) (E' := ECo (d k) p2) o2 (fix_co _ _) (fun x hx => ⟨l2 x hx, o2.lt hx⟩)).congr (fun i hi => ?_) (fun i hi => ?_) (fun i hi => ?_)
  · by_cases e : i = k
    · subst e; simp [clist, hc, hn]
    · simp [e]
  all_goals
    by_cases e : i = k
    · subst e; simp
    · simp [e]

/-- The first j harts stand in their cores; m: what came ahead of the cores' row. -/
structure FI2 (w0 w : World) (m C g2 : Nat) (mem starts : List Int) (n j : Nat) (a : Option Addr) (c : Nat) (p : Nat → NP) (q : Nat → CoP) : Prop where
  r : NsO w a c n (flND mem n 6) p
  lo : ∀ b, RS a c n (fun i => NBs (flND mem n 6 i) (p i)) b → w0.heap.size + 1 ≤ b ∧ b < m
  k : CTw w (m + 2) (some ⟨g2, 0, none⟩) n n j (fun i => newCo (starts.getD i 0)) q (fun _ => [.slice none 0 0, .int .i64 0, .int .i64 0, .slice none 0 0])
  hm : w0.heap.size + 1 ≤ m
  hC : m ≤ C ∧ C < m + 2
  hg : m ≤ g2 ∧ g2 < m + 2
  ne : C ≠ g2
  lm : m + 2 ≤ w.heap.size
  X : Box w C #[.int .i64 (n : Int), .slice a n c, .slice none 0 0, .slice (some ⟨g2, 0, none⟩) n n] 29
  X0 : Box w w0.heap.size #[.int .i64 0, .slice none 0 0, .slice none 0 0, .slice none 0 0] 29
  b : Below w0.heap.size w0 w
theorem FI2.step {w0 w w1 : World} {m C g2 n j c ch : Nat} {mem starts : List Int} {a ah : Option Addr} {p : Nat → NP} {q : Nat → CoP} (h : FI2 w0 w m C g2 mem starts n j a c p q) (hj : j < n) {s : Int} (hs : s = starts.getD j 0)
    (o1 : w1.ownsRow w.heap.size 3 1 (.slice ah 4 ch) 4 ([0, 0, 0, 0].map (Value.int .i64))) (b1 : Below w.heap.size w w1) :
    FI2 w0 (((w1.setCell ⟨g2, j * 4, none⟩ (.slice ah 4 ch)).setCell ⟨g2, j * 4 + 1, none⟩ (.int .i64 (s % 24))).setCell ⟨g2, j * 4 + 2, none⟩ (.int .i64 0)) m C g2 mem starts n (j + 1) a c p (fun i => if i = j then ⟨(ah, ch), (none, 0), fun _ => (none, 0)⟩ else q i) := by
  subst hs
  have oV : ECo (newCo (starts.getD j 0)) ⟨(ah, ch), (none, 0), fun _ => (none, 0)⟩ w1 := ⟨owns_base o1 (Nat.zero_le _), ⟨World.ownsRow_nil _ _ _ _, fun i hi => absurd hi (Nat.not_lt_zero i), fun i hi => absurd hi (Nat.not_lt_zero i), fun i hi => absurd hi (Nat.not_lt_zero i), fun i k hi => absurd hi (Nat.not_lt_zero i), fun i hi => absurd hi (Nat.not_lt_zero i)⟩, fun b _ hb => by
    rcases hb with hb | ⟨i, hi, _⟩
    · simp [blk] at hb
    · exact absurd hi (Nat.not_lt_zero i)⟩
  have lV : ∀ x, QCo (newCo (starts.getD j 0)) ⟨(ah, ch), (none, 0), fun _ => (none, 0)⟩ x → w.heap.size ≤ x := fun x hx => (o1.lt x (blk_own (p := (ah, ch)) (nco_blocks hx))).1
  have key := core_put3 h.k hj b1 h.lm rfl rfl oV lV
  have on : Only w1 (((w1.setCell ⟨g2, j * 4, none⟩ (.slice ah 4 ch)).setCell ⟨g2, j * 4 + 1, none⟩ (.int .i64 (starts.getD j 0 % 24))).setCell ⟨g2, j * 4 + 2, none⟩ (.int .i64 0)) (fun b => b = g2) := (((Only.refl w1 (fun b => b = g2)).setCell ⟨g2, j * 4, none⟩ _ rfl).setCell ⟨g2, j * 4 + 1, none⟩ _ rfl).setCell ⟨g2, j * 4 + 2, none⟩ _ rfl
  have hg := h.hg
  have hm := h.hm
  refine ⟨Rw.sm h.r (Sm.trans (sm_bel b1) (on.sm (fun b hb e => by have := (h.lo b hb).2; omega))), h.lo, key, h.hm, h.hC, h.hg, h.ne, Nat.le_trans h.lm (Nat.le_trans b1.size on.size), (h.X.below b1).only on h.ne, (h.X0.below b1).only on (by omega), on.bel (bel_trans h.b b1) (fun x hx => by omega)⟩

/-- 'copy' into the front of an owned row. -/
theorem copy_pg {w : World} {g n c sl sc : Nat} {ad : Addr} {zs cs : List Value} (h : w.ownsRow 0 3 1 (.slice (some ⟨g, 0, none⟩) n c) n zs) (hs : n ≤ sl) (hl : cs.length = n) (hsrc : ∀ j v, cs[j]? = some v → w.cell? (ad.add j) = some v) (h1 : ∀ v ∈ cs, v.oneCell' = true) :
    ∃ W, (∀ ty, (Builtin.copy_ #[22, 22] ty #[.slice (some ⟨g, 0, none⟩) n c, .slice (some ad) sl sc]).run Try.prog w = .ok (goInt n) W) ∧ W.ownsRow 0 3 1 (.slice (some ⟨g, 0, none⟩) n c) n cs ∧ w.grownBy W (some g) := by
  obtain ⟨i0, hi0, hz0, hz1, hz2⟩ := info_parts info_i64
  rcases h.2 with ⟨hv, _⟩ | ⟨g', cap, cur, hv, hbg, hg, hnc, hcm, hcs, ht⟩
  · simp at hv
  · simp only [Value.slice.injEq, Option.some.injEq, Addr.mk.injEq, and_true, true_and] at hv
    obtain ⟨rfl, rfl⟩ := hv
    have hmin : Nat.min sl n = n := Nat.min_eq_right hs
    have hfit : cs.length ≤ cur.size := by omega
    refine ⟨w.setRow g (cs ++ cur.toList.drop cs.length).toArray, fun ty => ?_, ?_, ?_⟩
    · have := run_copy_wideYtfeabhknkoifeaa (P := Try.prog) w 22 22 ty 3 g 0 n c ad sl sc cur 3 cs 1 Try.underlying22 (by rw [hi0]; simp [hz1]) hg (by rw [hmin, hl]; simp) hsrc (by omega) h1
      rw [hmin] at this
      simpa using this
    · refine ⟨by simpa using hl, .inr ⟨g, c, (cs ++ cur.toList.drop cs.length).toArray, rfl, hbg, setRow_heap w g _ _ _ _ hg, hnc, hcm, ?_, ?_⟩⟩
      · simp
        omega
      · simp [hl]
    · exact ⟨rfl, rfl, rfl, by simp [World.setRow], fun k hk hne => setRow_other w g k _ (fun e => hne (by rw [e]))⟩
end Go.Proofs.Ytfeabhknkoifeaa
