/- BkR and BkM and BkZ: see the heads of the parts. -/
import Derived.Test.YtnfjmdegbdphpaaGreatHtR
import Derived.Test.YtnfjmdegbdphpaaGreatOpenH
/- Rows of blocks: what a reader is told; what the law's eqBlockS, toBlockS do. -/
namespace Go.Proofs.YtnfjmdegbdphpaaGreat
open Go.RowKit
set_option linter.unusedVariables false

/-- What a block says: where it begins, how many places, the places. -/
structure KD where
  st : Int
  n : Nat
  x : Nat → XD
def bkcells (d : KD) (p : Pl) : List Value := [.int .i64 d.st, .slice p.1 d.n p.2]
def KR (w : World) (a : Option Addr) (n : Nat) (d : Nat → KD) (p : Nat → Pl) : Prop := n ≤ 1048577 ∧ VRow w a (chunks n fun i => bkcells (d i) (p i)) ∧ ∀ i, i < n → IR w (p i).1 (d i).n (d i).x
theorem KR.below {w w' : World} {a : Option Addr} {n : Nat} {d : Nat → KD} {p : Nat → Pl} (h : KR w a n d p) (hb : Below w.heap.size w w') : KR w' a n d p := ⟨h.1, h.2.1.below hb, fun i hi => (h.2.2 i hi).below hb⟩
theorem KR.at {w : World} {a : Option Addr} {n : Nat} {d : Nat → KD} {p : Nat → Pl} (h : KR w a n d p) {i : Nat} (hi : i < n) :
    ∃ b off, a = some ⟨b, off, none⟩ ∧ w.cell? ⟨b, off + i * 2, none⟩ = some (.int .i64 (d i).st) ∧ w.cell? ⟨b, off + i * 2 + 1, none⟩ = some (.slice (p i).1 (d i).n (p i).2) := by
  obtain ⟨b, off, rfl, hc⟩ := h.2.1.chunk (s := 2) (fun i _ => rfl) (by decide) hi
  exact ⟨b, off, rfl, hc 0 _ rfl, hc 1 _ rfl⟩

def EK (d : KD) (p : Pl) (w : World) : Prop := w.ownsRow 0 152 5 (.slice p.1 d.n p.2) d.n (chunks d.n fun i => ic (d.x i))
def QK (p : Pl) (b : Nat) : Prop := blk p = some b
theorem fix_k (d : KD) (p : Pl) : Fix (QK p) (EK d p) := fun w w' k h => owns_sm h k (fun j hj => blk_eq hj)

/-- A row of blocks that is owned, each with its places. -/
def KO (w : World) (a : Option Addr) (c n : Nat) (d : Nat → KD) (p : Nat → Pl) : Prop := Rw w 119 2 a c n n (fun i => bkcells (d i) (p i)) (fun i => QK (p i)) (fun i => EK (d i) (p i))
theorem KO.kr {w : World} {a : Option Addr} {c n : Nat} {d : Nat → KD} {p : Nat → Pl} (h : KO w a c n d p) (hn : n ≤ 1048577) (hx : ∀ i, i < n → (d i).n ≤ 1048577) : KR w a n d p :=
  ⟨by omega, owns_vrow' h.row (by rw [chunks_length (s := 2) n (fun i _ => rfl)]; omega), fun i hi => IOw.ir (h.el i hi) (hx i hi)⟩
abbrev KTw (w : World) (lo : Nat) (a : Option Addr) (c n k : Nat) (d : Nat → KD) (p : Nat → Pl) (z : Nat → List Value) : Prop := Tw w lo 119 2 a c n k (fun i => bkcells (d i) (p i)) z (fun i => QK (p i)) (fun i => EK (d i) (p i))
def k00 : List Value := [.int .i64 0, .slice none 0 0]

theorem block_put {w w2 : World} {lo g c n k : Nat} {d : Nat → KD} {p : Nat → Pl} {z : Nat → List Value} (h : KTw w lo (some ⟨g, 0, none⟩) c n k d p z) (hz : ∀ i, i < n → (z i).length = 2) (hk : k < n) (b : Below w.heap.size w w2) (hlo : lo ≤ w.heap.size) {a2 : Option Addr} {c2 : Nat} (o2 : IOw w2 w.heap.size a2 c2 (d k).n (d k).x) :
    KTw ((w2.setCell ⟨g, k * 2, none⟩ (.int .i64 (d k).st)).setCell ⟨g, k * 2 + 1, none⟩ (.slice a2 (d k).n c2)) lo (some ⟨g, 0, none⟩) c n (k + 1) d (fun i => if i = k then (a2, c2) else p i) z := by
  have hr := owns_below h.r.row b
  have hf : ∀ i, i < n → ((fun i => if i < k then bkcells (d i) (p i) else z i) i).length = 2 := fun i hi => by dsimp only; split; rfl; exact hz i hi
  have hs := store2 hr hf hk (.int .i64 (d k).st) (.slice a2 (d k).n c2)
  have on : Only w2 ((w2.setCell ⟨g, k * 2, none⟩ (.int .i64 (d k).st)).setCell ⟨g, k * 2 + 1, none⟩ (.slice a2 (d k).n c2)) (fun b => b = g) := ((Only.refl w2 (fun b => b = g)).setCell ⟨g, k * 2, none⟩ _ rfl).setCell ⟨g, k * 2 + 1, none⟩ _ rfl
  refine (h.step b hlo on hs (E' := EK (d k) (a2, c2)) (owns_base o2 (Nat.zero_le _)) (fix_k _ _) (fun x hx => World.ownsRow.lt o2 x (blk_own hx))).congr (fun i hi => ?_) (fun i hi => ?_) (fun i hi => ?_)
  all_goals
    by_cases e : i = k
    · subst e; simp [bkcells]
    · simp [e]

set_option maxRecDepth 100000 in
set_option maxHeartbeats 1000000 in
theorem eqBlockS_any (a b : Option Addr) (ca cb n : Nat) (d : Nat → KD) (p p' : Nat → Pl) (w : World) (ha : KR w a n d p) (hb : KR w b n d p') :
    Calls Tryz.prog 81 #[.slice a n ca, .slice b n cb] w fun e w' => e = .returned (.bool true) ∧ Below w.heap.size w w' := by
  have hl : n ≤ 1048577 := ha.1
  go_enter Tryz.func81, Tryz.ntmps81
  go_wp2
  go_loopw [5] (fun i wr => ∃ k : Nat, k ≤ n ∧ i = .int .i64 k ∧ KR wr a n d p ∧ KR wr b n d p' ∧ Below w.heap.size w wr) (fun i _ => n - (intOf i).toNat)
  case atStart => exact ⟨0, Nat.zero_le _, rfl, ha, hb, Below.refl _ _⟩
  case round =>
    obtain ⟨k, hk, rfl, hma, hmb, hB⟩ := hrel
    by_cases hlt : k < n
    · have hi : (k : Int) < (n : Int) := by omega
      obtain ⟨ba, oa, rfl, y0, y1⟩ := hma.at hlt
      obtain ⟨bb, ob, rfl, z0, z1⟩ := hmb.at hlt
      have ra : IR wr.drew _ _ _ := (hma.2.2 k hlt).below (below_drewN (Below.refl _ _) 1)
      have rb : IR wr.drew _ _ _ := (hmb.2.2 k hlt).below (below_drewN (Below.refl _ _) 1)
      clear ha hb
      go_wp2_with fail
      go_region_with (go_at_call 114; refine (eqBlock_any _ _ _ _ _ _ (d k).x _ ra rb).mono ?_; rintro e w1 ⟨rfl, b1⟩)
      all_goals
        have hma1 := hma.below (bel_undrew b1)
        have hmb1 := hmb.below (bel_undrew b1)
        have hB1 := bel_trans hB (bel_undrew b1)
        clear hma hmb hB b1 y0 y1 z0 z1 ra rb
        go_wp2
        go_roundw
        case rel => exact ⟨k + 1, by omega, by go_num, hma1, hmb1, hB1⟩
        case measure => simp [intOf]; omega
    · clear ha hb hma hmb
      go_wp2
      go_ret
      exact ⟨rfl, hB⟩

theorem info_block2 : (Tryz.prog.info? 119).map (fun i => (i.zero, i.size, i.bytes)) = some (some (.agg #[.int .i64 0, .slice none 0 0]), 2, 32) := by kernel_rfl

set_option maxRecDepth 100000 in
set_option maxHeartbeats 1000000 in
theorem toBlockS_own (a : Option Addr) (ca n : Nat) (d : Nat → KD) (p : Nat → Pl) (w : World) (hn : n ≤ 1048576) (hx : ∀ i, i < n → (d i).n ≤ 1048576) (ha : KR w a n d p) :
    Calls Tryz.prog 55 #[.slice a n ca] w fun e w' => ∃ a' c' p', e = .returned (.slice a' n c') ∧ KO w' a' c' n d p' ∧ (∀ b, RS a' c' n (fun i => QK (p' i)) b → w.heap.size ≤ b) ∧ Below w.heap.size w w' := by
  obtain ⟨i0, hi, hz0, hz1, hz2⟩ := info_parts info_block2
  have HX : Hid (∀ i, i < n → (d i).n ≤ 1048576) := hx
  clear hx
  go_enter Tryz.func55, Tryz.ntmps55
  go_wp2_with (at_make; refine wpList_make_full _ rfl (.tmp 6) (.tmp 6) 48 rfl w.heap.size 119 i0 (.agg #[.int .i64 0, .slice none 0 0]) 2 Tryz.underlying48 hi hz0 hz1 .i64 .i64 _ _ n rfl rfl rfl rfl (by rw [hz2]; omega) (by unfold maxLen; omega) (Nat.le_refl _) ?_)
  intro w1 ho hg
  have hb1 : Below w.heap.size w w1 := (Below.refl _ _).grown hg (Nat.le_refl _) (fun k hk => by cases hk)
  rw [made_chunks _ 2 n rfl (by decide)] at ho
  have F0 : KTw w1 w.heap.size (some ⟨w.heap.size, 0, none⟩) n n 0 d (fun _ => (none, 0)) (fun _ => k00) := Tw.start (owns_base ho (Nat.zero_le _))
  clear hg ho
  go_wp2
  go_loopw [4] (fun i wr => ∃ k : Nat, k ≤ n ∧ i = .int .i64 k ∧ ∃ p', KTw wr w.heap.size (some ⟨w.heap.size, 0, none⟩) n n k d p' (fun _ => k00) ∧ Below w.heap.size w wr) (fun i _ => n - (intOf i).toNat)
  case atStart => exact ⟨0, Nat.zero_le _, rfl, _, F0, hb1⟩
  case round =>
    obtain ⟨k, hk, rfl, p', hF, hbr⟩ := hrel
    clear F0 hb1
    by_cases hkn : k < n
    · have hi' : (k : Int) < (n : Int) := by omega
      have har := ha.below hbr
      obtain ⟨b, off, rfl, y0, y1⟩ := har.at hkn
      have hrow := har.2.2 k hkn
      go_wp2_with fail
      refine (toBlock_any (d k).st (p k).1 (p k).2 (d k).n (d k).x _ (HX.out k hkn) hrow).mono ?_
      rintro e w2 ⟨a2, c2, rfl, o2, b2⟩
      have R : Hid _ := block_put hF (fun i _ => rfl) hkn b2 hbr.size o2
      have hr2 := owns_below hF.r.row b2
      have B : Hid _ := bel_setCell (bel_setCell (bel_trans hbr b2) ⟨w.heap.size, k * 2, none⟩ (.int .i64 (d k).st) (Nat.le_refl _)) ⟨w.heap.size, k * 2 + 1, none⟩ (.slice a2 (d k).n c2) (Nat.le_refl _)
      have q0 := hr2.frozenAt (k * 2)
      have q1 := hr2.frozenAt (k * 2 + 1)
      obtain ⟨u0, g0⟩ := cellN hr2 hkn (t := 0) (by decide)
      obtain ⟨u1, g1⟩ := cellN hr2 hkn (t := 1) (by decide)
      rw [Nat.add_zero] at g0
      clear hF har y0 y1 hrow hr2 o2 b2 hbr ha
      go_wp2
      go_roundw
      case rel => exact ⟨k + 1, by omega, by go_num, _, R.out, B.out⟩
      case measure => simp [intOf]; omega
    · have : k = n := by omega
      subst this
      have R : Hid (KO wr (some ⟨w.heap.size, 0, none⟩) k k d p' ∧ ∀ b, RS (some ⟨w.heap.size, 0, none⟩) k k (fun i => QK (p' i)) b → w.heap.size ≤ b) := ⟨hF.all, hF.low (fun g hg => by simp [blk] at hg; omega)⟩
      clear hF ha
      go_wp2
      go_ret
      exact ⟨_, _, p', rfl, R.out.1, R.out.2, hbr⟩
end Go.Proofs.YtnfjmdegbdphpaaGreat

/- What the law's markBlockS and heldBlockS do at rows of blocks that are owned. -/
namespace Go.Proofs.YtnfjmdegbdphpaaGreat
open Go.RowKit
set_option linter.unusedVariables false

def cK (d : KD) : Nat := 1 + 5 * d.n
def mK (k : Int) (d : KD) : KD := ⟨k, d.n, mI (k + 1)⟩

/-- The block at place j is marked. -/
theorem block_step {wr w2 : World} {g c n j : Nat} {d : Nat → KD} {p : Nat → Pl} {k : Int} (h : KO wr (some ⟨g, 0, none⟩) c n d p) (hj : j < n)
    (o2 : IOw w2 0 (p j).1 (p j).2 (d j).n (mI (k + 1))) (k2 : Only (wr.setCell ⟨g, j * 2, none⟩ (.int .i64 k)) w2 (fun b => blk (p j) = some b)) :
    KO w2 (some ⟨g, 0, none⟩) c n (fun i => if i = j then mK k (d j) else d i) p ∧ Only wr w2 (fun b => b = g ∨ QK (p j) b) := by
  have hf : ∀ i, i < n → ((fun i => bkcells (d i) (p i)) i).length = 2 := fun i _ => rfl
  have ne : ¬ blk (p j) = some g := fun e => h.out j hj g rfl e
  have r1 := owns_stored h.row hf hj (j := 0) (by decide) (.int .i64 k)
  have r2 := owns_sm r1 (k2.sm (P := fun b => b = g) (fun b hb e => ne (by rw [← hb]; exact e))) (fun b hb => by simp [Value.ownBlock] at hb; exact hb.symm)
  have on : Only wr w2 (fun b => b = g ∨ QK (p j) b) := ((Only.refl wr _).setCell ⟨g, j * 2, none⟩ (.int .i64 k) (.inl rfl)).trans (k2.more (fun b hb => .inr hb))
  refine ⟨(Rw.turn h hj on r2 (E' := EK (mK k (d j)) (p j)) o2 (fix_k _ _)).congr (fun i hi => ?_) (fun i hi => rfl) (fun i hi => ?_), on⟩
  · by_cases e : i = j
    · subst e
      simp [bkcells, mK]
    · simp [e]
  · by_cases e : i = j
    · subst e; simp
    · simp [e]


end Go.Proofs.YtnfjmdegbdphpaaGreat

/- How great a row of blocks is that came in; a row of blocks as the row hands it over. -/
namespace Go.Proofs.YtnfjmdegbdphpaaGreat
open Go.ChangeShapes Go.WideShapes Go.ChangeAt Go.RowKit
set_option linter.unusedVariables false

theorem IC.below {w w' : World} {a : Option Addr} {n : Nat} {d : Nat → XD} (h : IC w a n d) (hb : Below w.heap.size w w') : IC w' a n d := ⟨h.1, h.2.below hb⟩
/-- A row of blocks that came in. -/
def KC (w : World) (a : Option Addr) (n : Nat) (d : Nat → KD) (p : Nat → Pl) : Prop := n ≤ maxLen ∧ VCame w a (chunks n fun i => bkcells (d i) (p i)) ∧ ∀ i, i < n → IC w (p i).1 (d i).n (d i).x
theorem KC.below {w w' : World} {a : Option Addr} {n : Nat} {d : Nat → KD} {p : Nat → Pl} (h : KC w a n d p) (hb : Below w.heap.size w w') : KC w' a n d p := ⟨h.1, h.2.1.below hb, fun i hi => (h.2.2 i hi).below hb⟩
theorem KC.kr {w : World} {a : Option Addr} {n : Nat} {d : Nat → KD} {p : Nat → Pl} (h : KC w a n d p) (hn : n ≤ 1048577) (hx : ∀ i, i < n → (d i).n ≤ 1048577) : KR w a n d p :=
  ⟨by omega, h.2.1.vrow (by rw [chunks_length (s := 2) n (fun i _ => rfl)]; omega), fun i hi => (h.2.2 i hi).ir (hx i hi)⟩
def bkZ (d : KD) : Nat := d.n
theorem bkZ_le {n : Nat} {d : Nat → KD} {Z : Nat} (h : n + sumN (fun i => bkZ (d i)) n ≤ Z) : n ≤ Z ∧ ∀ i, i < n → (d i).n ≤ Z := ⟨by omega, fun i hi => by
  have := le_sumN (c := fun i => bkZ (d i)) hi
  simp only [bkZ] at this h
  omega⟩

set_option maxRecDepth 100000 in
set_option maxHeartbeats 1000000 in
theorem szInsS_tot (a : Option Addr) (n c : Nat) (L : Int) (w : World) (h0 : 0 ≤ L) (h1 : L ≤ 1048576) (hn : n ≤ maxLen) :
    Calls Tryz.prog 118 #[.slice a n c, .int .i64 L] w fun e w' => ∃ r, e = .returned (.int .i64 r) ∧ (r = -1 ∨ (0 ≤ r ∧ r + n = L)) ∧ w' = w := by
  unfold maxLen at hn
  by_cases h : (n : Int) ≤ L
  · have hd : ¬ (L - (n : Int) < 0) := by omega
    go_enter Tryz.func118, Tryz.ntmps118
    go_wp2
    go_ret
    exact ⟨_, rfl, .inr ⟨by omega, by omega⟩, rfl⟩
  · have hd : L - (n : Int) < 0 := by omega
    go_enter Tryz.func118, Tryz.ntmps118
    go_wp2
    go_ret
    exact ⟨_, rfl, .inl rfl, rfl⟩

set_option maxRecDepth 100000 in
set_option maxHeartbeats 1000000 in
theorem szBlock_tot (st : Int) (a : Option Addr) (n c : Nat) (L : Int) (w : World) (h0 : 0 ≤ L) (h1 : L ≤ 1048576) (hn : n ≤ maxLen) :
    Calls Tryz.prog 88 #[.agg #[.int .i64 st, .slice a n c], .int .i64 L] w fun e w' => ∃ r, e = .returned (.int .i64 r) ∧ (r = -1 ∨ (0 ≤ r ∧ r + n = L)) ∧ Below w.heap.size w w' := by
  have bA := bel_alloc (Below.refl w.heap.size w) (.cells #[.int .i64 st, .slice a n c] 150)
  go_enter Tryz.func88, Tryz.ntmps88
  go_wp2_with fail
  refine (szInsS_tot a n c L _ h0 h1 hn).mono ?_
  rintro e w1 ⟨r, rfl, hr, h⟩
  subst h
  rcases hr with rfl | ⟨r0, r1⟩
  · go_wp2
    go_ret
    exact ⟨_, rfl, .inl rfl, bA⟩
  · have hd : ¬ (r < 0) := by omega
    go_wp2
    go_ret
    exact ⟨_, rfl, .inr ⟨r0, r1⟩, bA⟩

set_option maxRecDepth 100000 in
set_option maxHeartbeats 2000000 in
theorem szBlockS_tot (a : Option Addr) (ca n : Nat) (d : Nat → KD) (p : Nat → Pl) (L0 : Int) (w : World) (l0 : 0 ≤ L0) (l1 : L0 ≤ 1048576) (ha : KC w a n d p) :
    Calls Tryz.prog 43 #[.slice a n ca, .int .i64 L0] w fun e w' => ∃ r, e = .returned (.int .i64 r) ∧ (r = -1 ∨ (0 ≤ r ∧ r + (n + sumN (fun i => bkZ (d i)) n : Nat) = L0)) ∧ Below w.heap.size w w' := by
  have hl : n ≤ 9223372036854775807 := by have h1 := ha.1; unfold maxLen at h1; omega
  by_cases hb : L0 < (n : Int)
  · clear ha
    go_enter Tryz.func43, Tryz.ntmps43
    go_wp2
    go_ret
    exact ⟨_, rfl, .inl rfl, Below.refl _ _⟩
  · have hb' : (n : Int) ≤ L0 := by omega
    go_enter Tryz.func43, Tryz.ntmps43
    go_wp2
    go_loopw [1, 5] (fun q i wr => ∃ (k : Nat) (L : Int), k ≤ n ∧ i = .int .i64 k ∧ q = .int .i64 L ∧ 0 ≤ L ∧ L + (n + sumN (fun i => bkZ (d i)) k : Nat) = L0 ∧ KC wr a n d p ∧ Below w.heap.size w wr) (fun _ i _ => n - (intOf i).toNat)
    case atStart => exact ⟨0, _, Nat.zero_le _, rfl, rfl, by omega, by simp [sumN], ha, Below.refl _ _⟩
    case round =>
      obtain ⟨k, L, hk, rfl, rfl, hL0, hL, hm, hB⟩ := hrel
      have HL : Hid (L + (n + sumN (fun i => bkZ (d i)) k : Nat) = L0) := hL
      have hL1 : L ≤ 1048576 := by omega
      clear hL
      by_cases hlt : k < n
      · have hi : (k : Int) < (n : Int) := by omega
        obtain ⟨bl, off, rfl, hc⟩ := hm.2.1.chunk (s := 2) (fun i _ => rfl) (by decide) hlt
        have y0 := hc 0 _ rfl
        have y1 := hc 1 _ rfl
        rw [Nat.add_zero] at y0
        have hml : (d k).n ≤ maxLen := (hm.2.2 k hlt).1
        clear hc ha
        go_wp2_with fail
        refine (szBlock_tot (d k).st (p k).1 (d k).n (p k).2 L _ hL0 hL1 hml).mono ?_
        rintro e w1 ⟨r, rfl, hsz, b1⟩
        have hm1 := hm.below b1
        have hB1 := bel_trans hB b1
        clear hm hB b1 y0 y1 hml
        rcases hsz with rfl | ⟨hr0, hr2⟩
        · clear hm1
          go_wp2
          go_ret
          exact ⟨_, rfl, .inl rfl, hB1⟩
        · have HX : Hid (r + (n + sumN (fun i => bkZ (d i)) (k + 1) : Nat) = L0) := by
            show _ = _
            have h1 := HL.out
            simp only [sumN] at h1 ⊢
            simp only [bkZ] at h1 ⊢
            omega
          clear hr2
          go_wp2
          go_roundw
          case rel => exact ⟨k + 1, r, by omega, by go_num, rfl, hr0, HX.out, hm1, hB1⟩
          case measure => simp [intOf]; omega
      · clear ha hm
        have hkn : k = n := by omega
        rw [hkn] at HL
        go_wp2
        go_ret
        exact ⟨_, rfl, .inr ⟨hL0, HL.out⟩, hB⟩

theorem cells_block' : Tryz.prog.cellsOf 150 = 2 := by kernel_rfl
set_option maxRecDepth 100000 in
theorem block_cells {H : Type} {enc : TypeId × Value → H} {W : World} {base : Nat} {held : Bool} {fuel : Nat} {cs : List Value} {x : DataW H × List MemPlace} (h : DataW.trod enc Tryz.prog W base (fun _ => true) held fuel 150 cs = some x) :
    ∃ (d : KD) (p : Pl), cs = bkcells d p ∧ IC W p.1 d.n d.x := by
  obtain ⟨ys, n, _, _, hl, hyl, hf⟩ := DataW.trod_struct Tryz.underlying150 h
  have hp : Tryz.prog.cellsOf 148 = 1 := by kernel_rfl
  rw [cells_block'] at hl
  match cs, hl, ys, hyl with
  | [c0, c1], _, [y0, y1], _ =>
    have g0 := hf 0 _ rfl
    have g1 := hf 1 _ rfl
    simp [cells_int', hp] at g0 g1
    obtain ⟨m0, e0, _, _⟩ := DataW.trod_int Tryz.underlying3 g0
    simp only [List.cons.injEq, and_true] at e0
    subst e0
    obtain ⟨a, c, n, d', rfl, hI⟩ := open_places g1
    exact ⟨⟨m0, n, d'⟩, (a, c), rfl, hI⟩
set_option maxRecDepth 100000 in
theorem open_blocks0 {H : Type} {enc : TypeId × Value → H} {W : World} {base : Nat} {held : Bool} {fuel : Nat} {v : Value} {x : DataW H × List MemPlace} (h : DataW.trod enc Tryz.prog W base (fun _ => true) held fuel 65 [v] = some x) :
    ∃ (a : Option Addr) (c n : Nat) (d : Nat → KD) (p : Nat → Pl), v = .slice a n c ∧ KC W a n d p := by
  obtain ⟨a, c, n, F, rfl, hn, hv, hF⟩ := open_rows 65 150 2 Tryz.underlying65 cells_block' (by decide) h
  obtain ⟨g, hg⟩ := fun_of (α := KD × Pl) (⟨0, 0, fun _ => ⟨0, 0, 0, 0, 0⟩⟩, (none, 0)) (P := fun i x => F i = bkcells x.1 x.2 ∧ IC W x.2.1 x.1.n x.1.x) n (fun i hi => by
    obtain ⟨_, fl, y, hy⟩ := hF i hi
    obtain ⟨d, p, h1, h2⟩ := block_cells hy
    exact ⟨(d, p), h1, h2⟩)
  exact ⟨a, c, n, fun i => (g i).1, fun i => (g i).2, rfl, hn, hv.congr (fun i hi => (hg i hi).1), fun i hi => (hg i hi).2⟩
set_option maxRecDepth 100000 in
theorem open_blocks {H : Type} {enc : TypeId × Value → H} {W : World} {base : Nat} {held : Bool} {r : Reach} {b0 : Nat} {v : Value} {d : DataW H} {q : List MemPlace}
    (hv : Value.okWide Tryz.prog W r b0 65 v) (h : DataW.Trod enc Tryz.prog W base (fun _ => true) held 65 v d q) :
    ∃ (a : Option Addr) (c n : Nat) (d' : Nat → KD) (p : Nat → Pl), v = .slice a n c ∧ KC W a n d' p := by
  obtain ⟨a, len, cap, rfl⟩ := okWide_slice Tryz.underlying65 hv
  obtain ⟨fuel, hf⟩ := h
  exact open_blocks0 (by simpa [Value.cells] using hf)
end Go.Proofs.YtnfjmdegbdphpaaGreat
