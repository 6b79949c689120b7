/- Bk1 and OpenB and BkR and BkM: see the heads of the parts. -/
import Derived.Test.YtfeabhknkoifeaaBk0
import Derived.Test.YtfeabhknkoifeaaOpenH
import Derived.Test.YtfeabhknkoifeaaRwC
/- What the law's szBlock, toBlock, eqBlock, markBlock, heldBlock do. -/
namespace Go.Proofs.Ytfeabhknkoifeaa
open Go.RowKit
set_option linter.unusedVariables false




set_option maxHeartbeats 400000 in
theorem eqBlock_any (st : Int) (a b : Option Addr) (ca cb n : Nat) (d : Nat → XD) (w : World) (ha : IR w a n d) (hb : IR w b n d) :
    Calls Try.prog 64 #[.agg #[.int .i64 st, .slice a n ca], .agg #[.int .i64 st, .slice b n cb]] w fun e w' => e = .returned (.bool true) ∧ Below w.heap.size w w' := by
  have bA := bel_alloc (bel_alloc (Below.refl w.heap.size w) (.cells #[.int .i64 st, .slice a n ca] 92)) (.cells #[.int .i64 st, .slice b n cb] 92)
  go_enter Try.func64, Try.ntmps64
  go_wp2_with fail
  refine (eqInsS_any a b ca cb n d _ (ha.below bA) (hb.below bA)).mono ?_
  rintro e w1 ⟨rfl, b1⟩
  have B := bel_trans bA b1
  clear bA b1 ha hb
  go_wp2
  go_ret
  exact ⟨rfl, B⟩


end Go.Proofs.Ytfeabhknkoifeaa

/- A block as the row hands it over. -/
namespace Go.Proofs.Ytfeabhknkoifeaa
open Go.ChangeShapes Go.WideShapes Go.ChangeAt Go.RowKit
set_option linter.unusedVariables false

/-- A row of places that came in. -/
def IC (w : World) (a : Option Addr) (n : Nat) (d : Nat → XD) : Prop := n ≤ maxLen ∧ VCame w a (chunks n fun i => ic (d i))
theorem IC.ir {w : World} {a : Option Addr} {n : Nat} {d : Nat → XD} (h : IC w a n d) (hn : n ≤ 1048577) : IR w a n d := ⟨hn, h.2.vrow (by rw [chunks_length (s := 5) n (fun i _ => rfl)]; omega)⟩

end Go.Proofs.Ytfeabhknkoifeaa

/- Rows of blocks: what a reader is told; what the law's eqBlockS, toBlockS do. -/
namespace Go.Proofs.Ytfeabhknkoifeaa
open Go.RowKit
set_option linter.unusedVariables false

/-- What a block says: where it begins, how many places, the places. -/
structure KD where
  st : Int
  n : Nat
  x : Nat → XD
def bkcells (d : KD) (p : Pl) : List Value := [.int .i64 d.st, .slice p.1 d.n p.2]
def KR (w : World) (a : Option Addr) (n : Nat) (d : Nat → KD) (p : Nat → Pl) : Prop := n ≤ 1048577 ∧ VRow w a (chunks n fun i => bkcells (d i) (p i)) ∧ ∀ i, i < n → IR w (p i).1 (d i).n (d i).x
theorem KR.below {w w' : World} {a : Option Addr} {n : Nat} {d : Nat → KD} {p : Nat → Pl} (h : KR w a n d p) (hb : Below w.heap.size w w') : KR w' a n d p := ⟨h.1, h.2.1.below hb, fun i hi => (h.2.2 i hi).below hb⟩
theorem KR.at {w : World} {a : Option Addr} {n : Nat} {d : Nat → KD} {p : Nat → Pl} (h : KR w a n d p) {i : Nat} (hi : i < n) :
    ∃ b off, a = some ⟨b, off, none⟩ ∧ w.cell? ⟨b, off + i * 2, none⟩ = some (.int .i64 (d i).st) ∧ w.cell? ⟨b, off + i * 2 + 1, none⟩ = some (.slice (p i).1 (d i).n (p i).2) := by
  obtain ⟨b, off, rfl, hc⟩ := h.2.1.chunk (s := 2) (fun i _ => rfl) (by decide) hi
  exact ⟨b, off, rfl, hc 0 _ rfl, hc 1 _ rfl⟩

def EK (d : KD) (p : Pl) (w : World) : Prop := w.ownsRow 0 111 5 (.slice p.1 d.n p.2) d.n (chunks d.n fun i => ic (d.x i))
def QK (p : Pl) (b : Nat) : Prop := blk p = some b
theorem fix_k (d : KD) (p : Pl) : Fix (QK p) (EK d p) := fun w w' k h => owns_sm h k (fun j hj => blk_eq hj)

/-- A row of blocks that is owned, each with its places. -/
def KO (w : World) (a : Option Addr) (c n : Nat) (d : Nat → KD) (p : Nat → Pl) : Prop := Rw w 92 2 a c n n (fun i => bkcells (d i) (p i)) (fun i => QK (p i)) (fun i => EK (d i) (p i))
theorem KO.kr {w : World} {a : Option Addr} {c n : Nat} {d : Nat → KD} {p : Nat → Pl} (h : KO w a c n d p) (hn : n ≤ 1048577) (hx : ∀ i, i < n → (d i).n ≤ 1048577) : KR w a n d p :=
  ⟨by omega, owns_vrow' h.row (by rw [chunks_length (s := 2) n (fun i _ => rfl)]; omega), fun i hi => IOw.ir (h.el i hi) (hx i hi)⟩
abbrev KTw (w : World) (lo : Nat) (a : Option Addr) (c n k : Nat) (d : Nat → KD) (p : Nat → Pl) (z : Nat → List Value) : Prop := Tw w lo 92 2 a c n k (fun i => bkcells (d i) (p i)) z (fun i => QK (p i)) (fun i => EK (d i) (p i))
def k00 : List Value := [.int .i64 0, .slice none 0 0]

theorem block_put {w w2 : World} {lo g c n k : Nat} {d : Nat → KD} {p : Nat → Pl} {z : Nat → List Value} (h : KTw w lo (some ⟨g, 0, none⟩) c n k d p z) (hz : ∀ i, i < n → (z i).length = 2) (hk : k < n) (b : Below w.heap.size w w2) (hlo : lo ≤ w.heap.size) {a2 : Option Addr} {c2 : Nat} (o2 : IOw w2 w.heap.size a2 c2 (d k).n (d k).x) :
    KTw ((w2.setCell ⟨g, k * 2, none⟩ (.int .i64 (d k).st)).setCell ⟨g, k * 2 + 1, none⟩ (.slice a2 (d k).n c2)) lo (some ⟨g, 0, none⟩) c n (k + 1) d (fun i => if i = k then (a2, c2) else p i) z := by
  have hr := owns_below h.r.row b
  have hf : ∀ i, i < n → ((fun i => if i < k then bkcells (d i) (p i) else z i) i).length = 2 := fun i hi => by dsimp only; split; rfl; exact hz i hi
  have hs := store2 hr hf hk (.int .i64 (d k).st) (.slice a2 (d k).n c2)
  have on : Only w2 ((w2.setCell ⟨g, k * 2, none⟩ (.int .i64 (d k).st)).setCell ⟨g, k * 2 + 1, none⟩ (.slice a2 (d k).n c2)) (fun b => b = g) := ((Only.refl w2 (fun b => b = g)).setCell ⟨g, k * 2, none⟩ _ rfl).setCell ⟨g, k * 2 + 1, none⟩ _ rfl
  refine (h.step b hlo on hs (E' := EK (d k) (a2, c2)) (owns_base o2 (Nat.zero_le _)) (fix_k _ _) (fun x hx => World.ownsRow.lt o2 x (blk_own hx))).congr (fun i hi => ?_) (fun i hi => ?_) (fun i hi => ?_)
  all_goals
    by_cases e : i = k
    · subst e; simp [bkcells]
    · simp [e]

set_option maxRecDepth 100000 in
set_option maxHeartbeats 1000000 in
theorem eqBlockS_any (a b : Option Addr) (ca cb n : Nat) (d : Nat → KD) (p p' : Nat → Pl) (w : World) (ha : KR w a n d p) (hb : KR w b n d p') :
    Calls Try.prog 48 #[.slice a n ca, .slice b n cb] w fun e w' => e = .returned (.bool true) ∧ Below w.heap.size w w' := by
  have hl : n ≤ 1048577 := ha.1
  go_enter Try.func48, Try.ntmps48
  go_wp2
  go_loopw [5] (fun i wr => ∃ k : Nat, k ≤ n ∧ i = .int .i64 k ∧ KR wr a n d p ∧ KR wr b n d p' ∧ Below w.heap.size w wr) (fun i _ => n - (intOf i).toNat)
  case atStart => exact ⟨0, Nat.zero_le _, rfl, ha, hb, Below.refl _ _⟩
  case round =>
    obtain ⟨k, hk, rfl, hma, hmb, hB⟩ := hrel
    by_cases hlt : k < n
    · have hi : (k : Int) < (n : Int) := by omega
      obtain ⟨ba, oa, rfl, y0, y1⟩ := hma.at hlt
      obtain ⟨bb, ob, rfl, z0, z1⟩ := hmb.at hlt
      have ra : IR wr.drew _ _ _ := (hma.2.2 k hlt).below (below_drewN (Below.refl _ _) 1)
      have rb : IR wr.drew _ _ _ := (hmb.2.2 k hlt).below (below_drewN (Below.refl _ _) 1)
      clear ha hb
      go_wp2_with fail
      go_region_with (go_at_call 64; refine (eqBlock_any _ _ _ _ _ _ (d k).x _ ra rb).mono ?_; rintro e w1 ⟨rfl, b1⟩)
      all_goals
        have hma1 := hma.below (bel_undrew b1)
        have hmb1 := hmb.below (bel_undrew b1)
        have hB1 := bel_trans hB (bel_undrew b1)
        clear hma hmb hB b1 y0 y1 z0 z1 ra rb
        go_wp2
        go_roundw
        case rel => exact ⟨k + 1, by omega, by go_num, hma1, hmb1, hB1⟩
        case measure => simp [intOf]; omega
    · clear ha hb hma hmb
      go_wp2
      go_ret
      exact ⟨rfl, hB⟩

theorem info_block2 : (Try.prog.info? 92).map (fun i => (i.zero, i.size, i.bytes)) = some (some (.agg #[.int .i64 0, .slice none 0 0]), 2, 32) := by kernel_rfl

end Go.Proofs.Ytfeabhknkoifeaa

/- What the law's markBlockS and heldBlockS do at rows of blocks that are owned. -/
namespace Go.Proofs.Ytfeabhknkoifeaa
open Go.RowKit
set_option linter.unusedVariables false

def cK (d : KD) : Nat := 1 + 5 * d.n
def mK (k : Int) (d : KD) : KD := ⟨k, d.n, mI (k + 1)⟩

/-- The block at place j is marked. -/
theorem block_step {wr w2 : World} {g c n j : Nat} {d : Nat → KD} {p : Nat → Pl} {k : Int} (h : KO wr (some ⟨g, 0, none⟩) c n d p) (hj : j < n)
    (o2 : IOw w2 0 (p j).1 (p j).2 (d j).n (mI (k + 1))) (k2 : Only (wr.setCell ⟨g, j * 2, none⟩ (.int .i64 k)) w2 (fun b => blk (p j) = some b)) :
    KO w2 (some ⟨g, 0, none⟩) c n (fun i => if i = j then mK k (d j) else d i) p ∧ Only wr w2 (fun b => b = g ∨ QK (p j) b) := by
  have hf : ∀ i, i < n → ((fun i => bkcells (d i) (p i)) i).length = 2 := fun i _ => rfl
  have ne : ¬ blk (p j) = some g := fun e => h.out j hj g rfl e
  have r1 := owns_stored h.row hf hj (j := 0) (by decide) (.int .i64 k)
  have r2 := owns_sm r1 (k2.sm (P := fun b => b = g) (fun b hb e => ne (by rw [← hb]; exact e))) (fun b hb => by simp [Value.ownBlock] at hb; exact hb.symm)
  have on : Only wr w2 (fun b => b = g ∨ QK (p j) b) := ((Only.refl wr _).setCell ⟨g, j * 2, none⟩ (.int .i64 k) (.inl rfl)).trans (k2.more (fun b hb => .inr hb))
  refine ⟨(Rw.turn h hj on r2 (E' := EK (mK k (d j)) (p j)) o2 (fix_k _ _)).congr (fun i hi => ?_) (fun i hi => rfl) (fun i hi => ?_), on⟩
  · by_cases e : i = j
    · subst e
      simp [bkcells, mK]
    · simp [e]
  · by_cases e : i = j
    · subst e; simp
    · simp [e]

set_option maxRecDepth 100000 in
set_option maxHeartbeats 2000000 in
theorem markBlockS_all (S : Nat → Prop) (n : Nat) (a : Option Addr) (c : Nat) (d : Nat → KD) (p : Nat → Pl) (k0 : Int) (w : World) (h0 : 0 ≤ k0) (h1 : k0 ≤ 1000000000000000000) (hn : n ≤ 1048576) (hx : ∀ i, i < n → (d i).n ≤ 1048576) (hF : KO w a c n d p) (hS : ∀ b, RS a c n (fun i => QK (p i)) b → S b) :
    Calls Try.prog 37 #[.slice a n c, .int .i64 k0] w fun e w' => e = .returned (.int .i64 (kt k0 (fun i => cK (d i)) n)) ∧ KO w' a c n (fun i => mK (kt k0 (fun i => cK (d i)) i) (d i)) p ∧ Only w w' S := by
  have KL : Hid (∀ j, j ≤ n → k0 ≤ kt k0 (fun i => cK (d i)) j ∧ kt k0 (fun i => cK (d i)) j ≤ k0 + ((1048576 * 5242881 : Nat) : Int)) := fun j hj => by
    have h1 := kt_le (k0 := k0) (c := fun i => cK (d i)) (C := 5242881) hj (fun i hi => by have := hx i hi; unfold cK; omega)
    have h2 : n * 5242881 ≤ 1048576 * 5242881 := Nat.mul_le_mul_right _ hn
    exact ⟨h1.1, Int.le_trans h1.2 (by omega)⟩
  have HX : Hid (∀ i, i < n → (d i).n ≤ 1048576) := hx
  have HS : Hid (∀ b, RS a c n (fun i => QK (p i)) b → S b) := hS
  clear hx hS
  go_enter Try.func37, Try.ntmps37
  go_wp2
  go_loopw [1, 5] (fun q i wr => ∃ j : Nat, j ≤ n ∧ i = .int .i64 j ∧ q = .int .i64 (kt k0 (fun i => cK (d i)) j) ∧ KO wr a c n (fun i => if i < j then mK (kt k0 (fun i => cK (d i)) i) (d i) else d i) p ∧ Only w wr S) (fun _ i _ => n - (intOf i).toNat)
  case atStart => exact ⟨0, Nat.zero_le _, rfl, by rw [kt_zero], by simpa using hF, Only.refl _ _⟩
  case round =>
    obtain ⟨j, hj, rfl, rfl, hH, hK⟩ := hrel
    obtain ⟨k, hk⟩ : ∃ k, kt k0 (fun i => cK (d i)) j = k := ⟨_, rfl⟩
    have hkb := KL.out j hj
    rw [hk] at hkb
    obtain ⟨hk0, hk1⟩ := hkb
    have HKj : Hid (kt k0 (fun i => cK (d i)) j = k) := hk
    rw [hk]
    clear hk
    by_cases hlt : j < n
    · have hi' : (j : Int) < (n : Int) := by omega
      obtain ⟨g, rfl⟩ := owns_addr hH.row (by omega)
      have hL := HX.out j hlt
      obtain ⟨L, eL⟩ : ∃ L, (d j).n = L := ⟨_, rfl⟩
      have HL : Hid ((d j).n = L) := eL
      rw [eL] at hL
      have hf : ∀ i, i < n → ((fun i => bkcells ((fun i => if i < j then mK (kt k0 (fun i => cK (d i)) i) (d i) else d i) i) (p i)) i).length = 2 := fun i _ => rfl
      have cc : ∀ t, t < 2 → wr.cell? ⟨g, j * 2 + t, none⟩ = (bkcells (d j) (p j))[t]? := fun t ht => by
        have := owns_chunk hH.row hf hlt ht
        simpa using this
      have c0 : wr.cell? ⟨g, j * 2, none⟩ = some (.int .i64 (d j).st) := by have := cc 0 (by decide); simpa [bkcells] using this
      have c1 : wr.cell? ⟨g, j * 2 + 1, none⟩ = some (.slice (p j).1 L (p j).2) := by have := cc 1 (by decide); simpa [bkcells, eL] using this
      have hne : ∀ b, (Value.slice (p j).1 L (p j).2).ownBlock = some b → b ≠ g := fun b hb e => hH.out j hlt g rfl (by rw [← e]; exact blk_eq hb)
      have ol : IOw (wr.setCell ⟨g, j * 2, none⟩ (.int .i64 k)) 0 (p j).1 (p j).2 L (d j).x := by
        have h := hH.el j hlt
        simp only [Nat.lt_irrefl, if_false, EK] at h
        rw [eL] at h
        exact owns_setCell h (fun b hb e => hne b hb e.symm) _
      have z0 := hH.row.frozenAt (j * 2)
      have HH : Hid (KO wr (some ⟨g, 0, none⟩) c n (fun i => if i < j then mK (kt k0 (fun i => cK (d i)) i) (d i) else d i) p) := hH
      clear hH hF hf cc eL hne
      go_wp2_with fail
      refine (markInsS_any 0 L (p j).1 (p j).2 (d j).x (k + 1) _ (by omega) (by omega) (by omega) ol).mono ?_
      rintro e w2 ⟨rfl, o2, g2⟩
      have ST0 := block_step (k := k) HH.out hlt (by simp only [Nat.lt_irrefl, if_false]; rw [HL.out]; exact o2) g2
      simp only [Nat.lt_irrefl, if_false] at ST0
      have ST : Hid _ := ST0
      clear ST0 c0 c1 z0 ol o2 g2
      go_wp2_with fail
      go_roundw
      case rel =>
        refine ⟨j + 1, by omega, by go_num, ?_, ?_, hK.trans (ST.out.2.more (fun b hb => ?_))⟩
        · have := kt_succ k0 (fun i => cK (d i)) j
          rw [HKj.out] at this
          rw [this]
          have e2 : cK (d j) = 1 + 5 * L := by unfold cK; rw [HL.out]
          simp only [e2]
          congr 1
          omega
        · refine ST.out.1.congr (fun i hi => ?_) (fun i hi => rfl) (fun i hi => ?_)
          all_goals
            have := upto (fun i => mK (kt k0 (fun i => cK (d i)) i) (d i)) d j i
            simp only [HKj.out] at this
            simp only [this]
        · rcases hb with rfl | hb
          · exact HS.out _ (.inl rfl)
          · exact HS.out _ (.inr ⟨j, hlt, hb⟩)
      case measure => simp [intOf]; omega
    · have : j = n := by omega
      subst this
      have R' : Hid (KO wr a c j (fun i => mK (kt k0 (fun i => cK (d i)) i) (d i)) p) := hH.congr (fun i hi => by simp [hi]) (fun i hi => rfl) (fun i hi => by simp [hi])
      clear hH hF
      go_wp2
      go_ret
      exact ⟨ret_int HKj.out.symm, R'.out, hK⟩

set_option maxRecDepth 100000 in
set_option maxHeartbeats 1000000 in
theorem heldBlockS_all (n : Nat) (a : Option Addr) (c : Nat) (d : Nat → KD) (p : Nat → Pl) (k0 : Int) (w : World) (h0 : 0 ≤ k0) (h1 : k0 ≤ 1000000000000000000) (hn : n ≤ 1048576) (hx : ∀ i, i < n → (d i).n ≤ 1048576) (hF : KO w a c n (fun i => mK (kt k0 (fun i => cK (d i)) i) (d i)) p) :
    Calls Try.prog 41 #[.slice a n c, .int .i64 k0] w fun e w' => e = .returned (.int .i64 (kt k0 (fun i => cK (d i)) n)) ∧ Below w.heap.size w w' := by
  have KL : Hid (∀ j, j ≤ n → k0 ≤ kt k0 (fun i => cK (d i)) j ∧ kt k0 (fun i => cK (d i)) j ≤ k0 + ((1048576 * 5242881 : Nat) : Int)) := fun j hj => by
    have h1 := kt_le (k0 := k0) (c := fun i => cK (d i)) (C := 5242881) hj (fun i hi => by have := hx i hi; unfold cK; omega)
    have h2 : n * 5242881 ≤ 1048576 * 5242881 := Nat.mul_le_mul_right _ hn
    exact ⟨h1.1, Int.le_trans h1.2 (by omega)⟩
  have ha := hF.kr (by omega) (fun i hi => by have := hx i hi; simp only [mK]; omega)
  have HX : Hid (∀ i, i < n → (d i).n ≤ 1048576) := hx
  clear hx hF
  go_enter Try.func41, Try.ntmps41
  go_wp2
  go_loopw [1, 5] (fun q i wr => ∃ j : Nat, j ≤ n ∧ i = .int .i64 j ∧ q = .int .i64 (kt k0 (fun i => cK (d i)) j) ∧ Below w.heap.size w wr) (fun _ i _ => n - (intOf i).toNat)
  case atStart => exact ⟨0, Nat.zero_le _, rfl, by rw [kt_zero], Below.refl _ _⟩
  case round =>
    obtain ⟨j, hj, rfl, rfl, hB⟩ := hrel
    obtain ⟨k, hk⟩ : ∃ k, kt k0 (fun i => cK (d i)) j = k := ⟨_, rfl⟩
    have hkb := KL.out j hj
    rw [hk] at hkb
    obtain ⟨hk0, hk1⟩ := hkb
    have HKj : Hid (kt k0 (fun i => cK (d i)) j = k) := hk
    rw [hk]
    clear hk
    by_cases hlt : j < n
    · have hi' : (j : Int) < (n : Int) := by omega
      have har := ha.below hB
      obtain ⟨b, off, rfl, y0, y1⟩ := har.at hlt
      have hr := har.2.2 j hlt
      have hL := HX.out j hlt
      obtain ⟨L, eL⟩ : ∃ L, (d j).n = L := ⟨_, rfl⟩
      have HL : Hid ((d j).n = L) := eL
      simp only [HKj.out, mK, eL] at y0 y1 hr
      rw [eL] at hL
      have hd : decide (k + 1 + 5 * (L : Int) < 0) = false := by simp; omega
      clear har eL ha
      go_wp2_with fail
      refine (heldInsS_any _ _ L (k + 1) _ (by omega) (by omega) hr).mono ?_
      rintro e w1 ⟨rfl, b1⟩
      have hB1 := bel_trans hB b1
      clear hB b1 y0 y1 hr
      go_wp2
      go_roundw
      case rel =>
        refine ⟨j + 1, by omega, by go_num, ?_, hB1⟩
        have := kt_succ k0 (fun i => cK (d i)) j
        rw [HKj.out] at this
        rw [this]
        have e2 : cK (d j) = 1 + 5 * L := by unfold cK; rw [HL.out]
        simp only [e2]
        congr 1
        omega
      case measure => simp [intOf]; omega
    · have : j = n := by omega
      subst this
      clear ha
      go_wp2
      go_ret
      exact ⟨ret_int HKj.out.symm, hB⟩
end Go.Proofs.Ytfeabhknkoifeaa
