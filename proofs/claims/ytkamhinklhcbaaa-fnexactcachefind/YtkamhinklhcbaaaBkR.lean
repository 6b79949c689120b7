/- Rows of blocks: what a reader is told; what the law's eqBlockS, toBlockS do. -/
import Derived.Test.YtkamhinklhcbaaaRwC
import Derived.Test.YtkamhinklhcbaaaBk1
namespace Go.Proofs.Ytkamhinklhcbaaa
open Go.RowKit
set_option linter.unusedVariables false

/-- What a block says: where it begins, how many places, the places. -/
structure KD where
  st : Int
  n : Nat
  x : Nat → XD
def bkcells (d : KD) (p : Pl) : List Value := [.int .i64 d.st, .slice p.1 d.n p.2]
def KR (w : World) (a : Option Addr) (n : Nat) (d : Nat → KD) (p : Nat → Pl) : Prop := n ≤ 1048577 ∧ VRow w a (chunks n fun i => bkcells (d i) (p i)) ∧ ∀ i, i < n → IR w (p i).1 (d i).n (d i).x
theorem KR.below {w w' : World} {a : Option Addr} {n : Nat} {d : Nat → KD} {p : Nat → Pl} (h : KR w a n d p) (hb : Below w.heap.size w w') : KR w' a n d p := ⟨h.1, h.2.1.below hb, fun i hi => (h.2.2 i hi).below hb⟩
theorem KR.at {w : World} {a : Option Addr} {n : Nat} {d : Nat → KD} {p : Nat → Pl} (h : KR w a n d p) {i : Nat} (hi : i < n) :
    ∃ b off, a = some ⟨b, off, none⟩ ∧ w.cell? ⟨b, off + i * 2, none⟩ = some (.int .i64 (d i).st) ∧ w.cell? ⟨b, off + i * 2 + 1, none⟩ = some (.slice (p i).1 (d i).n (p i).2) := by
  obtain ⟨b, off, rfl, hc⟩ := h.2.1.chunk (s := 2) (fun i _ => rfl) (by decide) hi
  exact ⟨b, off, rfl, hc 0 _ rfl, hc 1 _ rfl⟩

def EK (d : KD) (p : Pl) (w : World) : Prop := w.ownsRow 0 38 5 (.slice p.1 d.n p.2) d.n (chunks d.n fun i => ic (d.x i))
def QK (p : Pl) (b : Nat) : Prop := blk p = some b
theorem fix_k (d : KD) (p : Pl) : Fix (QK p) (EK d p) := fun w w' k h => owns_sm h k (fun j hj => blk_eq hj)

/-- A row of blocks that is owned, each with its places. -/
def KO (w : World) (a : Option Addr) (c n : Nat) (d : Nat → KD) (p : Nat → Pl) : Prop := Rw w 27 2 a c n n (fun i => bkcells (d i) (p i)) (fun i => QK (p i)) (fun i => EK (d i) (p i))
theorem KO.kr {w : World} {a : Option Addr} {c n : Nat} {d : Nat → KD} {p : Nat → Pl} (h : KO w a c n d p) (hn : n ≤ 1048577) (hx : ∀ i, i < n → (d i).n ≤ 1048577) : KR w a n d p :=
  ⟨by omega, owns_vrow' h.row (by rw [chunks_length (s := 2) n (fun i _ => rfl)]; omega), fun i hi => IOw.ir (h.el i hi) (hx i hi)⟩
abbrev KTw (w : World) (lo : Nat) (a : Option Addr) (c n k : Nat) (d : Nat → KD) (p : Nat → Pl) (z : Nat → List Value) : Prop := Tw w lo 27 2 a c n k (fun i => bkcells (d i) (p i)) z (fun i => QK (p i)) (fun i => EK (d i) (p i))
def k00 : List Value := [.int .i64 0, .slice none 0 0]

theorem block_put {w w2 : World} {lo g c n k : Nat} {d : Nat → KD} {p : Nat → Pl} {z : Nat → List Value} (h : KTw w lo (some ⟨g, 0, none⟩) c n k d p z) (hz : ∀ i, i < n → (z i).length = 2) (hk : k < n) (b : Below w.heap.size w w2) (hlo : lo ≤ w.heap.size) {a2 : Option Addr} {c2 : Nat} (o2 : IOw w2 w.heap.size a2 c2 (d k).n (d k).x) :
    KTw ((w2.setCell ⟨g, k * 2, none⟩ (.int .i64 (d k).st)).setCell ⟨g, k * 2 + 1, none⟩ (.slice a2 (d k).n c2)) lo (some ⟨g, 0, none⟩) c n (k + 1) d (fun i => if i = k then (a2, c2) else p i) z := by
  have hr := owns_below h.r.row b
  have hf : ∀ i, i < n → ((fun i => if i < k then bkcells (d i) (p i) else z i) i).length = 2 := fun i hi => by dsimp only; split; rfl; exact hz i hi
  have hs := store2 hr hf hk (.int .i64 (d k).st) (.slice a2 (d k).n c2)
  have on : Only w2 ((w2.setCell ⟨g, k * 2, none⟩ (.int .i64 (d k).st)).setCell ⟨g, k * 2 + 1, none⟩ (.slice a2 (d k).n c2)) (fun b => b = g) := ((Only.refl w2 (fun b => b = g)).setCell ⟨g, k * 2, none⟩ _ rfl).setCell ⟨g, k * 2 + 1, none⟩ _ rfl
  refine (h.step b hlo on hs (E' := EK (d k) (a2, c2)) (owns_base o2 (Nat.zero_le _)) (fix_k _ _) (fun x hx => World.ownsRow.lt o2 x (blk_own hx))).congr (fun i hi => ?_) (fun i hi => ?_) (fun i hi => ?_)
  all_goals
    by_cases e : i = k
    · subst e; simp [bkcells]
    · simp [e]

set_option maxRecDepth 100000 in
set_option maxHeartbeats 1000000 in
theorem eqBlockS_any (a b : Option Addr) (ca cb n : Nat) (d : Nat → KD) (p p' : Nat → Pl) (w : World) (ha : KR w a n d p) (hb : KR w b n d p') :
    Calls Try.prog 27 #[.slice a n ca, .slice b n cb] w fun e w' => e = .returned (.bool true) ∧ Below w.heap.size w w' := by
  have hl : n ≤ 1048577 := ha.1
  go_enter Try.func27, Try.ntmps27
  go_wp2
  go_loopw [5] (fun i wr => ∃ k : Nat, k ≤ n ∧ i = .int .i64 k ∧ KR wr a n d p ∧ KR wr b n d p' ∧ Below w.heap.size w wr) (fun i _ => n - (intOf i).toNat)
  case atStart => exact ⟨0, Nat.zero_le _, rfl, ha, hb, Below.refl _ _⟩
  case round =>
    obtain ⟨k, hk, rfl, hma, hmb, hB⟩ := hrel
    by_cases hlt : k < n
    · have hi : (k : Int) < (n : Int) := by omega
      obtain ⟨ba, oa, rfl, y0, y1⟩ := hma.at hlt
      obtain ⟨bb, ob, rfl, z0, z1⟩ := hmb.at hlt
      have ra : IR wr.drew _ _ _ := (hma.2.2 k hlt).below (below_drewN (Below.refl _ _) 1)
      have rb : IR wr.drew _ _ _ := (hmb.2.2 k hlt).below (below_drewN (Below.refl _ _) 1)
      clear ha hb
      go_wp2_with fail
      go_region_with (go_at_call 32; refine (eqBlock_any _ _ _ _ _ _ (d k).x _ ra rb).mono ?_; rintro e w1 ⟨rfl, b1⟩)
      all_goals
        have hma1 := hma.below (bel_undrew b1)
        have hmb1 := hmb.below (bel_undrew b1)
        have hB1 := bel_trans hB (bel_undrew b1)
        clear hma hmb hB b1 y0 y1 z0 z1 ra rb
        go_wp2
        go_roundw
        case rel => exact ⟨k + 1, by omega, by go_num, hma1, hmb1, hB1⟩
        case measure => simp [intOf]; omega
    · clear ha hb hma hmb
      go_wp2
      go_ret
      exact ⟨rfl, hB⟩

theorem info_block2 : (Try.prog.info? 27).map (fun i => (i.zero, i.size, i.bytes)) = some (some (.agg #[.int .i64 0, .slice none 0 0]), 2, 32) := by kernel_rfl

set_option maxRecDepth 100000 in
set_option maxHeartbeats 1000000 in
theorem toBlockS_own (a : Option Addr) (ca n : Nat) (d : Nat → KD) (p : Nat → Pl) (w : World) (hn : n ≤ 1048576) (hx : ∀ i, i < n → (d i).n ≤ 1048576) (ha : KR w a n d p) :
    Calls Try.prog 25 #[.slice a n ca] w fun e w' => ∃ a' c' p', e = .returned (.slice a' n c') ∧ KO w' a' c' n d p' ∧ (∀ b, RS a' c' n (fun i => QK (p' i)) b → w.heap.size ≤ b) ∧ Below w.heap.size w w' := by
  obtain ⟨i0, hi, hz0, hz1, hz2⟩ := info_parts info_block2
  have HX : Hid (∀ i, i < n → (d i).n ≤ 1048576) := hx
  clear hx
  go_enter Try.func25, Try.ntmps25
  go_wp2_with (at_make; refine wpList_make_full _ rfl (.tmp 6) (.tmp 6) 24 rfl w.heap.size 27 i0 (.agg #[.int .i64 0, .slice none 0 0]) 2 Try.underlying24 hi hz0 hz1 .i64 .i64 _ _ n rfl rfl rfl rfl (by rw [hz2]; omega) (by unfold maxLen; omega) (Nat.le_refl _) ?_)
  intro w1 ho hg
  have hb1 : Below w.heap.size w w1 := (Below.refl _ _).grown hg (Nat.le_refl _) (fun k hk => by cases hk)
  rw [made_chunks _ 2 n rfl (by decide)] at ho
  have F0 : KTw w1 w.heap.size (some ⟨w.heap.size, 0, none⟩) n n 0 d (fun _ => (none, 0)) (fun _ => k00) := Tw.start (owns_base ho (Nat.zero_le _))
  clear hg ho
  go_wp2
  go_loopw [4] (fun i wr => ∃ k : Nat, k ≤ n ∧ i = .int .i64 k ∧ ∃ p', KTw wr w.heap.size (some ⟨w.heap.size, 0, none⟩) n n k d p' (fun _ => k00) ∧ Below w.heap.size w wr) (fun i _ => n - (intOf i).toNat)
  case atStart => exact ⟨0, Nat.zero_le _, rfl, _, F0, hb1⟩
  case round =>
    obtain ⟨k, hk, rfl, p', hF, hbr⟩ := hrel
    clear F0 hb1
    by_cases hkn : k < n
    · have hi' : (k : Int) < (n : Int) := by omega
      have har := ha.below hbr
      obtain ⟨b, off, rfl, y0, y1⟩ := har.at hkn
      have hrow := har.2.2 k hkn
      go_wp2_with fail
      refine (toBlock_any (d k).st (p k).1 (p k).2 (d k).n (d k).x _ (HX.out k hkn) hrow).mono ?_
      rintro e w2 ⟨a2, c2, rfl, o2, b2⟩
      have R : Hid _ := block_put hF (fun i _ => rfl) hkn b2 hbr.size o2
      have hr2 := owns_below hF.r.row b2
      have B : Hid _ := bel_setCell (bel_setCell (bel_trans hbr b2) ⟨w.heap.size, k * 2, none⟩ (.int .i64 (d k).st) (Nat.le_refl _)) ⟨w.heap.size, k * 2 + 1, none⟩ (.slice a2 (d k).n c2) (Nat.le_refl _)
      have q0 := hr2.frozenAt (k * 2)
      have q1 := hr2.frozenAt (k * 2 + 1)
      obtain ⟨u0, g0⟩ := cellN hr2 hkn (t := 0) (by decide)
      obtain ⟨u1, g1⟩ := cellN hr2 hkn (t := 1) (by decide)
      rw [Nat.add_zero] at g0
      clear hF har y0 y1 hrow hr2 o2 b2 hbr ha
      go_wp2
      go_roundw
      case rel => exact ⟨k + 1, by omega, by go_num, _, R.out, B.out⟩
      case measure => simp [intOf]; omega
    · have : k = n := by omega
      subst this
      have R : Hid (KO wr (some ⟨w.heap.size, 0, none⟩) k k d p' ∧ ∀ b, RS (some ⟨w.heap.size, 0, none⟩) k k (fun i => QK (p' i)) b → w.heap.size ≤ b) := ⟨hF.all, hF.low (fun g hg => by simp [blk] at hg; omega)⟩
      clear hF ha
      go_wp2
      go_ret
      exact ⟨_, _, p', rfl, R.out.1, R.out.2, hbr⟩
end Go.Proofs.Ytkamhinklhcbaaa
