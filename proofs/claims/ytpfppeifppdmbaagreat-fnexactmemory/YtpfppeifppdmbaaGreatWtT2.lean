/- WtT and WtT2: see the heads of the parts. -/
import Derived.Test.YtpfppeifppdmbaaGreatPgI
/- What the law's toFrameS, toHomeS, toSenderS, toReceiverS lay: rows that are owned. -/
namespace Go.Proofs.YtpfppeifppdmbaaGreat
open Go.RowKit
set_option linter.unusedVariables false


set_option maxRecDepth 100000 in
set_option maxHeartbeats 2000000 in
theorem toHomeS_own (a : Option Addr) (ca n : Nat) (d : Nat → HD) (p : Nat → HP) (w : World) (hn : n ≤ 1048576) (hx : ∀ i, i < n → (d i).xs.length ≤ 1048576 ∧ (d i).bs.length ≤ 1048576 ∧ (d i).ws.length ≤ 1048576) (ha : HR2 w a n d p) :
    Calls Tryz.prog 50 #[.slice a n ca] w fun e w' => ∃ a' c' p', e = .returned (.slice a' n c') ∧ HOw w' a' c' n d p' ∧ (∀ b, RS a' c' n (fun i => QH (p' i)) b → w.heap.size ≤ b) ∧ Below w.heap.size w w' := by
  obtain ⟨i0, hi, hz0, hz1, hz2⟩ := info_parts info_home2
  have HX : Hid (∀ i, i < n → (d i).xs.length ≤ 1048576 ∧ (d i).bs.length ≤ 1048576 ∧ (d i).ws.length ≤ 1048576) := hx
  clear hx
  go_enter Tryz.func50, Tryz.ntmps50
  go_wp2_with (at_make; refine wpList_make_full _ rfl (.tmp 6) (.tmp 6) 63 rfl w.heap.size 93 i0 (.agg #[.slice none 0 0, .int .i64 0, .slice none 0 0, .bool false, .int .i64 0, .bool false, .int .i64 0, .slice none 0 0]) 8 Tryz.underlying63 hi hz0 hz1 .i64 .i64 _ _ n rfl rfl rfl rfl (by rw [hz2]; omega) (by unfold maxLen; omega) (Nat.le_refl _) ?_)
  intro w1 ho hg
  have hb1 : Below w.heap.size w w1 := (Below.refl _ _).grown hg (Nat.le_refl _) (fun k hk => by cases hk)
  rw [made_chunks _ 8 n rfl (by decide)] at ho
  have F0 : HTw w1 w.heap.size (some ⟨w.heap.size, 0, none⟩) n n 0 d (fun _ => ⟨(none, 0), (none, 0), (none, 0)⟩) (fun _ => [.slice none 0 0, .int .i64 0, .slice none 0 0, .bool false, .int .i64 0, .bool false, .int .i64 0, .slice none 0 0]) := Tw.start (owns_base ho (Nat.zero_le _))
  clear hg ho
  go_wp2
  go_loopw [4] (fun i wr => ∃ k : Nat, k ≤ n ∧ i = .int .i64 k ∧ ∃ p', HTw wr w.heap.size (some ⟨w.heap.size, 0, none⟩) n n k d p' (fun _ => [.slice none 0 0, .int .i64 0, .slice none 0 0, .bool false, .int .i64 0, .bool false, .int .i64 0, .slice none 0 0]) ∧ Below w.heap.size w wr) (fun i _ => n - (intOf i).toNat)
  case atStart => exact ⟨0, Nat.zero_le _, rfl, _, F0, hb1⟩
  case round =>
    obtain ⟨k, hk, rfl, p', hF, hbr⟩ := hrel
    clear F0 hb1
    by_cases hkn : k < n
    · have hi' : (k : Int) < (n : Int) := by omega
      have har := ha.below hbr
      obtain ⟨b, off, rfl, y0, y1, y2, y3, y4, y5, y6, y7⟩ := har.at hkn
      obtain ⟨h1, h2, h3⟩ := har.2.2 k hkn
      go_wp2_with fail
      refine (toHome_any (d k).ow (d k).wh (d k).ak (d k).bz (d k).wo (p k).l.1 (p k).r.1 (p k).q.1 (p k).l.2 (p k).r.2 (p k).q.2 (d k).xs (d k).bs (d k).ws _ (HX.out k hkn).1 (HX.out k hkn).2.1 (HX.out k hkn).2.2 h1 h2 h3).mono ?_
      rintro e w2 ⟨al, cl, ar, cr, aq, cq, rfl, o2, r2, q2, b2⟩
      have R : Hid _ := home_put hF (fun i _ => rfl) hkn b2 hbr.size o2 r2 q2
      have hr2 := owns_below hF.r.row b2
      have B : Hid _ := w8_bel (bel_trans hbr b2) (Nat.le_refl _) (k * 8) (.slice al (d k).xs.length cl) (.int .i64 (d k).ow) (.slice ar (d k).bs.length cr) (.bool (d k).bz) (.int .i64 (d k).wh) (.bool (d k).wo) (.int .i64 (d k).ak) (.slice aq (d k).ws.length cq)
      have z : ∀ t, w2.frozen? ⟨w.heap.size, t, none⟩ = false := fun t => hr2.frozenAt t
      obtain ⟨u0, g0⟩ := cellN hr2 hkn (t := 0) (by decide)
      obtain ⟨u1, g1⟩ := cellN hr2 hkn (t := 1) (by decide)
      obtain ⟨u2, g2⟩ := cellN hr2 hkn (t := 2) (by decide)
      obtain ⟨u3, g3⟩ := cellN hr2 hkn (t := 3) (by decide)
      obtain ⟨u4, g4⟩ := cellN hr2 hkn (t := 4) (by decide)
      obtain ⟨u5, g5⟩ := cellN hr2 hkn (t := 5) (by decide)
      obtain ⟨u6, g6⟩ := cellN hr2 hkn (t := 6) (by decide)
      obtain ⟨u7, g7⟩ := cellN hr2 hkn (t := 7) (by decide)
      rw [Nat.add_zero] at g0
      clear hF har y0 y1 y2 y3 y4 y5 y6 y7 h1 h2 h3 hr2 o2 r2 q2 b2 hbr ha
      go_wp2
      go_roundw
      case rel => exact ⟨k + 1, by omega, by go_num, _, R.out, B.out⟩
      case measure => simp [intOf]; omega
    · have : k = n := by omega
      subst this
      have R : Hid (HOw wr (some ⟨w.heap.size, 0, none⟩) k k d p' ∧ ∀ b, RS (some ⟨w.heap.size, 0, none⟩) k k (fun i => QH (p' i)) b → w.heap.size ≤ b) := ⟨hF.all, hF.low (fun g hg => by simp [blk] at hg; omega)⟩
      clear hF ha
      go_wp2
      go_ret
      exact ⟨_, _, p', rfl, R.out.1, R.out.2, hbr⟩

set_option maxRecDepth 100000 in
set_option maxHeartbeats 2000000 in
theorem toSenderS_own (a : Option Addr) (ca n : Nat) (b : Nat → Int) (y : Nat → List Say) (p : Nat → Pl) (ms : Nat → List M) (w : World) (hn : n ≤ 1048576) (hx : ∀ i, i < n → (y i).length ≤ 1048576 ∧ ∀ s ∈ y i, s.2.2.2.length ≤ 1048576) (ha : SR w a n b y p ms) :
    Calls Tryz.prog 51 #[.slice a n ca] w fun e w' => ∃ a' c' p' ms', e = .returned (.slice a' n c') ∧ SO w' a' c' n b p' ms' ∧ (∀ i, i < n → (ms' i).map M.say = y i) ∧ (∀ b, RS a' c' n (fun i => QS (p' i) (ms' i)) b → w.heap.size ≤ b) ∧ Below w.heap.size w w' := by
  obtain ⟨i0, hi, hz0, hz1, hz2⟩ := info_parts info_sender2
  have HX : Hid (∀ i, i < n → (y i).length ≤ 1048576 ∧ ∀ s ∈ y i, s.2.2.2.length ≤ 1048576) := hx
  clear hx
  go_enter Tryz.func51, Tryz.ntmps51
  go_wp2_with (at_make; refine wpList_make_full _ rfl (.tmp 6) (.tmp 6) 64 rfl w.heap.size 115 i0 (.agg #[.int .i64 0, .slice none 0 0]) 2 Tryz.underlying64 hi hz0 hz1 .i64 .i64 _ _ n rfl rfl rfl rfl (by rw [hz2]; omega) (by unfold maxLen; omega) (Nat.le_refl _) ?_)
  intro w1 ho hg
  have hb1 : Below w.heap.size w w1 := (Below.refl _ _).grown hg (Nat.le_refl _) (fun k hk => by cases hk)
  rw [made_chunks _ 2 n rfl (by decide)] at ho
  have F0 : STw w1 w.heap.size (some ⟨w.heap.size, 0, none⟩) n n 0 b (fun _ => (none, 0)) (fun _ => []) (fun _ => s0 0) := Tw.start (owns_base ho (Nat.zero_le _))
  clear hg ho
  go_wp2
  go_loopw [4] (fun i wr => ∃ k : Nat, k ≤ n ∧ i = .int .i64 k ∧ ∃ p' ms', STw wr w.heap.size (some ⟨w.heap.size, 0, none⟩) n n k b p' ms' (fun _ => s0 0) ∧ (∀ i, i < k → (ms' i).map M.say = y i) ∧ Below w.heap.size w wr) (fun i _ => n - (intOf i).toNat)
  case atStart => exact ⟨0, Nat.zero_le _, rfl, _, _, F0, fun i hi => absurd hi (Nat.not_lt_zero i), hb1⟩
  case round =>
    obtain ⟨k, hk, rfl, p', ms', hF, hY, hbr⟩ := hrel
    have HY : Hid (∀ i, i < k → (ms' i).map M.say = y i) := hY
    clear hY
    clear F0 hb1
    by_cases hkn : k < n
    · have hi' : (k : Int) < (n : Int) := by omega
      have har := ha.below hbr
      obtain ⟨bl, off, rfl, y0, y1⟩ := har.at hkn
      obtain ⟨hm, hE⟩ := har.2.2 k hkn
      have HE : Hid ((ms k).map M.say = y k) := hE
      have HL : (y k).length = (ms k).length := by have := congrArg List.length hE; simpa using this.symm
      have hXk := HX.out k hkn
      have l1 : (ms k).length ≤ 1048576 := by rw [← HL]; exact hXk.1
      have l2 : ∀ m ∈ ms k, m.xs.length ≤ 1048576 := fun m hm' => by
        have h1 : m.say ∈ y k := by rw [← hE]; exact List.mem_map_of_mem hm'
        have := hXk.2 _ h1
        simpa [M.say] using this
      have HLL : Hid ((y k).length = (ms k).length) := HL
      rw [HL] at y1
      clear hE hXk HL
      go_wp2_with fail
      refine (toSender_any (b k) (p k).1 (p k).2 (ms k) _ l1 l2 hm).mono ?_
      rintro e w2 ⟨a2, c2, ds, rfl, hds, o2, b2⟩
      have hl2 : ds.length = (ms k).length := by have := congrArg List.length hds; simpa using this
      have R : Hid _ := sender_put hF (fun i _ => rfl) hkn b2 hbr.size o2 hl2
      have HY2 : Hid (∀ i, i < k + 1 → ((fun i => if i = k then ds else ms' i) i).map M.say = y i) := fun i hi => by
        by_cases e : i = k
        · subst e; simp only [if_pos]; exact hds.trans HE.out
        · simp only [if_neg e]; exact HY.out i (by omega)
      clear hl2
      have hr2 := owns_below hF.r.row b2
      have B : Hid _ := bel_setCell (bel_setCell (bel_trans hbr b2) ⟨w.heap.size, k * 2, none⟩ (.int .i64 (b k)) (Nat.le_refl _)) ⟨w.heap.size, k * 2 + 1, none⟩ (.slice a2 (ms k).length c2) (Nat.le_refl _)
      have q0 := hr2.frozenAt (k * 2)
      have q1 := hr2.frozenAt (k * 2 + 1)
      obtain ⟨u0, g0⟩ := cellN hr2 hkn (t := 0) (by decide)
      obtain ⟨u1, g1⟩ := cellN hr2 hkn (t := 1) (by decide)
      rw [Nat.add_zero] at g0
      clear hF har y0 y1 hm hr2 o2 b2 hbr ha l1 l2 hds
      go_wp2
      go_roundw
      case rel => exact ⟨k + 1, by omega, by go_num, _, _, R.out, HY2.out, B.out⟩
      case measure => simp [intOf]; omega
    · have : k = n := by omega
      subst this
      have R : Hid (SO wr (some ⟨w.heap.size, 0, none⟩) k k b p' ms' ∧ ∀ b, RS (some ⟨w.heap.size, 0, none⟩) k k (fun i => QS (p' i) (ms' i)) b → w.heap.size ≤ b) := ⟨hF.all, hF.low (fun g hg => by simp [blk] at hg; omega)⟩
      clear hF ha
      go_wp2
      go_ret
      exact ⟨_, _, p', ms', rfl, R.out.1, HY.out, R.out.2, hbr⟩

set_option maxRecDepth 100000 in
set_option maxHeartbeats 1000000 in
theorem toReceiverS_own (a : Option Addr) (ca n : Nat) (g : Nat → Int) (w : World) (hn : n ≤ 1048576) (ha : GR w a n g) :
    Calls Tryz.prog 52 #[.slice a n ca] w fun e w' => ∃ a' c', e = .returned (.slice a' n c') ∧ GO w' a' c' n g ∧ (∀ b, blk (a', c') = some b → w.heap.size ≤ b) ∧ Below w.heap.size w w' := by
  obtain ⟨i0, hi, hz0, hz1, hz2⟩ := info_parts info_receiver2
  go_enter Tryz.func52, Tryz.ntmps52
  go_wp2_with (at_make; refine wpList_make_full _ rfl (.tmp 6) (.tmp 6) 65 rfl w.heap.size 118 i0 (.agg #[.int .i64 0]) 1 Tryz.underlying65 hi hz0 hz1 .i64 .i64 _ _ n rfl rfl rfl rfl (by rw [hz2]; omega) (by unfold maxLen; omega) (Nat.le_refl _) ?_)
  intro w1 ho hg
  have hb1 : Below w.heap.size w w1 := (Below.refl _ _).grown hg (Nat.le_refl _) (fun k hk => by cases hk)
  have e0 := made_chunks #[.int .i64 0] 1 n rfl (by decide)
  rw [Nat.mul_one] at e0
  rw [e0] at ho
  have F0 : w1.ownsRow w.heap.size 118 1 (.slice (some ⟨w.heap.size, 0, none⟩) n n) n (chunks n fun i => if i < 0 then gcells (g i) else gcells 0) := by simpa [gcells] using ho
  clear hg ho
  go_wp2
  go_loopw [4] (fun i wr => ∃ k : Nat, k ≤ n ∧ i = .int .i64 k ∧ wr.ownsRow w.heap.size 118 1 (.slice (some ⟨w.heap.size, 0, none⟩) n n) n (chunks n fun i => if i < k then gcells (g i) else gcells 0) ∧ Below w.heap.size w wr) (fun i _ => n - (intOf i).toNat)
  case atStart => exact ⟨0, Nat.zero_le _, rfl, F0, hb1⟩
  case round =>
    obtain ⟨k, hk, rfl, hF, hbr⟩ := hrel
    clear F0 hb1
    by_cases hkn : k < n
    · have hi' : (k : Int) < (n : Int) := by omega
      have har := ha.below hbr
      obtain ⟨b, off, rfl, y0⟩ := har.at hkn
      go_wp2_with fail
      refine (toReceiver_any (g k) _).mono ?_
      rintro e w2 ⟨rfl, b2⟩
      have hr2 := owns_below hF b2
      have R : Hid _ := owns_congr (store1 hr2 (fun i _ => by split <;> rfl) hkn (.int .i64 (g k))) (far_step (z := gcells 0) (m := fun i => gcells (g i)) (m' := fun i => gcells (g i)) (fun i hi => rfl) rfl)
      have B : Hid _ := bel_setCell (bel_trans hbr b2) ⟨w.heap.size, k, none⟩ (.int .i64 (g k)) (Nat.le_refl _)
      have q0 := hr2.frozenAt k
      obtain ⟨u0, g0⟩ := cellN hr2 hkn (t := 0) (by decide)
      rw [Nat.add_zero, Nat.mul_one] at g0
      clear hF har y0 hr2 b2 hbr ha
      go_wp2
      go_roundw
      case rel => exact ⟨k + 1, by omega, by go_num, R.out, B.out⟩
      case measure => simp [intOf]; omega
    · have : k = n := by omega
      subst this
      have R : Hid (GO wr (some ⟨w.heap.size, 0, none⟩) k k g ∧ ∀ b, blk (some ⟨w.heap.size, 0, none⟩, k) = some b → w.heap.size ≤ b) := ⟨owns_base (owns_congr (g := fun i => gcells (g i)) hF (fun i hi => by rw [if_pos hi])) (Nat.zero_le _), fun b hb => by simp [blk] at hb; omega⟩
      clear hF ha
      go_wp2
      go_ret
      exact ⟨_, _, rfl, R.out.1, R.out.2, hbr⟩
end Go.Proofs.YtpfppeifppdmbaaGreat

/- What the law's toNode lays: a node that is owned. -/
namespace Go.Proofs.YtpfppeifppdmbaaGreat
open Go.RowKit
set_option linter.unusedVariables false

set_option maxRecDepth 100000 in
set_option maxHeartbeats 4000000 in
theorem toNode_own (d : ND) (p : NP) (w : World) (hd : Nsm d) (hR : NR w d p) :
    Calls Tryz.prog 28 #[.agg (ncells d p)] w fun e w' => ∃ p', e = .returned (.agg (ncells d p')) ∧ NOw w' d p' ∧ (∀ b, NBs d p' b → w.heap.size ≤ b) ∧ Below w.heap.size w w' := by
  have B := bel_alloc (bel_alloc (bel_alloc (Below.refl w.heap.size w) (.cells (ncells d p) 54)) (.cells #[.int .i64 0, .slice none 0 0, .slice none 0 0, .slice none 0 0, .slice none 0 0] 67)) (.cells #[.int .i64 d.id, .slice none 0 0, .slice none 0 0, .slice none 0 0, .slice none 0 0] 67)
  obtain ⟨XA, XR, XO⟩ := Box.tri w (ncells d p) #[.int .i64 0, .slice none 0 0, .slice none 0 0, .slice none 0 0, .slice none 0 0] #[.int .i64 d.id, .slice none 0 0, .slice none 0 0, .slice none 0 0, .slice none 0 0] 54 67 67
  have hR0 := hR.below B
  have HR : Hid (NR w d p) := hR
  have HD : Hid (Nsm d) := hd
  clear hR hd
  go_enter Tryz.func28, Tryz.ntmps28
  go_wp2_with fail
  refine (toFrameS_own _ _ d.nf d.f p.fp _ HD.out.f.1 HD.out.f.2 hR0.f).mono ?_
  rintro e w1 ⟨a1, c1, p1, rfl, r1, l1, b1⟩
  have hz1 : w.heap.size + 3 ≤ w1.heap.size := by have := b1.size; simp at this; omega
  replace XA := XA.below b1
  replace XR := XR.below b1
  replace XO := XO.below b1
  replace B := bel_trans B b1
  have L1 : Hid (∀ b, RS a1 c1 d.nf (fun i => QF (p1 i)) b → w.heap.size + 3 ≤ b ∧ b < w1.heap.size) := fun b hb => ⟨by have := l1 b hb; simp at this; omega, Rw.slt r1 hb⟩
  have R1 : Hid (∀ wz, Ab (w.heap.size + 3) w1 wz → w1.heap.size ≤ wz.heap.size → FO wz a1 c1 d.nf d.f p1) := fun wz h hsz => Rw.sm r1 (ab_sm h hsz (fun b hb => by have := L1.out b hb; omega))
  clear b1 r1 l1 hR0
  have XA1 := XA.far ⟨w.heap.size + 1 + 1, 1, none⟩ (.slice a1 d.nf c1) (by first | omega | (simp; done) | (simp; omega))
  have XR1 := XR.far ⟨w.heap.size + 1 + 1, 1, none⟩ (.slice a1 d.nf c1) (by first | omega | (simp; done) | (simp; omega))
  have XO1 : Box (w1.setCell ⟨w.heap.size + 1 + 1, 1, none⟩ (.slice a1 d.nf c1)) (w.heap.size + 1 + 1) #[.int .i64 d.id, .slice a1 d.nf c1, .slice none 0 0, .slice none 0 0, .slice none 0 0] 67 := heap_setCell_same _ _ 1 _ _ _ XO
  have B1 := bel_setCell B ⟨w.heap.size + 1 + 1, 1, none⟩ (.slice a1 d.nf c1) (by first | omega | (simp; done) | (simp; omega))
  have A1 : Hid (Ab (w.heap.size + 3) w1 (w1.setCell ⟨w.heap.size + 1 + 1, 1, none⟩ (.slice a1 d.nf c1))) := (Ab.refl _ _).set _ _ (by first | omega | (simp; done) | (simp; omega))
  have hR1 := HR.out.below B1
  obtain ⟨x0, x1, x2, x3, x4, zx⟩ := XA.at5
  obtain ⟨o0, o1, o2, o3, o4, zo⟩ := XO.at5
  have fz := XO.frozen 1
  go_wp2_with fail
  refine (toHomeS_own _ _ d.nh d.h p.hp _ HD.out.h.1 HD.out.h.2 hR1.h).mono ?_
  rintro e w2 ⟨a2, c2, p2, rfl, r2, l2, b2⟩
  have hz2 : w1.heap.size ≤ w2.heap.size := by have := b2.size; simp at this; omega
  replace XA := XA1.below b2
  replace XR := XR1.below b2
  replace XO := XO1.below b2
  replace B := bel_trans B1 b2
  replace A1 : Hid (Ab (w.heap.size + 3) w1 w2) := A1.out.below (by first | omega | (simp; done) | (simp; omega)) b2
  clear XA1 XR1 XO1 B1 hR1 x0 x1 x2 x3 x4 zx o0 o1 o2 o3 o4 zo fz
  have L2 : Hid (∀ b, RS a2 c2 d.nh (fun i => QH (p2 i)) b → w1.heap.size ≤ b ∧ b < w2.heap.size) := fun b hb => ⟨by have := l2 b hb; simp at this; omega, Rw.slt r2 hb⟩
  have R2 : Hid (∀ wz, Ab (w.heap.size + 3) w2 wz → w2.heap.size ≤ wz.heap.size → HOw wz a2 c2 d.nh d.h p2) := fun wz h hsz => Rw.sm r2 (ab_sm h hsz (fun b hb => by have := L2.out b hb; omega))
  clear b2 r2 l2
  have XA2 := XA.far ⟨w.heap.size + 1 + 1, 2, none⟩ (.slice a2 d.nh c2) (by first | omega | (simp; done) | (simp; omega))
  have XR2 := XR.far ⟨w.heap.size + 1 + 1, 2, none⟩ (.slice a2 d.nh c2) (by first | omega | (simp; done) | (simp; omega))
  have XO2 : Box (w2.setCell ⟨w.heap.size + 1 + 1, 2, none⟩ (.slice a2 d.nh c2)) (w.heap.size + 1 + 1) #[.int .i64 d.id, .slice a1 d.nf c1, .slice a2 d.nh c2, .slice none 0 0, .slice none 0 0] 67 := heap_setCell_same _ _ 2 _ _ _ XO
  have B2 := bel_setCell B ⟨w.heap.size + 1 + 1, 2, none⟩ (.slice a2 d.nh c2) (by first | omega | (simp; done) | (simp; omega))
  replace A1 : Hid (Ab (w.heap.size + 3) w1 (w2.setCell ⟨w.heap.size + 1 + 1, 2, none⟩ (.slice a2 d.nh c2))) := A1.out.set _ _ (by first | omega | (simp; done) | (simp; omega))
  have A2 : Hid (Ab (w.heap.size + 3) w2 (w2.setCell ⟨w.heap.size + 1 + 1, 2, none⟩ (.slice a2 d.nh c2))) := (Ab.refl _ _).set _ _ (by first | omega | (simp; done) | (simp; omega))
  have hR2 := HR.out.below B2
  obtain ⟨x0, x1, x2, x3, x4, zx⟩ := XA.at5
  obtain ⟨o0, o1, o2, o3, o4, zo⟩ := XO.at5
  have fz := XO.frozen 2
  go_wp2_with fail
  refine (toSenderS_own _ _ d.no d.b d.y p.op p.ms _ HD.out.o.1 HD.out.o.2 hR2.o).mono ?_
  rintro e w3 ⟨a3, c3, p3, m3, rfl, r3, y3, l3, b3⟩
  have HY : Hid (∀ i, i < d.no → (m3 i).map M.say = d.y i) := y3
  clear y3
  have hz3 : w2.heap.size ≤ w3.heap.size := by have := b3.size; simp at this; omega
  replace XA := XA2.below b3
  replace XR := XR2.below b3
  replace XO := XO2.below b3
  replace B := bel_trans B2 b3
  replace A1 : Hid (Ab (w.heap.size + 3) w1 w3) := A1.out.below (by first | omega | (simp; done) | (simp; omega)) b3
  replace A2 : Hid (Ab (w.heap.size + 3) w2 w3) := A2.out.below (by first | omega | (simp; done) | (simp; omega)) b3
  clear XA2 XR2 XO2 B2 hR2 x0 x1 x2 x3 x4 zx o0 o1 o2 o3 o4 zo fz
  have L3 : Hid (∀ b, RS a3 c3 d.no (fun i => QS (p3 i) (m3 i)) b → w2.heap.size ≤ b ∧ b < w3.heap.size) := fun b hb => ⟨by have := l3 b hb; simp at this; omega, Rw.slt r3 hb⟩
  have R3 : Hid (∀ wz, Ab (w.heap.size + 3) w3 wz → w3.heap.size ≤ wz.heap.size → SO wz a3 c3 d.no d.b p3 m3) := fun wz h hsz => Rw.sm r3 (ab_sm h hsz (fun b hb => by have := L3.out b hb; omega))
  clear b3 r3 l3
  have XA3 := XA.far ⟨w.heap.size + 1 + 1, 3, none⟩ (.slice a3 d.no c3) (by first | omega | (simp; done) | (simp; omega))
  have XR3 := XR.far ⟨w.heap.size + 1 + 1, 3, none⟩ (.slice a3 d.no c3) (by first | omega | (simp; done) | (simp; omega))
  have XO3 : Box (w3.setCell ⟨w.heap.size + 1 + 1, 3, none⟩ (.slice a3 d.no c3)) (w.heap.size + 1 + 1) #[.int .i64 d.id, .slice a1 d.nf c1, .slice a2 d.nh c2, .slice a3 d.no c3, .slice none 0 0] 67 := heap_setCell_same _ _ 3 _ _ _ XO
  have B3 := bel_setCell B ⟨w.heap.size + 1 + 1, 3, none⟩ (.slice a3 d.no c3) (by first | omega | (simp; done) | (simp; omega))
  replace A1 : Hid (Ab (w.heap.size + 3) w1 (w3.setCell ⟨w.heap.size + 1 + 1, 3, none⟩ (.slice a3 d.no c3))) := A1.out.set _ _ (by first | omega | (simp; done) | (simp; omega))
  replace A2 : Hid (Ab (w.heap.size + 3) w2 (w3.setCell ⟨w.heap.size + 1 + 1, 3, none⟩ (.slice a3 d.no c3))) := A2.out.set _ _ (by first | omega | (simp; done) | (simp; omega))
  have A3 : Hid (Ab (w.heap.size + 3) w3 (w3.setCell ⟨w.heap.size + 1 + 1, 3, none⟩ (.slice a3 d.no c3))) := (Ab.refl _ _).set _ _ (by first | omega | (simp; done) | (simp; omega))
  have hR3 := HR.out.below B3
  obtain ⟨x0, x1, x2, x3, x4, zx⟩ := XA.at5
  obtain ⟨o0, o1, o2, o3, o4, zo⟩ := XO.at5
  have fz := XO.frozen 3
  go_wp2_with fail
  refine (toReceiverS_own _ _ d.ni d.g _ HD.out.i hR3.i).mono ?_
  rintro e w4 ⟨a4, c4, rfl, r4, l4, b4⟩
  have hz4 : w3.heap.size ≤ w4.heap.size := by have := b4.size; simp at this; omega
  replace XA := XA3.below b4
  replace XR := XR3.below b4
  replace XO := XO3.below b4
  replace B := bel_trans B3 b4
  replace A1 : Hid (Ab (w.heap.size + 3) w1 w4) := A1.out.below (by first | omega | (simp; done) | (simp; omega)) b4
  replace A2 : Hid (Ab (w.heap.size + 3) w2 w4) := A2.out.below (by first | omega | (simp; done) | (simp; omega)) b4
  replace A3 : Hid (Ab (w.heap.size + 3) w3 w4) := A3.out.below (by first | omega | (simp; done) | (simp; omega)) b4
  clear XA3 XR3 XO3 B3 hR3 x0 x1 x2 x3 x4 zx o0 o1 o2 o3 o4 zo fz
  have L4 : Hid (∀ b, blk (a4, c4) = some b → w3.heap.size ≤ b ∧ b < w4.heap.size) := fun b hb => ⟨by have := l4 b hb; simp at this; omega, GO.lt r4 hb⟩
  have R4 : Hid (∀ wz, Ab (w.heap.size + 3) w4 wz → w4.heap.size ≤ wz.heap.size → GO wz a4 c4 d.ni d.g) := fun wz h hsz => GO.sm (P := fun b => blk (a4, c4) = some b) r4 (ab_sm h hsz (fun b hb => by have := L4.out b hb; omega)) (fun b hb => hb)
  clear b4 r4 l4
  have XA4 := XA.far ⟨w.heap.size + 1 + 1, 4, none⟩ (.slice a4 d.ni c4) (by first | omega | (simp; done) | (simp; omega))
  have XR4 := XR.far ⟨w.heap.size + 1 + 1, 4, none⟩ (.slice a4 d.ni c4) (by first | omega | (simp; done) | (simp; omega))
  have XO4 : Box (w4.setCell ⟨w.heap.size + 1 + 1, 4, none⟩ (.slice a4 d.ni c4)) (w.heap.size + 1 + 1) #[.int .i64 d.id, .slice a1 d.nf c1, .slice a2 d.nh c2, .slice a3 d.no c3, .slice a4 d.ni c4] 67 := heap_setCell_same _ _ 4 _ _ _ XO
  have B4 := bel_setCell B ⟨w.heap.size + 1 + 1, 4, none⟩ (.slice a4 d.ni c4) (by first | omega | (simp; done) | (simp; omega))
  replace A1 : Hid (Ab (w.heap.size + 3) w1 (w4.setCell ⟨w.heap.size + 1 + 1, 4, none⟩ (.slice a4 d.ni c4))) := A1.out.set _ _ (by first | omega | (simp; done) | (simp; omega))
  replace A2 : Hid (Ab (w.heap.size + 3) w2 (w4.setCell ⟨w.heap.size + 1 + 1, 4, none⟩ (.slice a4 d.ni c4))) := A2.out.set _ _ (by first | omega | (simp; done) | (simp; omega))
  replace A3 : Hid (Ab (w.heap.size + 3) w3 (w4.setCell ⟨w.heap.size + 1 + 1, 4, none⟩ (.slice a4 d.ni c4))) := A3.out.set _ _ (by first | omega | (simp; done) | (simp; omega))
  have A4 : Hid (Ab (w.heap.size + 3) w4 (w4.setCell ⟨w.heap.size + 1 + 1, 4, none⟩ (.slice a4 d.ni c4))) := (Ab.refl _ _).set _ _ (by first | omega | (simp; done) | (simp; omega))
  obtain ⟨x0, x1, x2, x3, x4, zx⟩ := XA.at5
  obtain ⟨o0, o1, o2, o3, o4, zo⟩ := XO.at5
  have fz := XO.frozen 4
  obtain ⟨y0, y1, y2, y3, y4, zy⟩ := XR.at5
  have q0 := XR.frozen 0
  have q1 := XR.frozen 1
  have q2 := XR.frozen 2
  have q3 := XR.frozen 3
  have q4 := XR.frozen 4
  have HB4 : Hid _ := B4
  clear XA XO XA4 XR4 XO4 B B4 XR
  go_wp2
  refine bodyPost_ret (v := .agg #[.int .i64 d.id, .slice a1 d.nf c1, .slice a2 d.nh c2, .slice a3 d.no c3, .slice a4 d.ni c4]) (by simp [results, Tryz.results28, go_sem, y0, y1, y2, y3, y4]) rfl ⟨⟨(a1, c1), p1, (a2, c2), p2, (a3, c3), p3, m3, (a4, c4)⟩, rfl, ⟨R1.out _ ?_ ?_, R2.out _ ?_ ?_, R3.out _ ?_ ?_, R4.out _ ?_ ?_, HY.out, ?_, ?_, ?_, ?_, ?_, ?_⟩, ?_, ?_⟩
  · exact ((((A1.out.set _ _ (by first | omega | (simp; done) | (simp; omega))).set _ _ (by first | omega | (simp; done) | (simp; omega))).set _ _ (by first | omega | (simp; done) | (simp; omega))).set _ _ (by first | omega | (simp; done) | (simp; omega))).set _ _ (by first | omega | (simp; done) | (simp; omega))
  · first | (simp; done) | (simp; omega)
  · exact ((((A2.out.set _ _ (by first | omega | (simp; done) | (simp; omega))).set _ _ (by first | omega | (simp; done) | (simp; omega))).set _ _ (by first | omega | (simp; done) | (simp; omega))).set _ _ (by first | omega | (simp; done) | (simp; omega))).set _ _ (by first | omega | (simp; done) | (simp; omega))
  · first | (simp; done) | (simp; omega)
  · exact ((((A3.out.set _ _ (by first | omega | (simp; done) | (simp; omega))).set _ _ (by first | omega | (simp; done) | (simp; omega))).set _ _ (by first | omega | (simp; done) | (simp; omega))).set _ _ (by first | omega | (simp; done) | (simp; omega))).set _ _ (by first | omega | (simp; done) | (simp; omega))
  · first | (simp; done) | (simp; omega)
  · exact ((((A4.out.set _ _ (by first | omega | (simp; done) | (simp; omega))).set _ _ (by first | omega | (simp; done) | (simp; omega))).set _ _ (by first | omega | (simp; done) | (simp; omega))).set _ _ (by first | omega | (simp; done) | (simp; omega))).set _ _ (by first | omega | (simp; done) | (simp; omega))
  · first | (simp; done) | (simp; omega)
  · intro b h1 h2; have q1 := L1.out b h1; have q2 := L2.out b h2; omega
  · intro b h1 h2; have q1 := L1.out b h1; have q2 := L3.out b h2; omega
  · intro b h1 h2; have q1 := L1.out b h1; have q2 := L4.out b h2; omega
  · intro b h1 h2; have q1 := L2.out b h1; have q2 := L3.out b h2; omega
  · intro b h1 h2; have q1 := L2.out b h1; have q2 := L4.out b h2; omega
  · intro b h1 h2; have q1 := L3.out b h1; have q2 := L4.out b h2; omega
  · intro b hb
    rcases hb with hb | hb | hb | hb
    · have := L1.out b hb; omega
    · have := L2.out b hb; omega
    · have := L3.out b hb; omega
    · have := L4.out b hb; omega
  · exact lit_bel5 HB4.out (by first | omega | (simp; done) | (simp; omega))
end Go.Proofs.YtpfppeifppdmbaaGreat
