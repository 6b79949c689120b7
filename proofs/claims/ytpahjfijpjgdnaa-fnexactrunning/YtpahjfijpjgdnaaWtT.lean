/- What the law's toFrameS, toHomeS, toSenderS, toReceiverS lay: rows that are owned. -/
import Derived.Test.YtpahjfijpjgdnaaWtP
namespace Go.Proofs.Ytpahjfijpjgdnaa
open Go.RowKit
set_option linter.unusedVariables false


set_option maxRecDepth 100000 in
set_option maxHeartbeats 2000000 in
theorem toHomeS_own (a : Option Addr) (ca n : Nat) (d : Nat → HD) (p : Nat → HP) (w : World) (hn : n ≤ 1048576) (hx : ∀ i, i < n → (d i).xs.length ≤ 1048576 ∧ (d i).bs.length ≤ 1048576 ∧ (d i).ws.length ≤ 1048576) (ha : HR2 w a n d p) :
    Calls Try.prog 45 #[.slice a n ca] w fun e w' => ∃ a' c' p', e = .returned (.slice a' n c') ∧ HOw w' a' c' n d p' ∧ (∀ b, RS a' c' n (fun i => QH (p' i)) b → w.heap.size ≤ b) ∧ Below w.heap.size w w' := by
  obtain ⟨i0, hi, hz0, hz1, hz2⟩ := info_parts info_home2
  have HX : Hid (∀ i, i < n → (d i).xs.length ≤ 1048576 ∧ (d i).bs.length ≤ 1048576 ∧ (d i).ws.length ≤ 1048576) := hx
  clear hx
  go_enter Try.func45, Try.ntmps45
  go_wp2_with (at_make; refine wpList_make_full _ rfl (.tmp 6) (.tmp 6) 82 rfl w.heap.size 145 i0 (.agg #[.slice none 0 0, .int .i64 0, .slice none 0 0, .bool false, .int .i64 0, .bool false, .int .i64 0, .slice none 0 0]) 8 Try.underlying82 hi hz0 hz1 .i64 .i64 _ _ n rfl rfl rfl rfl (by rw [hz2]; omega) (by unfold maxLen; omega) (Nat.le_refl _) ?_)
  intro w1 ho hg
  have hb1 : Below w.heap.size w w1 := (Below.refl _ _).grown hg (Nat.le_refl _) (fun k hk => by cases hk)
  rw [made_chunks _ 8 n rfl (by decide)] at ho
  have F0 : HTw w1 w.heap.size (some ⟨w.heap.size, 0, none⟩) n n 0 d (fun _ => ⟨(none, 0), (none, 0), (none, 0)⟩) (fun _ => [.slice none 0 0, .int .i64 0, .slice none 0 0, .bool false, .int .i64 0, .bool false, .int .i64 0, .slice none 0 0]) := Tw.start (owns_base ho (Nat.zero_le _))
  clear hg ho
  go_wp2
  go_loopw [4] (fun i wr => ∃ k : Nat, k ≤ n ∧ i = .int .i64 k ∧ ∃ p', HTw wr w.heap.size (some ⟨w.heap.size, 0, none⟩) n n k d p' (fun _ => [.slice none 0 0, .int .i64 0, .slice none 0 0, .bool false, .int .i64 0, .bool false, .int .i64 0, .slice none 0 0]) ∧ Below w.heap.size w wr) (fun i _ => n - (intOf i).toNat)
  case atStart => exact ⟨0, Nat.zero_le _, rfl, _, F0, hb1⟩
  case round =>
    obtain ⟨k, hk, rfl, p', hF, hbr⟩ := hrel
    clear F0 hb1
    by_cases hkn : k < n
    · have hi' : (k : Int) < (n : Int) := by omega
      have har := ha.below hbr
      obtain ⟨b, off, rfl, y0, y1, y2, y3, y4, y5, y6, y7⟩ := har.at hkn
      obtain ⟨h1, h2, h3⟩ := har.2.2 k hkn
      go_wp2_with fail
      refine (toHome_any (d k).ow (d k).wh (d k).ak (d k).bz (d k).wo (p k).l.1 (p k).r.1 (p k).q.1 (p k).l.2 (p k).r.2 (p k).q.2 (d k).xs (d k).bs (d k).ws _ (HX.out k hkn).1 (HX.out k hkn).2.1 (HX.out k hkn).2.2 h1 h2 h3).mono ?_
      rintro e w2 ⟨al, cl, ar, cr, aq, cq, rfl, o2, r2, q2, b2⟩
      have R : Hid _ := home_put hF (fun i _ => rfl) hkn b2 hbr.size o2 r2 q2
      have hr2 := owns_below hF.r.row b2
      have B : Hid _ := w8_bel (bel_trans hbr b2) (Nat.le_refl _) (k * 8) (.slice al (d k).xs.length cl) (.int .i64 (d k).ow) (.slice ar (d k).bs.length cr) (.bool (d k).bz) (.int .i64 (d k).wh) (.bool (d k).wo) (.int .i64 (d k).ak) (.slice aq (d k).ws.length cq)
      have z : ∀ t, w2.frozen? ⟨w.heap.size, t, none⟩ = false := fun t => hr2.frozenAt t
      obtain ⟨u0, g0⟩ := cellN hr2 hkn (t := 0) (by decide)
      obtain ⟨u1, g1⟩ := cellN hr2 hkn (t := 1) (by decide)
      obtain ⟨u2, g2⟩ := cellN hr2 hkn (t := 2) (by decide)
      obtain ⟨u3, g3⟩ := cellN hr2 hkn (t := 3) (by decide)
      obtain ⟨u4, g4⟩ := cellN hr2 hkn (t := 4) (by decide)
      obtain ⟨u5, g5⟩ := cellN hr2 hkn (t := 5) (by decide)
      obtain ⟨u6, g6⟩ := cellN hr2 hkn (t := 6) (by decide)
      obtain ⟨u7, g7⟩ := cellN hr2 hkn (t := 7) (by decide)
      rw [Nat.add_zero] at g0
      clear hF har y0 y1 y2 y3 y4 y5 y6 y7 h1 h2 h3 hr2 o2 r2 q2 b2 hbr ha
      go_wp2
      go_roundw
      case rel => exact ⟨k + 1, by omega, by go_num, _, R.out, B.out⟩
      case measure => simp [intOf]; omega
    · have : k = n := by omega
      subst this
      have R : Hid (HOw wr (some ⟨w.heap.size, 0, none⟩) k k d p' ∧ ∀ b, RS (some ⟨w.heap.size, 0, none⟩) k k (fun i => QH (p' i)) b → w.heap.size ≤ b) := ⟨hF.all, hF.low (fun g hg => by simp [blk] at hg; omega)⟩
      clear hF ha
      go_wp2
      go_ret
      exact ⟨_, _, p', rfl, R.out.1, R.out.2, hbr⟩

set_option maxRecDepth 100000 in
set_option maxHeartbeats 2000000 in
theorem toSenderS_own (a : Option Addr) (ca n : Nat) (b : Nat → Int) (y : Nat → List Say) (p : Nat → Pl) (ms : Nat → List M) (w : World) (hn : n ≤ 1048576) (hx : ∀ i, i < n → (y i).length ≤ 1048576 ∧ ∀ s ∈ y i, s.2.2.2.length ≤ 1048576) (ha : SR w a n b y p ms) :
    Calls Try.prog 46 #[.slice a n ca] w fun e w' => ∃ a' c' p' ms', e = .returned (.slice a' n c') ∧ SO w' a' c' n b p' ms' ∧ (∀ i, i < n → (ms' i).map M.say = y i) ∧ (∀ b, RS a' c' n (fun i => QS (p' i) (ms' i)) b → w.heap.size ≤ b) ∧ Below w.heap.size w w' := by
  obtain ⟨i0, hi, hz0, hz1, hz2⟩ := info_parts info_sender2
  have HX : Hid (∀ i, i < n → (y i).length ≤ 1048576 ∧ ∀ s ∈ y i, s.2.2.2.length ≤ 1048576) := hx
  clear hx
  go_enter Try.func46, Try.ntmps46
  go_wp2_with (at_make; refine wpList_make_full _ rfl (.tmp 6) (.tmp 6) 83 rfl w.heap.size 149 i0 (.agg #[.int .i64 0, .slice none 0 0]) 2 Try.underlying83 hi hz0 hz1 .i64 .i64 _ _ n rfl rfl rfl rfl (by rw [hz2]; omega) (by unfold maxLen; omega) (Nat.le_refl _) ?_)
  intro w1 ho hg
  have hb1 : Below w.heap.size w w1 := (Below.refl _ _).grown hg (Nat.le_refl _) (fun k hk => by cases hk)
  rw [made_chunks _ 2 n rfl (by decide)] at ho
  have F0 : STw w1 w.heap.size (some ⟨w.heap.size, 0, none⟩) n n 0 b (fun _ => (none, 0)) (fun _ => []) (fun _ => s0 0) := Tw.start (owns_base ho (Nat.zero_le _))
  clear hg ho
  go_wp2
  go_loopw [4] (fun i wr => ∃ k : Nat, k ≤ n ∧ i = .int .i64 k ∧ ∃ p' ms', STw wr w.heap.size (some ⟨w.heap.size, 0, none⟩) n n k b p' ms' (fun _ => s0 0) ∧ (∀ i, i < k → (ms' i).map M.say = y i) ∧ Below w.heap.size w wr) (fun i _ => n - (intOf i).toNat)
  case atStart => exact ⟨0, Nat.zero_le _, rfl, _, _, F0, fun i hi => absurd hi (Nat.not_lt_zero i), hb1⟩
  case round =>
    obtain ⟨k, hk, rfl, p', ms', hF, hY, hbr⟩ := hrel
    have HY : Hid (∀ i, i < k → (ms' i).map M.say = y i) := hY
    clear hY
    clear F0 hb1
    by_cases hkn : k < n
    · have hi' : (k : Int) < (n : Int) := by omega
      have har := ha.below hbr
      obtain ⟨bl, off, rfl, y0, y1⟩ := har.at hkn
      obtain ⟨hm, hE⟩ := har.2.2 k hkn
      have HE : Hid ((ms k).map M.say = y k) := hE
      have HL : (y k).length = (ms k).length := by have := congrArg List.length hE; simpa using this.symm
      have hXk := HX.out k hkn
      have l1 : (ms k).length ≤ 1048576 := by rw [← HL]; exact hXk.1
      have l2 : ∀ m ∈ ms k, m.xs.length ≤ 1048576 := fun m hm' => by
        have h1 : m.say ∈ y k := by rw [← hE]; exact List.mem_map_of_mem hm'
        have := hXk.2 _ h1
        simpa [M.say] using this
      have HLL : Hid ((y k).length = (ms k).length) := HL
      rw [HL] at y1
      clear hE hXk HL
      go_wp2_with fail
      refine (toSender_any (b k) (p k).1 (p k).2 (ms k) _ l1 l2 hm).mono ?_
      rintro e w2 ⟨a2, c2, ds, rfl, hds, o2, b2⟩
      have hl2 : ds.length = (ms k).length := by have := congrArg List.length hds; simpa using this
      have R : Hid _ := sender_put hF (fun i _ => rfl) hkn b2 hbr.size o2 hl2
      have HY2 : Hid (∀ i, i < k + 1 → ((fun i => if i = k then ds else ms' i) i).map M.say = y i) := fun i hi => by
        by_cases e : i = k
        · subst e; simp only [if_pos]; exact hds.trans HE.out
        · simp only [if_neg e]; exact HY.out i (by omega)
      clear hl2
      have hr2 := owns_below hF.r.row b2
      have B : Hid _ := bel_setCell (bel_setCell (bel_trans hbr b2) ⟨w.heap.size, k * 2, none⟩ (.int .i64 (b k)) (Nat.le_refl _)) ⟨w.heap.size, k * 2 + 1, none⟩ (.slice a2 (ms k).length c2) (Nat.le_refl _)
      have q0 := hr2.frozenAt (k * 2)
      have q1 := hr2.frozenAt (k * 2 + 1)
      obtain ⟨u0, g0⟩ := cellN hr2 hkn (t := 0) (by decide)
      obtain ⟨u1, g1⟩ := cellN hr2 hkn (t := 1) (by decide)
      rw [Nat.add_zero] at g0
      clear hF har y0 y1 hm hr2 o2 b2 hbr ha l1 l2 hds
      go_wp2
      go_roundw
      case rel => exact ⟨k + 1, by omega, by go_num, _, _, R.out, HY2.out, B.out⟩
      case measure => simp [intOf]; omega
    · have : k = n := by omega
      subst this
      have R : Hid (SO wr (some ⟨w.heap.size, 0, none⟩) k k b p' ms' ∧ ∀ b, RS (some ⟨w.heap.size, 0, none⟩) k k (fun i => QS (p' i) (ms' i)) b → w.heap.size ≤ b) := ⟨hF.all, hF.low (fun g hg => by simp [blk] at hg; omega)⟩
      clear hF ha
      go_wp2
      go_ret
      exact ⟨_, _, p', ms', rfl, R.out.1, HY.out, R.out.2, hbr⟩

set_option maxRecDepth 100000 in
set_option maxHeartbeats 1000000 in
theorem toReceiverS_own (a : Option Addr) (ca n : Nat) (g : Nat → Int) (w : World) (hn : n ≤ 1048576) (ha : GR w a n g) :
    Calls Try.prog 47 #[.slice a n ca] w fun e w' => ∃ a' c', e = .returned (.slice a' n c') ∧ GO w' a' c' n g ∧ (∀ b, blk (a', c') = some b → w.heap.size ≤ b) ∧ Below w.heap.size w w' := by
  obtain ⟨i0, hi, hz0, hz1, hz2⟩ := info_parts info_receiver2
  go_enter Try.func47, Try.ntmps47
  go_wp2_with (at_make; refine wpList_make_full _ rfl (.tmp 6) (.tmp 6) 84 rfl w.heap.size 152 i0 (.agg #[.int .i64 0]) 1 Try.underlying84 hi hz0 hz1 .i64 .i64 _ _ n rfl rfl rfl rfl (by rw [hz2]; omega) (by unfold maxLen; omega) (Nat.le_refl _) ?_)
  intro w1 ho hg
  have hb1 : Below w.heap.size w w1 := (Below.refl _ _).grown hg (Nat.le_refl _) (fun k hk => by cases hk)
  have e0 := made_chunks #[.int .i64 0] 1 n rfl (by decide)
  rw [Nat.mul_one] at e0
  rw [e0] at ho
  have F0 : w1.ownsRow w.heap.size 152 1 (.slice (some ⟨w.heap.size, 0, none⟩) n n) n (chunks n fun i => if i < 0 then gcells (g i) else gcells 0) := by simpa [gcells] using ho
  clear hg ho
  go_wp2
  go_loopw [4] (fun i wr => ∃ k : Nat, k ≤ n ∧ i = .int .i64 k ∧ wr.ownsRow w.heap.size 152 1 (.slice (some ⟨w.heap.size, 0, none⟩) n n) n (chunks n fun i => if i < k then gcells (g i) else gcells 0) ∧ Below w.heap.size w wr) (fun i _ => n - (intOf i).toNat)
  case atStart => exact ⟨0, Nat.zero_le _, rfl, F0, hb1⟩
  case round =>
    obtain ⟨k, hk, rfl, hF, hbr⟩ := hrel
    clear F0 hb1
    by_cases hkn : k < n
    · have hi' : (k : Int) < (n : Int) := by omega
      have har := ha.below hbr
      obtain ⟨b, off, rfl, y0⟩ := har.at hkn
      go_wp2_with fail
      refine (toReceiver_any (g k) _).mono ?_
      rintro e w2 ⟨rfl, b2⟩
      have hr2 := owns_below hF b2
      have R : Hid _ := owns_congr (store1 hr2 (fun i _ => by split <;> rfl) hkn (.int .i64 (g k))) (far_step (z := gcells 0) (m := fun i => gcells (g i)) (m' := fun i => gcells (g i)) (fun i hi => rfl) rfl)
      have B : Hid _ := bel_setCell (bel_trans hbr b2) ⟨w.heap.size, k, none⟩ (.int .i64 (g k)) (Nat.le_refl _)
      have q0 := hr2.frozenAt k
      obtain ⟨u0, g0⟩ := cellN hr2 hkn (t := 0) (by decide)
      rw [Nat.add_zero, Nat.mul_one] at g0
      clear hF har y0 hr2 b2 hbr ha
      go_wp2
      go_roundw
      case rel => exact ⟨k + 1, by omega, by go_num, R.out, B.out⟩
      case measure => simp [intOf]; omega
    · have : k = n := by omega
      subst this
      have R : Hid (GO wr (some ⟨w.heap.size, 0, none⟩) k k g ∧ ∀ b, blk (some ⟨w.heap.size, 0, none⟩, k) = some b → w.heap.size ≤ b) := ⟨owns_base (owns_congr (g := fun i => gcells (g i)) hF (fun i hi => by rw [if_pos hi])) (Nat.zero_le _), fun b hb => by simp [blk] at hb; omega⟩
      clear hF ha
      go_wp2
      go_ret
      exact ⟨_, _, rfl, R.out.1, R.out.2, hbr⟩
end Go.Proofs.Ytpahjfijpjgdnaa
