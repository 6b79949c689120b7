/- Owned rows of nodes and of packets, and an owned world; what the law's toNodeS, toPacketS and toWorld lay. -/
import Derived.Test.YtpahjfijpjgdnaaWoO0
import Derived.Test.YtpahjfijpjgdnaaWoZ
import Derived.Test.YtpahjfijpjgdnaaWtT2
namespace Go.Proofs.Ytpahjfijpjgdnaa
open Go.RowKit
set_option linter.unusedVariables false

theorem WoO.wr {w : World} {d : WoD} {p : WoP} (h : WoO w d p) (s : Wsm d) : WoR w d p := ⟨NsO.nr h.n s.n.1 s.n.2, PkO.pr h.k s.k.1 s.k.2⟩

set_option maxRecDepth 100000 in
set_option maxHeartbeats 2000000 in
theorem toPacketS_own (a : Option Addr) (ca n : Nat) (d : Nat → PkD) (p : Nat → Pl) (w : World) (hn : n ≤ 1048576) (hx : ∀ i, i < n → (d i).xs.length ≤ 1048576) (ha : PkR w a n d p) :
    Calls Try.prog 20 #[.slice a n ca] w fun e w' => ∃ a' c' p', e = .returned (.slice a' n c') ∧ PkO w' a' c' n d p' ∧ (∀ b, RS a' c' n (fun i => QF (p' i)) b → w.heap.size ≤ b) ∧ Below w.heap.size w w' := by
  obtain ⟨i0, hi, hz0, hz1, hz2⟩ := info_parts info_packetW
  have HX : Hid (∀ i, i < n → (d i).xs.length ≤ 1048576) := hx
  clear hx
  go_enter Try.func20, Try.ntmps20
  go_wp2_with (at_make; refine wpList_make_full _ rfl (.tmp 6) (.tmp 6) 32 rfl w.heap.size 90 i0 (.agg #[.int .i64 0, .int .i64 0, .bool false, .int .i64 0, .int .i64 0, .int .i64 0, .bool false, .slice none 0 0]) 8 Try.underlying32 hi hz0 hz1 .i64 .i64 _ _ n rfl rfl rfl rfl (by rw [hz2]; omega) (by unfold maxLen; omega) (Nat.le_refl _) ?_)
  intro w1 ho hg
  have hb1 : Below w.heap.size w w1 := (Below.refl _ _).grown hg (Nat.le_refl _) (fun k hk => by cases hk)
  rw [made_chunks _ 8 n rfl (by decide)] at ho
  have F0 : PTw w1 w.heap.size (some ⟨w.heap.size, 0, none⟩) n n 0 d (fun _ => (none, 0)) (fun _ => [.int .i64 0, .int .i64 0, .bool false, .int .i64 0, .int .i64 0, .int .i64 0, .bool false, .slice none 0 0]) := Tw.start (owns_base ho (Nat.zero_le _))
  clear hg ho
  go_wp2
  go_loopw [4] (fun i wr => ∃ k : Nat, k ≤ n ∧ i = .int .i64 k ∧ ∃ p', PTw wr w.heap.size (some ⟨w.heap.size, 0, none⟩) n n k d p' (fun _ => [.int .i64 0, .int .i64 0, .bool false, .int .i64 0, .int .i64 0, .int .i64 0, .bool false, .slice none 0 0]) ∧ Below w.heap.size w wr) (fun i _ => n - (intOf i).toNat)
  case atStart => exact ⟨0, Nat.zero_le _, rfl, _, F0, hb1⟩
  case round =>
    obtain ⟨k, hk, rfl, p', hF, hbr⟩ := hrel
    clear F0 hb1
    by_cases hkn : k < n
    · have hi' : (k : Int) < (n : Int) := by omega
      have har := ha.below hbr
      obtain ⟨b, off, rfl, y0, y1, y2, y3, y4, y5, y6, y7⟩ := har.at hkn
      have hrow := har.2.2 k hkn
      go_wp2_with fail
      refine (toPacket_any (d k).f (d k).t (d k).a (d k).n (d k).k (d k).p (d k).o (p k).1 (p k).2 (d k).xs _ (HX.out k hkn) hrow).mono ?_
      rintro e w2 ⟨v2, rfl, o2, b2⟩
      obtain ⟨a2, c2, rfl⟩ := owns_slice o2
      have R : Hid _ := packet_put hF (fun i _ => rfl) hkn b2 hbr.size o2
      have hr2 := owns_below hF.r.row b2
      have B : Hid _ := bel_setCell (bel_setCell (bel_setCell (bel_setCell (bel_setCell (bel_setCell (bel_setCell (bel_setCell ((bel_trans hbr b2)) ⟨w.heap.size, k * 8, none⟩ (.int .i64 (d k).f) (Nat.le_refl _)) ⟨w.heap.size, k * 8 + 1, none⟩ (.int .i64 (d k).t) (Nat.le_refl _)) ⟨w.heap.size, k * 8 + 2, none⟩ (.bool (d k).a) (Nat.le_refl _)) ⟨w.heap.size, k * 8 + 3, none⟩ (.int .i64 (d k).n) (Nat.le_refl _)) ⟨w.heap.size, k * 8 + 4, none⟩ (.int .i64 (d k).k) (Nat.le_refl _)) ⟨w.heap.size, k * 8 + 5, none⟩ (.int .i64 (d k).p) (Nat.le_refl _)) ⟨w.heap.size, k * 8 + 6, none⟩ (.bool (d k).o) (Nat.le_refl _)) ⟨w.heap.size, k * 8 + 7, none⟩ (.slice a2 (d k).xs.length c2) (Nat.le_refl _)
      have q0 := hr2.frozenAt (k * 8)
      have q1 := hr2.frozenAt (k * 8 + 1)
      have q2 := hr2.frozenAt (k * 8 + 2)
      have q3 := hr2.frozenAt (k * 8 + 3)
      have q4 := hr2.frozenAt (k * 8 + 4)
      have q5 := hr2.frozenAt (k * 8 + 5)
      have q6 := hr2.frozenAt (k * 8 + 6)
      have q7 := hr2.frozenAt (k * 8 + 7)
      obtain ⟨u0, g0⟩ := cellN hr2 hkn (t := 0) (by decide)
      obtain ⟨u1, g1⟩ := cellN hr2 hkn (t := 1) (by decide)
      obtain ⟨u2, g2⟩ := cellN hr2 hkn (t := 2) (by decide)
      obtain ⟨u3, g3⟩ := cellN hr2 hkn (t := 3) (by decide)
      obtain ⟨u4, g4⟩ := cellN hr2 hkn (t := 4) (by decide)
      obtain ⟨u5, g5⟩ := cellN hr2 hkn (t := 5) (by decide)
      obtain ⟨u6, g6⟩ := cellN hr2 hkn (t := 6) (by decide)
      obtain ⟨u7, g7⟩ := cellN hr2 hkn (t := 7) (by decide)
      rw [Nat.add_zero] at g0
      clear hF har y0 y1 y2 y3 y4 y5 y6 y7 hrow hr2 o2 b2 hbr ha
      go_wp2
      go_roundw
      case rel => exact ⟨k + 1, by omega, by go_num, _, R.out, B.out⟩
      case measure => simp [intOf]; omega
    · have : k = n := by omega
      subst this
      have R : Hid (PkO wr (some ⟨w.heap.size, 0, none⟩) k k d p' ∧ ∀ b, RS (some ⟨w.heap.size, 0, none⟩) k k (fun i => QF (p' i)) b → w.heap.size ≤ b) := ⟨hF.all, hF.low (fun g hg => by simp [blk] at hg; omega)⟩
      clear hF ha
      go_wp2
      go_ret
      exact ⟨_, _, p', rfl, R.out.1, R.out.2, hbr⟩

set_option maxRecDepth 100000 in
set_option maxHeartbeats 2000000 in
theorem toNodeS_own (a : Option Addr) (ca n : Nat) (d : Nat → ND) (p : Nat → NP) (w : World) (hn : n ≤ 1048576) (hx : ∀ i, i < n → Nsm (d i)) (ha : NsR w a n d p) :
    Calls Try.prog 19 #[.slice a n ca] w fun e w' => ∃ a' c' p', e = .returned (.slice a' n c') ∧ NsO w' a' c' n d p' ∧ (∀ b, RS a' c' n (fun i => NBs (d i) (p' i)) b → w.heap.size ≤ b) ∧ Below w.heap.size w w' := by
  obtain ⟨i0, hi, hz0, hz1, hz2⟩ := info_parts info_nodeW
  have HX : Hid (∀ i, i < n → Nsm (d i)) := hx
  clear hx
  go_enter Try.func19, Try.ntmps19
  go_wp2_with (at_make; refine wpList_make_full _ rfl (.tmp 6) (.tmp 6) 31 rfl w.heap.size 86 i0 (.agg #[.int .i64 0, .slice none 0 0, .slice none 0 0, .slice none 0 0, .slice none 0 0]) 5 Try.underlying31 hi hz0 hz1 .i64 .i64 _ _ n rfl rfl rfl rfl (by rw [hz2]; omega) (by unfold maxLen; omega) (Nat.le_refl _) ?_)
  intro w1 ho hg
  have hb1 : Below w.heap.size w w1 := (Below.refl _ _).grown hg (Nat.le_refl _) (fun k hk => by cases hk)
  rw [made_chunks _ 5 n rfl (by decide)] at ho
  have F0 : NTw w1 w.heap.size (some ⟨w.heap.size, 0, none⟩) n n 0 d (fun _ => ⟨(none, 0), fun _ => (none, 0), (none, 0), fun _ => ⟨(none, 0), (none, 0), (none, 0)⟩, (none, 0), fun _ => (none, 0), fun _ => [], (none, 0)⟩) (fun _ => [.int .i64 0, .slice none 0 0, .slice none 0 0, .slice none 0 0, .slice none 0 0]) := Tw.start (owns_base ho (Nat.zero_le _))
  clear hg ho
  go_wp2
  go_loopw [4] (fun i wr => ∃ k : Nat, k ≤ n ∧ i = .int .i64 k ∧ ∃ p', NTw wr w.heap.size (some ⟨w.heap.size, 0, none⟩) n n k d p' (fun _ => [.int .i64 0, .slice none 0 0, .slice none 0 0, .slice none 0 0, .slice none 0 0]) ∧ Below w.heap.size w wr) (fun i _ => n - (intOf i).toNat)
  case atStart => exact ⟨0, Nat.zero_le _, rfl, _, F0, hb1⟩
  case round =>
    obtain ⟨k, hk, rfl, p', hF, hbr⟩ := hrel
    clear F0 hb1
    by_cases hkn : k < n
    · have hi' : (k : Int) < (n : Int) := by omega
      have har := ha.below hbr
      obtain ⟨b, off, rfl, y0, y1, y2, y3, y4⟩ := har.at hkn
      have hrow := har.2.2 k hkn
      go_wp2_with fail
      refine (toNode_own (d k) (p k) _ (HX.out k hkn) hrow).mono ?_
      rintro e w2 ⟨p2, rfl, o2, l2, b2⟩
      have R : Hid _ := node_put hF (fun i _ => rfl) hkn b2 hbr.size o2 l2
      have hr2 := owns_below hF.r.row b2
      have B : Hid _ := bel_setCell (bel_setCell (bel_setCell (bel_setCell (bel_setCell ((bel_trans hbr b2)) ⟨w.heap.size, k * 5, none⟩ (.int .i64 (d k).id) (Nat.le_refl _)) ⟨w.heap.size, k * 5 + 1, none⟩ (.slice p2.f.1 (d k).nf p2.f.2) (Nat.le_refl _)) ⟨w.heap.size, k * 5 + 2, none⟩ (.slice p2.h.1 (d k).nh p2.h.2) (Nat.le_refl _)) ⟨w.heap.size, k * 5 + 3, none⟩ (.slice p2.o.1 (d k).no p2.o.2) (Nat.le_refl _)) ⟨w.heap.size, k * 5 + 4, none⟩ (.slice p2.i.1 (d k).ni p2.i.2) (Nat.le_refl _)
      have q0 := hr2.frozenAt (k * 5)
      have q1 := hr2.frozenAt (k * 5 + 1)
      have q2 := hr2.frozenAt (k * 5 + 2)
      have q3 := hr2.frozenAt (k * 5 + 3)
      have q4 := hr2.frozenAt (k * 5 + 4)
      obtain ⟨u0, g0⟩ := cellN hr2 hkn (t := 0) (by decide)
      obtain ⟨u1, g1⟩ := cellN hr2 hkn (t := 1) (by decide)
      obtain ⟨u2, g2⟩ := cellN hr2 hkn (t := 2) (by decide)
      obtain ⟨u3, g3⟩ := cellN hr2 hkn (t := 3) (by decide)
      obtain ⟨u4, g4⟩ := cellN hr2 hkn (t := 4) (by decide)
      rw [Nat.add_zero] at g0
      clear hF har y0 y1 y2 y3 y4 hrow hr2 o2 b2 hbr ha
      go_wp2
      go_roundw
      case rel => exact ⟨k + 1, by omega, by go_num, _, R.out, B.out⟩
      case measure => simp [intOf]; omega
    · have : k = n := by omega
      subst this
      have R : Hid (NsO wr (some ⟨w.heap.size, 0, none⟩) k k d p' ∧ ∀ b, RS (some ⟨w.heap.size, 0, none⟩) k k (fun i => NBs (d i) (p' i)) b → w.heap.size ≤ b) := ⟨hF.all, hF.low (fun g hg => by simp [blk] at hg; omega)⟩
      clear hF ha
      go_wp2
      go_ret
      exact ⟨_, _, p', rfl, R.out.1, R.out.2, hbr⟩

set_option maxRecDepth 100000 in
set_option maxHeartbeats 2000000 in
theorem toWorld_own (d : WoD) (p : WoP) (w : World) (hd : Wsm d) (hR : WoR w d p) :
    Calls Try.prog 12 #[.agg (wcells d p)] w fun e w' => ∃ p', e = .returned (.agg (wcells d p')) ∧ WoO w' d p' ∧ (∀ b, WBs d p' b → w.heap.size ≤ b) ∧ Below w.heap.size w w' := by
  have B := bel_alloc (bel_alloc (bel_alloc (Below.refl w.heap.size w) (.cells (wcells d p) 25)) (.cells #[.int .i64 0, .slice none 0 0, .slice none 0 0] 34)) (.cells #[.int .i64 d.size, .slice none 0 0, .slice none 0 0] 34)
  obtain ⟨XA, XR, XO⟩ := Box.tri w (wcells d p) #[.int .i64 0, .slice none 0 0, .slice none 0 0] #[.int .i64 d.size, .slice none 0 0, .slice none 0 0] 25 34 34
  have hR0 := hR.below B
  have HR : Hid (WoR w d p) := hR
  have HD : Hid (Wsm d) := hd
  clear hR hd
  go_enter Try.func12, Try.ntmps12
  go_wp2_with fail
  refine (toNodeS_own _ _ d.nn d.d p.np _ HD.out.n.1 HD.out.n.2 hR0.n).mono ?_
  rintro e w1 ⟨a1, c1, p1, rfl, r1, l1, b1⟩
  have hz1 : w.heap.size + 3 ≤ w1.heap.size := by have := b1.size; simp at this; omega
  replace XA := XA.below b1
  replace XR := XR.below b1
  replace XO := XO.below b1
  replace B := bel_trans B b1
  have L1 : Hid (∀ b, RS a1 c1 d.nn (fun i => NBs (d.d i) (p1 i)) b → w.heap.size + 3 ≤ b ∧ b < w1.heap.size) := fun b hb => ⟨by have := l1 b hb; simp at this; omega, Rw.slt r1 hb⟩
  have R1 : Hid (∀ wz, Ab (w.heap.size + 3) w1 wz → w1.heap.size ≤ wz.heap.size → NsO wz a1 c1 d.nn d.d p1) := fun wz h hsz => Rw.sm r1 (ab_sm h hsz (fun b hb => by have := L1.out b hb; omega))
  clear b1 r1 l1 hR0
  have XA1 := XA.far ⟨w.heap.size + 1 + 1, 1, none⟩ (.slice a1 d.nn c1) (by first | omega | (simp; done) | (simp; omega))
  have XR1 := XR.far ⟨w.heap.size + 1 + 1, 1, none⟩ (.slice a1 d.nn c1) (by first | omega | (simp; done) | (simp; omega))
  have XO1 : Box (w1.setCell ⟨w.heap.size + 1 + 1, 1, none⟩ (.slice a1 d.nn c1)) (w.heap.size + 1 + 1) #[.int .i64 d.size, .slice a1 d.nn c1, .slice none 0 0] 34 := heap_setCell_same _ _ 1 _ _ _ XO
  have B1 := bel_setCell B ⟨w.heap.size + 1 + 1, 1, none⟩ (.slice a1 d.nn c1) (by first | omega | (simp; done) | (simp; omega))
  have A1 : Hid (Ab (w.heap.size + 3) w1 (w1.setCell ⟨w.heap.size + 1 + 1, 1, none⟩ (.slice a1 d.nn c1))) := (Ab.refl _ _).set _ _ (by first | omega | (simp; done) | (simp; omega))
  have hR1 := HR.out.below B1
  obtain ⟨x0, x1, x2, zx⟩ := XA.at3
  obtain ⟨o0, o1, o2, zo⟩ := XO.at3
  have fz := XO.frozen 1
  go_wp2_with fail
  refine (toPacketS_own _ _ d.nk d.k p.kp _ HD.out.k.1 HD.out.k.2 hR1.k).mono ?_
  rintro e w2 ⟨a2, c2, p2, rfl, r2, l2, b2⟩
  have hz2 : w1.heap.size ≤ w2.heap.size := by have := b2.size; simp at this; omega
  replace XA := XA1.below b2
  replace XR := XR1.below b2
  replace XO := XO1.below b2
  replace B := bel_trans B1 b2
  replace A1 : Hid (Ab (w.heap.size + 3) w1 w2) := A1.out.below (by first | omega | (simp; done) | (simp; omega)) b2
  clear XA1 XR1 XO1 B1 hR1 x0 x1 x2 zx o0 o1 o2 zo fz
  have L2 : Hid (∀ b, RS a2 c2 d.nk (fun i => QF (p2 i)) b → w1.heap.size ≤ b ∧ b < w2.heap.size) := fun b hb => ⟨by have := l2 b hb; simp at this; omega, Rw.slt r2 hb⟩
  have R2 : Hid (PkO w2 a2 c2 d.nk d.k p2) := r2
  clear r2 l2 b2
  obtain ⟨o0, o1, o2, zo⟩ := XO.at3
  obtain ⟨q0, q1, q2, zq⟩ := XR.at3
  have fz := XO.frozen 2
  have f0 := XR.frozen 0
  have f1 := XR.frozen 1
  have f2 := XR.frozen 2
  have HB : Hid (Below w.heap.size w w2) := B
  have hwz : Hid (w.heap.size + 3 ≤ w1.heap.size ∧ w1.heap.size ≤ w2.heap.size) := ⟨hz1, hz2⟩
  clear XA XR XO B
  go_wp2
  refine bodyPost_ret (v := .agg (wcells d ⟨(a1, c1), p1, (a2, c2), p2⟩)) (by simp [results, Try.results12, go_sem, q0, q1, q2]) rfl ⟨⟨(a1, c1), p1, (a2, c2), p2⟩, rfl, ?_, ?_, ?_⟩
  · have on : Only w2 ((((w2.setCell ⟨w.heap.size + 1 + 1, 2, none⟩ (.slice a2 d.nk c2)).setCell ⟨w.heap.size + 1, 0, none⟩ (.int .i64 d.size)).setCell ⟨w.heap.size + 1, 1, none⟩ (.slice a1 d.nn c1)).setCell ⟨w.heap.size + 1, 2, none⟩ (.slice a2 d.nk c2)) (fun x => x = w.heap.size + 1 ∨ x = w.heap.size + 2) := (((((Only.refl w2 _).setCell ⟨w.heap.size + 1 + 1, 2, none⟩ _ (by simp)).setCell ⟨w.heap.size + 1, 0, none⟩ _ (by simp)).setCell ⟨w.heap.size + 1, 1, none⟩ _ (by simp)).setCell ⟨w.heap.size + 1, 2, none⟩ _ (by simp))
    refine ⟨?_, ?_, fun b h1 h2 => by have := L1.out b h1; have := L2.out b h2; omega⟩
    · exact Rw.sm (R1.out w2 A1.out hwz.out.2) (on.sm (fun b hb e => by have := L1.out b hb; omega))
    · exact Rw.sm R2.out (on.sm (fun b hb e => by have := L2.out b hb; have := hwz.out; omega))
  · intro b hb
    rcases hb with hb | hb
    · have := L1.out b hb; omega
    · have := L2.out b hb; have := hwz.out; omega
  · repeat refine bel_setCell ?_ _ _ ?_
    · exact HB.out
    all_goals (simp; try omega)
end Go.Proofs.Ytpahjfijpjgdnaa
