/- What the law's toReceiverS and toNode do, as a reader is told of it. -/
import Derived.Test.YtpahjfijpjgdnaaNdT2
namespace Go.Proofs.Ytpahjfijpjgdnaa
open Go.RowKit
set_option linter.unusedVariables false

set_option maxHeartbeats 400000 in
theorem toReceiver_any (g : Int) (w : World) :
    Calls Try.prog 65 #[.agg #[.int .i64 g]] w fun e w' => e = .returned (.agg #[.int .i64 g]) ∧ Below w.heap.size w w' := by
  have bA := bel_alloc (bel_alloc (bel_alloc (Below.refl w.heap.size w) (.cells #[.int .i64 g] 154)) (.cells #[.int .i64 g] 152)) (.cells #[.int .i64 g] 152)
  go_enter Try.func65, Try.ntmps65
  go_wp2
  refine bodyPost_ret (v := .agg #[.int .i64 g]) (by simp [results, Try.results65, go_sem]) rfl ⟨rfl, ?_⟩
  exact bA

set_option maxRecDepth 100000 in
set_option maxHeartbeats 1000000 in
theorem toReceiverS_any (a : Option Addr) (ca n : Nat) (g : Nat → Int) (w : World) (hn : n ≤ 1048576) (ha : GR w a n g) :
    Calls Try.prog 47 #[.slice a n ca] w fun e w' => ∃ a' c', e = .returned (.slice a' n c') ∧ (∀ w2, Ab w.heap.size w' w2 → GR w2 a' n g) ∧ Below w.heap.size w w' := by
  obtain ⟨i0, hi, hz0, hz1, hz2⟩ := info_parts info_receiver2
  go_enter Try.func47, Try.ntmps47
  go_wp2_with (at_make; refine wpList_make_full _ rfl (.tmp 6) (.tmp 6) 84 rfl w.heap.size 152 i0 (.agg #[.int .i64 0]) 1 Try.underlying84 hi hz0 hz1 .i64 .i64 _ _ n rfl rfl rfl rfl (by rw [hz2]; omega) (by unfold maxLen; omega) (Nat.le_refl _) ?_)
  intro w1 ho hg
  have hb1 : Below w.heap.size w w1 := (Below.refl _ _).grown hg (Nat.le_refl _) (fun k hk => by cases hk)
  have e0 := made_chunks #[.int .i64 0] 1 n rfl (by decide)
  rw [Nat.mul_one] at e0
  rw [e0] at ho
  have F0 : w1.ownsRow w.heap.size 152 1 (.slice (some ⟨w.heap.size, 0, none⟩) n n) n (chunks n fun i => if i < 0 then gcells (g i) else gcells 0) := by simpa [gcells] using ho
  clear hg ho
  go_wp2
  go_loopw [4] (fun i wr => ∃ k : Nat, k ≤ n ∧ i = .int .i64 k ∧ wr.ownsRow w.heap.size 152 1 (.slice (some ⟨w.heap.size, 0, none⟩) n n) n (chunks n fun i => if i < k then gcells (g i) else gcells 0) ∧ Below w.heap.size w wr) (fun i _ => n - (intOf i).toNat)
  case atStart => exact ⟨0, Nat.zero_le _, rfl, F0, hb1⟩
  case round =>
    obtain ⟨k, hk, rfl, hF, hbr⟩ := hrel
    clear F0 hb1
    by_cases hkn : k < n
    · have hi' : (k : Int) < (n : Int) := by omega
      have har := ha.below hbr
      obtain ⟨b, off, rfl, y0⟩ := har.at hkn
      go_wp2_with fail
      refine (toReceiver_any (g k) _).mono ?_
      rintro e w2 ⟨rfl, b2⟩
      have hr2 := owns_below hF b2
      have R : Hid _ := owns_congr (store1 hr2 (fun i _ => by split <;> rfl) hkn (.int .i64 (g k))) (far_step (z := gcells 0) (m := fun i => gcells (g i)) (m' := fun i => gcells (g i)) (fun i hi => rfl) rfl)
      have B : Hid _ := bel_setCell (bel_trans hbr b2) ⟨w.heap.size, k, none⟩ (.int .i64 (g k)) (Nat.le_refl _)
      have q0 := hr2.frozenAt k
      obtain ⟨u0, g0⟩ := cellN hr2 hkn (t := 0) (by decide)
      rw [Nat.add_zero, Nat.mul_one] at g0
      clear hF har y0 hr2 b2 hbr ha
      go_wp2
      go_roundw
      case rel => exact ⟨k + 1, by omega, by go_num, R.out, B.out⟩
      case measure => simp [intOf]; omega
    · have : k = n := by omega
      subst this
      have R : Hid (∀ w2, Ab w.heap.size wr w2 → GR w2 (some ⟨w.heap.size, 0, none⟩) k g) := fun w2 hb => ⟨by omega, owns_vrow' (owns_congr (g := fun i => gcells (g i)) (owns_ab hF hb) (fun i hi => by rw [if_pos hi])) (by rw [chunks_length (s := 1) k (fun i _ => rfl)]; omega)⟩
      clear hF ha
      go_wp2
      go_ret
      exact ⟨_, _, rfl, R.out, hbr⟩

/-- How great a node may be. -/
structure Nsm (d : ND) : Prop where
  f : d.nf ≤ 1048576 ∧ ∀ i, i < d.nf → (d.f i).xs.length ≤ 1048576
  h : d.nh ≤ 1048576 ∧ ∀ i, i < d.nh → (d.h i).xs.length ≤ 1048576 ∧ (d.h i).bs.length ≤ 1048576 ∧ (d.h i).ws.length ≤ 1048576
  o : d.no ≤ 1048576 ∧ ∀ i, i < d.no → (d.y i).length ≤ 1048576 ∧ ∀ s ∈ d.y i, s.2.2.2.length ≤ 1048576
  i : d.ni ≤ 1048576

set_option maxRecDepth 100000 in
set_option maxHeartbeats 4000000 in
theorem toNode_any (d : ND) (p : NP) (w : World) (hd : Nsm d) (hR : NR w d p) :
    Calls Try.prog 29 #[.agg (ncells d p)] w fun e w' => ∃ p', e = .returned (.agg (ncells d p')) ∧ NR w' d p' ∧ Below w.heap.size w w' := by
  have B := bel_alloc (bel_alloc (bel_alloc (Below.refl w.heap.size w) (.cells (ncells d p) 73)) (.cells #[.int .i64 0, .slice none 0 0, .slice none 0 0, .slice none 0 0, .slice none 0 0] 86)) (.cells #[.int .i64 d.id, .slice none 0 0, .slice none 0 0, .slice none 0 0, .slice none 0 0] 86)
  obtain ⟨XA, XR, XO⟩ := Box.tri w (ncells d p) #[.int .i64 0, .slice none 0 0, .slice none 0 0, .slice none 0 0, .slice none 0 0] #[.int .i64 d.id, .slice none 0 0, .slice none 0 0, .slice none 0 0, .slice none 0 0] 73 86 86
  have hR0 := hR.below B
  have HR : Hid (NR w d p) := hR
  have HD : Hid (Nsm d) := hd
  clear hR hd
  go_enter Try.func29, Try.ntmps29
  go_wp2_with fail
  refine (toFrameS_any _ _ d.nf d.f p.fp _ HD.out.f.1 HD.out.f.2 hR0.f).mono ?_
  rintro e w1 ⟨a1, c1, p1, rfl, r1, b1⟩
  have hz1 : w.heap.size + 3 ≤ w1.heap.size := by have := b1.size; simp at this; omega
  replace XA := XA.below b1
  replace XR := XR.below b1
  replace XO := XO.below b1
  replace B := bel_trans B b1
  have R1 : Hid (∀ wz, Ab (w.heap.size + 3) w1 wz → FR wz a1 d.nf d.f p1) := fun wz h => r1 wz (h.mono (by first | omega | (simp; done) | (simp; omega)))
  clear b1 r1 hR0
  have XA1 := XA.far ⟨w.heap.size + 1 + 1, 1, none⟩ (.slice a1 d.nf c1) (by first | omega | (simp; done) | (simp; omega))
  have XR1 := XR.far ⟨w.heap.size + 1 + 1, 1, none⟩ (.slice a1 d.nf c1) (by first | omega | (simp; done) | (simp; omega))
  have XO1 : Box (w1.setCell ⟨w.heap.size + 1 + 1, 1, none⟩ (.slice a1 d.nf c1)) (w.heap.size + 1 + 1) #[.int .i64 d.id, .slice a1 d.nf c1, .slice none 0 0, .slice none 0 0, .slice none 0 0] 86 := heap_setCell_same _ _ 1 _ _ _ XO
  have B1 := bel_setCell B ⟨w.heap.size + 1 + 1, 1, none⟩ (.slice a1 d.nf c1) (by first | omega | (simp; done) | (simp; omega))
  have A1 : Hid (Ab (w.heap.size + 3) w1 (w1.setCell ⟨w.heap.size + 1 + 1, 1, none⟩ (.slice a1 d.nf c1))) := (Ab.refl _ _).set _ _ (by first | omega | (simp; done) | (simp; omega))
  have hR1 := HR.out.below B1
  obtain ⟨x0, x1, x2, x3, x4, zx⟩ := XA.at5
  obtain ⟨o0, o1, o2, o3, o4, zo⟩ := XO.at5
  have fz := XO.frozen 1
  go_wp2_with fail
  refine (toHomeS_any _ _ d.nh d.h p.hp _ HD.out.h.1 HD.out.h.2 hR1.h).mono ?_
  rintro e w2 ⟨a2, c2, p2, rfl, r2, b2⟩
  have hz2 : w1.heap.size ≤ w2.heap.size := by have := b2.size; simp at this; omega
  replace XA := XA1.below b2
  replace XR := XR1.below b2
  replace XO := XO1.below b2
  replace B := bel_trans B1 b2
  replace A1 : Hid (Ab (w.heap.size + 3) w1 w2) := A1.out.below (by first | omega | (simp; done) | (simp; omega)) b2
  clear XA1 XR1 XO1 B1 hR1 x0 x1 x2 x3 x4 zx o0 o1 o2 o3 o4 zo fz
  have R2 : Hid (∀ wz, Ab (w.heap.size + 3) w2 wz → HR2 wz a2 d.nh d.h p2) := fun wz h => r2 wz (h.mono (by first | omega | (simp; done) | (simp; omega)))
  clear b2 r2
  have XA2 := XA.far ⟨w.heap.size + 1 + 1, 2, none⟩ (.slice a2 d.nh c2) (by first | omega | (simp; done) | (simp; omega))
  have XR2 := XR.far ⟨w.heap.size + 1 + 1, 2, none⟩ (.slice a2 d.nh c2) (by first | omega | (simp; done) | (simp; omega))
  have XO2 : Box (w2.setCell ⟨w.heap.size + 1 + 1, 2, none⟩ (.slice a2 d.nh c2)) (w.heap.size + 1 + 1) #[.int .i64 d.id, .slice a1 d.nf c1, .slice a2 d.nh c2, .slice none 0 0, .slice none 0 0] 86 := heap_setCell_same _ _ 2 _ _ _ XO
  have B2 := bel_setCell B ⟨w.heap.size + 1 + 1, 2, none⟩ (.slice a2 d.nh c2) (by first | omega | (simp; done) | (simp; omega))
  replace A1 : Hid (Ab (w.heap.size + 3) w1 (w2.setCell ⟨w.heap.size + 1 + 1, 2, none⟩ (.slice a2 d.nh c2))) := A1.out.set _ _ (by first | omega | (simp; done) | (simp; omega))
  have A2 : Hid (Ab (w.heap.size + 3) w2 (w2.setCell ⟨w.heap.size + 1 + 1, 2, none⟩ (.slice a2 d.nh c2))) := (Ab.refl _ _).set _ _ (by first | omega | (simp; done) | (simp; omega))
  have hR2 := HR.out.below B2
  obtain ⟨x0, x1, x2, x3, x4, zx⟩ := XA.at5
  obtain ⟨o0, o1, o2, o3, o4, zo⟩ := XO.at5
  have fz := XO.frozen 2
  go_wp2_with fail
  refine (toSenderS_any _ _ d.no d.b d.y p.op p.ms _ HD.out.o.1 HD.out.o.2 hR2.o).mono ?_
  rintro e w3 ⟨a3, c3, p3, m3, rfl, r3, b3⟩
  have hz3 : w2.heap.size ≤ w3.heap.size := by have := b3.size; simp at this; omega
  replace XA := XA2.below b3
  replace XR := XR2.below b3
  replace XO := XO2.below b3
  replace B := bel_trans B2 b3
  replace A1 : Hid (Ab (w.heap.size + 3) w1 w3) := A1.out.below (by first | omega | (simp; done) | (simp; omega)) b3
  replace A2 : Hid (Ab (w.heap.size + 3) w2 w3) := A2.out.below (by first | omega | (simp; done) | (simp; omega)) b3
  clear XA2 XR2 XO2 B2 hR2 x0 x1 x2 x3 x4 zx o0 o1 o2 o3 o4 zo fz
  have R3 : Hid (∀ wz, Ab (w.heap.size + 3) w3 wz → SR wz a3 d.no d.b d.y p3 m3) := fun wz h => r3 wz (h.mono (by first | omega | (simp; done) | (simp; omega)))
  clear b3 r3
  have XA3 := XA.far ⟨w.heap.size + 1 + 1, 3, none⟩ (.slice a3 d.no c3) (by first | omega | (simp; done) | (simp; omega))
  have XR3 := XR.far ⟨w.heap.size + 1 + 1, 3, none⟩ (.slice a3 d.no c3) (by first | omega | (simp; done) | (simp; omega))
  have XO3 : Box (w3.setCell ⟨w.heap.size + 1 + 1, 3, none⟩ (.slice a3 d.no c3)) (w.heap.size + 1 + 1) #[.int .i64 d.id, .slice a1 d.nf c1, .slice a2 d.nh c2, .slice a3 d.no c3, .slice none 0 0] 86 := heap_setCell_same _ _ 3 _ _ _ XO
  have B3 := bel_setCell B ⟨w.heap.size + 1 + 1, 3, none⟩ (.slice a3 d.no c3) (by first | omega | (simp; done) | (simp; omega))
  replace A1 : Hid (Ab (w.heap.size + 3) w1 (w3.setCell ⟨w.heap.size + 1 + 1, 3, none⟩ (.slice a3 d.no c3))) := A1.out.set _ _ (by first | omega | (simp; done) | (simp; omega))
  replace A2 : Hid (Ab (w.heap.size + 3) w2 (w3.setCell ⟨w.heap.size + 1 + 1, 3, none⟩ (.slice a3 d.no c3))) := A2.out.set _ _ (by first | omega | (simp; done) | (simp; omega))
  have A3 : Hid (Ab (w.heap.size + 3) w3 (w3.setCell ⟨w.heap.size + 1 + 1, 3, none⟩ (.slice a3 d.no c3))) := (Ab.refl _ _).set _ _ (by first | omega | (simp; done) | (simp; omega))
  have hR3 := HR.out.below B3
  obtain ⟨x0, x1, x2, x3, x4, zx⟩ := XA.at5
  obtain ⟨o0, o1, o2, o3, o4, zo⟩ := XO.at5
  have fz := XO.frozen 3
  go_wp2_with fail
  refine (toReceiverS_any _ _ d.ni d.g _ HD.out.i hR3.i).mono ?_
  rintro e w4 ⟨a4, c4, rfl, r4, b4⟩
  have hz4 : w3.heap.size ≤ w4.heap.size := by have := b4.size; simp at this; omega
  replace XA := XA3.below b4
  replace XR := XR3.below b4
  replace XO := XO3.below b4
  replace B := bel_trans B3 b4
  replace A1 : Hid (Ab (w.heap.size + 3) w1 w4) := A1.out.below (by first | omega | (simp; done) | (simp; omega)) b4
  replace A2 : Hid (Ab (w.heap.size + 3) w2 w4) := A2.out.below (by first | omega | (simp; done) | (simp; omega)) b4
  replace A3 : Hid (Ab (w.heap.size + 3) w3 w4) := A3.out.below (by first | omega | (simp; done) | (simp; omega)) b4
  clear XA3 XR3 XO3 B3 hR3 x0 x1 x2 x3 x4 zx o0 o1 o2 o3 o4 zo fz
  have R4 : Hid (∀ wz, Ab (w.heap.size + 3) w4 wz → GR wz a4 d.ni d.g) := fun wz h => r4 wz (h.mono (by first | omega | (simp; done) | (simp; omega)))
  clear b4 r4
  have XA4 := XA.far ⟨w.heap.size + 1 + 1, 4, none⟩ (.slice a4 d.ni c4) (by first | omega | (simp; done) | (simp; omega))
  have XR4 := XR.far ⟨w.heap.size + 1 + 1, 4, none⟩ (.slice a4 d.ni c4) (by first | omega | (simp; done) | (simp; omega))
  have XO4 : Box (w4.setCell ⟨w.heap.size + 1 + 1, 4, none⟩ (.slice a4 d.ni c4)) (w.heap.size + 1 + 1) #[.int .i64 d.id, .slice a1 d.nf c1, .slice a2 d.nh c2, .slice a3 d.no c3, .slice a4 d.ni c4] 86 := heap_setCell_same _ _ 4 _ _ _ XO
  have B4 := bel_setCell B ⟨w.heap.size + 1 + 1, 4, none⟩ (.slice a4 d.ni c4) (by first | omega | (simp; done) | (simp; omega))
  replace A1 : Hid (Ab (w.heap.size + 3) w1 (w4.setCell ⟨w.heap.size + 1 + 1, 4, none⟩ (.slice a4 d.ni c4))) := A1.out.set _ _ (by first | omega | (simp; done) | (simp; omega))
  replace A2 : Hid (Ab (w.heap.size + 3) w2 (w4.setCell ⟨w.heap.size + 1 + 1, 4, none⟩ (.slice a4 d.ni c4))) := A2.out.set _ _ (by first | omega | (simp; done) | (simp; omega))
  replace A3 : Hid (Ab (w.heap.size + 3) w3 (w4.setCell ⟨w.heap.size + 1 + 1, 4, none⟩ (.slice a4 d.ni c4))) := A3.out.set _ _ (by first | omega | (simp; done) | (simp; omega))
  have A4 : Hid (Ab (w.heap.size + 3) w4 (w4.setCell ⟨w.heap.size + 1 + 1, 4, none⟩ (.slice a4 d.ni c4))) := (Ab.refl _ _).set _ _ (by first | omega | (simp; done) | (simp; omega))
  obtain ⟨x0, x1, x2, x3, x4, zx⟩ := XA.at5
  obtain ⟨o0, o1, o2, o3, o4, zo⟩ := XO.at5
  have fz := XO.frozen 4
  obtain ⟨y0, y1, y2, y3, y4, zy⟩ := XR.at5
  have q0 := XR.frozen 0
  have q1 := XR.frozen 1
  have q2 := XR.frozen 2
  have q3 := XR.frozen 3
  have q4 := XR.frozen 4
  have HB4 : Hid _ := B4
  clear XA XO XA4 XR4 XO4 B B4 XR
  go_wp2
  refine bodyPost_ret (v := .agg #[.int .i64 d.id, .slice a1 d.nf c1, .slice a2 d.nh c2, .slice a3 d.no c3, .slice a4 d.ni c4]) (by simp [results, Try.results29, go_sem, y0, y1, y2, y3, y4]) rfl ⟨⟨(a1, c1), p1, (a2, c2), p2, (a3, c3), p3, m3, (a4, c4)⟩, rfl, ⟨R1.out _ ?_, R2.out _ ?_, R3.out _ ?_, R4.out _ ?_⟩, ?_⟩
  · exact ((((A1.out.set _ _ (by first | omega | (simp; done) | (simp; omega))).set _ _ (by first | omega | (simp; done) | (simp; omega))).set _ _ (by first | omega | (simp; done) | (simp; omega))).set _ _ (by first | omega | (simp; done) | (simp; omega))).set _ _ (by first | omega | (simp; done) | (simp; omega))
  · exact ((((A2.out.set _ _ (by first | omega | (simp; done) | (simp; omega))).set _ _ (by first | omega | (simp; done) | (simp; omega))).set _ _ (by first | omega | (simp; done) | (simp; omega))).set _ _ (by first | omega | (simp; done) | (simp; omega))).set _ _ (by first | omega | (simp; done) | (simp; omega))
  · exact ((((A3.out.set _ _ (by first | omega | (simp; done) | (simp; omega))).set _ _ (by first | omega | (simp; done) | (simp; omega))).set _ _ (by first | omega | (simp; done) | (simp; omega))).set _ _ (by first | omega | (simp; done) | (simp; omega))).set _ _ (by first | omega | (simp; done) | (simp; omega))
  · exact ((((A4.out.set _ _ (by first | omega | (simp; done) | (simp; omega))).set _ _ (by first | omega | (simp; done) | (simp; omega))).set _ _ (by first | omega | (simp; done) | (simp; omega))).set _ _ (by first | omega | (simp; done) | (simp; omega))).set _ _ (by first | omega | (simp; done) | (simp; omega))
  · exact lit_bel5 HB4.out (by first | omega | (simp; done) | (simp; omega))
end Go.Proofs.Ytpahjfijpjgdnaa
