/- What the law's toNode lays: a node that is owned. -/
import Derived.Test.YtpahjfijpjgdnaaWtT
namespace Go.Proofs.Ytpahjfijpjgdnaa
open Go.RowKit
set_option linter.unusedVariables false

set_option maxRecDepth 100000 in
set_option maxHeartbeats 4000000 in
theorem toNode_own (d : ND) (p : NP) (w : World) (hd : Nsm d) (hR : NR w d p) :
    Calls Try.prog 29 #[.agg (ncells d p)] w fun e w' => ∃ p', e = .returned (.agg (ncells d p')) ∧ NOw w' d p' ∧ (∀ b, NBs d p' b → w.heap.size ≤ b) ∧ Below w.heap.size w w' := by
  have B := bel_alloc (bel_alloc (bel_alloc (Below.refl w.heap.size w) (.cells (ncells d p) 73)) (.cells #[.int .i64 0, .slice none 0 0, .slice none 0 0, .slice none 0 0, .slice none 0 0] 86)) (.cells #[.int .i64 d.id, .slice none 0 0, .slice none 0 0, .slice none 0 0, .slice none 0 0] 86)
  obtain ⟨XA, XR, XO⟩ := Box.tri w (ncells d p) #[.int .i64 0, .slice none 0 0, .slice none 0 0, .slice none 0 0, .slice none 0 0] #[.int .i64 d.id, .slice none 0 0, .slice none 0 0, .slice none 0 0, .slice none 0 0] 73 86 86
  have hR0 := hR.below B
  have HR : Hid (NR w d p) := hR
  have HD : Hid (Nsm d) := hd
  clear hR hd
  go_enter Try.func29, Try.ntmps29
  go_wp2_with fail
  refine (toFrameS_own _ _ d.nf d.f p.fp _ HD.out.f.1 HD.out.f.2 hR0.f).mono ?_
  rintro e w1 ⟨a1, c1, p1, rfl, r1, l1, b1⟩
  have hz1 : w.heap.size + 3 ≤ w1.heap.size := by have := b1.size; simp at this; omega
  replace XA := XA.below b1
  replace XR := XR.below b1
  replace XO := XO.below b1
  replace B := bel_trans B b1
  have L1 : Hid (∀ b, RS a1 c1 d.nf (fun i => QF (p1 i)) b → w.heap.size + 3 ≤ b ∧ b < w1.heap.size) := fun b hb => ⟨by have := l1 b hb; simp at this; omega, Rw.slt r1 hb⟩
  have R1 : Hid (∀ wz, Ab (w.heap.size + 3) w1 wz → w1.heap.size ≤ wz.heap.size → FO wz a1 c1 d.nf d.f p1) := fun wz h hsz => Rw.sm r1 (ab_sm h hsz (fun b hb => by have := L1.out b hb; omega))
  clear b1 r1 l1 hR0
  have XA1 := XA.far ⟨w.heap.size + 1 + 1, 1, none⟩ (.slice a1 d.nf c1) (by first | omega | (simp; done) | (simp; omega))
  have XR1 := XR.far ⟨w.heap.size + 1 + 1, 1, none⟩ (.slice a1 d.nf c1) (by first | omega | (simp; done) | (simp; omega))
  have XO1 : Box (w1.setCell ⟨w.heap.size + 1 + 1, 1, none⟩ (.slice a1 d.nf c1)) (w.heap.size + 1 + 1) #[.int .i64 d.id, .slice a1 d.nf c1, .slice none 0 0, .slice none 0 0, .slice none 0 0] 86 := heap_setCell_same _ _ 1 _ _ _ XO
  have B1 := bel_setCell B ⟨w.heap.size + 1 + 1, 1, none⟩ (.slice a1 d.nf c1) (by first | omega | (simp; done) | (simp; omega))
  have A1 : Hid (Ab (w.heap.size + 3) w1 (w1.setCell ⟨w.heap.size + 1 + 1, 1, none⟩ (.slice a1 d.nf c1))) := (Ab.refl _ _).set _ _ (by first | omega | (simp; done) | (simp; omega))
  have hR1 := HR.out.below B1
  obtain ⟨x0, x1, x2, x3, x4, zx⟩ := XA.at5
  obtain ⟨o0, o1, o2, o3, o4, zo⟩ := XO.at5
  have fz := XO.frozen 1
  go_wp2_with fail
  refine (toHomeS_own _ _ d.nh d.h p.hp _ HD.out.h.1 HD.out.h.2 hR1.h).mono ?_
  rintro e w2 ⟨a2, c2, p2, rfl, r2, l2, b2⟩
  have hz2 : w1.heap.size ≤ w2.heap.size := by have := b2.size; simp at this; omega
  replace XA := XA1.below b2
  replace XR := XR1.below b2
  replace XO := XO1.below b2
  replace B := bel_trans B1 b2
  replace A1 : Hid (Ab (w.heap.size + 3) w1 w2) := A1.out.below (by first | omega | (simp; done) | (simp; omega)) b2
  clear XA1 XR1 XO1 B1 hR1 x0 x1 x2 x3 x4 zx o0 o1 o2 o3 o4 zo fz
  have L2 : Hid (∀ b, RS a2 c2 d.nh (fun i => QH (p2 i)) b → w1.heap.size ≤ b ∧ b < w2.heap.size) := fun b hb => ⟨by have := l2 b hb; simp at this; omega, Rw.slt r2 hb⟩
  have R2 : Hid (∀ wz, Ab (w.heap.size + 3) w2 wz → w2.heap.size ≤ wz.heap.size → HOw wz a2 c2 d.nh d.h p2) := fun wz h hsz => Rw.sm r2 (ab_sm h hsz (fun b hb => by have := L2.out b hb; omega))
  clear b2 r2 l2
  have XA2 := XA.far ⟨w.heap.size + 1 + 1, 2, none⟩ (.slice a2 d.nh c2) (by first | omega | (simp; done) | (simp; omega))
  have XR2 := XR.far ⟨w.heap.size + 1 + 1, 2, none⟩ (.slice a2 d.nh c2) (by first | omega | (simp; done) | (simp; omega))
  have XO2 : Box (w2.setCell ⟨w.heap.size + 1 + 1, 2, none⟩ (.slice a2 d.nh c2)) (w.heap.size + 1 + 1) #[.int .i64 d.id, .slice a1 d.nf c1, .slice a2 d.nh c2, .slice none 0 0, .slice none 0 0] 86 := heap_setCell_same _ _ 2 _ _ _ XO
  have B2 := bel_setCell B ⟨w.heap.size + 1 + 1, 2, none⟩ (.slice a2 d.nh c2) (by first | omega | (simp; done) | (simp; omega))
  replace A1 : Hid (Ab (w.heap.size + 3) w1 (w2.setCell ⟨w.heap.size + 1 + 1, 2, none⟩ (.slice a2 d.nh c2))) := A1.out.set _ _ (by first | omega | (simp; done) | (simp; omega))
  have A2 : Hid (Ab (w.heap.size + 3) w2 (w2.setCell ⟨w.heap.size + 1 + 1, 2, none⟩ (.slice a2 d.nh c2))) := (Ab.refl _ _).set _ _ (by first | omega | (simp; done) | (simp; omega))
  have hR2 := HR.out.below B2
  obtain ⟨x0, x1, x2, x3, x4, zx⟩ := XA.at5
  obtain ⟨o0, o1, o2, o3, o4, zo⟩ := XO.at5
  have fz := XO.frozen 2
  go_wp2_with fail
  refine (toSenderS_own _ _ d.no d.b d.y p.op p.ms _ HD.out.o.1 HD.out.o.2 hR2.o).mono ?_
  rintro e w3 ⟨a3, c3, p3, m3, rfl, r3, y3, l3, b3⟩
  have HY : Hid (∀ i, i < d.no → (m3 i).map M.say = d.y i) := y3
  clear y3
  have hz3 : w2.heap.size ≤ w3.heap.size := by have := b3.size; simp at this; omega
  replace XA := XA2.below b3
  replace XR := XR2.below b3
  replace XO := XO2.below b3
  replace B := bel_trans B2 b3
  replace A1 : Hid (Ab (w.heap.size + 3) w1 w3) := A1.out.below (by first | omega | (simp; done) | (simp; omega)) b3
  replace A2 : Hid (Ab (w.heap.size + 3) w2 w3) := A2.out.below (by first | omega | (simp; done) | (simp; omega)) b3
  clear XA2 XR2 XO2 B2 hR2 x0 x1 x2 x3 x4 zx o0 o1 o2 o3 o4 zo fz
  have L3 : Hid (∀ b, RS a3 c3 d.no (fun i => QS (p3 i) (m3 i)) b → w2.heap.size ≤ b ∧ b < w3.heap.size) := fun b hb => ⟨by have := l3 b hb; simp at this; omega, Rw.slt r3 hb⟩
  have R3 : Hid (∀ wz, Ab (w.heap.size + 3) w3 wz → w3.heap.size ≤ wz.heap.size → SO wz a3 c3 d.no d.b p3 m3) := fun wz h hsz => Rw.sm r3 (ab_sm h hsz (fun b hb => by have := L3.out b hb; omega))
  clear b3 r3 l3
  have XA3 := XA.far ⟨w.heap.size + 1 + 1, 3, none⟩ (.slice a3 d.no c3) (by first | omega | (simp; done) | (simp; omega))
  have XR3 := XR.far ⟨w.heap.size + 1 + 1, 3, none⟩ (.slice a3 d.no c3) (by first | omega | (simp; done) | (simp; omega))
  have XO3 : Box (w3.setCell ⟨w.heap.size + 1 + 1, 3, none⟩ (.slice a3 d.no c3)) (w.heap.size + 1 + 1) #[.int .i64 d.id, .slice a1 d.nf c1, .slice a2 d.nh c2, .slice a3 d.no c3, .slice none 0 0] 86 := heap_setCell_same _ _ 3 _ _ _ XO
  have B3 := bel_setCell B ⟨w.heap.size + 1 + 1, 3, none⟩ (.slice a3 d.no c3) (by first | omega | (simp; done) | (simp; omega))
  replace A1 : Hid (Ab (w.heap.size + 3) w1 (w3.setCell ⟨w.heap.size + 1 + 1, 3, none⟩ (.slice a3 d.no c3))) := A1.out.set _ _ (by first | omega | (simp; done) | (simp; omega))
  replace A2 : Hid (Ab (w.heap.size + 3) w2 (w3.setCell ⟨w.heap.size + 1 + 1, 3, none⟩ (.slice a3 d.no c3))) := A2.out.set _ _ (by first | omega | (simp; done) | (simp; omega))
  have A3 : Hid (Ab (w.heap.size + 3) w3 (w3.setCell ⟨w.heap.size + 1 + 1, 3, none⟩ (.slice a3 d.no c3))) := (Ab.refl _ _).set _ _ (by first | omega | (simp; done) | (simp; omega))
  have hR3 := HR.out.below B3
  obtain ⟨x0, x1, x2, x3, x4, zx⟩ := XA.at5
  obtain ⟨o0, o1, o2, o3, o4, zo⟩ := XO.at5
  have fz := XO.frozen 3
  go_wp2_with fail
  refine (toReceiverS_own _ _ d.ni d.g _ HD.out.i hR3.i).mono ?_
  rintro e w4 ⟨a4, c4, rfl, r4, l4, b4⟩
  have hz4 : w3.heap.size ≤ w4.heap.size := by have := b4.size; simp at this; omega
  replace XA := XA3.below b4
  replace XR := XR3.below b4
  replace XO := XO3.below b4
  replace B := bel_trans B3 b4
  replace A1 : Hid (Ab (w.heap.size + 3) w1 w4) := A1.out.below (by first | omega | (simp; done) | (simp; omega)) b4
  replace A2 : Hid (Ab (w.heap.size + 3) w2 w4) := A2.out.below (by first | omega | (simp; done) | (simp; omega)) b4
  replace A3 : Hid (Ab (w.heap.size + 3) w3 w4) := A3.out.below (by first | omega | (simp; done) | (simp; omega)) b4
  clear XA3 XR3 XO3 B3 hR3 x0 x1 x2 x3 x4 zx o0 o1 o2 o3 o4 zo fz
  have L4 : Hid (∀ b, blk (a4, c4) = some b → w3.heap.size ≤ b ∧ b < w4.heap.size) := fun b hb => ⟨by have := l4 b hb; simp at this; omega, GO.lt r4 hb⟩
  have R4 : Hid (∀ wz, Ab (w.heap.size + 3) w4 wz → w4.heap.size ≤ wz.heap.size → GO wz a4 c4 d.ni d.g) := fun wz h hsz => GO.sm (P := fun b => blk (a4, c4) = some b) r4 (ab_sm h hsz (fun b hb => by have := L4.out b hb; omega)) (fun b hb => hb)
  clear b4 r4 l4
  have XA4 := XA.far ⟨w.heap.size + 1 + 1, 4, none⟩ (.slice a4 d.ni c4) (by first | omega | (simp; done) | (simp; omega))
  have XR4 := XR.far ⟨w.heap.size + 1 + 1, 4, none⟩ (.slice a4 d.ni c4) (by first | omega | (simp; done) | (simp; omega))
  have XO4 : Box (w4.setCell ⟨w.heap.size + 1 + 1, 4, none⟩ (.slice a4 d.ni c4)) (w.heap.size + 1 + 1) #[.int .i64 d.id, .slice a1 d.nf c1, .slice a2 d.nh c2, .slice a3 d.no c3, .slice a4 d.ni c4] 86 := heap_setCell_same _ _ 4 _ _ _ XO
  have B4 := bel_setCell B ⟨w.heap.size + 1 + 1, 4, none⟩ (.slice a4 d.ni c4) (by first | omega | (simp; done) | (simp; omega))
  replace A1 : Hid (Ab (w.heap.size + 3) w1 (w4.setCell ⟨w.heap.size + 1 + 1, 4, none⟩ (.slice a4 d.ni c4))) := A1.out.set _ _ (by first | omega | (simp; done) | (simp; omega))
  replace A2 : Hid (Ab (w.heap.size + 3) w2 (w4.setCell ⟨w.heap.size + 1 + 1, 4, none⟩ (.slice a4 d.ni c4))) := A2.out.set _ _ (by first | omega | (simp; done) | (simp; omega))
  replace A3 : Hid (Ab (w.heap.size + 3) w3 (w4.setCell ⟨w.heap.size + 1 + 1, 4, none⟩ (.slice a4 d.ni c4))) := A3.out.set _ _ (by first | omega | (simp; done) | (simp; omega))
  have A4 : Hid (Ab (w.heap.size + 3) w4 (w4.setCell ⟨w.heap.size + 1 + 1, 4, none⟩ (.slice a4 d.ni c4))) := (Ab.refl _ _).set _ _ (by first | omega | (simp; done) | (simp; omega))
  obtain ⟨x0, x1, x2, x3, x4, zx⟩ := XA.at5
  obtain ⟨o0, o1, o2, o3, o4, zo⟩ := XO.at5
  have fz := XO.frozen 4
  obtain ⟨y0, y1, y2, y3, y4, zy⟩ := XR.at5
  have q0 := XR.frozen 0
  have q1 := XR.frozen 1
  have q2 := XR.frozen 2
  have q3 := XR.frozen 3
  have q4 := XR.frozen 4
  have HB4 : Hid _ := B4
  clear XA XO XA4 XR4 XO4 B B4 XR
  go_wp2
  refine bodyPost_ret (v := .agg #[.int .i64 d.id, .slice a1 d.nf c1, .slice a2 d.nh c2, .slice a3 d.no c3, .slice a4 d.ni c4]) (by simp [results, Try.results29, go_sem, y0, y1, y2, y3, y4]) rfl ⟨⟨(a1, c1), p1, (a2, c2), p2, (a3, c3), p3, m3, (a4, c4)⟩, rfl, ⟨R1.out _ ?_ ?_, R2.out _ ?_ ?_, R3.out _ ?_ ?_, R4.out _ ?_ ?_, HY.out, ?_, ?_, ?_, ?_, ?_, ?_⟩, ?_, ?_⟩
  · exact ((((A1.out.set _ _ (by first | omega | (simp; done) | (simp; omega))).set _ _ (by first | omega | (simp; done) | (simp; omega))).set _ _ (by first | omega | (simp; done) | (simp; omega))).set _ _ (by first | omega | (simp; done) | (simp; omega))).set _ _ (by first | omega | (simp; done) | (simp; omega))
  · first | (simp; done) | (simp; omega)
  · exact ((((A2.out.set _ _ (by first | omega | (simp; done) | (simp; omega))).set _ _ (by first | omega | (simp; done) | (simp; omega))).set _ _ (by first | omega | (simp; done) | (simp; omega))).set _ _ (by first | omega | (simp; done) | (simp; omega))).set _ _ (by first | omega | (simp; done) | (simp; omega))
  · first | (simp; done) | (simp; omega)
  · exact ((((A3.out.set _ _ (by first | omega | (simp; done) | (simp; omega))).set _ _ (by first | omega | (simp; done) | (simp; omega))).set _ _ (by first | omega | (simp; done) | (simp; omega))).set _ _ (by first | omega | (simp; done) | (simp; omega))).set _ _ (by first | omega | (simp; done) | (simp; omega))
  · first | (simp; done) | (simp; omega)
  · exact ((((A4.out.set _ _ (by first | omega | (simp; done) | (simp; omega))).set _ _ (by first | omega | (simp; done) | (simp; omega))).set _ _ (by first | omega | (simp; done) | (simp; omega))).set _ _ (by first | omega | (simp; done) | (simp; omega))).set _ _ (by first | omega | (simp; done) | (simp; omega))
  · first | (simp; done) | (simp; omega)
  · intro b h1 h2; have q1 := L1.out b h1; have q2 := L2.out b h2; omega
  · intro b h1 h2; have q1 := L1.out b h1; have q2 := L3.out b h2; omega
  · intro b h1 h2; have q1 := L1.out b h1; have q2 := L4.out b h2; omega
  · intro b h1 h2; have q1 := L2.out b h1; have q2 := L3.out b h2; omega
  · intro b h1 h2; have q1 := L2.out b h1; have q2 := L4.out b h2; omega
  · intro b h1 h2; have q1 := L3.out b h1; have q2 := L4.out b h2; omega
  · intro b hb
    rcases hb with hb | hb | hb | hb
    · have := L1.out b hb; omega
    · have := L2.out b hb; omega
    · have := L3.out b hb; omega
    · have := L4.out b hb; omega
  · exact lit_bel5 HB4.out (by first | omega | (simp; done) | (simp; omega))
end Go.Proofs.Ytpahjfijpjgdnaa
