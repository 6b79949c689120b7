/- What impl's copyNode does: a node that is owned. -/
import Derived.Test.YtcneocbadobcfaaGreatWtE
namespace Go.Proofs.YtcneocbadobcfaaGreat
open Go.RowKit
set_option linter.unusedVariables false

theorem NR.msm {w : World} {d : ND} {p : NP} (h : NR w d p) (s : Nsm d) : ∀ i, i < d.no → ∀ m ∈ p.ms i, m.xs.length ≤ 1048577 := fun i hi m hm => by
  have h3 : m.say ∈ d.y i := by rw [← (h.o.2.2 i hi).2]; exact List.mem_map_of_mem hm
  have := (s.o.2 i hi).2 _ h3
  simp only [M.say] at this
  omega

set_option maxRecDepth 100000 in
set_option maxHeartbeats 4000000 in
theorem copyNode_any (d : ND) (p : NP) (w : World) (hd : Nsm d) (hR : NR w d p) :
    Calls Tryz.prog 27 #[.agg (ncells d p)] w fun e w' => ∃ p', e = .returned (.agg (ncells d p')) ∧ NOw w' d p' ∧ (∀ b, NBs d p' b → w.heap.size ≤ b) ∧ Below w.heap.size w w' := by
  have B := bel_alloc (bel_alloc (Below.refl w.heap.size w) (.cells (ncells d p) 34)) (.cells #[.int .i64 0, .slice none 0 0, .slice none 0 0, .slice none 0 0, .slice none 0 0] 34)
  obtain ⟨X0, X1⟩ := Box.two w (ncells d p) #[.int .i64 0, .slice none 0 0, .slice none 0 0, .slice none 0 0, .slice none 0 0] 34 34
  have hR0 := hR.below B
  have HM : Hid (∀ i, i < d.no → ∀ m ∈ p.ms i, m.xs.length ≤ 1048577) := hR.msm hd
  have HR : Hid (NR w d p) := hR
  have HD : Hid (Nsm d) := hd
  clear hR hd
  go_enter Tryz.func27, Tryz.ntmps27
  go_wp2_with fail
  refine (copyEachF_any p.f.1 p.f.2 d.nf d.f p.fp _ (fun i hi => by have := HD.out.f.2 i hi; omega) hR0.f).mono ?_
  rintro e w1 ⟨a1, c1, p1, rfl, r1, l1, b1⟩
  have hz1 : w.heap.size + 2 ≤ w1.heap.size := by have := b1.size; simp at this; omega
  replace B := bel_trans B b1
  replace X0 := X0.below b1
  replace X1 := X1.below b1
  have L1 : Hid (∀ b, RS a1 c1 d.nf (fun i => QF (p1 i)) b → w.heap.size + 2 ≤ b ∧ b < w1.heap.size) := fun b hb => ⟨by have := l1 b hb; simp at this; omega, Rw.slt r1 hb⟩
  have R1 : Hid (∀ wz, Ab (w.heap.size + 2) w1 wz → w1.heap.size ≤ wz.heap.size → FO wz a1 c1 d.nf d.f p1) := fun wz h hsz => Rw.sm r1 (ab_sm h hsz (fun b hb => by have := L1.out b hb; omega))
  clear b1 r1 l1 hR0
  obtain ⟨x0, x1, x2, x3, x4, zx⟩ := X0.at5
  have fz := X0.frozen 1
  replace X0 : Box (w1.setCell ⟨w.heap.size, 1, none⟩ (.slice a1 d.nf c1)) w.heap.size #[.int .i64 d.id, .slice a1 d.nf c1, .slice p.h.1 d.nh p.h.2, .slice p.o.1 d.no p.o.2, .slice p.i.1 d.ni p.i.2] 34 := heap_setCell_same _ _ 1 _ _ _ X0
  replace X1 := X1.far ⟨w.heap.size, 1, none⟩ (.slice a1 d.nf c1) (by first | omega | (simp; done) | (simp; omega))
  replace B := bel_setCell B ⟨w.heap.size, 1, none⟩ (.slice a1 d.nf c1) (by first | omega | (simp; done) | (simp; omega))
  have A1 : Hid (Ab (w.heap.size + 2) w1 (w1.setCell ⟨w.heap.size, 1, none⟩ (.slice a1 d.nf c1))) := (Ab.refl _ _).set _ _ (by first | omega | (simp; done) | (simp; omega))
  have hR1 := HR.out.below B
  go_wp2_with fail
  refine (copyEachH_any p.h.1 p.h.2 d.nh d.h p.hp _ (fun i hi => by have := HD.out.h.2 i hi; omega) hR1.h).mono ?_
  rintro e w2 ⟨a2, c2, p2, rfl, r2, l2, b2⟩
  have hz2 : w1.heap.size ≤ w2.heap.size := by have := b2.size; simp at this; omega
  replace B := bel_trans B b2
  replace X0 := X0.below b2
  replace X1 := X1.below b2
  replace A1 : Hid (Ab (w.heap.size + 2) w1 w2) := A1.out.below (by first | omega | (simp; done) | (simp; omega)) b2
  clear hR1 x0 x1 x2 x3 x4 zx fz
  have L2 : Hid (∀ b, RS a2 c2 d.nh (fun i => QH (p2 i)) b → w1.heap.size ≤ b ∧ b < w2.heap.size) := fun b hb => ⟨by have := l2 b hb; simp at this; omega, Rw.slt r2 hb⟩
  have R2 : Hid (∀ wz, Ab (w.heap.size + 2) w2 wz → w2.heap.size ≤ wz.heap.size → HOw wz a2 c2 d.nh d.h p2) := fun wz h hsz => Rw.sm r2 (ab_sm h hsz (fun b hb => by have := L2.out b hb; omega))
  clear b2 r2 l2
  obtain ⟨x0, x1, x2, x3, x4, zx⟩ := X0.at5
  have fz := X0.frozen 2
  replace X0 : Box (w2.setCell ⟨w.heap.size, 2, none⟩ (.slice a2 d.nh c2)) w.heap.size #[.int .i64 d.id, .slice a1 d.nf c1, .slice a2 d.nh c2, .slice p.o.1 d.no p.o.2, .slice p.i.1 d.ni p.i.2] 34 := heap_setCell_same _ _ 2 _ _ _ X0
  replace X1 := X1.far ⟨w.heap.size, 2, none⟩ (.slice a2 d.nh c2) (by first | omega | (simp; done) | (simp; omega))
  replace B := bel_setCell B ⟨w.heap.size, 2, none⟩ (.slice a2 d.nh c2) (by first | omega | (simp; done) | (simp; omega))
  replace A1 : Hid (Ab (w.heap.size + 2) w1 (w2.setCell ⟨w.heap.size, 2, none⟩ (.slice a2 d.nh c2))) := A1.out.set _ _ (by first | omega | (simp; done) | (simp; omega))
  have A2 : Hid (Ab (w.heap.size + 2) w2 (w2.setCell ⟨w.heap.size, 2, none⟩ (.slice a2 d.nh c2))) := (Ab.refl _ _).set _ _ (by first | omega | (simp; done) | (simp; omega))
  have hR2 := HR.out.below B
  go_wp2_with fail
  refine (copyEachS_any p.o.1 p.o.2 d.no d.b d.y p.op p.ms _ HM.out hR2.o).mono ?_
  rintro e w3 ⟨a3, c3, p3, m3, rfl, r3, y3, l3, b3⟩
  have HY : Hid (∀ i, i < d.no → (m3 i).map M.say = d.y i) := y3
  clear y3
  have hz3 : w2.heap.size ≤ w3.heap.size := by have := b3.size; simp at this; omega
  replace B := bel_trans B b3
  replace X0 := X0.below b3
  replace X1 := X1.below b3
  replace A1 : Hid (Ab (w.heap.size + 2) w1 w3) := A1.out.below (by first | omega | (simp; done) | (simp; omega)) b3
  replace A2 : Hid (Ab (w.heap.size + 2) w2 w3) := A2.out.below (by first | omega | (simp; done) | (simp; omega)) b3
  clear hR2 x0 x1 x2 x3 x4 zx fz
  have L3 : Hid (∀ b, RS a3 c3 d.no (fun i => QS (p3 i) (m3 i)) b → w2.heap.size ≤ b ∧ b < w3.heap.size) := fun b hb => ⟨by have := l3 b hb; simp at this; omega, Rw.slt r3 hb⟩
  have R3 : Hid (∀ wz, Ab (w.heap.size + 2) w3 wz → w3.heap.size ≤ wz.heap.size → SO wz a3 c3 d.no d.b p3 m3) := fun wz h hsz => Rw.sm r3 (ab_sm h hsz (fun b hb => by have := L3.out b hb; omega))
  clear b3 r3 l3
  obtain ⟨x0, x1, x2, x3, x4, zx⟩ := X0.at5
  have fz := X0.frozen 3
  replace X0 : Box (w3.setCell ⟨w.heap.size, 3, none⟩ (.slice a3 d.no c3)) w.heap.size #[.int .i64 d.id, .slice a1 d.nf c1, .slice a2 d.nh c2, .slice a3 d.no c3, .slice p.i.1 d.ni p.i.2] 34 := heap_setCell_same _ _ 3 _ _ _ X0
  replace X1 := X1.far ⟨w.heap.size, 3, none⟩ (.slice a3 d.no c3) (by first | omega | (simp; done) | (simp; omega))
  replace B := bel_setCell B ⟨w.heap.size, 3, none⟩ (.slice a3 d.no c3) (by first | omega | (simp; done) | (simp; omega))
  replace A1 : Hid (Ab (w.heap.size + 2) w1 (w3.setCell ⟨w.heap.size, 3, none⟩ (.slice a3 d.no c3))) := A1.out.set _ _ (by first | omega | (simp; done) | (simp; omega))
  replace A2 : Hid (Ab (w.heap.size + 2) w2 (w3.setCell ⟨w.heap.size, 3, none⟩ (.slice a3 d.no c3))) := A2.out.set _ _ (by first | omega | (simp; done) | (simp; omega))
  have A3 : Hid (Ab (w.heap.size + 2) w3 (w3.setCell ⟨w.heap.size, 3, none⟩ (.slice a3 d.no c3))) := (Ab.refl _ _).set _ _ (by first | omega | (simp; done) | (simp; omega))
  have hR3 := HR.out.below B
  go_wp2_with fail
  refine (copyReceivers_any p.i.1 p.i.2 d.ni (chunks d.ni fun i => gcells (d.g i)) _ (by have := HD.out.i; omega) (chunks_length d.ni (fun i _ => rfl)) (chunks_one (fun i hi v hv => by simp [gcells] at hv; subst hv; rfl)) hR3.i.2).mono ?_
  rintro e w4 ⟨a4, c4, rfl, r4', b4⟩
  have l4 := owns_low r4'
  have r4 : GO w4 a4 c4 d.ni d.g := owns_base r4' (Nat.zero_le _)
  clear r4'
  have hz4 : w3.heap.size ≤ w4.heap.size := by have := b4.size; simp at this; omega
  replace B := bel_trans B b4
  replace X0 := X0.below b4
  replace X1 := X1.below b4
  replace A1 : Hid (Ab (w.heap.size + 2) w1 w4) := A1.out.below (by first | omega | (simp; done) | (simp; omega)) b4
  replace A2 : Hid (Ab (w.heap.size + 2) w2 w4) := A2.out.below (by first | omega | (simp; done) | (simp; omega)) b4
  replace A3 : Hid (Ab (w.heap.size + 2) w3 w4) := A3.out.below (by first | omega | (simp; done) | (simp; omega)) b4
  clear hR3 x0 x1 x2 x3 x4 zx fz
  have L4 : Hid (∀ b, blk (a4, c4) = some b → w3.heap.size ≤ b ∧ b < w4.heap.size) := fun b hb => ⟨by have := l4 b hb; simp at this; omega, GO.lt r4 hb⟩
  have R4 : Hid (∀ wz, Ab (w.heap.size + 2) w4 wz → w4.heap.size ≤ wz.heap.size → GO wz a4 c4 d.ni d.g) := fun wz h hsz => GO.sm (P := fun b => blk (a4, c4) = some b) r4 (ab_sm h hsz (fun b hb => by have := L4.out b hb; omega)) (fun b hb => hb)
  clear b4 r4 l4
  obtain ⟨x0, x1, x2, x3, x4, zx⟩ := X0.at5
  have fz := X0.frozen 4
  have A4 : Hid (Ab (w.heap.size + 2) w4 w4) := Ab.refl _ _
  obtain ⟨y0, y1, y2, y3, y4, zy⟩ := X1.at5
  have q0 := X1.frozen 0
  have q1 := X1.frozen 1
  have q2 := X1.frozen 2
  have q3 := X1.frozen 3
  have q4 := X1.frozen 4
  have HB : Hid (Below w.heap.size w w4) := B
  clear X0 X1 B
  go_wp2
  refine bodyPost_ret (v := .agg #[.int .i64 d.id, .slice a1 d.nf c1, .slice a2 d.nh c2, .slice a3 d.no c3, .slice a4 d.ni c4]) (by simp [results, Tryz.results27, go_sem, y0, y1, y2, y3, y4]) rfl ⟨⟨(a1, c1), p1, (a2, c2), p2, (a3, c3), p3, m3, (a4, c4)⟩, rfl, ⟨R1.out _ ?_ ?_, R2.out _ ?_ ?_, R3.out _ ?_ ?_, R4.out _ ?_ ?_, HY.out, ?_, ?_, ?_, ?_, ?_, ?_⟩, ?_, ?_⟩
  · repeat refine Ab.set ?_ _ _ ?_
    · exact A1.out
    all_goals (first | omega | (simp; done) | (simp; omega))
  · first | (simp; done) | (simp; omega)
  · repeat refine Ab.set ?_ _ _ ?_
    · exact A2.out
    all_goals (first | omega | (simp; done) | (simp; omega))
  · first | (simp; done) | (simp; omega)
  · repeat refine Ab.set ?_ _ _ ?_
    · exact A3.out
    all_goals (first | omega | (simp; done) | (simp; omega))
  · first | (simp; done) | (simp; omega)
  · repeat refine Ab.set ?_ _ _ ?_
    · exact A4.out
    all_goals (first | omega | (simp; done) | (simp; omega))
  · first | (simp; done) | (simp; omega)
  · intro b h1 h2; have q1 := L1.out b h1; have q2 := L2.out b h2; omega
  · intro b h1 h2; have q1 := L1.out b h1; have q2 := L3.out b h2; omega
  · intro b h1 h2; have q1 := L1.out b h1; have q2 := L4.out b h2; omega
  · intro b h1 h2; have q1 := L2.out b h1; have q2 := L3.out b h2; omega
  · intro b h1 h2; have q1 := L2.out b h1; have q2 := L4.out b h2; omega
  · intro b h1 h2; have q1 := L3.out b h1; have q2 := L4.out b h2; omega
  · intro b hb
    rcases hb with hb | hb | hb | hb
    · have := L1.out b hb; omega
    · have := L2.out b hb; omega
    · have := L3.out b hb; omega
    · have := L4.out b hb; omega
  · repeat refine bel_setCell ?_ _ _ ?_
    · exact HB.out
    all_goals (first | omega | (simp; done) | (simp; omega))
end Go.Proofs.YtcneocbadobcfaaGreat
