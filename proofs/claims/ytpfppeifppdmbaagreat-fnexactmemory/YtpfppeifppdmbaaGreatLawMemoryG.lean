/- The law FnExactMemory over any impl.Memory that answers as it should (written by mk14m.py). -/
import Derived.Test.YtpfppeifppdmbaaGreatOpenW
import Derived.Test.YtpfppeifppdmbaaGreatWoT
import Derived.Test.YtpfppeifppdmbaaGreatWkW
import Derived.Test.YtpfppeifppdmbaaGreatMem1
namespace Go.Proofs.YtpfppeifppdmbaaGreat
open Go.ChangeShapes Go.WideShapes Go.ChangeAt Go.RowKit
set_option linter.unusedVariables false

namespace LawFnExactMemory
theorem wr_drew {w : World} {d : WoD} {p : WoP} (h : WoR w d p) : WoR w.drew d p := h.below (below_drewN (Below.refl _ _) 1)
theorem bel_dr {w w' : World} (h : ∃ n, w' = w.drewN n) : Below w.heap.size w w' := by obtain ⟨n, rfl⟩ := h; exact below_drewN (Below.refl _ _) n
theorem bel_eq {w w' : World} (h : w' = w) : Below w.heap.size w w' := by rw [h]; exact Below.refl _ _

set_option maxRecDepth 100000 in
set_option maxHeartbeats 8000000 in
theorem walkG (HI : ∀ (d : WoD) (p : WoP) (w : World), (∀ i, i < d.nn → ∀ j, j < (d.d i).nh → ((d.d i).h j).bs.length ≤ 1048577) → WoR w d p → Calls Tryz.prog 7 #[.agg (wcells d p)] w (IntsP (memW d) w)) (d : WoD) (p : WoP) (w : World) (hC : WoC w d p) :
    Calls Tryz.prog 3 #[.agg (wcells d p)] w fun e w' => e = .returned (.bool true) ∧ Below w.heap.size w w' := by
  have HI' : Hid _ := HI
  clear HI
  have B := bel_alloc (Below.refl w.heap.size w) (.cells (wcells d p) 25)
  have XA := Box.new w (wcells d p) 25
  have HC : Hid (WoC w d p) := hC
  have hC1 := hC.below B
  clear hC
  go_enter Tryz.func3, Tryz.ntmps3
  go_wp2_with fail
  refine (szWorld_tot d p _ hC1).mono ?_
  rintro e w1 ⟨r, rfl, hr, b1⟩
  replace XA := XA.below b1
  replace B := bel_trans B b1
  clear b1 hC1
  rcases hr with rfl | ⟨hr0, hr1⟩
  · clear XA
    go_wp2
    go_ret
    exact ⟨rfl, B⟩
  · have HZ : Hid (wZ d ≤ 1048576) := by show _ ≤ _; omega
    have HS : Hid (Wsm d) := wZ_sm HZ.out
    have HBS : Hid (∀ i, i < d.nn → ∀ j, j < (d.d i).nh → ((d.d i).h j).bs.length ≤ 1048577) := fun i hi j hj => by have := ((HS.out.n.2 i hi).h.2 j hj).2.1; omega
    obtain ⟨L, hL⟩ : ∃ L, memW d = L := ⟨_, rfl⟩
    have HL4 : Hid (L.length ≤ 1048577) := by rw [← hL]; exact memW_len d
    have HP : Hid (∀ W e W', IntsP (memW d) W e W' → ∃ (a : Option Addr) (c : Nat), e = .returned (.slice a L.length c) ∧ W'.ownsRow W.heap.size 3 1 (.slice a L.length c) L.length (L.map (Value.int .i64)) ∧ Below W.heap.size W W') := fun W e W' h => by
      rw [hL] at h
      exact h
    clear hL
    have R1 := (HC.out.below B).wr HS.out
    have HD : decide (r < 0) = false := by simp; omega
    clear hr1
    obtain ⟨x0, x1, x2, zx⟩ := XA.at3
    go_wp2_with fail
    refine (toWorld_own d p _ HS.out R1).mono ?_
    rintro e w2 ⟨p2, rfl, n2, l2, b2⟩
    replace XA := XA.below b2
    replace B := bel_trans B b2
    clear b2 x0 x1 x2 zx R1 HD l2
    have r2 := n2.wr HS.out
    clear n2
    go_wp2_with fail
    refine (specMemory_any d p2 _ HBS.out r2).mono ?_
    intro e w3 h3
    obtain ⟨a3, k3, rfl, q3, b3⟩ := HP.out _ _ _ h3
    clear h3 r2
    replace XA := XA.below b3
    replace B := bel_trans B b3
    have HWZ : Hid (w.heap.size < w3.heap.size) := XA.lt
    have L3 : Hid (∀ b, (Value.slice a3 L.length k3).ownBlock = some b → b < w3.heap.size) := fun b hb => (q3.lt b hb).2
    clear b3
    have R3 := (HC.out.below B).wr HS.out
    obtain ⟨x0, x1, x2, zx⟩ := XA.at3
    go_wp2_with fail
    refine (toWorld_own d p _ HS.out R3).mono ?_
    rintro e w4 ⟨p4, rfl, n4, l4, b4⟩
    clear R3 x0 x1 x2 zx
    have hz4 : w3.heap.size ≤ w4.heap.size := b4.size
    have L4 : Hid (∀ b, WBs d p4 b → w3.heap.size ≤ b ∧ b < w4.heap.size) := fun b hb => ⟨l4 b hb, n4.lt hb⟩
    clear l4
    replace XA := XA.below b4
    replace q3 := owns_below q3 b4
    replace B := bel_trans B b4
    clear b4
    have bx := bel_alloc (Below.refl w4.heap.size w4) (.cells (wcells d p4) 32)
    have X2 := Box.new w4 (wcells d p4) 32
    replace XA := XA.below bx
    replace q3 := owns_below q3 bx
    replace n4 := n4.below bx
    replace B := bel_trans B bx
    clear bx
    have r4 := n4.wr HS.out
    go_wp2_with fail
    refine (HI'.out d p4 _ HBS.out r4).mono ?_
    intro e w5 h5
    obtain ⟨a5, k5, rfl, q5, b5⟩ := HP.out _ _ _ h5
    clear h5 r4
    have hz5 : w4.heap.size + 1 ≤ w5.heap.size := by have := b5.size; simpa using this
    have L5 : Hid (∀ b, (Value.slice a5 L.length k5).ownBlock = some b → w4.heap.size + 1 ≤ b ∧ b < w5.heap.size) := fun b hb => by have := q5.lt b hb; simp at this; omega
    replace XA := XA.below b5
    replace X2 := X2.below b5
    replace q3 := owns_below q3 b5
    replace n4 := n4.below b5
    replace B := bel_trans B b5
    clear b5
    go_wp2_with fail
    refine (eqIntS_any a5 a3 k5 k3 L _ (owns_row' q5 (by have := HL4.out; omega)) (owns_row' q3 (by have := HL4.out; omega))).mono ?_
    rintro e w6 ⟨rfl, b6⟩
    replace b6 := bel_dr b6
    replace XA := XA.below b6
    replace X2 := X2.below b6
    replace q3 := owns_below q3 b6
    replace q5 := owns_below q5 b6
    replace n4 := n4.below b6
    replace B := bel_trans B b6
    clear b6
    have R6 := wr_drew ((HC.out.below B).wr HS.out)
    obtain ⟨x0, x1, x2, zx⟩ := XA.at3
    obtain ⟨y0, y1, y2, zy⟩ := X2.at3
    have r4 := n4.wr HS.out
    have HX : Hid (Box w6 w.heap.size (wcells d p) 25 ∧ Box w6 w4.heap.size (wcells d p4) 32) := ⟨XA, X2⟩
    have HN : Hid (WoO w6 d p4) := n4
    have HQ3 : Hid _ := q3
    have HQ5 : Hid _ := q5
    clear XA X2 n4 q3 q5
    go_wp2_with fail
    go_region_with (first | (go_at_call 6; refine (toWorld_own d p _ HS.out R6).mono ?_; rintro e w7 ⟨p7, rfl, n7, l7, b7⟩; have b7 := bel_undrew b7; obtain ⟨hc7, hf7⟩ := bcell b7; have r7 := n7.wr HS.out) | (go_at_call 9; refine (eqWorld_any d p4 p7 _ (r4.below b7) r7).mono ?_; rintro e w8 ⟨rfl, b8⟩))
    all_goals
      have b78 := bel_trans b7 b8
      obtain ⟨XA, X2⟩ := HX.out
      replace XA := XA.below b78
      replace X2 := X2.below b78
      have q3 := owns_below HQ3.out b78
      have q5 := owns_below HQ5.out b78
      have n4 := HN.out.below b78
      replace B := bel_trans B b78
      clear b7 b8 b78 hc7 hf7 n7 l7 r7 r4 R6 HX HN HQ3 HQ5 x0 x1 x2 zx y0 y1 y2 zy
      obtain ⟨y0, y1, y2, zy⟩ := X2.at3
      go_wp2_with fail
      refine (markWorld_gen d p4 _ HZ.out n4).mono ?_
      rintro e w9 ⟨K4, rfl, hK4, k4⟩
      have hk4 : decide (K4 < 0) = false := by simp; omega
      clear n4 y0 y1 y2 zy hK4
      replace q3 := owns_only q3 k4 (fun b h1 h2 => by have := L3.out b h1; have := L4.out b h2; omega)
      replace q5 := owns_only q5 k4 (fun b h1 h2 => by have := L5.out b h1; have := L4.out b h2; omega)
      replace XA := XA.only k4 (fun h2 => by have := L4.out _ h2; have := HWZ.out; omega)
      replace B : Below w.heap.size w w9 := B.trans ⟨k4.os, k4.tape, k4.output, k4.size, fun i hi => k4.block i (by have := B.size; omega) (fun h2 => by have := L4.out _ h2; have := HWZ.out; omega)⟩
      clear k4 X2
      go_wp2_with fail
      refine (eqIntS_any a5 a3 k5 k3 L _ (owns_row' q5 (by have := HL4.out; omega)) (owns_row' q3 (by have := HL4.out; omega))).mono ?_
      rintro e wa ⟨rfl, ba⟩
      replace ba := bel_dr ba
      replace XA := XA.below ba
      replace q3 := owns_below q3 ba
      replace q5 := owns_below q5 ba
      replace B := bel_trans B ba
      clear ba hk4
      go_wp2_with fail
      refine (markIntS_any _ L.length _ 1 _ _ (by omega) (by omega) (by have := HL4.out; omega) q5).mono ?_
      rintro e wb ⟨rfl, m5, g5⟩
      have k5b := (Only.refl _ (fun b => (Value.slice a5 L.length k5).ownBlock = some b)).grown g5 (fun j hj => hj)
      obtain ⟨KK, hKK⟩ : ∃ K, (1 : Int) + (L.length : Int) = K := ⟨_, rfl⟩
      have HKK : Hid ((1 : Int) + (L.length : Int) = KK) := hKK
      have hk5 : decide (KK < 0) = false := by simp; omega
      rw [hKK]
      clear hKK g5
      replace q3 := owns_only q3 k5b (fun b h1 h2 => by have := L3.out b h1; have := L5.out b h2; omega)
      replace XA := XA.only k5b (fun h2 => by have := L5.out _ h2; have := HWZ.out; omega)
      replace B : Below w.heap.size w wb := B.trans ⟨k5b.os, k5b.tape, k5b.output, k5b.size, fun i hi => k5b.block i (by have := B.size; omega) (fun h2 => by have := L5.out _ h2; have := HWZ.out; omega)⟩
      clear k5b q5
      go_wp2_with fail
      refine (heldIntS_any a5 k5 L.length 1 _ (by omega) (by omega) (owns_row' m5 (by rw [mki_length]; have := HL4.out; omega))).mono ?_
      rintro e wc ⟨rfl, hq⟩
      rw [HKK.out]
      have bc := bel_eq hq
      clear hq
      replace XA := XA.below bc
      replace q3 := owns_below q3 bc
      replace m5 := owns_below m5 bc
      replace B := bel_trans B bc
      clear bc
      have RC := (HC.out.below B).wr HS.out
      obtain ⟨x0, x1, x2, zx⟩ := XA.at3
      go_wp2_with fail
      refine (toWorld_own d p _ HS.out RC).mono ?_
      rintro e wd ⟨pd, rfl, nd, ld, bd⟩
      replace q3 := owns_below q3 bd
      replace m5 := owns_below m5 bd
      replace B := bel_trans B bd
      clear bd ld RC x0 x1 x2 zx XA
      have rd := nd.wr HS.out
      clear nd
      go_wp2_with fail
      refine (HI'.out d pd _ HBS.out rd).mono ?_
      intro e we he
      obtain ⟨a7, k7, rfl, q7, be⟩ := HP.out _ _ _ he
      clear he rd
      replace q3 := owns_below q3 be
      replace m5 := owns_below m5 be
      replace B := bel_trans B be
      clear be
      go_wp2_with fail
      refine (eqIntS_any a7 a3 k7 k3 L _ (owns_row' q7 (by have := HL4.out; omega)) (owns_row' q3 (by have := HL4.out; omega))).mono ?_
      rintro e wf ⟨rfl, bf⟩
      replace bf := bel_dr bf
      replace m5 := owns_below m5 bf
      replace B := bel_trans B bf
      clear bf q7 q3
      go_wp2_with fail
      refine (heldIntS_any a5 k5 L.length 1 _ (by omega) (by omega) (owns_row' m5 (by rw [mki_length]; have := HL4.out; omega))).mono ?_
      rintro e wg ⟨rfl, hq⟩
      rw [HKK.out]
      have bg := bel_eq hq
      clear hq
      replace B := bel_trans B bg
      clear bg m5
      go_wp2
      go_ret
      exact ⟨rfl, B⟩
end LawFnExactMemory
end Go.Proofs.YtpfppeifppdmbaaGreat
