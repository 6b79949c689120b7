/- The law FnExactComing over any impl.Coming that answers as it should (written by mklt.py). -/
import Derived.Test.YtiaiomjoapbalaaGreatOpenW
import Derived.Test.YtiaiomjoapbalaaGreatWoT
import Derived.Test.YtiaiomjoapbalaaGreatWkW
import Derived.Test.YtiaiomjoapbalaaGreatTrS
namespace Go.Proofs.YtiaiomjoapbalaaGreat
open Go.ChangeShapes Go.WideShapes Go.ChangeAt Go.RowKit
set_option linter.unusedVariables false

namespace LawFnExactComing
theorem wr_drew {w : World} {d : WoD} {p : WoP} (h : WoR w d p) : WoR w.drew d p := h.below (below_drewN (Below.refl _ _) 1)
theorem comW_ok (d : WoD) (f t : Int) : (comW d f t).length ≤ 30 ∧ ∀ s ∈ comW d f t, okS s = true := by
  cases h : (worldB d && (inB f 0 (d.size - 1) && inB t 0 (d.size - 1)))
  · rw [comW_no h]; simp
  · rw [comW_yes h]
    simp only [Bool.and_eq_true] at h
    obtain ⟨h1, h2, h3⟩ := h
    have ok := WOk.of h1
    have hn := ok.n.1
    have hf : 0 ≤ f ∧ f ≤ d.size - 1 := by simpa [inB] using h2
    have ht : 0 ≤ t ∧ t ≤ d.size - 1 := by simpa [inB] using h3
    have a1 : f.toNat < d.nn := by omega
    have a2 : t.toNat < d.nn := by omega
    refine ⟨?_, com_ok ok a1 a2⟩
    have h4 := com_len ((d.d f.toNat).b t.toNat) ((d.d t.toNat).g f.toNat) ((d.d f.toNat).y t.toNat)
    have h5 := (sB_parts (ok.o _ a1 _ a2)).2.1
    unfold comD
    omega
theorem deep_lt {w : World} {lo : Nat} {a : Option Addr} {c : Nat} {ds : List M} (h : Deep w lo a c ds) {b : Nat} (hb : QS (a, c) ds b) : lo ≤ b ∧ b < w.heap.size := by
  rcases hb with hb | ⟨m, hm, hb⟩
  · exact h.row.lt b (own_blk hb)
  · exact h.lists.lt hm hb
theorem deep_only {w w' : World} {lo : Nat} {a : Option Addr} {c : Nat} {ds : List M} {S : Nat → Prop} (h : Deep w lo a c ds) (k : Only w w' S) (hs : ∀ b, QS (a, c) ds b → ¬ S b) : Deep w' lo a c ds :=
  ⟨owns_only h.row k (fun j hj => hs j (.inl (blk_eq hj))), fun m hm => owns_only (h.lists.1 m hm) k (fun j hj => hs j (.inr ⟨m, hm, hj⟩)), h.lists.2⟩
theorem eq_len {ds : List M} {Y : List Say} (h : ds.map M.say = Y) : ds.length = Y.length := by rw [← h, List.length_map]

set_option maxRecDepth 100000 in
set_option maxHeartbeats 8000000 in
theorem walkG (HI : ∀ (d : WoD) (p : WoP) (f t : Int) (w : World), (∀ i, i < d.nn → ∀ j, j < (d.d i).nh → ((d.d i).h j).bs.length ≤ 1048577) → WoR w d p → Calls Tryz.prog 8 #[.agg (wcells d p), .int .i64 f, .int .i64 t] w (MsgsP (comW d f t) w)) (d : WoD) (p : WoP) (f t : Int) (w : World) (hC : WoC w d p) (hwf : (Lit.int .i64 f).wf = true) (hwf2 : (Lit.int .i64 t).wf = true) :
    Calls Tryz.prog 3 #[.agg (wcells d p), .int .i64 f, .int .i64 t] w fun e w' => e = .returned (.bool true) ∧ Below w.heap.size w w' := by
  have HI' : Hid _ := HI
  clear HI
  have B := bel_alloc (Below.refl w.heap.size w) (.cells (wcells d p) 25)
  have XA := Box.new w (wcells d p) 25
  have HC : Hid (WoC w d p) := hC
  have hC1 := hC.below B
  clear hC
  go_enter Tryz.func3, Tryz.ntmps3
  go_wp2_with fail
  refine (szWorld_tot d p _ hC1).mono ?_
  rintro e w1 ⟨r, rfl, hr, b1⟩
  replace XA := XA.below b1
  replace B := bel_trans B b1
  clear b1 hC1
  rcases hr with rfl | ⟨hr0, hr1⟩
  · clear XA
    go_wp2
    go_ret
    exact ⟨rfl, B⟩
  · have HZ : Hid (wZ d ≤ 1048576) := by show _ ≤ _; omega
    have HS : Hid (Wsm d) := wZ_sm HZ.out
    have HBS : Hid (∀ i, i < d.nn → ∀ j, j < (d.d i).nh → ((d.d i).h j).bs.length ≤ 1048577) := fun i hi j hj => by have := ((HS.out.n.2 i hi).h.2 j hj).2.1; omega
    obtain ⟨Y, hY⟩ : ∃ Y, comW d f t = Y := ⟨_, rfl⟩
    obtain ⟨n, hn⟩ : ∃ n, Y.length = n := ⟨_, rfl⟩
    have HY : Hid (n ≤ 30 ∧ ∀ s ∈ Y, okS s = true) := by rw [← hn, ← hY]; exact comW_ok d f t
    have HYL : Hid (Y.length = n) := hn
    have HP : Hid (∀ W e W', MsgsP (comW d f t) W e W' → ∃ (a : Option Addr) (c : Nat) (ds : List M), (ds.map M.say = Y ∧ ds.length = n ∧ ∀ m ∈ ds, m.xs.length ≤ 1048577) ∧ e = .returned (.slice a n c) ∧ Deep W' W.heap.size a c ds ∧ Below W.heap.size W W') := fun W e W' h => by
      rw [hY] at h
      obtain ⟨a, c, ds, he, hs, hd, hb⟩ := h
      have hl := eq_len hs
      rw [hn] at hl
      rw [hl] at he
      exact ⟨a, c, ds, ⟨hs, hl, says_len hs HY.out.2⟩, he, hd, hb⟩
    clear hY hn
    have R1 := (HC.out.below B).wr HS.out
    have HD : decide (r < 0) = false := by simp; omega
    clear hr1
    obtain ⟨x0, x1, x2, zx⟩ := XA.at3
    go_wp2_with fail
    refine (toWorld_own d p _ HS.out R1).mono ?_
    rintro e w2 ⟨p2, rfl, n2, l2, b2⟩
    replace XA := XA.below b2
    replace B := bel_trans B b2
    clear b2 x0 x1 x2 zx R1 HD l2
    have r2 := n2.wr HS.out
    clear n2
    go_wp2_with fail
    refine (specComing_any d p2 f t _ HBS.out r2).mono ?_
    intro e w3 h3
    obtain ⟨a3, k3, d3, s3, rfl, q3, b3⟩ := HP.out _ _ _ h3
    clear h3 r2
    replace XA := XA.below b3
    replace B := bel_trans B b3
    have HWZ : Hid (w.heap.size < w3.heap.size) := XA.lt
    have L3 : Hid (∀ b, QS (a3, k3) d3 b → b < w3.heap.size) := fun b hb => (deep_lt q3 hb).2
    clear b3
    have R3 := (HC.out.below B).wr HS.out
    obtain ⟨x0, x1, x2, zx⟩ := XA.at3
    go_wp2_with fail
    refine (toWorld_own d p _ HS.out R3).mono ?_
    rintro e w4 ⟨p4, rfl, n4, l4, b4⟩
    clear R3 x0 x1 x2 zx
    have hz4 : w3.heap.size ≤ w4.heap.size := b4.size
    have L4 : Hid (∀ b, WBs d p4 b → w3.heap.size ≤ b ∧ b < w4.heap.size) := fun b hb => ⟨l4 b hb, n4.lt hb⟩
    clear l4
    replace XA := XA.below b4
    replace q3 := (q3).below b4
    replace B := bel_trans B b4
    clear b4
    have bx := bel_alloc (Below.refl w4.heap.size w4) (.cells (wcells d p4) 32)
    have X2 := Box.new w4 (wcells d p4) 32
    replace XA := XA.below bx
    replace q3 := (q3).below bx
    replace n4 := n4.below bx
    replace B := bel_trans B bx
    clear bx
    have r4 := n4.wr HS.out
    go_wp2_with fail
    refine (HI'.out d p4 f t _ HBS.out r4).mono ?_
    intro e w5 h5
    obtain ⟨a5, k5, d5, s5, rfl, q5, b5⟩ := HP.out _ _ _ h5
    clear h5 r4
    have hz5 : w4.heap.size + 1 ≤ w5.heap.size := by have := b5.size; simpa using this
    have L5 : Hid (∀ b, QS (a5, k5) d5 b → w4.heap.size + 1 ≤ b ∧ b < w5.heap.size) := fun b hb => by have := deep_lt q5 hb; simp at this; omega
    replace XA := XA.below b5
    replace X2 := X2.below b5
    replace q3 := (q3).below b5
    replace n4 := n4.below b5
    replace B := bel_trans B b5
    clear b5
    go_wp2_with fail
    refine (eqMsgS_any a5 a3 k5 k3 d5 d3 n _ s5.2.1 (s3.1.trans s5.1.symm) (q5.mrow (by have := HY.out.1; omega) s5.2.2) (q3.mrow (by have := HY.out.1; omega) s3.2.2)).mono ?_
    rintro e w6 ⟨rfl, b6⟩
    replace XA := XA.below b6
    replace X2 := X2.below b6
    replace q3 := (q3).below b6
    replace q5 := (q5).below b6
    replace n4 := n4.below b6
    replace B := bel_trans B b6
    clear b6
    have R6 := wr_drew ((HC.out.below B).wr HS.out)
    obtain ⟨x0, x1, x2, zx⟩ := XA.at3
    obtain ⟨y0, y1, y2, zy⟩ := X2.at3
    have r4 := n4.wr HS.out
    have HX : Hid (Box w6 w.heap.size (wcells d p) 25 ∧ Box w6 w4.heap.size (wcells d p4) 32) := ⟨XA, X2⟩
    have HN : Hid (WoO w6 d p4) := n4
    have HQ3 : Hid _ := q3
    have HQ5 : Hid _ := q5
    clear XA X2 n4 q3 q5
    go_wp2_with fail
    go_region_with (first | (go_at_call 7; refine (toWorld_own d p _ HS.out R6).mono ?_; rintro e w7 ⟨p7, rfl, n7, l7, b7⟩; have b7 := bel_undrew b7; obtain ⟨hc7, hf7⟩ := bcell b7; have r7 := n7.wr HS.out) | (go_at_call 10; refine (eqWorld_any d p4 p7 _ (r4.below b7) r7).mono ?_; rintro e w8 ⟨rfl, b8⟩))
    all_goals
      have b78 := bel_trans b7 b8
      obtain ⟨XA, X2⟩ := HX.out
      replace XA := XA.below b78
      replace X2 := X2.below b78
      have q3 := (HQ3.out).below b78
      have q5 := (HQ5.out).below b78
      have n4 := HN.out.below b78
      replace B := bel_trans B b78
      clear b7 b8 b78 hc7 hf7 n7 l7 r7 r4 R6 HX HN HQ3 HQ5 x0 x1 x2 zx y0 y1 y2 zy
      obtain ⟨y0, y1, y2, zy⟩ := X2.at3
      go_wp2_with fail
      refine (markWorld_gen d p4 _ HZ.out n4).mono ?_
      rintro e w9 ⟨K4, rfl, hK4, k4⟩
      have hk4 : decide (K4 < 0) = false := by simp; omega
      clear n4 y0 y1 y2 zy hK4
      replace q3 := deep_only q3 k4 (fun b h1 h2 => by have := L3.out b h1; have := L4.out b h2; omega)
      replace q5 := deep_only q5 k4 (fun b h1 h2 => by have := L5.out b h1; have := L4.out b h2; omega)
      replace XA := XA.only k4 (fun h2 => by have := L4.out _ h2; have := HWZ.out; omega)
      replace B : Below w.heap.size w w9 := B.trans ⟨k4.os, k4.tape, k4.output, k4.size, fun i hi => k4.block i (by have := B.size; omega) (fun h2 => by have := L4.out _ h2; have := HWZ.out; omega)⟩
      clear k4 X2
      go_wp2_with fail
      refine (eqMsgS_any a5 a3 k5 k3 d5 d3 n _ s5.2.1 (s3.1.trans s5.1.symm) (q5.mrow (by have := HY.out.1; omega) s5.2.2) (q3.mrow (by have := HY.out.1; omega) s3.2.2)).mono ?_
      rintro e wa ⟨rfl, ba⟩
      replace XA := XA.below ba
      replace q3 := (q3).below ba
      replace q5 := (q5).below ba
      replace B := bel_trans B ba
      clear ba hk4
      go_wp2_with fail
      have keyM := markMsgS_only (QS (a5, k5) d5) _ a5 k5 d5 1 _ (by omega) (by omega) (by have := HY.out.1; omega) s5.2.2 q5 ⟨fun j hj => .inl (blk_eq hj), fun m hm j hj => .inr ⟨m, hm, hj⟩⟩
      rw [s5.2.1] at keyM
      refine keyM.mono ?_
      clear keyM
      rintro e wb ⟨rfl, m5, k5b⟩
      obtain ⟨KK, hKK⟩ : ∃ K, markEnd 1 d5 = K := ⟨_, rfl⟩
      have HKK : Hid (markEnd 1 d5 = KK) := hKK
      have hk5 : decide (KK < 0) = false := by have h1 := (markEnd_bound 1 d5 1048577 s5.2.2).1; rw [hKK] at h1; simp; omega
      rw [hKK]
      clear hKK
      replace q3 := deep_only q3 k5b (fun b h1 h2 => by have := L3.out b h1; have := L5.out b h2; omega)
      replace XA := XA.only k5b (fun h2 => by have := L5.out _ h2; have := HWZ.out; omega)
      replace B : Below w.heap.size w wb := B.trans ⟨k5b.os, k5b.tape, k5b.output, k5b.size, fun i hi => k5b.block i (by have := B.size; omega) (fun h2 => by have := L5.out _ h2; have := HWZ.out; omega)⟩
      clear k5b q5
      go_wp2_with fail
      have keyH := heldMsgS_any _ a5 k5 d5 1 _ (by omega) (by omega) (by have := HY.out.1; omega) s5.2.2 m5
      rw [s5.2.1] at keyH
      refine keyH.mono ?_
      clear keyH
      rintro e wc ⟨rfl, bc⟩
      rw [HKK.out]
      replace XA := XA.below bc
      replace q3 := (q3).below bc
      replace m5 := (m5).below bc
      replace B := bel_trans B bc
      clear bc
      have RC := (HC.out.below B).wr HS.out
      obtain ⟨x0, x1, x2, zx⟩ := XA.at3
      go_wp2_with fail
      refine (toWorld_own d p _ HS.out RC).mono ?_
      rintro e wd ⟨pd, rfl, nd, ld, bd⟩
      replace q3 := (q3).below bd
      replace m5 := (m5).below bd
      replace B := bel_trans B bd
      clear bd ld RC x0 x1 x2 zx XA
      have rd := nd.wr HS.out
      clear nd
      go_wp2_with fail
      refine (HI'.out d pd f t _ HBS.out rd).mono ?_
      intro e we he
      obtain ⟨a7, k7, d7, s7, rfl, q7, be⟩ := HP.out _ _ _ he
      clear he rd
      replace q3 := (q3).below be
      replace m5 := (m5).below be
      replace B := bel_trans B be
      clear be
      go_wp2_with fail
      refine (eqMsgS_any a7 a3 k7 k3 d7 d3 n _ s7.2.1 (s3.1.trans s7.1.symm) (q7.mrow (by have := HY.out.1; omega) s7.2.2) (q3.mrow (by have := HY.out.1; omega) s3.2.2)).mono ?_
      rintro e wf ⟨rfl, bf⟩
      replace m5 := (m5).below bf
      replace B := bel_trans B bf
      clear bf q7 q3
      go_wp2_with fail
      have keyH := heldMsgS_any _ a5 k5 d5 1 _ (by omega) (by omega) (by have := HY.out.1; omega) s5.2.2 m5
      rw [s5.2.1] at keyH
      refine keyH.mono ?_
      clear keyH
      rintro e wg ⟨rfl, bg⟩
      rw [HKK.out]
      replace B := bel_trans B bg
      clear bg m5
      go_wp2
      go_ret
      exact ⟨rfl, B⟩
end LawFnExactComing
end Go.Proofs.YtiaiomjoapbalaaGreat
