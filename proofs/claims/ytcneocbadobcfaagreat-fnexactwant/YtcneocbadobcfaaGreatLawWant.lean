/- For every node, number of nodes, page and own the law FnExactWant returns true: Want answers as the specification, writes into no argument, and owns its answer's memory. Conditions: none. -/
import Derived.Test.YtcneocbadobcfaaGreatOpenN
import Derived.Test.YtcneocbadobcfaaGreatWtI
import Derived.Test.YtcneocbadobcfaaGreatWtN
import Derived.Test.YtcneocbadobcfaaGreatWtT2
namespace Go.Proofs.YtcneocbadobcfaaGreat
open Go.ChangeShapes Go.WideShapes Go.ChangeAt Go.RowKit
set_option linter.unusedVariables false

namespace LawFnExactWant
theorem nr_drew {w : World} {d : ND} {p : NP} (h : NR w d p) : NR w.drew d p := h.below (below_drewN (Below.refl _ _) 1)
theorem nsm_want {d : ND} (h : Nsm d) (nodes page : Int) (own : Bool) : Nsm (wantD d nodes page own) := by
  unfold wantD
  cases hb : wantB d nodes page own
  · exact h
  · have hq : askQ d page.toNat own = true := by
      unfold wantB at hb
      exact (Bool.and_eq_true _ _ ▸ hb).2
    simp only [if_true]
    refine ⟨⟨h.f.1, fun i hi => ?_⟩, h.h, ⟨h.o.1, fun i hi => ?_⟩, h.i⟩
    · by_cases e : i = page.toNat
      · subst e
        simp only [askD, if_pos]
        exact h.f.2 _ hi
      · simp only [askD, if_neg e]
        exact h.f.2 i hi
    · by_cases e : i = page.toNat % d.no
      · subst e
        simp only [askD, if_pos]
        simp only [askQ, sB, Bool.and_eq_true, decide_eq_true_eq] at hq
        refine ⟨by omega, fun s hs => ?_⟩
        rcases List.mem_append.1 hs with hs | hs
        · exact (h.o.2 _ hi).2 s hs
        · simp at hs
          subst hs
          simp [askS]
      · simp only [askD, if_neg e]
        exact h.o.2 i hi

set_option maxRecDepth 100000 in
set_option maxHeartbeats 8000000 in
theorem walk (d : ND) (p : NP) (nodes page : Int) (own : Bool) (w : World) (hC : NC w d p) (hwf : (Lit.int .i64 nodes).wf = true) (hwf2 : (Lit.int .i64 page).wf = true) :
    Calls Tryz.prog 3 #[.agg (ncells d p), .int .i64 nodes, .int .i64 page, .bool own] w fun e w' => e = .returned (.bool true) ∧ Below w.heap.size w w' := by
  have B := bel_alloc (Below.refl w.heap.size w) (.cells (ncells d p) 27)
  have XA := Box.new w (ncells d p) 27
  have HC : Hid (NC w d p) := hC
  have hC1 := hC.below B
  clear hC
  go_enter Tryz.func3, Tryz.ntmps3
  go_wp2_with fail
  refine (szNode_any d p _ hC1).mono ?_
  rintro e w1 ⟨r, rfl, hr, b1⟩
  replace XA := XA.below b1
  replace B := bel_trans B b1
  clear b1 hC1
  rcases hr with rfl | ⟨hr0, hs⟩
  · clear XA
    go_wp2
    go_ret
    exact ⟨rfl, B⟩
  · have HS : Hid (Nsm d) := hs
    obtain ⟨D, hD⟩ : ∃ D, wantD d nodes page own = D := ⟨_, rfl⟩
    obtain ⟨ok, hok⟩ : ∃ ok, wantB d nodes page own = ok := ⟨_, rfl⟩
    have HSD : Hid (Nsm D) := by rw [← hD]; exact nsm_want hs nodes page own
    have HP : Hid (∀ W e W', WantP d nodes page own W e W' → ∃ p', e = .returned (.tuple #[.agg (ncells D p'), .bool ok]) ∧ NOw W' D p' ∧ (∀ b, NBs D p' b → W.heap.size ≤ b) ∧ Below W.heap.size W W') := fun W e W' h => by
      have h2 := h.out
      rw [hD, hok] at h2
      exact h2
    clear hD hok
    have R1 := (HC.out.below B).nr hs
    clear hs
    have HD : decide (r < 0) = false := by simp; omega
    obtain ⟨x0, x1, x2, x3, x4, zx⟩ := XA.at5
    go_wp2_with fail
    refine (toNode_own d p _ HS.out R1).mono ?_
    rintro e w2 ⟨p2, rfl, n2, l2, b2⟩
    replace XA := XA.below b2
    replace B := bel_trans B b2
    clear b2 x0 x1 x2 x3 x4 zx R1 HD l2
    have r2 := n2.nr HS.out
    clear n2
    go_wp2_with fail
    refine (specWant_any d p2 nodes page own _ HS.out r2).mono ?_
    intro e w3 h3
    obtain ⟨p3, rfl, n3, l3, b3⟩ := HP.out _ _ _ h3
    clear h3 r2 l3
    replace XA := XA.below b3
    replace B := bel_trans B b3
    have HWZ : Hid (w.heap.size < w3.heap.size) := XA.lt
    have L3 : Hid (∀ b, NBs D p3 b → b < w3.heap.size) := fun b hb => n3.lt hb
    clear b3
    have bx := bel_alloc (Below.refl w3.heap.size w3) (.cells (ncells D p3) 34)
    have X1 := Box.new w3 (ncells D p3) 34
    replace XA := XA.below bx
    replace n3 := n3.below bx
    replace B := bel_trans B bx
    clear bx
    have R3 := (HC.out.below B).nr HS.out
    obtain ⟨x0, x1, x2, x3, x4, zx⟩ := XA.at5
    go_wp2_with fail
    refine (toNode_own d p _ HS.out R3).mono ?_
    rintro e w4 ⟨p4, rfl, n4, l4, b4⟩
    clear R3 x0 x1 x2 x3 x4 zx
    have hz4 : w3.heap.size + 1 ≤ w4.heap.size := by have := b4.size; simpa using this
    have L4 : Hid (∀ b, NBs d p4 b → w3.heap.size + 1 ≤ b ∧ b < w4.heap.size) := fun b hb => ⟨by have := l4 b hb; simpa using this, n4.lt hb⟩
    clear l4
    replace XA := XA.below b4
    replace X1 := X1.below b4
    replace n3 := n3.below b4
    replace B := bel_trans B b4
    clear b4
    have bx := bel_alloc (Below.refl w4.heap.size w4) (.cells (ncells d p4) 34)
    have X2 := Box.new w4 (ncells d p4) 34
    replace XA := XA.below bx
    replace X1 := X1.below bx
    replace n3 := n3.below bx
    replace n4 := n4.below bx
    replace B := bel_trans B bx
    clear bx
    have r4 := n4.nr HS.out
    go_wp2_with fail
    refine (implWant_any d p4 nodes page own _ HS.out r4).mono ?_
    intro e w5 h5
    obtain ⟨p5, rfl, n5, l5, b5⟩ := HP.out _ _ _ h5
    clear h5 r4
    have hz5 : w4.heap.size + 1 ≤ w5.heap.size := by have := b5.size; simpa using this
    have L5 : Hid (∀ b, NBs D p5 b → w4.heap.size + 1 ≤ b ∧ b < w5.heap.size) := fun b hb => ⟨by have := l5 b hb; simpa using this, n5.lt hb⟩
    clear l5
    replace XA := XA.below b5
    replace X1 := X1.below b5
    replace X2 := X2.below b5
    replace n3 := n3.below b5
    replace n4 := n4.below b5
    replace B := bel_trans B b5
    clear b5
    have bx := bel_alloc (Below.refl w5.heap.size w5) (.cells (ncells D p5) 34)
    have X3 := Box.new w5 (ncells D p5) 34
    replace XA := XA.below bx
    replace X1 := X1.below bx
    replace X2 := X2.below bx
    replace n3 := n3.below bx
    replace n4 := n4.below bx
    replace n5 := n5.below bx
    replace B := bel_trans B bx
    clear bx
    obtain ⟨x0, x1, x2, x3, x4, zx⟩ := X1.at5
    have r5 := n5.nr HSD.out
    have r3 := n3.nr HSD.out
    go_wp2_with fail
    refine (eqNode_any D p5 p3 _ r5 r3).mono ?_
    rintro e w6 ⟨rfl, b6⟩
    replace XA := XA.below b6
    replace X1 := X1.below b6
    replace X2 := X2.below b6
    replace X3 := X3.below b6
    replace n3 := n3.below b6
    replace n4 := n4.below b6
    replace n5 := n5.below b6
    replace B := bel_trans B b6
    clear b6 r5 r3 x0 x1 x2 x3 x4 zx
    have R6 := nr_drew ((HC.out.below B).nr HS.out)
    obtain ⟨x0, x1, x2, x3, x4, zx⟩ := XA.at5
    obtain ⟨y0, y1, y2, y3, y4, zy⟩ := X2.at5
    have r4 := n4.nr HS.out
    have HX : Hid (Box w6 w.heap.size (ncells d p) 27 ∧ Box w6 w3.heap.size (ncells D p3) 34 ∧ Box w6 w4.heap.size (ncells d p4) 34 ∧ Box w6 w5.heap.size (ncells D p5) 34) := ⟨XA, X1, X2, X3⟩
    have HN : Hid (NOw w6 D p3 ∧ NOw w6 d p4 ∧ NOw w6 D p5) := ⟨n3, n4, n5⟩
    clear XA X1 X2 X3 n3 n4 n5
    go_wp2_with fail
    go_region_with (first | (go_at_call 6; refine (toNode_own d p _ HS.out R6).mono ?_; rintro e w7 ⟨p7, rfl, n7, l7, b7⟩; have b7 := bel_undrew b7; obtain ⟨hc7, hf7⟩ := bcell b7; have r7 := n7.nr HS.out) | (go_at_call 8; refine (eqNode_any d p4 p7 _ (r4.below b7) r7).mono ?_; rintro e w8 ⟨rfl, b8⟩))
    all_goals
      have b78 := bel_trans b7 b8
      obtain ⟨XA, X1, X2, X3⟩ := HX.out
      obtain ⟨n3, n4, n5⟩ := HN.out
      replace XA := XA.below b78
      replace X1 := X1.below b78
      replace X2 := X2.below b78
      replace X3 := X3.below b78
      replace n3 := n3.below b78
      replace n4 := n4.below b78
      replace n5 := n5.below b78
      replace B := bel_trans B b78
      clear b7 b8 b78 hc7 hf7 n7 l7 r7 r4 R6 HX HN x0 x1 x2 x3 x4 zx y0 y1 y2 y3 y4 zy
      obtain ⟨y0, y1, y2, y3, y4, zy⟩ := X2.at5
      have HK4 : Hid (1 ≤ kEnd 1 d p4) := (kn_le HS.out (n4.msm HS.out)).2.2.2
      have HM5 : Hid (∀ i, i < D.no → (p5.ms i).length ≤ 1048577 ∧ ∀ m ∈ p5.ms i, m.xs.length ≤ 1048577) := n5.msm HSD.out
      have HK5 : Hid (1 ≤ kEnd 1 D p5) := (kn_le HSD.out HM5.out).2.2.2
      obtain ⟨K4, hK4⟩ : ∃ K, kEnd 1 d p4 = K := ⟨_, rfl⟩
      obtain ⟨K5, hK5⟩ : ∃ K, kEnd 1 D p5 = K := ⟨_, rfl⟩
      have E4 : Hid (kEnd 1 d p4 = K4) := hK4
      have E5 : Hid (kEnd 1 D p5 = K5) := hK5
      have hk4 : decide (K4 < 0) = false := by have := HK4.out; rw [hK4] at this; simp; omega
      have hk5 : decide (K5 < 0) = false := by have := HK5.out; rw [hK5] at this; simp; omega
      clear hK4 hK5
      go_wp2_with fail
      refine (markNode_all d p4 _ HS.out n4).mono ?_
      rintro e w9 ⟨rfl, m4, k4⟩
      rw [E4.out]
      clear m4 n4 y0 y1 y2 y3 y4 zy
      replace n3 := n3.sm (k4.sm (fun b h1 h2 => by have := L3.out b h1; have := L4.out b h2; omega))
      replace n5 := n5.sm (k4.sm (fun b h1 h2 => by have := L5.out b h1; have := L4.out b h2; omega))
      replace XA := XA.only k4 (fun h2 => by have := L4.out _ h2; have := HWZ.out; omega)
      replace X1 := X1.only k4 (fun h2 => by have := L4.out _ h2; omega)
      replace X3 := X3.only k4 (fun h2 => by have := L4.out _ h2; omega)
      replace B : Below w.heap.size w w9 := B.trans ⟨k4.os, k4.tape, k4.output, k4.size, fun i hi => k4.block i (by have := B.size; omega) (fun h2 => by have := L4.out _ h2; have := HWZ.out; omega)⟩
      clear k4 X2
      obtain ⟨x0, x1, x2, x3, x4, zx⟩ := X1.at5
      obtain ⟨y0, y1, y2, y3, y4, zy⟩ := X3.at5
      have r5 := n5.nr HSD.out
      have r3 := n3.nr HSD.out
      go_wp2_with fail
      refine (eqNode_any D p5 p3 _ r5 r3).mono ?_
      rintro e wa ⟨rfl, ba⟩
      replace XA := XA.below ba
      replace X1 := X1.below ba
      replace X3 := X3.below ba
      replace n3 := n3.below ba
      replace n5 := n5.below ba
      replace B := bel_trans B ba
      clear ba r5 r3 x0 x1 x2 x3 x4 zx y0 y1 y2 y3 y4 zy
      obtain ⟨y0, y1, y2, y3, y4, zy⟩ := X3.at5
      go_wp2_with fail
      refine (markNode_all D p5 _ HSD.out n5).mono ?_
      rintro e wb ⟨rfl, m5, k5⟩
      rw [E5.out]
      clear n5 y0 y1 y2 y3 y4 zy
      replace n3 := n3.sm (k5.sm (fun b h1 h2 => by have := L3.out b h1; have := L5.out b h2; omega))
      replace XA := XA.only k5 (fun h2 => by have := L5.out _ h2; have := HWZ.out; omega)
      replace X1 := X1.only k5 (fun h2 => by have := L5.out _ h2; omega)
      replace X3 := X3.only k5 (fun h2 => by have := L5.out _ h2; omega)
      replace B : Below w.heap.size w wb := B.trans ⟨k5.os, k5.tape, k5.output, k5.size, fun i hi => k5.block i (by have := B.size; omega) (fun h2 => by have := L5.out _ h2; have := HWZ.out; omega)⟩
      clear k5
      obtain ⟨y0, y1, y2, y3, y4, zy⟩ := X3.at5
      go_wp2_with fail
      refine (heldNode_all D p5 _ HSD.out HM5.out m5).mono ?_
      rintro e wc ⟨rfl, bc⟩
      rw [E5.out]
      replace XA := XA.below bc
      replace X1 := X1.below bc
      replace X3 := X3.below bc
      replace n3 := n3.below bc
      replace m5 := m5.below bc
      replace B := bel_trans B bc
      clear bc y0 y1 y2 y3 y4 zy
      have RC := (HC.out.below B).nr HS.out
      obtain ⟨x0, x1, x2, x3, x4, zx⟩ := XA.at5
      go_wp2_with fail
      refine (toNode_own d p _ HS.out RC).mono ?_
      rintro e wd ⟨pd, rfl, nd, ld, bd⟩
      replace X1 := X1.below bd
      replace X3 := X3.below bd
      replace n3 := n3.below bd
      replace m5 := m5.below bd
      replace B := bel_trans B bd
      clear bd ld RC x0 x1 x2 x3 x4 zx XA
      have rd := nd.nr HS.out
      clear nd
      go_wp2_with fail
      refine (implWant_any d pd nodes page own _ HS.out rd).mono ?_
      intro e we he
      obtain ⟨pe, rfl, ne, le, be⟩ := HP.out _ _ _ he
      clear he rd le
      replace X1 := X1.below be
      replace X3 := X3.below be
      replace n3 := n3.below be
      replace m5 := m5.below be
      replace B := bel_trans B be
      clear be
      have bx := bel_alloc (Below.refl we.heap.size we) (.cells (ncells D pe) 34)
      replace X1 := X1.below bx
      replace X3 := X3.below bx
      replace n3 := n3.below bx
      replace m5 := m5.below bx
      replace ne := ne.below bx
      replace B := bel_trans B bx
      clear bx
      obtain ⟨x0, x1, x2, x3, x4, zx⟩ := X1.at5
      have re := ne.nr HSD.out
      have r3 := n3.nr HSD.out
      clear ne n3
      go_wp2_with fail
      refine (eqNode_any D pe p3 _ re r3).mono ?_
      rintro e wf ⟨rfl, bf⟩
      replace X3 := X3.below bf
      replace m5 := m5.below bf
      replace B := bel_trans B bf
      clear bf re r3 x0 x1 x2 x3 x4 zx X1
      obtain ⟨y0, y1, y2, y3, y4, zy⟩ := X3.at5
      go_wp2_with fail
      refine (heldNode_all D p5 _ HSD.out HM5.out m5).mono ?_
      rintro e wg ⟨rfl, bg⟩
      rw [E5.out]
      replace B := bel_trans B bg
      clear bg y0 y1 y2 y3 y4 zy X3 m5
      go_wp2
      go_ret
      exact ⟨rfl, B⟩

set_option maxRecDepth 100000 in
theorem lifted (os : Os) (started : os.Started) (H : Type) (enc : TypeId × Value → H) :
    ReturnsInHanded {} Tryz.checked os 3 .any (Rows.fnExactWantSpec.pre6 enc Tryz.prog Tryz.f3 Rows.fnExactWantRow.domain false) (Rows.fnExactWantSpec.post enc Tryz.prog Tryz.f3 false true false false) := by
  refine returnsInHanded_of_change (C := Tryz.checked) own started (by kernel_rfl) Tryz.func3
    (ChangeSpec.witness6 (enc := enc) (C := Tryz.checked) false ⟨#[], #[.agg #[.int .i64 0, .slice none 0 0, .slice none 0 0, .slice none 0 0, .slice none 0 0], .int .i64 0, .int .i64 0, .bool false], []⟩ 8 (by kernel_rfl) (by kernel_rfl) (by kernel_rfl) (by kernel_rfl)) ?_
  intro W base args ds gs before hval0 hW hcnd _
  have hval : ∀ (j : Nat) t v, Tryz.f3.params[j]? = some t → args[j]? = some v → Value.okWide Tryz.prog W .any base t v := hval0
  have hW' := hW
  obtain ⟨p, q, hA0, hV, rfl, hfz, hnd⟩ := hW
  have hA : DataW.TrodAll enc Tryz.prog W 0 (fun _ => true) true Tryz.f3.params.toList args.toList ds p := hA0
  rw [Tryz.params3] at hA hval
  obtain ⟨v0, vs0, d0, ds0, p0, q0, hargs, rfl, rfl, h0, r0⟩ := trodAll_cons hA
  obtain ⟨v1, vs1, d1, ds1, p1, q1, rfl, rfl, rfl, h1, r1⟩ := trodAll_cons r0
  obtain ⟨v2, vs2, d2, ds2, p2, q2, rfl, rfl, rfl, h2, r2⟩ := trodAll_cons r1
  obtain ⟨v3, vs3, d3, ds3, p3, q3, rfl, rfl, rfl, h3, r3⟩ := trodAll_cons r2
  obtain ⟨rfl, rfl, rfl⟩ := trodAll_nil r3
  obtain rfl : args = #[v0, v1, v2, v3] := by cases args; simp_all
  obtain ⟨rfl, rfl⟩ := trodVars_none hV
  have k0 := h0
  have lt0 : ∀ x ∈ p0, x.block < W.heap.size := by obtain ⟨m, hm⟩ := k0; exact DataW.trod_lt m _ _ _ hm
  obtain ⟨D0, N0, rfl, w0⟩ := open_node (hval 0 27 v0 rfl rfl) h0
  obtain ⟨a1, rfl, rfl, rfl, w1⟩ := open_int Tryz.underlying3 (hval 1 3 v1 rfl rfl) h1
  obtain ⟨a2, rfl, rfl, rfl, w2⟩ := open_int Tryz.underlying3 (hval 2 3 v2 rfl rfl) h2
  obtain ⟨a3, rfl, rfl, rfl⟩ := open_bool Tryz.underlying4 (hval 3 4 v3 rfl rfl) h3
  clear hA0 hval0
  refine (walk D0 N0 a1 a2 a3 W w0 w1 w2).mono fun e W' ⟨he, bel⟩ => ?_
  subst he
  exact ⟨_, rfl, _, _, _, [], _, [], hW', trodAll_mk1 (shut_bool Tryz.underlying4 _), (trodAll_cons_mk (Below.trod laidOut (by kernel_rfl) (of_decide_eq_true (by kernel_rfl)) k0 bel lt0) (trodAll_cons_mk (shut_int Tryz.underlying3 w1) (trodAll_cons_mk (shut_int Tryz.underlying3 w2) (trodAll_cons_mk (shut_bool Tryz.underlying4 _) trodAll_mk0)))), rfl, bel.frame _, fun h => by cases h⟩

theorem over : Rows.fnExactWantRow.holds Tryz.pinned (OpenSpec.ofChange Rows.fnExactWantSpec) :=
  OpenClaim.holds_of_wide 3 Tryz.f3 rfl rfl rfl rfl rfl rfl rfl ⟨rfl, rfl, rfl, rfl, rfl⟩ rfl rfl rfl rfl rfl (by kernel_rfl) Tryz.func3 (by kernel_rfl)
    (of_decide_eq_true (by kernel_rfl)) (by unfold Func.isWrapper; first | (rw [if_pos (by decide +kernel)]; kernel_rfl) | (rw [if_neg (by decide +kernel)]; exact ⟨rfl, rfl⟩))
    (fun os started H enc _ => lifted os started H enc)
end LawFnExactWant

theorem fnExactWant_holds : Rows.FnExactWantSaid := LawFnExactWant.over
#print axioms fnExactWant_holds
end Go.Proofs.YtcneocbadobcfaaGreat
