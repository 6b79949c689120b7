/- For every id and number of nodes the law FnExactNodeNew returns true: NodeNew answers as the specification, field by field, and its answer owns its memory, behind another call too. Conditions: none. -/
import Derived.Test.YtekjgfbolhhpbaaNdS
import Derived.Test.YtekjgfbolhhpbaaOpen
namespace Go.Proofs.Ytekjgfbolhhpbaa
open Go.ChangeShapes Go.WideShapes Go.ChangeAt Go.RowKit
set_option linter.unusedVariables false

namespace LawFnExactNodeNew
theorem NO.only {w w' : World} {lo : Nat} {d : ND} {p : NP} {L R : Nat} {S : Nat → Prop} (h : NO w lo d p L R) (k : Only w w' S) (hs : ∀ j, NB d p j → ¬ S j) : NO w' lo d p L R :=
  ⟨owns_only h.f k (fun j hj => hs j (.inl (blk_eq hj))), h.fe, ⟨owns_only h.h.row k (fun j hj => hs j (.inr (.inl (blk_eq hj)))), fun i hi => owns_only (h.h.l i hi) k (fun j hj => hs j (.inr (.inr (.inl ⟨i, hi, .inl (blk_eq hj)⟩)))), fun i hi => owns_only (h.h.r i hi) k (fun j hj => hs j (.inr (.inr (.inl ⟨i, hi, .inr (blk_eq hj)⟩))))⟩, h.ha, h.he, owns_only h.o k (fun j hj => hs j (.inr (.inr (.inr (.inl (blk_eq hj)))))), h.oe, owns_only h.i k (fun j hj => hs j (.inr (.inr (.inr (.inr (blk_eq hj)))))), h.n⟩

set_option maxRecDepth 100000 in
set_option maxHeartbeats 4000000 in
theorem walk (id nodes : Int) (w : World) (hw0 : (Lit.int .i64 id).wf = true) (hw1 : (Lit.int .i64 nodes).wf = true) :
    Calls Try.prog 5 #[.int .i64 id, .int .i64 nodes] w fun e w' => e = .returned (.bool true) ∧ Below w.heap.size w w' := by
  obtain ⟨d, hd⟩ : ∃ d, theND id nodes = d := ⟨_, rfl⟩
  obtain ⟨R, hR⟩ : ∃ R, theR id nodes = R := ⟨_, rfl⟩
  obtain ⟨ok, hok⟩ : ∃ ok, nodeB id nodes = ok := ⟨_, rfl⟩
  have HP : Hid (∀ W e W', NNewP id nodes W e W' → ∃ p : NP, e = .returned (.tuple #[.agg (ncells d p), .bool ok]) ∧ NO W' W.heap.size d p 4 R ∧ Below W.heap.size W W') := fun W e W' h => by
    unfold NNewP at h
    rw [hd, hR, hok] at h
    exact h
  clear hd hR hok
  obtain ⟨K, hK⟩ : ∃ K, mEnd 1 d 4 R = K := ⟨_, rfl⟩
  have HK : Hid (mEnd 1 d 4 R = K) := hK
  clear hK
  go_enter Try.func5, Try.ntmps5
  go_wp2_with fail
  refine (specNodeNew_any id nodes _).mono ?_
  intro e w1 h1
  obtain ⟨p1, rfl, o1, B⟩ := HP.out _ _ _ h1
  clear h1
  have L1 : Hid (∀ j, NB d p1 j → j < w1.heap.size) := fun j hj => (o1.nb hj).2
  have HK0 : Hid (decide (K < 0) = false) := by
    obtain ⟨n1, n2, n3, n4, n5, n6⟩ := o1.n
    have h := kk_le (1 + 2 * (d.nf : Int)) (S := 4 + R + 5) (by omega) (Nat.le_refl d.nh) (by omega)
    have h2 := HK.out
    unfold mEnd at h2
    show _ = _
    simp
    omega
  have hk0 := HK0.out
  go_wp2_with fail
  have bx := bel_alloc (Below.refl w1.heap.size w1) (.cells (ncells d p1) 55)
  have X1 := Box.new w1 (ncells d p1) 55
  replace o1 := o1.below bx
  replace B := bel_trans B bx
  clear bx
  refine (implNodeNew_any id nodes _).mono ?_
  intro e w2 h1
  obtain ⟨p2, rfl, o2, b2⟩ := HP.out _ _ _ h1
  clear h1
  have hz1 : w.heap.size ≤ w1.heap.size + 1 := by have h1 := B.size; simp at h1; omega
  have hz2 : w1.heap.size + 1 ≤ w2.heap.size := by have h2 := b2.size; simp at h2; omega
  have L2 : Hid (∀ j, NB d p2 j → w1.heap.size + 1 ≤ j ∧ j < w2.heap.size) := fun j hj => by have h2 := o2.nb hj; simp at h2; exact h2
  replace o1 := o1.below b2
  replace X1 := X1.below b2
  replace B := bel_trans B b2
  clear b2
  obtain ⟨x0, x1, x2, x3, x4, zx⟩ := X1.at5
  go_wp2_with fail
  have bx := bel_alloc (Below.refl w2.heap.size w2) (.cells (ncells d p2) 55)
  have X2 := Box.new w2 (ncells d p2) 55
  replace o1 := o1.below bx
  replace o2 := o2.below bx
  replace X1 := X1.below bx
  replace B := bel_trans B bx
  clear bx x0 x1 x2 x3 x4 zx
  refine (eqNode_any d p2 p1 _ o2.nr o1.nr).mono ?_
  rintro e w3 ⟨rfl, b3⟩
  replace o1 := o1.below b3
  replace o2 := o2.below b3
  replace X1 := X1.below b3
  replace X2 := X2.below b3
  replace B := bel_trans B b3
  clear b3
  obtain ⟨y0, y1, y2, y3, y4, zy⟩ := X2.at5
  go_wp2_with fail
  refine (markNode_new _ 4 R d p2 _ o2).mono ?_
  rintro e w4 ⟨rfl, q2, k4⟩
  rw [HK.out]
  clear o2 y0 y1 y2 y3 y4 zy
  replace o1 := NO.only o1 k4 (fun j h1 h2 => by have := L1.out j h1; have := L2.out j h2; omega)
  replace X1 := X1.only k4 (fun h2 => by have := L2.out _ h2; omega)
  replace X2 := X2.only k4 (fun h2 => by have := L2.out _ h2; omega)
  replace B : Below w.heap.size w w4 := B.trans ⟨k4.os, k4.tape, k4.output, k4.size, fun i hi => k4.block i (by have := B.size; omega) (fun h2 => by have := L2.out _ h2; omega)⟩
  clear k4
  obtain ⟨y0, y1, y2, y3, y4, zy⟩ := X2.at5
  go_wp2_with fail
  refine (heldNode_new _ 4 R d p2 _ q2).mono ?_
  rintro e w5 ⟨rfl, b5⟩
  rw [HK.out]
  replace o1 := o1.below b5
  replace q2 := q2.below b5
  replace X1 := X1.below b5
  replace X2 := X2.below b5
  replace B := bel_trans B b5
  clear b5 y0 y1 y2 y3 y4 zy
  go_wp2_with fail
  refine (implNodeNew_any id nodes _).mono ?_
  intro e w6 h1
  obtain ⟨p3, rfl, o3, b6⟩ := HP.out _ _ _ h1
  clear h1
  replace o1 := o1.below b6
  replace q2 := q2.below b6
  replace X1 := X1.below b6
  replace X2 := X2.below b6
  replace B := bel_trans B b6
  clear b6
  obtain ⟨x0, x1, x2, x3, x4, zx⟩ := X1.at5
  go_wp2_with fail
  have bx := bel_alloc (Below.refl w6.heap.size w6) (.cells (ncells d p3) 55)
  replace o1 := o1.below bx
  replace q2 := q2.below bx
  replace o3 := o3.below bx
  replace X1 := X1.below bx
  replace X2 := X2.below bx
  replace B := bel_trans B bx
  clear bx x0 x1 x2 x3 x4 zx
  refine (eqNode_any d p3 p1 _ o3.nr o1.nr).mono ?_
  rintro e w7 ⟨rfl, b7⟩
  replace q2 := q2.below b7
  replace X2 := X2.below b7
  replace B := bel_trans B b7
  clear b7 o1 X1 o3
  obtain ⟨y0, y1, y2, y3, y4, zy⟩ := X2.at5
  go_wp2_with fail
  refine (heldNode_new _ 4 R d p2 _ q2).mono ?_
  rintro e w8 ⟨rfl, b8⟩
  rw [HK.out]
  clear y0 y1 y2 y3 y4 zy X2 q2
  replace B := bel_trans B b8
  go_wp2
  go_ret
  exact ⟨rfl, B⟩

set_option maxRecDepth 100000 in
theorem lifted (os : Os) (started : os.Started) (H : Type) (enc : TypeId × Value → H) :
    ReturnsInHanded {} Try.checked os 5 .any (Rows.fnExactNodeNewSpec.pre6 enc Try.prog Try.f5 Rows.fnExactNodeNewRow.domain false) (Rows.fnExactNodeNewSpec.post enc Try.prog Try.f5 false true false false) := by
  refine returnsInHanded_of_change (C := Try.checked) own started (by kernel_rfl) Try.func5
    (ChangeSpec.witness6 (enc := enc) (C := Try.checked) false ⟨#[], #[.int .i64 0, .int .i64 0], []⟩ 8 (by kernel_rfl) (by kernel_rfl) (by kernel_rfl) (by kernel_rfl)) ?_
  intro W base args ds gs before hval0 hW hcnd _
  have hval : ∀ (j : Nat) t v, Try.f5.params[j]? = some t → args[j]? = some v → Value.okWide Try.prog W .any base t v := hval0
  have hW' := hW
  obtain ⟨p, q, hA0, hV, rfl, hfz, hnd⟩ := hW
  have hA : DataW.TrodAll enc Try.prog W 0 (fun _ => true) true Try.f5.params.toList args.toList ds p := hA0
  rw [Try.params5] at hA hval
  obtain ⟨v0, vs0, d0, ds0, p0, q0, hargs, rfl, rfl, h0, r0⟩ := trodAll_cons hA
  obtain ⟨v1, vs1, d1, ds1, p1, q1, rfl, rfl, rfl, h1, r1⟩ := trodAll_cons r0
  obtain ⟨rfl, rfl, rfl⟩ := trodAll_nil r1
  obtain rfl : args = #[v0, v1] := by cases args; simp_all
  obtain ⟨rfl, rfl⟩ := trodVars_none hV
  obtain ⟨a0, rfl, rfl, rfl, w0⟩ := open_int Try.underlying3 (hval 0 3 v0 rfl rfl) h0
  obtain ⟨a1, rfl, rfl, rfl, w1⟩ := open_int Try.underlying3 (hval 1 3 v1 rfl rfl) h1
  clear hA0 hval0
  refine (walk a0 a1 W w0 w1).mono fun e W' ⟨he, bel⟩ => ?_
  subst he
  exact ⟨_, rfl, _, _, _, [], _, [], hW', trodAll_mk1 (shut_bool Try.underlying4 _), (trodAll_cons_mk (shut_int Try.underlying3 w0) (trodAll_cons_mk (shut_int Try.underlying3 w1) trodAll_mk0)), rfl, bel.frame _, fun h => by cases h⟩

theorem over : Rows.fnExactNodeNewRow.holds Try.pinned (OpenSpec.ofChange Rows.fnExactNodeNewSpec) :=
  OpenClaim.holds_of_wide 5 Try.f5 rfl rfl rfl rfl rfl rfl rfl ⟨rfl, rfl, rfl, rfl, rfl⟩ rfl rfl rfl rfl rfl (by kernel_rfl) Try.func5 (by kernel_rfl)
    (of_decide_eq_true (by kernel_rfl)) (by unfold Func.isWrapper; first | (rw [if_pos (by decide +kernel)]; kernel_rfl) | (rw [if_neg (by decide +kernel)]; exact ⟨rfl, rfl⟩))
    (fun os started H enc _ => lifted os started H enc)
end LawFnExactNodeNew

theorem fnExactNodeNew_holds : Rows.FnExactNodeNewSaid := LawFnExactNodeNew.over
#print axioms fnExactNodeNew_holds
end Go.Proofs.Ytekjgfbolhhpbaa
