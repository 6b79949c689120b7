/- For every node and number of nodes the law FnExactNodeOk returns true: NodeOk answers as the specification, and writes into no argument. Conditions: none. -/
import Derived.Test.YtekjgfbolhhpbaaOpenN
import Derived.Test.YtekjgfbolhhpbaaNdO3
namespace Go.Proofs.Ytekjgfbolhhpbaa
open Go.ChangeShapes Go.WideShapes Go.ChangeAt Go.RowKit
set_option linter.unusedVariables false

namespace LawFnExactNodeOk
theorem nr_drew {w : World} {d : ND} {p : NP} (h : NR w d p) : NR w.drew d p := h.below (below_drewN (Below.refl _ _) 1)

set_option maxRecDepth 100000 in
set_option maxHeartbeats 4000000 in
theorem walk (d : ND) (p : NP) (nodes : Int) (w : World) (hC : NC w d p) (hwf : (Lit.int .i64 nodes).wf = true) :
    Calls Try.prog 4 #[.agg (ncells d p), .int .i64 nodes] w fun e w' => e = .returned (.bool true) ∧ Below w.heap.size w w' := by
  have B := bel_alloc (Below.refl w.heap.size w) (.cells (ncells d p) 47)
  have XA := Box.new w (ncells d p) 47
  have HC : Hid (NC w d p) := hC
  have hC1 := hC.below B
  clear hC
  go_enter Try.func4, Try.ntmps4
  go_wp2_with fail
  refine (szNode_any d p _ hC1).mono ?_
  rintro e w1 ⟨r, rfl, hr, b1⟩
  replace XA := XA.below b1
  replace B := bel_trans B b1
  clear b1 hC1
  rcases hr with rfl | ⟨hr0, hs⟩
  · clear XA
    go_wp2
    go_ret
    exact ⟨rfl, B⟩
  · have HS : Hid (Nsm d) := hs
    have HBS : Hid (∀ i, i < d.nh → (d.h i).bs.length ≤ 1048577) := fun i hi => by have := (hs.h.2 i hi).2.1; omega
    have R1 := (HC.out.below B).nr hs
    clear hs
    have HD : decide (r < 0) = false := by simp; omega
    obtain ⟨x0, x1, x2, x3, x4, zx⟩ := XA.at5
    go_wp2_with fail
    refine (toNode_any d p _ HS.out R1).mono ?_
    rintro e w2 ⟨p2, rfl, n2, b2⟩
    replace XA := XA.below b2
    replace B := bel_trans B b2
    clear b2 x0 x1 x2 x3 x4 zx R1
    go_wp2_with fail
    refine (specNodeOk_any d p2 nodes _ HBS.out n2).mono ?_
    rintro e w3 ⟨rfl, b3⟩
    replace XA := XA.below b3
    replace B := bel_trans B b3
    clear b3 n2
    have R3 := (HC.out.below B).nr HS.out
    obtain ⟨x0, x1, x2, x3, x4, zx⟩ := XA.at5
    go_wp2_with fail
    refine (toNode_any d p _ HS.out R3).mono ?_
    rintro e w4 ⟨p4, rfl, n4, b4⟩
    replace XA := XA.below b4
    replace B := bel_trans B b4
    clear b4 x0 x1 x2 x3 x4 zx R3
    go_wp2_with fail
    have bx := bel_alloc (Below.refl w4.heap.size w4) (.cells (ncells d p4) 55)
    have XP := Box.new w4 (ncells d p4) 55
    replace n4 := n4.below bx
    replace XA := XA.below bx
    replace B := bel_trans B bx
    clear bx
    refine (implNodeOk_any d p4 nodes _ HBS.out n4).mono ?_
    rintro e w5 ⟨rfl, b5⟩
    replace n4 := n4.below b5
    replace XA := XA.below b5
    replace XP := XP.below b5
    replace B := bel_trans B b5
    clear b5
    have R5 := nr_drew ((HC.out.below B).nr HS.out)
    obtain ⟨x0, x1, x2, x3, x4, zx⟩ := XA.at5
    obtain ⟨y0, y1, y2, y3, y4, zy⟩ := XP.at5
    clear XA XP
    generalize nodeOkB d nodes = ok
    go_wp2_with fail
    go_region_with (first | (go_at_call 15; refine (toNode_any d p _ HS.out R5).mono ?_; rintro e w6 ⟨p6, rfl, n6, b6⟩; have b6 := bel_undrew b6; obtain ⟨hc6, hf6⟩ := bcell b6) | (go_at_call 17; refine (eqNode_any d p4 p6 _ (n4.below b6) n6).mono ?_; rintro e w7 ⟨rfl, b7⟩))
    all_goals
      have B7 := bel_trans (bel_trans B b6) b7
      go_wp2
      go_ret
      exact ⟨rfl, B7⟩

set_option maxRecDepth 100000 in
theorem lifted (os : Os) (started : os.Started) (H : Type) (enc : TypeId × Value → H) :
    ReturnsInHanded {} Try.checked os 4 .any (Rows.fnExactNodeOkSpec.pre6 enc Try.prog Try.f4 Rows.fnExactNodeOkRow.domain false) (Rows.fnExactNodeOkSpec.post enc Try.prog Try.f4 false true false false) := by
  refine returnsInHanded_of_change (C := Try.checked) own started (by kernel_rfl) Try.func4
    (ChangeSpec.witness6 (enc := enc) (C := Try.checked) false ⟨#[], #[.agg #[.int .i64 0, .slice none 0 0, .slice none 0 0, .slice none 0 0, .slice none 0 0], .int .i64 0], []⟩ 8 (by kernel_rfl) (by kernel_rfl) (by kernel_rfl) (by kernel_rfl)) ?_
  intro W base args ds gs before hval0 hW hcnd _
  have hval : ∀ (j : Nat) t v, Try.f4.params[j]? = some t → args[j]? = some v → Value.okWide Try.prog W .any base t v := hval0
  have hW' := hW
  obtain ⟨p, q, hA0, hV, rfl, hfz, hnd⟩ := hW
  have hA : DataW.TrodAll enc Try.prog W 0 (fun _ => true) true Try.f4.params.toList args.toList ds p := hA0
  rw [Try.params4] at hA hval
  obtain ⟨v0, vs0, d0, ds0, p0, q0, hargs, rfl, rfl, h0, r0⟩ := trodAll_cons hA
  obtain ⟨v1, vs1, d1, ds1, p1, q1, rfl, rfl, rfl, h1, r1⟩ := trodAll_cons r0
  obtain ⟨rfl, rfl, rfl⟩ := trodAll_nil r1
  obtain rfl : args = #[v0, v1] := by cases args; simp_all
  obtain ⟨rfl, rfl⟩ := trodVars_none hV
  have k0 := h0
  have lt0 : ∀ x ∈ p0, x.block < W.heap.size := by obtain ⟨m, hm⟩ := k0; exact DataW.trod_lt m _ _ _ hm
  obtain ⟨D0, N0, rfl, w0⟩ := open_node (hval 0 47 v0 rfl rfl) h0
  obtain ⟨a1, rfl, rfl, rfl, w1⟩ := open_int Try.underlying3 (hval 1 3 v1 rfl rfl) h1
  clear hA0 hval0
  refine (walk D0 N0 a1 W w0 w1).mono fun e W' ⟨he, bel⟩ => ?_
  subst he
  exact ⟨_, rfl, _, _, _, [], _, [], hW', trodAll_mk1 (shut_bool Try.underlying4 _), (trodAll_cons_mk (Below.trod laidOut (by kernel_rfl) (of_decide_eq_true (by kernel_rfl)) k0 bel lt0) (trodAll_cons_mk (shut_int Try.underlying3 w1) trodAll_mk0)), rfl, bel.frame _, fun h => by cases h⟩

theorem over : Rows.fnExactNodeOkRow.holds Try.pinned (OpenSpec.ofChange Rows.fnExactNodeOkSpec) :=
  OpenClaim.holds_of_wide 4 Try.f4 rfl rfl rfl rfl rfl rfl rfl ⟨rfl, rfl, rfl, rfl, rfl⟩ rfl rfl rfl rfl rfl (by kernel_rfl) Try.func4 (by kernel_rfl)
    (of_decide_eq_true (by kernel_rfl)) (by unfold Func.isWrapper; first | (rw [if_pos (by decide +kernel)]; kernel_rfl) | (rw [if_neg (by decide +kernel)]; exact ⟨rfl, rfl⟩))
    (fun os started H enc _ => lifted os started H enc)
end LawFnExactNodeOk

theorem fnExactNodeOk_holds : Rows.FnExactNodeOkSaid := LawFnExactNodeOk.over
#print axioms fnExactNodeOk_holds
end Go.Proofs.Ytekjgfbolhhpbaa
