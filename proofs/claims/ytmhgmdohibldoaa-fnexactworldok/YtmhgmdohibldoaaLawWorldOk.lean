/- For every world the law FnExactWorldOk returns true: WorldOk answers as the specification, and writes into no argument. Conditions: none. -/
import Derived.Test.YtmhgmdohibldoaaOpenW
import Derived.Test.YtmhgmdohibldoaaWoT
import Derived.Test.YtmhgmdohibldoaaWoI
namespace Go.Proofs.Ytmhgmdohibldoaa
open Go.ChangeShapes Go.WideShapes Go.ChangeAt Go.RowKit
set_option linter.unusedVariables false

namespace LawFnExactWorldOk
theorem wr_drew {w : World} {d : WoD} {p : WoP} (h : WoR w d p) : WoR w.drew d p := h.below (below_drewN (Below.refl _ _) 1)

set_option maxRecDepth 100000 in
set_option maxHeartbeats 4000000 in
theorem walk (d : WoD) (p : WoP) (w : World) (hC : WoC w d p) :
    Calls Try.prog 3 #[.agg (wcells d p)] w fun e w' => e = .returned (.bool true) ∧ Below w.heap.size w w' := by
  have B := bel_alloc (Below.refl w.heap.size w) (.cells (wcells d p) 25)
  have XA := Box.new w (wcells d p) 25
  have HC : Hid (WoC w d p) := hC
  have hC1 := hC.below B
  clear hC
  go_enter Try.func3, Try.ntmps3
  go_wp2_with fail
  refine (szWorld_any d p _ hC1).mono ?_
  rintro e w1 ⟨r, rfl, hr, b1⟩
  replace XA := XA.below b1
  replace B := bel_trans B b1
  clear b1 hC1
  rcases hr with rfl | ⟨hr0, hr1, hs⟩
  · clear XA
    go_wp2
    go_ret
    exact ⟨rfl, B⟩
  · have HS : Hid (Wsm d) := hs
    have HBS : Hid (∀ i, i < d.nn → ∀ j, j < (d.d i).nh → ((d.d i).h j).bs.length ≤ 1048577) := fun i hi j hj => by have := ((hs.n.2 i hi).h.2 j hj).2.1; omega
    have R1 := (HC.out.below B).wr hs
    clear hs
    have HD : decide (r < 0) = false := by simp; omega
    obtain ⟨x0, x1, x2, zx⟩ := XA.at3
    go_wp2_with fail
    refine (toWorld_own d p _ HS.out R1).mono ?_
    rintro e w2 ⟨p2, rfl, o2, _, b2⟩
    have n2 := o2.wr HS.out
    replace XA := XA.below b2
    replace B := bel_trans B b2
    clear b2 x0 x1 x2 zx R1 o2
    go_wp2_with fail
    refine (specWorldOk_any d p2 _ HBS.out n2).mono ?_
    rintro e w3 ⟨rfl, b3⟩
    replace XA := XA.below b3
    replace B := bel_trans B b3
    clear b3 n2
    have R3 := (HC.out.below B).wr HS.out
    obtain ⟨x0, x1, x2, zx⟩ := XA.at3
    go_wp2_with fail
    refine (toWorld_own d p _ HS.out R3).mono ?_
    rintro e w4 ⟨p4, rfl, o4, _, b4⟩
    have n4 := o4.wr HS.out
    replace XA := XA.below b4
    replace B := bel_trans B b4
    clear b4 x0 x1 x2 zx R3 o4
    go_wp2_with fail
    have bx := bel_alloc (Below.refl w4.heap.size w4) (.cells (wcells d p4) 31)
    have XP := Box.new w4 (wcells d p4) 31
    replace n4 := n4.below bx
    replace XA := XA.below bx
    replace B := bel_trans B bx
    clear bx
    refine (implWorldOk_any d p4 _ HBS.out n4).mono ?_
    rintro e w5 ⟨rfl, b5⟩
    replace n4 := n4.below b5
    replace XA := XA.below b5
    replace XP := XP.below b5
    replace B := bel_trans B b5
    clear b5
    have R5 := wr_drew ((HC.out.below B).wr HS.out)
    obtain ⟨x0, x1, x2, zx⟩ := XA.at3
    obtain ⟨y0, y1, y2, zy⟩ := XP.at3
    clear XA XP
    generalize worldB d = ok
    go_wp2_with fail
    go_region_with (first | (go_at_call 6; refine (toWorld_own d p _ HS.out R5).mono ?_; rintro e w6 ⟨p6, rfl, o6, l6, b6⟩; have n6 := o6.wr HS.out; have b6 := bel_undrew b6; obtain ⟨hc6, hf6⟩ := bcell b6) | (go_at_call 8; refine (eqWorld_any d p4 p6 _ (n4.below b6) n6).mono ?_; rintro e w7 ⟨rfl, b7⟩))
    all_goals
      have B7 := bel_trans (bel_trans B b6) b7
      go_wp2
      go_ret
      exact ⟨rfl, B7⟩

set_option maxRecDepth 100000 in
theorem lifted (os : Os) (started : os.Started) (H : Type) (enc : TypeId × Value → H) :
    ReturnsInHanded {} Try.checked os 3 .any (Rows.fnExactWorldOkSpec.pre6 enc Try.prog Try.f3 Rows.fnExactWorldOkRow.domain false) (Rows.fnExactWorldOkSpec.post enc Try.prog Try.f3 false true false false) := by
  refine returnsInHanded_of_change (C := Try.checked) own started (by kernel_rfl) Try.func3
    (ChangeSpec.witness6 (enc := enc) (C := Try.checked) false ⟨#[], #[.agg #[.int .i64 0, .slice none 0 0, .slice none 0 0]], []⟩ 8 (by kernel_rfl) (by kernel_rfl) (by kernel_rfl) (by kernel_rfl)) ?_
  intro W base args ds gs before hval0 hW hcnd _
  have hval : ∀ (j : Nat) t v, Try.f3.params[j]? = some t → args[j]? = some v → Value.okWide Try.prog W .any base t v := hval0
  have hW' := hW
  obtain ⟨p, q, hA0, hV, rfl, hfz, hnd⟩ := hW
  have hA : DataW.TrodAll enc Try.prog W 0 (fun _ => true) true Try.f3.params.toList args.toList ds p := hA0
  rw [Try.params3] at hA hval
  obtain ⟨v0, vs0, d0, ds0, p0, q0, hargs, rfl, rfl, h0, r0⟩ := trodAll_cons hA
  obtain ⟨rfl, rfl, rfl⟩ := trodAll_nil r0
  obtain rfl : args = #[v0] := by cases args; simp_all
  obtain ⟨rfl, rfl⟩ := trodVars_none hV
  have k0 := h0
  have lt0 : ∀ x ∈ p0, x.block < W.heap.size := by obtain ⟨m, hm⟩ := k0; exact DataW.trod_lt m _ _ _ hm
  obtain ⟨D0, N0, rfl, w0⟩ := open_world (hval 0 25 v0 rfl rfl) h0
  clear hA0 hval0
  refine (walk D0 N0 W w0).mono fun e W' ⟨he, bel⟩ => ?_
  subst he
  exact ⟨_, rfl, _, _, _, [], _, [], hW', trodAll_mk1 (shut_bool Try.underlying4 _), (trodAll_cons_mk (Below.trod laidOut (by kernel_rfl) (of_decide_eq_true (by kernel_rfl)) k0 bel lt0) trodAll_mk0), rfl, bel.frame _, fun h => by cases h⟩

theorem over : Rows.fnExactWorldOkRow.holds Try.pinned (OpenSpec.ofChange Rows.fnExactWorldOkSpec) :=
  OpenClaim.holds_of_wide 3 Try.f3 rfl rfl rfl rfl rfl rfl rfl ⟨rfl, rfl, rfl, rfl, rfl⟩ rfl rfl rfl rfl rfl (by kernel_rfl) Try.func3 (by kernel_rfl)
    (of_decide_eq_true (by kernel_rfl)) (by unfold Func.isWrapper; first | (rw [if_pos (by decide +kernel)]; kernel_rfl) | (rw [if_neg (by decide +kernel)]; exact ⟨rfl, rfl⟩))
    (fun os started H enc _ => lifted os started H enc)
end LawFnExactWorldOk

theorem fnExactWorldOk_holds : Rows.FnExactWorldOkSaid := LawFnExactWorldOk.over
#print axioms fnExactWorldOk_holds
end Go.Proofs.Ytmhgmdohibldoaa
