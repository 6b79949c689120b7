/- For every message the law FnExactMsgOk returns true: MsgOk answers as the specification, and writes into no argument. Conditions: none. -/
import Derived.Test.YtidgiklkgmfmcaaLetter
import Derived.Test.YtidgiklkgmfmcaaOpen
import Derived.Deep.RegionWith
import Derived.BigRegion
namespace Go.Proofs.Ytidgiklkgmfmcaa
open Go.ChangeShapes Go.WideShapes Go.ChangeAt Go.RowKit
set_option linter.unusedVariables false

namespace LawFnExactMsgOk
set_option maxHeartbeats 1000000 in
theorem walk (k p : Int) (o : Bool) (a : Option Addr) (ca : Nat) (xs : List Int) (w : World) (hc : Came .i64 w a ca xs) (wk : (Lit.int .i64 k).wf = true) (wp : (Lit.int .i64 p).wf = true) :
    Calls Try.prog 3 #[.agg #[.int .i64 k, .int .i64 p, .bool o, .slice a xs.length ca]] w fun e w' => e = .returned (.bool true) ∧ Below w.heap.size w w' := by
  clear wk wp
  have bA := bel_alloc (Below.refl w.heap.size w) (.cells #[.int .i64 k, .int .i64 p, .bool o, .slice a xs.length ca] 24)
  by_cases hl : 1048576 < xs.length
  · have hn : xs.length ≤ maxLen := Nat.le_trans hc.1 hc.2.1
    clear hc
    go_enter Try.func3, Try.ntmps3
    go_wp2_with fail
    refine (szMsg_big k p o a _ ca _ hl hn).mono ?_
    rintro e w1 ⟨rfl, b1⟩
    have B := bel_trans bA b1
    go_wp2
    go_ret
    exact ⟨rfl, B⟩
  · have hsm : xs.length ≤ 1048576 := by omega
    have hr := hc.row (by omega)
    clear hc hl
    go_enter Try.func3, Try.ntmps3
    go_wp2_with fail
    refine (szMsg_small k p o a _ ca _ hsm).mono ?_
    rintro e w1 ⟨rfl, C1⟩
    obtain ⟨m0, m1, m2, m3, z1⟩ := box4 C1
    have hr1 := hr.below (bel_trans bA C1)
    go_wp2_with fail
    refine (toMsg_any k p o a ca xs _ hsm hr1).mono ?_
    rintro e w2 ⟨v2, rfl, o2, b2⟩
    obtain ⟨a2, c2, rfl, q2, _, _⟩ := owns_row o2 (by omega)
    go_wp2_with fail
    refine (specMsgOk_any k p o a2 c2 xs _ q2).mono ?_
    rintro e w3 ⟨rfl, b3⟩
    have C3 := bel_trans C1 (bel_trans b2 b3)
    clear C1 b2 b3 o2 q2 hr1 m0 m1 m2 m3 z1
    obtain ⟨m0, m1, m2, m3, z1⟩ := box4 C3
    have hr3 := hr.below (bel_trans bA C3)
    go_wp2_with fail
    refine (toMsg_any k p o a ca xs _ hsm hr3).mono ?_
    rintro e w4 ⟨v4, rfl, o4, b4⟩
    obtain ⟨a4, c4, rfl, q4, _, _⟩ := owns_row o4 (by omega)
    have C4 := bel_trans C3 b4
    clear C3 b4 o4 hr3 m0 m1 m2 m3 z1
    go_wp2_with fail
    have bA4 := bel_alloc (Below.refl w4.heap.size w4) (.cells #[.int .i64 k, .int .i64 p, .bool o, .slice a4 xs.length c4] 27)
    refine (msgOk_any k p o a4 c4 xs _ (q4.below bA4)).mono ?_
    rintro e w5 ⟨rfl, D5⟩
    obtain ⟨n0, n1, n2, n3, z5⟩ := box4 D5
    have b45 := bel_trans bA4 D5
    have q5 := q4.below b45
    have C5 := bel_trans C4 b45
    obtain ⟨m0, m1, m2, m3, z1⟩ := box4 C5
    have hr5 := hr.below (bel_trans bA C5)
    have B5 := bel_trans bA C5
    clear C4 C5 D5 b45 q4 bA4 bA hr
    go_wp2_with fail
    go_region_with (first | (go_at_call 9; refine (toMsg_any k p o a ca xs _ hsm ?_).mono ?_; exact hr5; rintro e w6 ⟨v6, rfl, o6, b6⟩; obtain ⟨a6, c6, rfl, q6, _, _⟩ := owns_row o6 (by omega); have b6 := bel_undrew b6; obtain ⟨hc6, hf6⟩ := bcell b6) | (go_at_call 11; refine (eqMsg_any k p o a4 a6 c4 c6 xs _ ?_ ?_).mono ?_; exact q5.below b6; exact q6; rintro e w7 ⟨rfl, b7⟩))
    all_goals
      have B7 := bel_trans (bel_trans B5 b6) b7
      go_wp2
      go_ret
      exact ⟨rfl, B7⟩
set_option maxRecDepth 100000 in
theorem lifted (os : Os) (started : os.Started) (H : Type) (enc : TypeId × Value → H) :
    ReturnsInHanded {} Try.checked os 3 .any (Rows.fnExactMsgOkSpec.pre6 enc Try.prog Try.f3 Rows.fnExactMsgOkRow.domain false) (Rows.fnExactMsgOkSpec.post enc Try.prog Try.f3 false true false false) := by
  refine returnsInHanded_of_change (C := Try.checked) own started (by kernel_rfl) Try.func3
    (ChangeSpec.witness6 (enc := enc) (C := Try.checked) false ⟨#[], #[.agg #[.int .i64 0, .int .i64 0, .bool false, .slice none 0 0]], []⟩ 8 (by kernel_rfl) (by kernel_rfl) (by kernel_rfl) (by kernel_rfl)) ?_
  intro W base args ds gs before hval0 hW hcnd _
  have hval : ∀ (j : Nat) t v, Try.f3.params[j]? = some t → args[j]? = some v → Value.okWide Try.prog W .any base t v := hval0
  have hW' := hW
  obtain ⟨p, q, hA0, hV, rfl, hfz, hnd⟩ := hW
  have hA : DataW.TrodAll enc Try.prog W 0 (fun _ => true) true Try.f3.params.toList args.toList ds p := hA0
  rw [Try.params3] at hA hval
  obtain ⟨v0, vs0, d0, ds0, p0, q0, hargs, rfl, rfl, h0, r0⟩ := trodAll_cons hA
  obtain ⟨rfl, rfl, rfl⟩ := trodAll_nil r0
  obtain rfl : args = #[v0] := by cases args; simp_all
  obtain ⟨rfl, rfl⟩ := trodVars_none hV
  have k0 := h0
  have lt0 : ∀ x ∈ p0, x.block < W.heap.size := by obtain ⟨m, hm⟩ := k0; exact DataW.trod_lt m _ _ _ hm
  obtain ⟨c0, c1, c2, c3, y0, y1, y2, y3, fu, rfl, _, _, hy0, hy1, hy2, hy3⟩ := Go.Joins.open_agg4 Try.underlying24 (by kernel_rfl) (by kernel_rfl) (hval 0 24 v0 rfl rfl) h0
  obtain ⟨mk0, e0, _, wk0⟩ := DataW.trod_int Try.underlying3 hy0
  obtain ⟨mp0, e1, _, wp0⟩ := DataW.trod_int Try.underlying3 hy1
  obtain ⟨mo0, e2, _⟩ := DataW.trod_bool Try.underlying4 hy2
  simp only [List.cons.injEq, and_true] at e0 e1 e2
  subst e0 e1 e2
  obtain ⟨a0, cap0, x0, rfl, w0⟩ : ∃ (a : Option Addr) (cap : Nat) (xs : List Int), c3 = .slice a xs.length cap ∧ Came .i64 W a cap xs := by
    rcases open_ints Try.underlying22 Try.underlying3 (by kernel_rfl) hy3 with ⟨hcs, _⟩ | ⟨x, l, c, zs, hcs, _, hl, hm, hz, _, hcell, hwz⟩
    · simp only [List.cons.injEq, and_true] at hcs
      exact ⟨none, 0, [], hcs, came_nil _ _⟩
    · simp only [List.cons.injEq, and_true] at hcs
      have hc := came_of hl hm (by simpa using hz) hcell hwz
      exact ⟨some x, c, zs.take l, by rw [hc.1]; exact hcs, hc.2⟩
  clear hA0 hval0
  refine (walk mk0 mp0 mo0 a0 cap0 x0 W w0 wk0 wp0).mono fun e W' ⟨he, bel⟩ => ?_
  subst he
  exact ⟨_, rfl, _, _, _, [], _, [], hW', trodAll_mk1 (shut_bool Try.underlying4 _), (trodAll_cons_mk (Below.trod laidOut (by kernel_rfl) (of_decide_eq_true (by kernel_rfl)) k0 bel lt0) trodAll_mk0), rfl, bel.frame _, fun h => by cases h⟩

theorem over : Rows.fnExactMsgOkRow.holds Try.pinned (OpenSpec.ofChange Rows.fnExactMsgOkSpec) :=
  OpenClaim.holds_of_wide 3 Try.f3 rfl rfl rfl rfl rfl rfl rfl ⟨rfl, rfl, rfl, rfl, rfl⟩ rfl rfl rfl rfl rfl (by kernel_rfl) Try.func3 (by kernel_rfl)
    (of_decide_eq_true (by kernel_rfl)) (by unfold Func.isWrapper; first | (rw [if_pos (by decide +kernel)]; kernel_rfl) | (rw [if_neg (by decide +kernel)]; exact ⟨rfl, rfl⟩))
    (fun os started H enc _ => lifted os started H enc)
end LawFnExactMsgOk

theorem fnExactMsgOk_holds : Rows.FnExactMsgOkSaid := LawFnExactMsgOk.over
#print axioms fnExactMsgOk_holds
end Go.Proofs.Ytidgiklkgmfmcaa
