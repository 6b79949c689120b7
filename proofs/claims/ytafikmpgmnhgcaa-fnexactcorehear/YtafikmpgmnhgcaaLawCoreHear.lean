/- FnExactCoreHear: at every core and every message impl.CoreHear answers as the specification's CoreHear, writes into no argument, and its answer owns its memory; no condition. -/
import Derived.Test.YtafikmpgmnhgcaaLawCoreHearG
import Derived.Test.YtafikmpgmnhgcaaCoI
import Derived.Test.YtafikmpgmnhgcaaOpenCo
namespace Go.Proofs.Ytafikmpgmnhgcaa
open Go.ChangeShapes Go.WideShapes Go.ChangeAt Go.RowKit
set_option linter.unusedVariables false

namespace LawFnExactCoreHear
theorem walk (d : CoD) (p : CoP) (k pg : Int) (o : Bool) (am : Option Addr) (cm : Nat) (ms : List Int) (w : World) (hc : CoC w d p) (hcm : Came .i64 w am cm ms) (_ : (Lit.int .i64 k).wf = true) (_ : (Lit.int .i64 pg).wf = true) :
    Calls Try.prog 3 #[.agg (ccells d p), .agg #[.int .i64 k, .int .i64 pg, .bool o, .slice am ms.length cm]] w fun e w' => e = .returned (.bool true) ∧ Below w.heap.size w w' := walkG implCoreHear_any d p k pg o am cm ms w hc hcm
set_option maxRecDepth 100000 in
theorem lifted (os : Os) (started : os.Started) (H : Type) (enc : TypeId × Value → H) :
    ReturnsInHanded {} Try.checked os 3 .any (Rows.fnExactCoreHearSpec.pre6 enc Try.prog Try.f3 Rows.fnExactCoreHearRow.domain false) (Rows.fnExactCoreHearSpec.post enc Try.prog Try.f3 false true false false) := by
  refine returnsInHanded_of_change (C := Try.checked) own started (by kernel_rfl) Try.func3
    (ChangeSpec.witness6 (enc := enc) (C := Try.checked) false ⟨#[], #[.agg #[.slice none 0 0, .int .i64 0, .int .i64 0, .slice none 0 0], .agg #[.int .i64 0, .int .i64 0, .bool false, .slice none 0 0]], []⟩ 8 (by kernel_rfl) (by kernel_rfl) (by kernel_rfl) (by kernel_rfl)) ?_
  intro W base args ds gs before hval0 hW hcnd _
  have hval : ∀ (j : Nat) t v, Try.f3.params[j]? = some t → args[j]? = some v → Value.okWide Try.prog W .any base t v := hval0
  have hW' := hW
  obtain ⟨p, q, hA0, hV, rfl, hfz, hnd⟩ := hW
  have hA : DataW.TrodAll enc Try.prog W 0 (fun _ => true) true Try.f3.params.toList args.toList ds p := hA0
  rw [Try.params3] at hA hval
  obtain ⟨v0, vs0, d0, ds0, p0, q0, hargs, rfl, rfl, h0, r0⟩ := trodAll_cons hA
  obtain ⟨v1, vs1, d1, ds1, p1, q1, rfl, rfl, rfl, h1, r1⟩ := trodAll_cons r0
  obtain ⟨rfl, rfl, rfl⟩ := trodAll_nil r1
  obtain rfl : args = #[v0, v1] := by cases args; simp_all
  obtain ⟨rfl, rfl⟩ := trodVars_none hV
  have k0 := h0
  have lt0 : ∀ x ∈ p0, x.block < W.heap.size := by obtain ⟨m, hm⟩ := k0; exact DataW.trod_lt m _ _ _ hm
  obtain ⟨D0, N0, rfl, w0⟩ := open_core (hval 0 27 v0 rfl rfl) h0
  have k1 := h1
  have lt1 : ∀ x ∈ p1, x.block < W.heap.size := by obtain ⟨m, hm⟩ := k1; exact DataW.trod_lt m _ _ _ hm
  obtain ⟨c0, c1, c2, c3, y0, y1, y2, y3, fu, rfl, _, _, hy0, hy1, hy2, hy3⟩ := Go.Joins.open_agg4 Try.underlying29 (by kernel_rfl) (by kernel_rfl) (hval 1 29 v1 rfl rfl) h1
  obtain ⟨mk1, e0, _, wk1⟩ := DataW.trod_int Try.underlying3 hy0
  obtain ⟨mp1, e1, _, wp1⟩ := DataW.trod_int Try.underlying3 hy1
  obtain ⟨mo1, e2, _⟩ := DataW.trod_bool Try.underlying4 hy2
  simp only [List.cons.injEq, and_true] at e0 e1 e2
  subst e0 e1 e2
  obtain ⟨a1, cap1, x1, rfl, w1⟩ : ∃ (a : Option Addr) (cap : Nat) (xs : List Int), c3 = .slice a xs.length cap ∧ Came .i64 W a cap xs := by
    rcases open_ints Try.underlying22 Try.underlying3 (by kernel_rfl) hy3 with ⟨hcs, _⟩ | ⟨x, l, c, zs, hcs, _, hl, hm, hz, _, hcell, hwz⟩
    · simp only [List.cons.injEq, and_true] at hcs
      exact ⟨none, 0, [], hcs, came_nil _ _⟩
    · simp only [List.cons.injEq, and_true] at hcs
      have hc := came_of hl hm (by simpa using hz) hcell hwz
      exact ⟨some x, c, zs.take l, by rw [hc.1]; exact hcs, hc.2⟩
  clear hA0 hval0
  refine (walk D0 N0 mk1 mp1 mo1 a1 cap1 x1 W w0 w1 wk1 wp1).mono fun e W' ⟨he, bel⟩ => ?_
  subst he
  exact ⟨_, rfl, _, _, _, [], _, [], hW', trodAll_mk1 (shut_bool Try.underlying4 _), (trodAll_cons_mk (Below.trod laidOut (by kernel_rfl) (of_decide_eq_true (by kernel_rfl)) k0 bel lt0) (trodAll_cons_mk (Below.trod laidOut (by kernel_rfl) (of_decide_eq_true (by kernel_rfl)) k1 bel lt1) trodAll_mk0)), rfl, bel.frame _, fun h => by cases h⟩

theorem over : Rows.fnExactCoreHearRow.holds Try.pinned (OpenSpec.ofChange Rows.fnExactCoreHearSpec) :=
  OpenClaim.holds_of_wide 3 Try.f3 rfl rfl rfl rfl rfl rfl rfl ⟨rfl, rfl, rfl, rfl, rfl⟩ rfl rfl rfl rfl rfl (by kernel_rfl) Try.func3 (by kernel_rfl)
    (of_decide_eq_true (by kernel_rfl)) (by unfold Func.isWrapper; first | (rw [if_pos (by decide +kernel)]; kernel_rfl) | (rw [if_neg (by decide +kernel)]; exact ⟨rfl, rfl⟩))
    (fun os started H enc _ => lifted os started H enc)
end LawFnExactCoreHear

theorem fnExactCoreHear_holds : Rows.FnExactCoreHearSaid := LawFnExactCoreHear.over
#print axioms fnExactCoreHear_holds
end Go.Proofs.Ytafikmpgmnhgcaa
