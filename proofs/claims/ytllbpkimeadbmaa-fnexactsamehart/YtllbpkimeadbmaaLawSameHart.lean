/- FnExactSameHart: of every two harts impl.SameHart answers as the specification's SameHart and writes into no argument; no condition. -/
import Derived.Test.YtllbpkimeadbmaaLawSameHartG
import Derived.Test.YtllbpkimeadbmaaSaI
namespace Go.Proofs.Ytllbpkimeadbmaa
open Go.ChangeShapes Go.WideShapes Go.ChangeAt Go.RowKit
set_option linter.unusedVariables false

namespace LawFnExactSameHart
theorem walk (a : Option Addr) (ca : Nat) (xs : List Int) (pc st : Int) (b : Option Addr) (cb : Nat) (ys : List Int) (pd su : Int) (w : World) (hc : Came .i64 w a ca xs) (hd : Came .i64 w b cb ys) :
    Calls Try.prog 3 #[.agg #[.slice a xs.length ca, .int .i64 pc, .int .i64 st], .agg #[.slice b ys.length cb, .int .i64 pd, .int .i64 su]] w fun e w' => e = .returned (.bool true) ∧ Below w.heap.size w w' := walkG implSameHart_any a ca xs pc st b cb ys pd su w hc hd
set_option maxRecDepth 100000 in
theorem lifted (os : Os) (started : os.Started) (H : Type) (enc : TypeId × Value → H) :
    ReturnsInHanded {} Try.checked os 3 .any (Rows.fnExactSameHartSpec.pre6 enc Try.prog Try.f3 Rows.fnExactSameHartRow.domain false) (Rows.fnExactSameHartSpec.post enc Try.prog Try.f3 false true false false) := by
  refine returnsInHanded_of_change (C := Try.checked) own started (by kernel_rfl) Try.func3
    (ChangeSpec.witness6 (enc := enc) (C := Try.checked) false ⟨#[], #[.agg #[.slice none 0 0, .int .i64 0, .int .i64 0], .agg #[.slice none 0 0, .int .i64 0, .int .i64 0]], []⟩ 8 (by kernel_rfl) (by kernel_rfl) (by kernel_rfl) (by kernel_rfl)) ?_
  intro W base args ds gs before hval0 hW hcnd _
  have hval : ∀ (j : Nat) t v, Try.f3.params[j]? = some t → args[j]? = some v → Value.okWide Try.prog W .any base t v := hval0
  have hW' := hW
  obtain ⟨p, q, hA0, hV, rfl, hfz, hnd⟩ := hW
  have hA : DataW.TrodAll enc Try.prog W 0 (fun _ => true) true Try.f3.params.toList args.toList ds p := hA0
  rw [Try.params3] at hA hval
  obtain ⟨v0, vs0, d0, ds0, p0, q0, hargs, rfl, rfl, h0, r0⟩ := trodAll_cons hA
  obtain ⟨v1, vs1, d1, ds1, p1, q1, rfl, rfl, rfl, h1, r1⟩ := trodAll_cons r0
  obtain ⟨rfl, rfl, rfl⟩ := trodAll_nil r1
  obtain rfl : args = #[v0, v1] := by cases args; simp_all
  obtain ⟨rfl, rfl⟩ := trodVars_none hV
  have k0 := h0
  have lt0 : ∀ x ∈ p0, x.block < W.heap.size := by obtain ⟨m, hm⟩ := k0; exact DataW.trod_lt m _ _ _ hm
  obtain ⟨a0, cap0, x0, pc0, st0, rfl, w0⟩ := open_hart (hval 0 24 v0 rfl rfl) h0
  have k1 := h1
  have lt1 : ∀ x ∈ p1, x.block < W.heap.size := by obtain ⟨m, hm⟩ := k1; exact DataW.trod_lt m _ _ _ hm
  obtain ⟨a1, cap1, x1, pc1, st1, rfl, w1⟩ := open_hart (hval 1 24 v1 rfl rfl) h1
  clear hA0 hval0
  refine (walk a0 cap0 x0 pc0 st0 a1 cap1 x1 pc1 st1 W w0 w1).mono fun e W' ⟨he, bel⟩ => ?_
  subst he
  exact ⟨_, rfl, _, _, _, [], _, [], hW', trodAll_mk1 (shut_bool Try.underlying4 _), (trodAll_cons_mk (Below.trod laidOut (by kernel_rfl) (of_decide_eq_true (by kernel_rfl)) k0 bel lt0) (trodAll_cons_mk (Below.trod laidOut (by kernel_rfl) (of_decide_eq_true (by kernel_rfl)) k1 bel lt1) trodAll_mk0)), rfl, bel.frame _, fun h => by cases h⟩

theorem over : Rows.fnExactSameHartRow.holds Try.pinned (OpenSpec.ofChange Rows.fnExactSameHartSpec) :=
  OpenClaim.holds_of_wide 3 Try.f3 rfl rfl rfl rfl rfl rfl rfl ⟨rfl, rfl, rfl, rfl, rfl⟩ rfl rfl rfl rfl rfl (by kernel_rfl) Try.func3 (by kernel_rfl)
    (of_decide_eq_true (by kernel_rfl)) (by unfold Func.isWrapper; first | (rw [if_pos (by decide +kernel)]; kernel_rfl) | (rw [if_neg (by decide +kernel)]; exact ⟨rfl, rfl⟩))
    (fun os started H enc _ => lifted os started H enc)
end LawFnExactSameHart

theorem fnExactSameHart_holds : Rows.FnExactSameHartSaid := LawFnExactSameHart.over
#print axioms fnExactSameHart_holds
end Go.Proofs.Ytllbpkimeadbmaa
