/- For every list of bytes and every place the law FnExactGetNum returns true: GetNum answers as the specification, and writes into no argument. Conditions: none. -/
import Derived.Test.YtidgiklkgmfmcaaRows
import Derived.Test.YtidgiklkgmfmcaaBase
import Derived.Test.YtidgiklkgmfmcaaBytes
import Derived.Test.YtidgiklkgmfmcaaToBytes
import Derived.Test.YtidgiklkgmfmcaaImplGet
import Derived.Test.YtidgiklkgmfmcaaOpen
namespace Go.Proofs.Ytidgiklkgmfmcaa
open Go.ChangeShapes Go.WideShapes Go.ChangeAt Go.RowKit
set_option linter.unusedVariables false

namespace LawFnExactGetNum
set_option maxHeartbeats 1000000 in
theorem walk (a : Option Addr) (ca : Nat) (xs : List Int) (at' : Int) (w : World) (hc : Came .u8 w a ca xs) (wf : (Lit.int .i64 at').wf = true) :
    Calls Try.prog 5 #[.slice a xs.length ca, .int .i64 at'] w fun e w' => e = .returned (.bool true) ∧ Below w.heap.size w w' := by
  by_cases hl : 1048576 < xs.length
  · clear wf hc
    go_enter Try.func5, Try.ntmps5
    go_wp2
    go_ret
    exact ⟨rfl, Below.refl _ _⟩
  · have hby := hc.bytes
    have hr := hc.row (by omega)
    obtain ⟨hcap, hcm, _, _⟩ := hc
    clear wf
    obtain ⟨⟨r0, r1, r2⟩, hr0⟩ : ∃ r, getn xs at' = r := ⟨_, rfl⟩
    have HR : Hid (getn xs at' = (r0, r1, r2)) := hr0
    clear hr0
    go_enter Try.func5, Try.ntmps5
    go_wp2_with fail
    refine (toByteS_any a ca xs _ hr).mono ?_
    rintro e w1 ⟨v1, rfl, o1, b1⟩
    obtain ⟨a1, c1, rfl, q1, l1, m1⟩ := owns_row o1 (by omega)
    go_wp2_with fail
    refine (specGet_any a1 c1 xs at' _ q1 hby).mono ?_
    rintro e w2 ⟨rfl, rfl⟩
    rw [HR.out]
    simp only [retGet]
    have hr1 := hr.below b1
    go_wp2_with fail
    refine (toByteS_any a ca xs _ hr1).mono ?_
    rintro e w3 ⟨v3, rfl, o3, b3⟩
    obtain ⟨a3, c3, rfl, q3, l3, m3⟩ := owns_row o3 (by omega)
    have bel3 := b1.trans (b3.mono b1.size)
    have hr3 := hr1.below b3
    go_wp2_with fail
    refine (get_any a3 c3 xs at' _ q3 hby l3 m3).mono ?_
    rintro e w4 ⟨rfl, rfl⟩
    rw [HR.out]
    simp only [retGet]
    go_wp2_with fail
    refine (toByteS_any a ca xs _ hr3).mono ?_
    rintro e w5 ⟨v5, rfl, o5, b5⟩
    obtain ⟨a5, c5, rfl, q5, l5, m5⟩ := owns_row o5 (by omega)
    have bel5 := bel3.trans (b5.mono bel3.size)
    have q3' := q3.below b5
    go_wp2_with fail
    refine (eqByteS_any a3 a5 c3 c5 xs _ q3' q5).mono ?_
    rintro e w6 ⟨rfl, d6, rfl⟩
    have bel6 := below_drewN bel5 d6
    go_wp2
    go_ret
    exact ⟨rfl, bel6⟩

set_option maxRecDepth 100000 in
theorem lifted (os : Os) (started : os.Started) (H : Type) (enc : TypeId × Value → H) :
    ReturnsInHanded {} Try.checked os 5 .any (Rows.fnExactGetNumSpec.pre6 enc Try.prog Try.f5 Rows.fnExactGetNumRow.domain false) (Rows.fnExactGetNumSpec.post enc Try.prog Try.f5 false true false false) := by
  refine returnsInHanded_of_change (C := Try.checked) own started (by kernel_rfl) Try.func5
    (ChangeSpec.witness6 (enc := enc) (C := Try.checked) false ⟨#[], #[.slice none 0 0, .int .i64 0], []⟩ 8 (by kernel_rfl) (by kernel_rfl) (by kernel_rfl) (by kernel_rfl)) ?_
  intro W base args ds gs before hval0 hW hcnd _
  have hval : ∀ (j : Nat) t v, Try.f5.params[j]? = some t → args[j]? = some v → Value.okWide Try.prog W .any base t v := hval0
  have hW' := hW
  obtain ⟨p, q, hA0, hV, rfl, hfz, hnd⟩ := hW
  have hA : DataW.TrodAll enc Try.prog W 0 (fun _ => true) true Try.f5.params.toList args.toList ds p := hA0
  rw [Try.params5] at hA hval
  obtain ⟨v0, vs0, d0, ds0, p0, q0, hargs, rfl, rfl, h0, r0⟩ := trodAll_cons hA
  obtain ⟨v1, vs1, d1, ds1, p1, q1, rfl, rfl, rfl, h1, r1⟩ := trodAll_cons r0
  obtain ⟨rfl, rfl, rfl⟩ := trodAll_nil r1
  obtain rfl : args = #[v0, v1] := by cases args; simp_all
  obtain ⟨rfl, rfl⟩ := trodVars_none hV
  obtain ⟨a0, len0, cap0, rfl⟩ := okWide_slice Try.underlying31 (hval 0 31 v0 rfl rfl)
  have k0 := h0
  have lt0 : ∀ x ∈ p0, x.block < W.heap.size := by obtain ⟨m, hm⟩ := k0; exact DataW.trod_lt m _ _ _ hm
  obtain ⟨x0, rfl, w0⟩ : ∃ xs : List Int, xs.length = len0 ∧ Came .u8 W a0 cap0 xs := by
    obtain ⟨fuel, hf⟩ := h0
    rcases open_ints Try.underlying31 Try.underlying5 (by kernel_rfl) hf with ⟨hcs, _⟩ | ⟨x, l, c, zs, hcs, _, hl, hm, hz, _, hcell, hwz⟩
    · simp [Value.cells] at hcs
      obtain ⟨rfl, rfl, rfl⟩ := hcs
      exact ⟨[], rfl, came_nil _ _⟩
    · simp [Value.cells] at hcs
      obtain ⟨rfl, rfl, rfl⟩ := hcs
      have hc := came_of hl hm (by simpa using hz) hcell hwz
      exact ⟨_, hc.1, hc.2⟩
  obtain ⟨a1, rfl, rfl, rfl, w1⟩ := open_int Try.underlying3 (hval 1 3 v1 rfl rfl) h1
  clear hA0 hval0
  refine (walk a0 cap0 x0 a1 W w0 w1).mono fun e W' ⟨he, bel⟩ => ?_
  subst he
  exact ⟨_, rfl, _, _, _, [], _, [], hW', trodAll_mk1 (shut_bool Try.underlying4 _), (trodAll_cons_mk (Below.trod laidOut (by kernel_rfl) (of_decide_eq_true (by kernel_rfl)) k0 bel lt0) (trodAll_cons_mk (shut_int Try.underlying3 w1) trodAll_mk0)), rfl, bel.frame _, fun h => by cases h⟩

theorem over : Rows.fnExactGetNumRow.holds Try.pinned (OpenSpec.ofChange Rows.fnExactGetNumSpec) :=
  OpenClaim.holds_of_wide 5 Try.f5 rfl rfl rfl rfl rfl rfl rfl ⟨rfl, rfl, rfl, rfl, rfl⟩ rfl rfl rfl rfl rfl (by kernel_rfl) Try.func5 (by kernel_rfl)
    (of_decide_eq_true (by kernel_rfl)) (by unfold Func.isWrapper; first | (rw [if_pos (by decide +kernel)]; kernel_rfl) | (rw [if_neg (by decide +kernel)]; exact ⟨rfl, rfl⟩))
    (fun os started H enc _ => lifted os started H enc)
end LawFnExactGetNum

theorem fnExactGetNum_holds : Rows.FnExactGetNumSaid := LawFnExactGetNum.over
#print axioms fnExactGetNum_holds
end Go.Proofs.Ytidgiklkgmfmcaa
