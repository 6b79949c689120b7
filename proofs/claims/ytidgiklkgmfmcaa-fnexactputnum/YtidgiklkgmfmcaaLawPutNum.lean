/- For every int the law FnExactPutNum returns true: PutNum answers as the specification, and its answer owns its memory, behind another call too. Conditions: none. -/
import Derived.Test.YtidgiklkgmfmcaaRows
import Derived.Test.YtidgiklkgmfmcaaBase
import Derived.Test.YtidgiklkgmfmcaaBytes
import Derived.Test.YtidgiklkgmfmcaaPut
import Derived.Test.YtidgiklkgmfmcaaSpecPut
import Derived.WalkKit
import Derived.ProofKit
import Derived.OpenShut
import Derived.ShutString
import Derived.ChangeOld
import Derived.Below
namespace Go.Proofs.Ytidgiklkgmfmcaa
open Go.ChangeShapes Go.WideShapes Go.ChangeAt Go.RowKit
set_option linter.unusedVariables false
open Go.ChangeMaps (open_string shut_string)

namespace LawPutNum
theorem own : ownKnob Try.prog.godebug = none := by kernel_rfl
theorem laidOut : laidOutB Try.prog = true := by kernel_rfl

set_option maxHeartbeats 1000000 in
theorem walk (n : Int) (w : World) :
    Calls Try.prog 4 #[.int .i64 n] w fun e w' => e = .returned (.bool true) ∧ Below w.heap.size w w' := by
  have hl : Hid ((putb n).length ≤ 3) := putb_len n
  go_enter Try.func4, Try.ntmps4
  go_wp2_with fail
  refine (specPutNum_any n _).mono ?_
  rintro e w1 ⟨v0, rfl, o0, b0⟩
  have l0 := fun j h => (o0.lt j h).2
  go_wp2_with fail
  refine (putNum_any n _).mono ?_
  rintro e w2 ⟨v1, rfl, o1, b1⟩
  have l1 := fun j h => (o1.lt j h).1
  have o0 := owns_below o0 b1
  have bel : Below w.heap.size w w2 := b0.trans (b1.mono b0.size)
  have s0 := b0.size
  have s1 := b1.size
  clear b0 b1
  obtain ⟨a0, c0, rfl, r0, _, _⟩ := owns_row o0 (by have := hl.out; omega)
  obtain ⟨a1, c1, rfl, r1, _, _⟩ := owns_row o1 (by have := hl.out; omega)
  go_wp2_with fail
  refine (eqByteS_any a1 a0 c1 c0 (putb n) _ r1 r0).mono ?_
  rintro e w3 ⟨rfl, d3, rfl⟩
  clear r0 r1
  have bel3 := below_drewN bel d3
  go_wp2_with fail
  refine (markByteS_any w1.heap.size (putb n).length _ 1 _ (w2.drewN d3) (by omega) (by omega) (by have := hl.out; omega) (owns_drewN o1 d3)).mono ?_
  rintro e w4 ⟨rfl, o4, g4⟩
  have o0 := owns_but (owns_drewN o0 d3) g4 (fun k hk j hj => by have := l0 j hj; have := l1 k hk; omega)
  have bel4 : Below w.heap.size w w4 := bel3.grown g4 (by show w.heap.size ≤ w2.heap.size; omega) (fun k hk => by have := l1 k hk; omega)
  have s4 : w2.heap.size ≤ w4.heap.size := g4.size
  clear g4 bel3 bel o1
  obtain ⟨a4, c4, e4, r4, _, _⟩ := owns_row o4 (by rw [mks_length]; have := hl.out; omega)
  rw [mks_length] at e4
  obtain ⟨rfl, rfl⟩ : a4 = a1 ∧ c4 = c1 := by simp only [Value.slice.injEq] at e4; exact ⟨e4.1.symm, e4.2.2.symm⟩
  clear e4
  go_wp2_with fail
  refine (heldByteS_any a4 c4 (putb n).length 1 _ (by omega) (by omega) r4).mono ?_
  rintro e w5 ⟨rfl, rfl⟩
  go_wp2_with fail
  refine (putNum_any n _).mono ?_
  rintro e w6 ⟨v2, rfl, o6, b6⟩
  have o4 := owns_below o4 b6
  have o0 := owns_below o0 b6
  have bel6 := bel4.trans (b6.mono (by omega))
  clear bel4 b6 r4
  obtain ⟨a0', c0', e0, r0, _, _⟩ := owns_row o0 (by have := hl.out; omega)
  obtain ⟨rfl, rfl⟩ : a0' = a0 ∧ c0' = c0 := by simp only [Value.slice.injEq] at e0; exact ⟨e0.1.symm, e0.2.2.symm⟩
  clear e0
  obtain ⟨a6, c6, rfl, r6, _, _⟩ := owns_row o6 (by have := hl.out; omega)
  go_wp2_with fail
  refine (eqByteS_any a6 a0' c6 c0' (putb n) _ r6 r0).mono ?_
  rintro e w7 ⟨rfl, d7, rfl⟩
  have bel7 := below_drewN bel6 d7
  obtain ⟨a5, c5, e5, r5, _, _⟩ := owns_row (owns_drewN o4 d7) (by rw [mks_length]; have := hl.out; omega)
  rw [mks_length] at e5
  obtain ⟨rfl, rfl⟩ : a5 = a4 ∧ c5 = c4 := by simp only [Value.slice.injEq] at e5; exact ⟨e5.1.symm, e5.2.2.symm⟩
  clear e5
  go_wp2_with fail
  refine (heldByteS_any a5 c5 (putb n).length 1 _ (by omega) (by omega) r5).mono ?_
  rintro e w8 ⟨rfl, rfl⟩
  go_wp2
  go_ret
  exact ⟨rfl, bel7⟩

set_option maxRecDepth 100000 in
theorem lifted (os : Os) (started : os.Started) (H : Type) (enc : TypeId × Value → H) :
    ReturnsInHanded {} Try.checked os 4 .any (Rows.fnExactPutNumSpec.pre6 enc Try.prog Try.f4 Rows.fnExactPutNumRow.domain false) (Rows.fnExactPutNumSpec.post enc Try.prog Try.f4 false true false false) := by
  refine returnsInHanded_of_change (C := Try.checked) own started (by kernel_rfl) Try.func4
    (ChangeSpec.witness6 (enc := enc) (C := Try.checked) false ⟨#[], #[.int .i64 0], []⟩ 8 (by kernel_rfl) (by kernel_rfl) (by kernel_rfl) (by kernel_rfl)) ?_
  intro W base args ds gs before hval0 hW hcnd _
  have hval : ∀ (j : Nat) t v, Try.f4.params[j]? = some t → args[j]? = some v → Value.okWide Try.prog W .any base t v := hval0
  have hW' := hW
  obtain ⟨p, q, hA0, hV, rfl, hfz, hnd⟩ := hW
  have hA : DataW.TrodAll enc Try.prog W 0 (fun _ => true) true Try.f4.params.toList args.toList ds p := hA0
  rw [Try.params4] at hA hval
  obtain ⟨v0, vs0, d0, ds0, p0, q0, hargs, rfl, rfl, h0, r0⟩ := trodAll_cons hA
  obtain ⟨rfl, rfl, rfl⟩ := trodAll_nil r0
  obtain rfl : args = #[v0] := by cases args; simp_all
  obtain ⟨rfl, rfl⟩ := trodVars_none hV
  obtain ⟨a0, rfl, rfl, rfl, w0⟩ := open_int Try.underlying3 (hval 0 3 v0 rfl rfl) h0
  clear hA0 hval0
  refine (walk a0 W).mono fun e W' ⟨he, bel⟩ => ?_
  subst he
  exact ⟨_, rfl, _, _, _, [], _, [], hW', trodAll_mk1 (shut_bool Try.underlying4 _), (trodAll_cons_mk (shut_int Try.underlying3 w0) trodAll_mk0), rfl, bel.frame _, fun h => by cases h⟩

theorem over : Rows.fnExactPutNumRow.holds Try.pinned (OpenSpec.ofChange Rows.fnExactPutNumSpec) :=
  OpenClaim.holds_of_wide 4 Try.f4 rfl rfl rfl rfl rfl rfl rfl ⟨rfl, rfl, rfl, rfl, rfl⟩ rfl rfl rfl rfl rfl (by kernel_rfl) Try.func4 (by kernel_rfl)
    (of_decide_eq_true (by kernel_rfl)) (by unfold Func.isWrapper; first | (rw [if_pos (by decide +kernel)]; kernel_rfl) | (rw [if_neg (by decide +kernel)]; exact ⟨rfl, rfl⟩))
    (fun os started H enc _ => lifted os started H enc)
end LawPutNum

theorem fnExactPutNum_holds : Rows.FnExactPutNumSaid := LawPutNum.over
#print axioms fnExactPutNum_holds
end Go.Proofs.Ytidgiklkgmfmcaa
