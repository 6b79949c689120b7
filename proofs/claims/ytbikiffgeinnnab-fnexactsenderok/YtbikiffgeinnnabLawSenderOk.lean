/- For every sender the law FnExactSenderOk returns true: SenderOk answers as the specification, and writes into no argument. Conditions: none. -/
import Derived.Test.YtbikiffgeinnnabOpenS
import Derived.Deep.RegionWith
import Derived.BigRegion
namespace Go.Proofs.Ytbikiffgeinnnab
open Go.ChangeShapes Go.WideShapes Go.ChangeAt Go.RowKit
set_option linter.unusedVariables false

namespace LawFnExactSenderOk
set_option maxRecDepth 100000 in
set_option maxHeartbeats 4000000 in
theorem walk (B : Int) (a : Option Addr) (ca : Nat) (ms : List M) (w : World) (hcw : MCame w a ca ms ∧ (Lit.int .i64 B).wf = true) :
    Calls Try.prog 6 #[.agg #[.int .i64 B, .slice a ms.length ca]] w fun e w' => e = .returned (.bool true) ∧ Below w.heap.size w w' := by
  obtain ⟨hc, _⟩ := hcw
  have bA := bel_alloc (Below.refl w.heap.size w) (.cells #[.int .i64 B, .slice a ms.length ca] 44)
  have XA := Box.new w #[.int .i64 B, .slice a ms.length ca] 44
  have hc := hc.below bA
  go_enter Try.func6, Try.ntmps6
  go_wp2_with fail
  refine (szSender_any B a ca ms _ hc).mono ?_
  rintro e w1 ⟨r, rfl, hsz, b1⟩
  have XA := XA.below b1
  have hc := hc.below b1
  have B1 := bel_trans bA b1
  clear b1 bA
  rcases hsz with rfl | ⟨h0, h1, hml, hxl⟩
  · clear hc XA
    go_wp2
    go_ret
    exact ⟨rfl, B1⟩
  · have hr := hc.mrow hml hxl
    have hd : decide (r < 0) = false := by simp; omega
    clear hc
    obtain ⟨x0, x1, zx⟩ := XA.at2
    go_wp2_with fail
    refine (toSender_any B a ca ms _ hml hxl hr).mono ?_
    rintro e w2 ⟨a2, c2, d2, rfl, s2, D2, b2⟩
    have XA := XA.below b2
    have hr := hr.below b2
    have B2 := bel_trans B1 b2
    have l2 : d2.length = ms.length := by have h := congrArg List.length s2; simpa using h
    have q2 := D2.mrow (by omega) (say_len s2 hxl)
    clear b2 B1 D2 x0 x1 zx
    go_wp2_with fail
    rw [← l2]
    refine (specSender_any B a2 c2 d2 _ q2).mono ?_
    rintro e w3 ⟨rfl, b3⟩
    rw [senderB_say B s2, l2]
    have XA := XA.below b3
    have hr := hr.below b3
    have B3 := bel_trans B2 b3
    clear b3 B2 q2
    obtain ⟨x0, x1, zx⟩ := XA.at2
    go_wp2_with fail
    refine (toSender_any B a ca ms _ hml hxl hr).mono ?_
    rintro e w4 ⟨a4, c4, d4, rfl, s4, D4, b4⟩
    have XA := XA.below b4
    have hr := hr.below b4
    have B4 := bel_trans B3 b4
    have l4 : d4.length = ms.length := by have h := congrArg List.length s4; simpa using h
    have q4 := D4.mrow (by omega) (say_len s4 hxl)
    clear b4 B3 D4 x0 x1 zx
    go_wp2_with fail
    have bx := bel_alloc (Below.refl w4.heap.size w4) (.cells #[.int .i64 B, .slice a4 ms.length c4] 49)
    have XP := Box.new w4 #[.int .i64 B, .slice a4 ms.length c4] 49
    have XA := XA.below bx
    have hr := hr.below bx
    have B4 := bel_trans B4 bx
    have q4 := q4.below bx
    clear bx
    have hcall := implSender_any B a4 c4 d4 (w4.alloc (.cells #[.int .i64 B, .slice a4 ms.length c4] 49)) q4
    rw [l4] at hcall
    refine hcall.mono ?_
    rintro e w5 ⟨rfl, b5⟩
    rw [senderB_say B s4]
    have XA := XA.below b5
    have XP := XP.below b5
    have hr := hr.below b5
    have B5 := bel_trans B4 b5
    have q4 := q4.below b5
    clear b5 B4 hcall
    obtain ⟨x0, x1, zx⟩ := XA.at2
    obtain ⟨y0, y1, zy⟩ := XP.at2
    go_wp2_with fail
    go_region_with (first | (go_at_call 26; refine (toSender_any B a ca ms _ hml hxl ?_).mono ?_; exact hr; rintro e w6 ⟨a6, c6, d6, rfl, s6, D6, b6⟩; have b6 := bel_undrew b6; obtain ⟨hc6, hf6⟩ := bcell b6; have q6 := D6.mrow (by have h := congrArg List.length s6; simp at h; omega) (say_len s6 hxl)) | (go_at_call 28; refine (eqSender_any B a4 a6 c4 c6 d4 d6 ms.length _ ?_ ?_ ?_ ?_).mono ?_; exact l4; exact s6.trans s4.symm; exact q4.below b6; exact q6; rintro e w7 ⟨rfl, b7⟩))
    all_goals
      have B7 := bel_trans (bel_trans B5 b6) b7
      go_wp2
      go_ret
      exact ⟨rfl, B7⟩

set_option maxRecDepth 100000 in
theorem lifted (os : Os) (started : os.Started) (H : Type) (enc : TypeId × Value → H) :
    ReturnsInHanded {} Try.checked os 6 .any (Rows.fnExactSenderOkSpec.pre6 enc Try.prog Try.f6 Rows.fnExactSenderOkRow.domain false) (Rows.fnExactSenderOkSpec.post enc Try.prog Try.f6 false true false false) := by
  refine returnsInHanded_of_change (C := Try.checked) own started (by kernel_rfl) Try.func6
    (ChangeSpec.witness6 (enc := enc) (C := Try.checked) false ⟨#[], #[.agg #[.int .i64 0, .slice none 0 0]], []⟩ 8 (by kernel_rfl) (by kernel_rfl) (by kernel_rfl) (by kernel_rfl)) ?_
  intro W base args ds gs before hval0 hW hcnd _
  have hval : ∀ (j : Nat) t v, Try.f6.params[j]? = some t → args[j]? = some v → Value.okWide Try.prog W .any base t v := hval0
  have hW' := hW
  obtain ⟨p, q, hA0, hV, rfl, hfz, hnd⟩ := hW
  have hA : DataW.TrodAll enc Try.prog W 0 (fun _ => true) true Try.f6.params.toList args.toList ds p := hA0
  rw [Try.params6] at hA hval
  obtain ⟨v0, vs0, d0, ds0, p0, q0, hargs, rfl, rfl, h0, r0⟩ := trodAll_cons hA
  obtain ⟨rfl, rfl, rfl⟩ := trodAll_nil r0
  obtain rfl : args = #[v0] := by cases args; simp_all
  obtain ⟨rfl, rfl⟩ := trodVars_none hV
  have k0 := h0
  have lt0 : ∀ x ∈ p0, x.block < W.heap.size := by obtain ⟨m, hm⟩ := k0; exact DataW.trod_lt m _ _ _ hm
  obtain ⟨f0, a0, cap0, x0, rfl, w0⟩ := open_sender (hval 0 44 v0 rfl rfl) h0
  clear hA0 hval0
  refine (walk f0 a0 cap0 x0 W w0).mono fun e W' ⟨he, bel⟩ => ?_
  subst he
  exact ⟨_, rfl, _, _, _, [], _, [], hW', trodAll_mk1 (shut_bool Try.underlying4 _), (trodAll_cons_mk (Below.trod laidOut (by kernel_rfl) (of_decide_eq_true (by kernel_rfl)) k0 bel lt0) trodAll_mk0), rfl, bel.frame _, fun h => by cases h⟩

theorem over : Rows.fnExactSenderOkRow.holds Try.pinned (OpenSpec.ofChange Rows.fnExactSenderOkSpec) :=
  OpenClaim.holds_of_wide 6 Try.f6 rfl rfl rfl rfl rfl rfl rfl ⟨rfl, rfl, rfl, rfl, rfl⟩ rfl rfl rfl rfl rfl (by kernel_rfl) Try.func6 (by kernel_rfl)
    (of_decide_eq_true (by kernel_rfl)) (by unfold Func.isWrapper; first | (rw [if_pos (by decide +kernel)]; kernel_rfl) | (rw [if_neg (by decide +kernel)]; exact ⟨rfl, rfl⟩))
    (fun os started H enc _ => lifted os started H enc)
end LawFnExactSenderOk

theorem fnExactSenderOk_holds : Rows.FnExactSenderOkSaid := LawFnExactSenderOk.over
#print axioms fnExactSenderOk_holds
end Go.Proofs.Ytbikiffgeinnnab
