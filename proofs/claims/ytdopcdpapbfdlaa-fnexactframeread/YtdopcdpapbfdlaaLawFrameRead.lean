/- For every frame and every number the law FnExactFrameRead returns true: FrameRead answers as the specification, and writes into no argument. Conditions: none. -/
import Derived.Test.YtdopcdpapbfdlaaFrmR
import Derived.Test.YtdopcdpapbfdlaaOpenF
namespace Go.Proofs.Ytdopcdpapbfdlaa
open Go.ChangeShapes Go.WideShapes Go.ChangeAt Go.RowKit
set_option linter.unusedVariables false

namespace LawFnExactFrameRead
set_option maxRecDepth 100000 in
set_option maxHeartbeats 4000000 in
theorem walk (s : Int) (q : Bool) (a : Option Addr) (ca : Nat) (xs : List Int) (i : Int) (w : World) (hc : Came .i64 w a ca xs) (wi : (Lit.int .i64 i).wf = true) :
    Calls Try.prog 8 #[.agg #[.int .i64 s, .slice a xs.length ca, .bool q], .int .i64 i] w fun e w' => e = .returned (.bool true) ∧ Below w.heap.size w w' := by
  clear wi
  have bA := bel_alloc (Below.refl w.heap.size w) (.cells #[.int .i64 s, .slice a xs.length ca, .bool q] 64)
  have XA := Box.new w #[.int .i64 s, .slice a xs.length ca, .bool q] 64
  by_cases hl : 1048576 < xs.length
  · have hn : xs.length ≤ maxLen := Nat.le_trans hc.1 hc.2.1
    clear hc XA
    go_enter Try.func8, Try.ntmps8
    go_wp2_with fail
    refine (szFrame_big s q a _ ca _ hl hn).mono ?_
    rintro e w1 ⟨rfl, b1⟩
    have B := bel_trans bA b1
    go_wp2
    go_ret
    exact ⟨rfl, B⟩
  · have hsm : xs.length ≤ 1048576 := by omega
    have hr := (hc.row (by omega)).below bA
    clear hc hl
    go_enter Try.func8, Try.ntmps8
    go_wp2_with fail
    refine (szFrame_small s q a _ ca _ hsm).mono ?_
    rintro e w1 ⟨rfl, b1⟩
    have XA := XA.below b1
    have hr := hr.below b1
    have B := bel_trans bA b1
    clear b1 bA
    obtain ⟨m0, m1, m2, z1⟩ := XA.at3
    go_wp2_with fail
    refine (toFrame_any s q a ca xs _ hsm hr).mono ?_
    rintro e w2 ⟨v2, rfl, o2, b2⟩
    obtain ⟨a2, c2, rfl, q2, _, _⟩ := owns_row o2 (by omega)
    have XA := XA.below b2
    have hr := hr.below b2
    have B := bel_trans B b2
    clear b2 o2 m0 m1 m2 z1
    go_wp2_with fail
    refine (specRead_any s q a2 c2 xs i _ q2).mono ?_
    rintro e w3 ⟨rfl, b3⟩
    have XA := XA.below b3
    have hr := hr.below b3
    have B := bel_trans B b3
    clear b3 q2
    obtain ⟨m0, m1, m2, z1⟩ := XA.at3
    go_wp2_with fail
    refine (toFrame_any s q a ca xs _ hsm hr).mono ?_
    rintro e w4 ⟨v4, rfl, o4, b4⟩
    obtain ⟨a4, c4, rfl, q4, _, _⟩ := owns_row o4 (by omega)
    have XA := XA.below b4
    have hr := hr.below b4
    have B := bel_trans B b4
    clear b4 o4 m0 m1 m2 z1
    go_wp2_with fail
    have bx := bel_alloc (Below.refl w4.heap.size w4) (.cells #[.int .i64 s, .slice a4 xs.length c4, .bool q] 50)
    have XP := Box.new w4 #[.int .i64 s, .slice a4 xs.length c4, .bool q] 50
    have XA := XA.below bx
    have hr := hr.below bx
    have B := bel_trans B bx
    have q4 := q4.below bx
    clear bx
    refine (implRead_any s q a4 c4 xs i _ q4).mono ?_
    rintro e w5 ⟨rfl, b5⟩
    have XA := XA.below b5
    have XP := XP.below b5
    have hr := hr.below b5
    have B := bel_trans B b5
    have q4 := q4.below b5
    clear b5
    obtain ⟨m0, m1, m2, z1⟩ := XA.at3
    obtain ⟨n0, n1, n2, z2⟩ := XP.at3
    go_wp2_with fail
    go_region_with (first | (go_at_call 38; refine (toFrame_any s q a ca xs _ hsm ?_).mono ?_; exact hr; rintro e w6 ⟨v6, rfl, o6, b6⟩; obtain ⟨a6, c6, rfl, q6, _, _⟩ := owns_row o6 (by omega); have b6 := bel_undrew b6; obtain ⟨hc6, hf6⟩ := bcell b6) | (go_at_call 39; refine (eqFrame_any s q a4 a6 c4 c6 xs _ ?_ ?_).mono ?_; exact q4.below b6; exact q6; rintro e w7 ⟨rfl, b7⟩))
    all_goals
      have B7 := bel_trans (bel_trans B b6) b7
      go_wp2
      go_ret
      exact ⟨rfl, B7⟩

set_option maxRecDepth 100000 in
theorem lifted (os : Os) (started : os.Started) (H : Type) (enc : TypeId × Value → H) :
    ReturnsInHanded {} Try.checked os 8 .any (Rows.fnExactFrameReadSpec.pre6 enc Try.prog Try.f8 Rows.fnExactFrameReadRow.domain false) (Rows.fnExactFrameReadSpec.post enc Try.prog Try.f8 false true false false) := by
  refine returnsInHanded_of_change (C := Try.checked) own started (by kernel_rfl) Try.func8
    (ChangeSpec.witness6 (enc := enc) (C := Try.checked) false ⟨#[], #[.agg #[.int .i64 0, .slice none 0 0, .bool false], .int .i64 0], []⟩ 8 (by kernel_rfl) (by kernel_rfl) (by kernel_rfl) (by kernel_rfl)) ?_
  intro W base args ds gs before hval0 hW hcnd _
  have hval : ∀ (j : Nat) t v, Try.f8.params[j]? = some t → args[j]? = some v → Value.okWide Try.prog W .any base t v := hval0
  have hW' := hW
  obtain ⟨p, q, hA0, hV, rfl, hfz, hnd⟩ := hW
  have hA : DataW.TrodAll enc Try.prog W 0 (fun _ => true) true Try.f8.params.toList args.toList ds p := hA0
  rw [Try.params8] at hA hval
  obtain ⟨v0, vs0, d0, ds0, p0, q0, hargs, rfl, rfl, h0, r0⟩ := trodAll_cons hA
  obtain ⟨v1, vs1, d1, ds1, p1, q1, rfl, rfl, rfl, h1, r1⟩ := trodAll_cons r0
  obtain ⟨rfl, rfl, rfl⟩ := trodAll_nil r1
  obtain rfl : args = #[v0, v1] := by cases args; simp_all
  obtain ⟨rfl, rfl⟩ := trodVars_none hV
  have k0 := h0
  have lt0 : ∀ x ∈ p0, x.block < W.heap.size := by obtain ⟨m, hm⟩ := k0; exact DataW.trod_lt m _ _ _ hm
  obtain ⟨s0, b0, a0, cap0, x0, rfl, w0⟩ := open_frame (hval 0 64 v0 rfl rfl) h0
  obtain ⟨a1, rfl, rfl, rfl, w1⟩ := open_int Try.underlying3 (hval 1 3 v1 rfl rfl) h1
  clear hA0 hval0
  refine (walk s0 b0 a0 cap0 x0 a1 W w0 w1).mono fun e W' ⟨he, bel⟩ => ?_
  subst he
  exact ⟨_, rfl, _, _, _, [], _, [], hW', trodAll_mk1 (shut_bool Try.underlying4 _), (trodAll_cons_mk (Below.trod laidOut (by kernel_rfl) (of_decide_eq_true (by kernel_rfl)) k0 bel lt0) (trodAll_cons_mk (shut_int Try.underlying3 w1) trodAll_mk0)), rfl, bel.frame _, fun h => by cases h⟩

theorem over : Rows.fnExactFrameReadRow.holds Try.pinned (OpenSpec.ofChange Rows.fnExactFrameReadSpec) :=
  OpenClaim.holds_of_wide 8 Try.f8 rfl rfl rfl rfl rfl rfl rfl ⟨rfl, rfl, rfl, rfl, rfl⟩ rfl rfl rfl rfl rfl (by kernel_rfl) Try.func8 (by kernel_rfl)
    (of_decide_eq_true (by kernel_rfl)) (by unfold Func.isWrapper; first | (rw [if_pos (by decide +kernel)]; kernel_rfl) | (rw [if_neg (by decide +kernel)]; exact ⟨rfl, rfl⟩))
    (fun os started H enc _ => lifted os started H enc)
end LawFnExactFrameRead

theorem fnExactFrameRead_holds : Rows.FnExactFrameReadSaid := LawFnExactFrameRead.over
#print axioms fnExactFrameRead_holds
end Go.Proofs.Ytdopcdpapbfdlaa
