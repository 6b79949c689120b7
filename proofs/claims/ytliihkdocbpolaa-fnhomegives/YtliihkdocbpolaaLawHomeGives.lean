/- For every list of bytes the law FnHomeGives returns true: a new home of three that hears requests, and answers that come at once, gives each in turn, as the specification's home does; whoever has it to write has it alone. Conditions: none. -/
import Derived.Test.YtliihkdocbpolaaGv1L
import Derived.Test.YtliihkdocbpolaaOpen
namespace Go.Proofs.Ytliihkdocbpolaa
open Go.ChangeShapes Go.WideShapes Go.ChangeAt Go.RowKit
set_option linter.unusedVariables false

theorem bigG_any (a : Option Addr) (n ca : Nat) (w : World) (hl : (n : Int) ≤ 1048576) :
    Calls Try.prog 4 #[.slice a n ca] w fun e w' => e = .returned (.bool false) ∧ w' = w := by
  go_enter Try.func4, Try.ntmps4
  go_wp2
  go_ret
  exact ⟨ret_bool (by simp; omega), rfl⟩

namespace LawFnHomeGives
set_option maxRecDepth 1000000 in
set_option maxHeartbeats 8000000 in
theorem walk (a : Option Addr) (ca : Nat) (bs : List Int) (w : World) (hc : Came .u8 w a ca bs) :
    Calls Try.prog 3 #[.slice a bs.length ca] w fun e w' => e = .returned (.bool true) ∧ Below w.heap.size w w' := by
  by_cases hl : 1048576 < bs.length
  · have hn : bs.length ≤ maxLen := Nat.le_trans hc.1 hc.2.1
    have hl' : (1048576 : Int) < bs.length := by omega
    clear hc
    go_enter Try.func3, Try.ntmps3
    go_wp2
    go_ret
    exact ⟨rfl, Below.refl _ _⟩
  · have hr := hc.row (by omega)
    have hby := hc.bytes
    have hbs : Hid (∀ x ∈ bs, 0 ≤ x ∧ x ≤ 255) := fun x hx => by have := hby x hx; omega
    have hl' : (bs.length : Int) ≤ 1048576 := by omega
    have hln : bs.length ≤ 1048576 := by omega
    have hm4 : ∀ W : World, (Instr.makeSlice 24 (.int .i64 4) (.int .i64 4)).run Try.prog W = .ok (.slice (some ⟨W.heap.size, 0, none⟩) 4 4) (W.alloc (.cells (madeCells #[.int .i64 0] 4) 3)) := fun W => run_make_row' (P := Try.prog) 24 3 (.int .i64 0) 8 Try.underlying24 info_i64 rfl .i64 .i64 4 (by decide) (by decide) W
    have HRW : Hid (Row .u8 w a bs) := hr
    clear hc hby hl hr
    go_enter Try.func3, Try.ntmps3
    go_wp2_with fail
    refine (bigG_any a bs.length ca _ hl').mono ?_
    rintro e w0 ⟨rfl, h⟩
    subst h
    go_wp2_with fail
    refine (implHomeNew_any 3 _).mono ?_
    intro e w1 hNew
    obtain ⟨al, cl, ar, cr, rfl, o1, o2, b1⟩ := new3 hNew
    have HREL : Hid (Rel1 w0 w1.heap.size (w1.heap.size + 1) (w1.heap.size + 1 + 1) (.int .i64 ((0 : Nat) : Int)) _) := rel_start o1 o2 b1
    clear o1 o2 b1 hNew
    go_wp2_with fail
    refine g1_loop HRW.out hbs.out hln ?_ ?_ HREL.out
    · intro c a d v w h
      cases d <;> exact h
    · intro act wx hI
      unfold WI1 at hI
      obtain ⟨v6, hI⟩ := hI
      obtain ⟨u7, hI⟩ := hI
      obtain ⟨u8, hI⟩ := hI
      obtain ⟨u9, hI⟩ := hI
      obtain ⟨u10, hI⟩ := hI
      obtain ⟨u11, hI⟩ := hI
      obtain ⟨u12, hI⟩ := hI
      obtain ⟨u13, hI⟩ := hI
      obtain ⟨u14, hI⟩ := hI
      obtain ⟨u15, hI⟩ := hI
      obtain ⟨u16, hI⟩ := hI
      obtain ⟨u17, hI⟩ := hI
      obtain ⟨u18, hI⟩ := hI
      obtain ⟨u19, hI⟩ := hI
      obtain ⟨u20, hI⟩ := hI
      obtain ⟨u26, hI⟩ := hI
      obtain ⟨u27, hI⟩ := hI
      obtain ⟨u28, hI⟩ := hI
      obtain ⟨u29, hI⟩ := hI
      obtain ⟨u30, hI⟩ := hI
      obtain ⟨u31, hI⟩ := hI
      obtain ⟨u32, hI⟩ := hI
      obtain ⟨u33, hI⟩ := hI
      obtain ⟨u34, hI⟩ := hI
      obtain ⟨u35, hI⟩ := hI
      obtain ⟨u36, hI⟩ := hI
      obtain ⟨u37, hI⟩ := hI
      obtain ⟨u38, hI⟩ := hI
      obtain ⟨u39, hI⟩ := hI
      obtain ⟨u40, hI⟩ := hI
      obtain ⟨u41, hI⟩ := hI
      obtain ⟨u42, hI⟩ := hI
      obtain ⟨u43, hI⟩ := hI
      obtain ⟨u44, hI⟩ := hI
      obtain ⟨u45, hI⟩ := hI
      obtain ⟨u46, hI⟩ := hI
      obtain ⟨u47, hI⟩ := hI
      obtain ⟨u48, hI⟩ := hI
      obtain ⟨u49, hI⟩ := hI
      obtain ⟨u50, hI⟩ := hI
      obtain ⟨u51, hI⟩ := hI
      obtain ⟨u52, hI⟩ := hI
      obtain ⟨u53, hI⟩ := hI
      obtain ⟨u54, hI⟩ := hI
      obtain ⟨u55, hI⟩ := hI
      obtain ⟨u56, hI⟩ := hI
      obtain ⟨u57, hI⟩ := hI
      obtain ⟨u58, hI⟩ := hI
      obtain ⟨u59, hI⟩ := hI
      obtain ⟨u60, hI⟩ := hI
      obtain ⟨u61, hI⟩ := hI
      obtain ⟨u62, hI⟩ := hI
      obtain ⟨u63, hI⟩ := hI
      obtain ⟨u64, hI⟩ := hI
      obtain ⟨u65, hI⟩ := hI
      obtain ⟨u66, hI⟩ := hI
      obtain ⟨u67, hI⟩ := hI
      obtain ⟨u68, hI⟩ := hI
      obtain ⟨u69, hI⟩ := hI
      obtain ⟨u70, hI⟩ := hI
      obtain ⟨u71, hI⟩ := hI
      obtain ⟨u72, hI⟩ := hI
      obtain ⟨u73, hI⟩ := hI
      obtain ⟨u74, hI⟩ := hI
      obtain ⟨u75, hI⟩ := hI
      obtain ⟨u76, hI⟩ := hI
      obtain ⟨u77, hI⟩ := hI
      obtain ⟨u78, hI⟩ := hI
      obtain ⟨u79, hI⟩ := hI
      obtain ⟨u80, hI⟩ := hI
      obtain ⟨u81, hI⟩ := hI
      obtain ⟨u82, hI⟩ := hI
      obtain ⟨u83, hI⟩ := hI
      obtain ⟨u84, hI⟩ := hI
      obtain ⟨u85, hI⟩ := hI
      obtain ⟨u86, hI⟩ := hI
      obtain ⟨u87, hI⟩ := hI
      obtain ⟨u88, hI⟩ := hI
      obtain ⟨u89, hI⟩ := hI
      obtain ⟨u90, hI⟩ := hI
      obtain ⟨u91, hI⟩ := hI
      obtain ⟨u92, hI⟩ := hI
      obtain ⟨u93, hI⟩ := hI
      obtain ⟨u94, hI⟩ := hI
      obtain ⟨u95, hI⟩ := hI
      obtain ⟨u96, hI⟩ := hI
      obtain ⟨u97, hI⟩ := hI
      obtain ⟨u98, hI⟩ := hI
      obtain ⟨u99, hI⟩ := hI
      obtain ⟨u100, hI⟩ := hI
      obtain ⟨u101, hI⟩ := hI
      obtain ⟨u102, hI⟩ := hI
      obtain ⟨u103, hI⟩ := hI
      obtain ⟨u104, hI⟩ := hI
      obtain ⟨u105, hI⟩ := hI
      obtain ⟨u106, hI⟩ := hI
      obtain ⟨u107, hI⟩ := hI
      obtain ⟨u108, hI⟩ := hI
      obtain ⟨u109, hI⟩ := hI
      obtain ⟨u110, hI⟩ := hI
      obtain ⟨u111, hI⟩ := hI
      obtain ⟨u112, hI⟩ := hI
      obtain ⟨u113, hI⟩ := hI
      obtain ⟨u114, hI⟩ := hI
      obtain ⟨u115, hI⟩ := hI
      obtain ⟨u116, hI⟩ := hI
      obtain ⟨u117, hI⟩ := hI
      obtain ⟨u118, hI⟩ := hI
      obtain ⟨u119, hI⟩ := hI
      obtain ⟨u120, hI⟩ := hI
      obtain ⟨u121, hI⟩ := hI
      obtain ⟨u122, hI⟩ := hI
      obtain ⟨u123, hI⟩ := hI
      obtain ⟨u124, hI⟩ := hI
      obtain ⟨u125, hI⟩ := hI
      obtain ⟨u126, hI⟩ := hI
      obtain ⟨u127, hI⟩ := hI
      obtain ⟨u128, hI⟩ := hI
      obtain ⟨u129, hI⟩ := hI
      obtain ⟨u130, hI⟩ := hI
      obtain ⟨u131, hI⟩ := hI
      obtain ⟨u132, hI⟩ := hI
      obtain ⟨u133, hI⟩ := hI
      obtain ⟨u134, hI⟩ := hI
      obtain ⟨u135, hI⟩ := hI
      obtain ⟨u136, hI⟩ := hI
      obtain ⟨u137, hI⟩ := hI
      obtain ⟨u138, hI⟩ := hI
      obtain ⟨u139, hI⟩ := hI
      obtain ⟨u140, hI⟩ := hI
      obtain ⟨u141, hI⟩ := hI
      obtain ⟨u142, hI⟩ := hI
      obtain ⟨u143, hI⟩ := hI
      obtain ⟨u144, hI⟩ := hI
      obtain ⟨u145, hI⟩ := hI
      obtain ⟨u146, hI⟩ := hI
      obtain ⟨u147, hI⟩ := hI
      obtain ⟨u148, hI⟩ := hI
      obtain ⟨u149, hI⟩ := hI
      obtain ⟨u150, hI⟩ := hI
      obtain ⟨u151, hI⟩ := hI
      obtain ⟨u152, hI⟩ := hI
      obtain ⟨u153, hI⟩ := hI
      obtain ⟨u154, hI⟩ := hI
      obtain ⟨u155, hI⟩ := hI
      obtain ⟨u156, hI⟩ := hI
      obtain ⟨u157, hI⟩ := hI
      obtain ⟨u158, hI⟩ := hI
      obtain ⟨u159, hI⟩ := hI
      obtain ⟨u160, hI⟩ := hI
      obtain ⟨u161, hI⟩ := hI
      obtain ⟨u162, hI⟩ := hI
      obtain ⟨u163, hI⟩ := hI
      obtain ⟨u164, hI⟩ := hI
      obtain ⟨u165, hI⟩ := hI
      obtain ⟨u166, hI⟩ := hI
      obtain ⟨u167, hI⟩ := hI
      obtain ⟨u168, hI⟩ := hI
      obtain ⟨u169, hI⟩ := hI
      obtain ⟨u170, hI⟩ := hI
      obtain ⟨u171, hI⟩ := hI
      obtain ⟨u172, hI⟩ := hI
      obtain ⟨u173, hI⟩ := hI
      obtain ⟨u174, hI⟩ := hI
      obtain ⟨u175, hI⟩ := hI
      obtain ⟨u176, hI⟩ := hI
      obtain ⟨u177, hI⟩ := hI
      obtain ⟨u178, hI⟩ := hI
      obtain ⟨u179, hI⟩ := hI
      obtain ⟨u180, hI⟩ := hI
      obtain ⟨u181, hI⟩ := hI
      obtain ⟨u182, hI⟩ := hI
      obtain ⟨u183, hI⟩ := hI
      obtain ⟨u184, hI⟩ := hI
      obtain ⟨u185, hI⟩ := hI
      obtain ⟨u186, hI⟩ := hI
      obtain ⟨u187, hI⟩ := hI
      obtain ⟨u188, hI⟩ := hI
      obtain ⟨u189, hI⟩ := hI
      obtain ⟨hrel, rfl⟩ := hI
      obtain ⟨i, vl, vr, vq, H, st, wd, rfl, hi30, G, hR, hdw, B⟩ := hrel
      have HB : Hid (Below w0.heap.size w0 wx) := B
      clear G hR hdw B HREL
      go_wp2
      go_ret
      exact ⟨rfl, HB.out⟩

set_option maxRecDepth 100000 in
theorem lifted (os : Os) (started : os.Started) (H : Type) (enc : TypeId × Value → H) :
    ReturnsInHanded {} Try.checked os 3 .any (Rows.fnHomeGivesSpec.pre6 enc Try.prog Try.f3 Rows.fnHomeGivesRow.domain false) (Rows.fnHomeGivesSpec.post enc Try.prog Try.f3 false true false false) := by
  refine returnsInHanded_of_change (C := Try.checked) own started (by kernel_rfl) Try.func3
    (ChangeSpec.witness6 (enc := enc) (C := Try.checked) false ⟨#[], #[.slice none 0 0], []⟩ 8 (by kernel_rfl) (by kernel_rfl) (by kernel_rfl) (by kernel_rfl)) ?_
  intro W base args ds gs before hval0 hW hcnd _
  have hval : ∀ (j : Nat) t v, Try.f3.params[j]? = some t → args[j]? = some v → Value.okWide Try.prog W .any base t v := hval0
  have hW' := hW
  obtain ⟨p, q, hA0, hV, rfl, hfz, hnd⟩ := hW
  have hA : DataW.TrodAll enc Try.prog W 0 (fun _ => true) true Try.f3.params.toList args.toList ds p := hA0
  rw [Try.params3] at hA hval
  obtain ⟨v0, vs0, d0, ds0, p0, q0, hargs, rfl, rfl, h0, r0⟩ := trodAll_cons hA
  obtain ⟨rfl, rfl, rfl⟩ := trodAll_nil r0
  obtain rfl : args = #[v0] := by cases args; simp_all
  obtain ⟨rfl, rfl⟩ := trodVars_none hV
  obtain ⟨a0, len0, cap0, rfl⟩ := okWide_slice Try.underlying22 (hval 0 22 v0 rfl rfl)
  have k0 := h0
  have lt0 : ∀ x ∈ p0, x.block < W.heap.size := by obtain ⟨m, hm⟩ := k0; exact DataW.trod_lt m _ _ _ hm
  obtain ⟨x0, rfl, w0⟩ : ∃ xs : List Int, xs.length = len0 ∧ Came .u8 W a0 cap0 xs := by
    obtain ⟨fuel, hf⟩ := h0
    rcases open_ints Try.underlying22 Try.underlying5 (by kernel_rfl) hf with ⟨hcs, _⟩ | ⟨x, l, c, zs, hcs, _, hl, hm, hz, _, hcell, hwz⟩
    · simp [Value.cells] at hcs
      obtain ⟨rfl, rfl, rfl⟩ := hcs
      exact ⟨[], rfl, came_nil _ _⟩
    · simp [Value.cells] at hcs
      obtain ⟨rfl, rfl, rfl⟩ := hcs
      have hc := came_of hl hm (by simpa using hz) hcell hwz
      exact ⟨_, hc.1, hc.2⟩
  clear hA0 hval0
  refine (walk a0 cap0 x0 W w0).mono fun e W' ⟨he, bel⟩ => ?_
  subst he
  exact ⟨_, rfl, _, _, _, [], _, [], hW', trodAll_mk1 (shut_bool Try.underlying4 _), (trodAll_cons_mk (Below.trod laidOut (by kernel_rfl) (of_decide_eq_true (by kernel_rfl)) k0 bel lt0) trodAll_mk0), rfl, bel.frame _, fun h => by cases h⟩

theorem over : Rows.fnHomeGivesRow.holds Try.pinned (OpenSpec.ofChange Rows.fnHomeGivesSpec) :=
  OpenClaim.holds_of_wide 3 Try.f3 rfl rfl rfl rfl rfl rfl rfl ⟨rfl, rfl, rfl, rfl, rfl⟩ rfl rfl rfl rfl rfl (by kernel_rfl) Try.func3 (by kernel_rfl)
    (of_decide_eq_true (by kernel_rfl)) (by unfold Func.isWrapper; first | (rw [if_pos (by decide +kernel)]; kernel_rfl) | (rw [if_neg (by decide +kernel)]; exact ⟨rfl, rfl⟩))
    (fun os started H enc _ => lifted os started H enc)
end LawFnHomeGives

theorem fnHomeGives_holds : Rows.FnHomeGivesSaid := LawFnHomeGives.over
#print axioms fnHomeGives_holds
end Go.Proofs.Ytliihkdocbpolaa
