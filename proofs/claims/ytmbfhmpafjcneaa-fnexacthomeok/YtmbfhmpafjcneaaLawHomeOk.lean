/- For every home and number of nodes the law FnExactHomeOk returns true: HomeOk answers as the specification, and writes into no argument. Conditions: none. -/
import Derived.Test.YtmbfhmpafjcneaaHomO
import Derived.Test.YtmbfhmpafjcneaaHomT
import Derived.Test.YtmbfhmpafjcneaaOpenH
namespace Go.Proofs.Ytmbfhmpafjcneaa
open Go.ChangeShapes Go.WideShapes Go.ChangeAt Go.RowKit
set_option linter.unusedVariables false

namespace LawFnExactHomeOk
set_option maxRecDepth 100000 in
set_option maxHeartbeats 4000000 in
theorem walk (ow wh ak : Int) (bz wo : Bool) (al ar aq : Option Addr) (cl cr cq : Nat) (xs : List Int) (bs : List Bool) (ws : List (Int × Bool)) (nodes : Int) (w : World)
    (hc : Came .i64 w al cl xs ∧ VCame w ar (bv bs) ∧ VCame w aq (wv ws) ∧ bs.length ≤ maxLen ∧ ws.length ≤ maxLen) (hwf : (Lit.int .i64 nodes).wf = true) :
    Calls Try.prog 8 #[.agg #[.slice al xs.length cl, .int .i64 ow, .slice ar bs.length cr, .bool bz, .int .i64 wh, .bool wo, .int .i64 ak, .slice aq ws.length cq], .int .i64 nodes] w fun e w' => e = .returned (.bool true) ∧ Below w.heap.size w w' := by
  obtain ⟨hc, hb, hq, hbl, hql⟩ := hc
  have bA := bel_alloc (Below.refl w.heap.size w) (.cells #[.slice al xs.length cl, .int .i64 ow, .slice ar bs.length cr, .bool bz, .int .i64 wh, .bool wo, .int .i64 ak, .slice aq ws.length cq] 86)
  have XA := Box.new w #[.slice al xs.length cl, .int .i64 ow, .slice ar bs.length cr, .bool bz, .int .i64 wh, .bool wo, .int .i64 ak, .slice aq ws.length cq] 86
  have hn : xs.length ≤ maxLen := Nat.le_trans hc.1 hc.2.1
  go_enter Try.func8, Try.ntmps8
  go_wp2_with fail
  refine (szHome_any ow wh ak bz wo al ar aq xs.length cl bs.length cr ws.length cq _ hn hbl hql).mono ?_
  rintro e w1 ⟨r, rfl, hr, b1⟩
  replace XA := XA.below b1
  have B := bel_trans bA b1
  clear b1
  rcases hr with rfl | ⟨hr0, h1, h2, h3⟩
  · clear XA bA hc hb hq
    go_wp2
    go_ret
    exact ⟨rfl, B⟩
  · have rl := hc.row (by omega)
    have rb := hb.vrow (by rw [bv_length]; omega)
    have rq := hq.vrow (by rw [wv_length]; omega)
    clear hc hb hq hn hbl hql bA
    have HD : decide (r < 0) = false := by simp; omega
    obtain ⟨x0, x1, x2, x3, x4, x5, x6, x7, x8⟩ := at8' XA
    go_wp2_with fail
    refine (toHome_any ow wh ak bz wo al ar aq cl cr cq xs bs ws _ h1 h2 h3 (rl.below B) (rb.below B) (rq.below B)).mono ?_
    rintro e w2 ⟨al2, cl2, ar2, cr2, aq2, cq2, rfl, o2, p2, q2, b2⟩
    have r2 := owns_row' o2 (by omega)
    have s2 := owns_vrow' p2 (by rw [bv_length]; omega)
    have t2 := owns_vrow' q2 (by rw [wv_length]; omega)
    clear o2 p2 q2 x0 x1 x2 x3 x4 x5 x6 x7 x8
    replace XA := XA.below b2
    replace B := bel_trans B b2
    clear b2
    go_wp2_with fail
    refine (specHomeOk_any nodes ow wh ak bz wo al2 ar2 aq2 cl2 bs.length cr2 cq2 xs ws _ (by omega) r2 t2).mono ?_
    rintro e w3 ⟨rfl, b3⟩
    clear r2 s2 t2
    replace XA := XA.below b3
    replace B := bel_trans B b3
    clear b3
    obtain ⟨x0, x1, x2, x3, x4, x5, x6, x7, x8⟩ := at8' XA
    go_wp2_with fail
    refine (toHome_any ow wh ak bz wo al ar aq cl cr cq xs bs ws _ h1 h2 h3 (rl.below B) (rb.below B) (rq.below B)).mono ?_
    rintro e w4 ⟨al4, cl4, ar4, cr4, aq4, cq4, rfl, o4, p4, q4, b4⟩
    have r4 := owns_row' o4 (by omega)
    have s4 := owns_vrow' p4 (by rw [bv_length]; omega)
    have t4 := owns_vrow' q4 (by rw [wv_length]; omega)
    clear o4 p4 q4 x0 x1 x2 x3 x4 x5 x6 x7 x8
    replace XA := XA.below b4
    replace B := bel_trans B b4
    clear b4
    go_wp2_with fail
    have bx := bel_alloc (Below.refl w4.heap.size w4) (.cells #[.slice al4 xs.length cl4, .int .i64 ow, .slice ar4 bs.length cr4, .bool bz, .int .i64 wh, .bool wo, .int .i64 ak, .slice aq4 ws.length cq4] 54)
    have XP := Box.new w4 #[.slice al4 xs.length cl4, .int .i64 ow, .slice ar4 bs.length cr4, .bool bz, .int .i64 wh, .bool wo, .int .i64 ak, .slice aq4 ws.length cq4] 54
    replace r4 := r4.below bx
    replace s4 := s4.below bx
    replace t4 := t4.below bx
    replace XA := XA.below bx
    replace B := bel_trans B bx
    clear bx
    refine (implHomeOk_any nodes ow wh ak bz wo al4 ar4 aq4 cl4 bs.length cr4 cq4 xs ws _ (by omega) r4 t4).mono ?_
    rintro e w5 ⟨rfl, b5⟩
    replace r4 := r4.below b5
    replace s4 := s4.below b5
    replace t4 := t4.below b5
    replace XA := XA.below b5
    replace XP := XP.below b5
    replace B := bel_trans B b5
    clear b5
    obtain ⟨x0, x1, x2, x3, x4, x5, x6, x7, x8⟩ := at8' XA
    obtain ⟨y0, y1, y2, y3, y4, y5, y6, y7, y8⟩ := at8' XP
    have rl5 := rl.below B
    have rb5 := rb.below B
    have rq5 := rq.below B
    clear rl rb rq XA XP
    generalize homeB nodes ow wh ak xs bs.length ws = ok
    go_wp2_with fail
    go_region_with (first | (go_at_call 49; refine (toHome_any ow wh ak bz wo al ar aq cl cr cq xs bs ws _ h1 h2 h3 ?_ ?_ ?_).mono ?_; exact rl5; exact rb5; exact rq5; rintro e w6 ⟨al6, cl6, ar6, cr6, aq6, cq6, rfl, o6, p6, q6, b6⟩; have r6 := owns_row' o6 (by omega); have s6 := owns_vrow' p6 (by rw [bv_length]; omega); have t6 := owns_vrow' q6 (by rw [wv_length]; omega); clear o6 p6 q6; have b6 := bel_undrew b6; obtain ⟨hc6, hf6⟩ := bcell b6) | (go_at_call 50; refine (eqHome_any ow wh ak bz wo al4 al6 ar4 ar6 aq4 aq6 cl4 cl6 cr4 cr6 cq4 cq6 xs bs ws _ ?_ ?_ ?_ ?_ ?_ ?_).mono ?_; exact r4.below b6; exact r6; exact s4.below b6; exact s6; exact t4.below b6; exact t6; rintro e w7 ⟨rfl, b7⟩))
    all_goals
      have B7 := bel_trans (bel_trans B b6) b7
      go_wp2
      go_ret
      exact ⟨rfl, B7⟩

set_option maxRecDepth 100000 in
theorem lifted (os : Os) (started : os.Started) (H : Type) (enc : TypeId × Value → H) :
    ReturnsInHanded {} Try.checked os 8 .any (Rows.fnExactHomeOkSpec.pre6 enc Try.prog Try.f8 Rows.fnExactHomeOkRow.domain false) (Rows.fnExactHomeOkSpec.post enc Try.prog Try.f8 false true false false) := by
  refine returnsInHanded_of_change (C := Try.checked) own started (by kernel_rfl) Try.func8
    (ChangeSpec.witness6 (enc := enc) (C := Try.checked) false ⟨#[], #[.agg #[.slice none 0 0, .int .i64 0, .slice none 0 0, .bool false, .int .i64 0, .bool false, .int .i64 0, .slice none 0 0], .int .i64 0], []⟩ 8 (by kernel_rfl) (by kernel_rfl) (by kernel_rfl) (by kernel_rfl)) ?_
  intro W base args ds gs before hval0 hW hcnd _
  have hval : ∀ (j : Nat) t v, Try.f8.params[j]? = some t → args[j]? = some v → Value.okWide Try.prog W .any base t v := hval0
  have hW' := hW
  obtain ⟨p, q, hA0, hV, rfl, hfz, hnd⟩ := hW
  have hA : DataW.TrodAll enc Try.prog W 0 (fun _ => true) true Try.f8.params.toList args.toList ds p := hA0
  rw [Try.params8] at hA hval
  obtain ⟨v0, vs0, d0, ds0, p0, q0, hargs, rfl, rfl, h0, r0⟩ := trodAll_cons hA
  obtain ⟨v1, vs1, d1, ds1, p1, q1, rfl, rfl, rfl, h1, r1⟩ := trodAll_cons r0
  obtain ⟨rfl, rfl, rfl⟩ := trodAll_nil r1
  obtain rfl : args = #[v0, v1] := by cases args; simp_all
  obtain ⟨rfl, rfl⟩ := trodVars_none hV
  have k0 := h0
  have lt0 : ∀ x ∈ p0, x.block < W.heap.size := by obtain ⟨m, hm⟩ := k0; exact DataW.trod_lt m _ _ _ hm
  obtain ⟨ow0, wh0, ak0, bz0, wo0, al0, ar0, aq0, cl0, cr0, cq0, x0, y0, z0, rfl, w0⟩ := open_home (hval 0 86 v0 rfl rfl) h0
  obtain ⟨a1, rfl, rfl, rfl, w1⟩ := open_int Try.underlying3 (hval 1 3 v1 rfl rfl) h1
  clear hA0 hval0
  refine (walk ow0 wh0 ak0 bz0 wo0 al0 ar0 aq0 cl0 cr0 cq0 x0 y0 z0 a1 W w0 w1).mono fun e W' ⟨he, bel⟩ => ?_
  subst he
  exact ⟨_, rfl, _, _, _, [], _, [], hW', trodAll_mk1 (shut_bool Try.underlying4 _), (trodAll_cons_mk (Below.trod laidOut (by kernel_rfl) (of_decide_eq_true (by kernel_rfl)) k0 bel lt0) (trodAll_cons_mk (shut_int Try.underlying3 w1) trodAll_mk0)), rfl, bel.frame _, fun h => by cases h⟩

theorem over : Rows.fnExactHomeOkRow.holds Try.pinned (OpenSpec.ofChange Rows.fnExactHomeOkSpec) :=
  OpenClaim.holds_of_wide 8 Try.f8 rfl rfl rfl rfl rfl rfl rfl ⟨rfl, rfl, rfl, rfl, rfl⟩ rfl rfl rfl rfl rfl (by kernel_rfl) Try.func8 (by kernel_rfl)
    (of_decide_eq_true (by kernel_rfl)) (by unfold Func.isWrapper; first | (rw [if_pos (by decide +kernel)]; kernel_rfl) | (rw [if_neg (by decide +kernel)]; exact ⟨rfl, rfl⟩))
    (fun os started H enc _ => lifted os started H enc)
end LawFnExactHomeOk

theorem fnExactHomeOk_holds : Rows.FnExactHomeOkSaid := LawFnExactHomeOk.over
#print axioms fnExactHomeOk_holds
end Go.Proofs.Ytmbfhmpafjcneaa
