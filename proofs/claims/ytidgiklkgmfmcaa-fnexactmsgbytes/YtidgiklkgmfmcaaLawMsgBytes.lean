/- For every message the law FnExactMsgBytes returns true: MsgBytes answers as the specification, writes into no argument, keeps nothing of one, and its answer owns its memory, behind another call too. Conditions: none. -/
import Derived.Test.YtidgiklkgmfmcaaMsgBytes
import Derived.Test.YtidgiklkgmfmcaaSpecBytes
import Derived.Test.YtidgiklkgmfmcaaBytes
import Derived.Test.YtidgiklkgmfmcaaOpen
import Derived.Test.YtidgiklkgmfmcaaBase2
import Derived.Deep.RegionHeld3
namespace Go.Proofs.Ytidgiklkgmfmcaa
open Go.ChangeShapes Go.WideShapes Go.ChangeAt Go.RowKit
set_option linter.unusedVariables false

namespace LawFnExactMsgBytes
set_option maxRecDepth 100000 in
set_option maxHeartbeats 4000000 in
theorem walk (k p : Int) (o : Bool) (a : Option Addr) (ca : Nat) (xs : List Int) (w : World) (hc : Came .i64 w a ca xs) (wk : (Lit.int .i64 k).wf = true) (wp : (Lit.int .i64 p).wf = true) :
    Calls Try.prog 6 #[.agg #[.int .i64 k, .int .i64 p, .bool o, .slice a xs.length ca]] w fun e w' => e = .returned (.bool true) ∧ Below w.heap.size w w' := by
  clear wk wp
  have bA := bel_alloc (Below.refl w.heap.size w) (.cells #[.int .i64 k, .int .i64 p, .bool o, .slice a xs.length ca] 24)
  by_cases hl : 1048576 < xs.length
  · have hn : xs.length ≤ maxLen := Nat.le_trans hc.1 hc.2.1
    clear hc
    go_enter Try.func6, Try.ntmps6
    go_wp2_with fail
    refine (szMsg_big k p o a _ ca _ hl hn).mono ?_
    rintro e w1 ⟨rfl, b1⟩
    have B := bel_trans bA b1
    go_wp2
    go_ret
    exact ⟨rfl, B⟩
  · have hsm : xs.length ≤ 1048576 := by omega
    have hr := hc.row (by omega)
    clear hc hl
    have hml := msgB_len k p o xs
    obtain ⟨M, hM⟩ : ∃ M, msgB k p o xs = M := ⟨_, rfl⟩
    have HM : Hid (msgB k p o xs = M) := hM
    rw [hM] at hml
    clear hM
    go_enter Try.func6, Try.ntmps6
    go_wp2_with fail
    refine (szMsg_small k p o a _ ca _ hsm).mono ?_
    rintro e w1 ⟨rfl, C1⟩
    obtain ⟨m0, m1, m2, m3, z1⟩ := box4 C1
    have hr1 := hr.below (bel_trans bA C1)
    go_wp2_with fail
    refine (toMsg_any k p o a ca xs _ hsm hr1).mono ?_
    rintro e w2 ⟨v2, rfl, o2, b2⟩
    obtain ⟨a2, c2, rfl, q2, _, _⟩ := owns_row o2 (by omega)
    go_wp2_with fail
    refine (specBytes_any k p o a2 c2 xs _ q2).mono ?_
    rintro e w3 ⟨vW, rfl, oW, b3⟩
    rw [HM.out] at oW
    have lW := fun j h => (oW.lt j h).2
    obtain ⟨aW, cW, rfl⟩ := owns_slice oW
    have C3 := bel_trans C1 (bel_trans b2 b3)
    clear C1 b2 b3 o2 q2 hr1 m0 m1 m2 m3 z1
    obtain ⟨m0, m1, m2, m3, z1⟩ := box4 C3
    have hr3 := hr.below (bel_trans bA C3)
    go_wp2_with fail
    refine (toMsg_any k p o a ca xs _ hsm hr3).mono ?_
    rintro e w4 ⟨v4, rfl, o4, b4⟩
    have l4 := fun j h => o4.lt j h
    obtain ⟨a4, c4, rfl⟩ := owns_slice o4
    have oW := owns_below oW b4
    have C4 := bel_trans C3 b4
    have s3 := C3.size
    have s34 := b4.size
    clear C3 b4 hr3 m0 m1 m2 m3 z1
    go_wp2_with fail
    have bA4 := bel_alloc (Below.refl w4.heap.size w4) (.cells #[.int .i64 k, .int .i64 p, .bool o, .slice a4 xs.length c4] 27)
    have q4 := owns_row' o4 (by omega)
    refine (msgBytes_any k p o a4 c4 xs _ (q4.below bA4)).mono ?_
    rintro e w5 ⟨vG, rfl, oG, D5⟩
    rw [HM.out] at oG
    have lG : ∀ j, vG.ownBlock = some j → w4.heap.size < j := fun j h => by have := (oG.lt j h).1; simp at this; omega
    obtain ⟨aG, cG, rfl⟩ := owns_slice oG
    obtain ⟨n0, n1, n2, n3, z5⟩ := box4 D5
    have b45 := bel_trans bA4 D5
    have o4 := owns_below o4 b45
    have oW := owns_below oW b45
    have C5 := bel_trans C4 b45
    clear C4 b45 bA4 q4
    obtain ⟨m0, m1, m2, m3, z1⟩ := box4 C5
    go_wp2_with fail
    refine (eqByteS_any aG aW cG cW M _ (owns_row' oG (by omega)) (owns_row' oW (by omega))).mono ?_
    rintro e w6 ⟨rfl, d6, h6⟩
    have oG := owns_dr h6 oG
    have oW := owns_dr h6 oW
    have o4 := owns_dr h6 o4
    have D6 := bel_dr h6 D5
    have C6 := bel_dr h6 C5
    clear h6 C5 D5 m0 m1 m2 m3 n0 n1 n2 n3 z1 z5
    obtain ⟨m0, m1, m2, m3, z1⟩ := box4 C6
    obtain ⟨n0, n1, n2, n3, z5⟩ := box4 D6
    have hr6 := hr.below (bel_trans bA C6)
    have q6 := owns_row' o4 (by omega)
    go_wp2_with fail
    go_region_held3 (fun w' => w'.cell? ⟨w.heap.size, 0, none⟩ = some (.int .i64 k) ∧ w'.cell? ⟨w.heap.size, 1, none⟩ = some (.int .i64 p) ∧ w'.cell? ⟨w.heap.size, 2, none⟩ = some (.bool o) ∧ w'.cell? ⟨w.heap.size, 3, none⟩ = some (.slice a xs.length ca) ∧ w'.cell? ⟨w4.heap.size, 0, none⟩ = some (.int .i64 k) ∧ w'.cell? ⟨w4.heap.size, 1, none⟩ = some (.int .i64 p) ∧ w'.cell? ⟨w4.heap.size, 2, none⟩ = some (.bool o) ∧ w'.cell? ⟨w4.heap.size, 3, none⟩ = some (.slice a4 xs.length c4))
      (first | exact keep8 b8 ‹_› | exact keep8 b7 ‹_› | go_keep)
      (first | (go_at_call 9; refine (toMsg_any k p o a ca xs _ hsm ?_).mono ?_; exact hr6; rintro e w7 ⟨v7, rfl, o7, b7⟩; obtain ⟨a7, c7, rfl, q7, _, _⟩ := owns_row o7 (by omega)) | (go_at_call 11; refine (eqMsg_any k p o a4 a7 c4 c7 xs _ ?_ ?_).mono ?_; exact q6.below (bel_undrew b7); exact q7; rintro e w8 ⟨rfl, b8⟩))
    have b68 := bel_trans (bel_undrew b7) b8
    have oG := owns_below oG b68
    have oW := owns_below oW b68
    have o4 := owns_below o4 b68
    have D8 := bel_trans D6 b68
    have C8 := bel_trans C6 b68
    clear b68 b7 b8 C6 D6 q6 q7 o7 hr6 m0 m1 m2 m3 n0 n1 n2 n3 z1 z5
    obtain ⟨n0, n1, n2, n3, z5⟩ := box4 D8
    clear D8
    go_wp2_with fail
    refine (markMsg_any k p o w3.heap.size xs.length a4 c4 1 _ _ (by omega) (by omega) hsm o4).mono ?_
    rintro e w9 ⟨rfl, o9, g9⟩
    have oW := owns_ne oW g9 (fun j hj hr => by have := l4 j hr; have := lW j hj; omega)
    have oG := owns_ne oG g9 (fun j hj hr => by have := l4 j hr; have := lG j hj; omega)
    have C9 := C8.grown g9 C8.size (fun j hj => by have := l4 j hj; omega)
    clear o9 g9 C8 o4 n0 n1 n2 n3 z5
    have hd : decide ((1 : Int) + xs.length < 0) = false := by simp; omega
    go_wp2_with fail
    refine (eqByteS_any aG aW cG cW M _ (owns_row' oG (by omega)) (owns_row' oW (by omega))).mono ?_
    rintro e w10 ⟨rfl, d10, h10⟩
    have oG := owns_dr h10 oG
    have oW := owns_dr h10 oW
    have C10 := bel_dr h10 C9
    clear h10 C9
    go_wp2_with fail
    refine (markByteS_any _ M.length _ 1 _ _ (by omega) (by omega) (by omega) oG).mono ?_
    rintro e w11 ⟨rfl, oM, g11⟩
    have oW := owns_ne oW g11 (fun j hj hr => by have := lG j hr; have := lW j hj; omega)
    have C11 := C10.grown g11 C10.size (fun j hj => by have := lG j hj; omega)
    clear g11 C10 oG
    obtain ⟨m0, m1, m2, m3, z1⟩ := box4 C11
    have hr11 := hr.below (bel_trans bA C11)
    go_wp2_with fail
    refine (heldByteS_any aG cG M.length 1 _ (by omega) (by omega) (owns_row' oM (by rw [mks_length]; omega))).mono ?_
    rintro e w12 ⟨rfl, h12⟩
    subst h12
    go_wp2_with fail
    refine (toMsg_any k p o a ca xs _ hsm hr11).mono ?_
    rintro e w13 ⟨v13, rfl, o13, b13⟩
    obtain ⟨a13, c13, rfl, q13, _, _⟩ := owns_row o13 (by omega)
    go_wp2_with fail
    refine (msgBytes_any k p o a13 c13 xs _ q13).mono ?_
    rintro e w14 ⟨vH, rfl, oH, b14⟩
    rw [HM.out] at oH
    obtain ⟨aH, cH, rfl⟩ := owns_slice oH
    have b := bel_trans b13 b14
    have oW := owns_below oW b
    have oM := owns_below oM b
    have B14 := bel_trans bA (bel_trans C11 b)
    clear b b13 b14 C11 hr11 o13 q13 m0 m1 m2 m3 z1
    go_wp2_with fail
    refine (eqByteS_any aH aW cH cW M _ (owns_row' oH (by omega)) (owns_row' oW (by omega))).mono ?_
    rintro e w15 ⟨rfl, d15, h15⟩
    have oM := owns_dr h15 oM
    have B15 := bel_dr h15 B14
    clear h15 B14 oW oH
    go_wp2_with fail
    refine (heldByteS_any aG cG M.length 1 _ (by omega) (by omega) (owns_row' oM (by rw [mks_length]; omega))).mono ?_
    rintro e w16 ⟨rfl, h16⟩
    subst h16
    go_wp2
    go_ret
    exact ⟨rfl, B15⟩

set_option maxRecDepth 100000 in
theorem lifted (os : Os) (started : os.Started) (H : Type) (enc : TypeId × Value → H) :
    ReturnsInHanded {} Try.checked os 6 .any (Rows.fnExactMsgBytesSpec.pre6 enc Try.prog Try.f6 Rows.fnExactMsgBytesRow.domain false) (Rows.fnExactMsgBytesSpec.post enc Try.prog Try.f6 false true false false) := by
  refine returnsInHanded_of_change (C := Try.checked) own started (by kernel_rfl) Try.func6
    (ChangeSpec.witness6 (enc := enc) (C := Try.checked) false ⟨#[], #[.agg #[.int .i64 0, .int .i64 0, .bool false, .slice none 0 0]], []⟩ 8 (by kernel_rfl) (by kernel_rfl) (by kernel_rfl) (by kernel_rfl)) ?_
  intro W base args ds gs before hval0 hW hcnd _
  have hval : ∀ (j : Nat) t v, Try.f6.params[j]? = some t → args[j]? = some v → Value.okWide Try.prog W .any base t v := hval0
  have hW' := hW
  obtain ⟨p, q, hA0, hV, rfl, hfz, hnd⟩ := hW
  have hA : DataW.TrodAll enc Try.prog W 0 (fun _ => true) true Try.f6.params.toList args.toList ds p := hA0
  rw [Try.params6] at hA hval
  obtain ⟨v0, vs0, d0, ds0, p0, q0, hargs, rfl, rfl, h0, r0⟩ := trodAll_cons hA
  obtain ⟨rfl, rfl, rfl⟩ := trodAll_nil r0
  obtain rfl : args = #[v0] := by cases args; simp_all
  obtain ⟨rfl, rfl⟩ := trodVars_none hV
  have k0 := h0
  have lt0 : ∀ x ∈ p0, x.block < W.heap.size := by obtain ⟨m, hm⟩ := k0; exact DataW.trod_lt m _ _ _ hm
  obtain ⟨c0, c1, c2, c3, y0, y1, y2, y3, fu, rfl, _, _, hy0, hy1, hy2, hy3⟩ := Go.Joins.open_agg4 Try.underlying24 (by kernel_rfl) (by kernel_rfl) (hval 0 24 v0 rfl rfl) h0
  obtain ⟨mk0, e0, _, wk0⟩ := DataW.trod_int Try.underlying3 hy0
  obtain ⟨mp0, e1, _, wp0⟩ := DataW.trod_int Try.underlying3 hy1
  obtain ⟨mo0, e2, _⟩ := DataW.trod_bool Try.underlying4 hy2
  simp only [List.cons.injEq, and_true] at e0 e1 e2
  subst e0 e1 e2
  obtain ⟨a0, cap0, x0, rfl, w0⟩ : ∃ (a : Option Addr) (cap : Nat) (xs : List Int), c3 = .slice a xs.length cap ∧ Came .i64 W a cap xs := by
    rcases open_ints Try.underlying22 Try.underlying3 (by kernel_rfl) hy3 with ⟨hcs, _⟩ | ⟨x, l, c, zs, hcs, _, hl, hm, hz, _, hcell, hwz⟩
    · simp only [List.cons.injEq, and_true] at hcs
      exact ⟨none, 0, [], hcs, came_nil _ _⟩
    · simp only [List.cons.injEq, and_true] at hcs
      have hc := came_of hl hm (by simpa using hz) hcell hwz
      exact ⟨some x, c, zs.take l, by rw [hc.1]; exact hcs, hc.2⟩
  clear hA0 hval0
  refine (walk mk0 mp0 mo0 a0 cap0 x0 W w0 wk0 wp0).mono fun e W' ⟨he, bel⟩ => ?_
  subst he
  exact ⟨_, rfl, _, _, _, [], _, [], hW', trodAll_mk1 (shut_bool Try.underlying4 _), (trodAll_cons_mk (Below.trod laidOut (by kernel_rfl) (of_decide_eq_true (by kernel_rfl)) k0 bel lt0) trodAll_mk0), rfl, bel.frame _, fun h => by cases h⟩

theorem over : Rows.fnExactMsgBytesRow.holds Try.pinned (OpenSpec.ofChange Rows.fnExactMsgBytesSpec) :=
  OpenClaim.holds_of_wide 6 Try.f6 rfl rfl rfl rfl rfl rfl rfl ⟨rfl, rfl, rfl, rfl, rfl⟩ rfl rfl rfl rfl rfl (by kernel_rfl) Try.func6 (by kernel_rfl)
    (of_decide_eq_true (by kernel_rfl)) (by unfold Func.isWrapper; first | (rw [if_pos (by decide +kernel)]; kernel_rfl) | (rw [if_neg (by decide +kernel)]; exact ⟨rfl, rfl⟩))
    (fun os started H enc _ => lifted os started H enc)
end LawFnExactMsgBytes

theorem fnExactMsgBytes_holds : Rows.FnExactMsgBytesSaid := LawFnExactMsgBytes.over
#print axioms fnExactMsgBytes_holds
end Go.Proofs.Ytidgiklkgmfmcaa
