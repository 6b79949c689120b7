/- For every list of bytes the law FnExactMsgOf returns true: MsgOf answers as the specification, writes into no argument, keeps nothing of one, and its answer owns its memory, behind another call too. Conditions: none. -/
import Derived.Test.YtbikiffgeinnnabToBytes
import Derived.Test.YtbikiffgeinnnabMsg2
import Derived.Test.YtbikiffgeinnnabImplOf
import Derived.Test.YtbikiffgeinnnabSpecOf
import Derived.Test.YtbikiffgeinnnabOpen
import Derived.Test.YtbikiffgeinnnabBase2
import Derived.Test.YtbikiffgeinnnabBox
namespace Go.Proofs.Ytbikiffgeinnnab
open Go.ChangeShapes Go.WideShapes Go.ChangeAt Go.RowKit
set_option linter.unusedVariables false

namespace LawFnExactMsgOf
set_option maxRecDepth 100000 in
set_option maxHeartbeats 4000000 in
theorem walk (a : Option Addr) (ca : Nat) (xs : List Int) (w : World) (hc : Came .u8 w a ca xs) :
    Calls Try.prog 5 #[.slice a xs.length ca] w fun e w' => e = .returned (.bool true) ∧ Below w.heap.size w w' := by
  by_cases hl : 1048576 < xs.length
  · clear hc
    go_enter Try.func5, Try.ntmps5
    go_wp2
    go_ret
    exact ⟨rfl, Below.refl _ _⟩
  · have hby := hc.bytes
    have hr := hc.row (by omega)
    obtain ⟨hcap, hcm, _, _⟩ := hc
    go_enter Try.func5, Try.ntmps5
    go_wp2_with fail
    refine (toByteS_any a ca xs _ hr).mono ?_
    rintro e w1 ⟨v1, rfl, o1, b1⟩
    obtain ⟨a1, c1, rfl, q1, _, _⟩ := owns_row o1 (by omega)
    go_wp2_with fail
    refine (specOf_any a1 c1 xs _ q1 hby).mono ?_
    rintro e w2 ⟨kW, pW, oW, xW, bW, vW, rfl, RW, OW, b2⟩
    have B2 := bel_trans b1 b2
    have B2s : Hid (w.heap.size ≤ w2.heap.size) := B2.size
    have lW := fun j h => (OW.lt j h)
    have nW := RW.len
    obtain ⟨aW, cW, rfl⟩ := owns_slice OW
    clear b1 b2 o1 q1
    go_wp2_with fail
    have bx := bel_alloc (Below.refl w2.heap.size w2) (.cells #[.int .i64 kW, .int .i64 pW, .bool oW, .slice aW xW.length cW] 33)
    have XW := Box.new w2 #[.int .i64 kW, .int .i64 pW, .bool oW, .slice aW xW.length cW] 33
    have OW := owns_below OW bx
    have B2' := bel_trans B2 bx
    have hr3 := hr.below B2'
    refine (toByteS_any a ca xs _ hr3).mono ?_
    rintro e w3 ⟨v3, rfl, O3, b3⟩
    have XW := XW.below b3
    have OW := owns_below OW b3
    have B3 := bel_trans B2' b3
    have l3 : ∀ j, v3.ownBlock = some j → w2.heap.size < j ∧ j < w3.heap.size := fun j h => by have := O3.lt j h; simp at this; omega
    obtain ⟨a3, c3, rfl, q3, hc3, hm3⟩ := owns_row O3 (by omega)
    have s23 : w2.heap.size < w3.heap.size := XW.lt
    clear b3 hr3 B2 B2' bx
    go_wp2_with fail
    refine (implOf_any a3 c3 xs _ q3 hby hc3 hm3).mono ?_
    rintro e w4 ⟨kG, pG, oG, xG, bG, vG, rfl, RG, OG, b4⟩
    obtain ⟨rfl, rfl, rfl, rfl, rfl⟩ := RW.only RG
    have XW := XW.below b4
    have OW := owns_below OW b4
    have O3 := owns_below O3 b4
    have B4 := bel_trans B3 b4
    have lG := fun j h => (OG.lt j h)
    have s34 := b4.size
    obtain ⟨aG, cG, rfl⟩ := owns_slice OG
    clear b4 B3 q3
    obtain ⟨x0, x1, x2, x3, zx⟩ := XW.at4
    go_wp2_with fail
    have bx := bel_alloc (Below.refl w4.heap.size w4) (.cells #[.int .i64 kW, .int .i64 pW, .bool oW, .slice aG xW.length cG] 33)
    have XG := Box.new w4 #[.int .i64 kW, .int .i64 pW, .bool oW, .slice aG xW.length cG] 33
    have XW := XW.below bx
    have OW := owns_below OW bx
    have OG := owns_below OG bx
    have O3 := owns_below O3 bx
    have B4 := bel_trans B4 bx
    clear x0 x1 x2 x3 zx bx
    refine (eqMsg_any kW pW oW aG aW cG cW xW _ (owns_row' OG (by omega)) (owns_row' OW (by omega))).mono ?_
    rintro e w5 ⟨rfl, b5⟩
    have XW := XW.below b5
    have XG := XG.below b5
    have OW := owns_below OW b5
    have OG := owns_below OG b5
    have O3 := owns_below O3 b5
    have B5 := bel_trans B4 b5
    clear b5 B4
    have hr5 := hr.below B5
    go_wp2_with fail
    refine (toByteS_any a ca xs _ hr5).mono ?_
    rintro e w6 ⟨v6, rfl, O6, b6⟩
    obtain ⟨a6, c6, rfl, q6, _, _⟩ := owns_row O6 (by omega)
    have XW := XW.below b6
    have XG := XG.below b6
    have OW := owns_below OW b6
    have OG := owns_below OG b6
    have O3 := owns_below O3 b6
    have B6 := bel_trans B5 b6
    clear b6 B5 hr5 O6
    go_wp2_with fail
    refine (eqByteS_any a3 a6 c3 c6 xs _ (owns_row' O3 (by omega)) q6).mono ?_
    rintro e w7 ⟨rfl, d7, h7⟩
    have XW := XW.dr h7
    have XG := XG.dr h7
    have OW := owns_dr h7 OW
    have OG := owns_dr h7 OG
    have O3 := owns_dr h7 O3
    have B7 := bel_dr h7 B6
    clear h7 B6 q6
    go_wp2_with fail
    refine (markByteS_any _ xs.length _ 1 _ _ (by omega) (by omega) (by omega) O3).mono ?_
    rintro e w8 ⟨rfl, O8, g8⟩
    have XW := XW.kept g8 (fun j hj => by have := l3 j hj; omega)
    have XG := XG.kept g8 (fun j hj => by have := l3 j hj; omega)
    have OW := owns_ne OW g8 (fun j hj hr => by have := l3 j hr; have := lW j hj; omega)
    have OG := owns_ne OG g8 (fun j hj hr => by have := l3 j hr; have := lG j hj; omega)
    have B8 := B7.grown g8 B7.size (fun j hj => by have := l3 j hj; have := B2s.out; omega)
    clear g8 B7 O3 O8
    obtain ⟨x0, x1, x2, x3, zx⟩ := XW.at4
    obtain ⟨y0, y1, y2, y3, zy⟩ := XG.at4
    have hd : decide ((1 : Int) + xs.length < 0) = false := by simp; omega
    go_wp2_with fail
    refine (eqMsg_any kW pW oW aG aW cG cW xW _ (owns_row' OG (by omega)) (owns_row' OW (by omega))).mono ?_
    rintro e w9 ⟨rfl, b9⟩
    have XW := XW.below b9
    have XG := XG.below b9
    have OW := owns_below OW b9
    have OG := owns_below OG b9
    have B9 := bel_trans B8 b9
    clear b9 B8 x0 x1 x2 x3 zx y0 y1 y2 y3 zy hd
    obtain ⟨y0, y1, y2, y3, zy⟩ := XG.at4
    go_wp2_with fail
    refine (markMsg_any kW pW oW w3.heap.size xW.length aG cG 1 _ _ (by omega) (by omega) (by omega) OG).mono ?_
    rintro e w10 ⟨rfl, OM, g10⟩
    have XW := XW.kept g10 (fun j hj => by have := lG j hj; omega)
    have XG := XG.kept g10 (fun j hj => by have := lG j hj; omega)
    have OW := owns_ne OW g10 (fun j hj hr => by have := lG j hr; have := lW j hj; omega)
    have B10 := B9.grown g10 B9.size (fun j hj => by have := lG j hj; have := B2s.out; omega)
    clear g10 B9 OG y0 y1 y2 y3 zy
    obtain ⟨y0, y1, y2, y3, zy⟩ := XG.at4
    have hd : decide ((1 : Int) + xW.length < 0) = false := by simp; omega
    go_wp2_with fail
    refine (heldMsg_any kW pW oW aG cG xW.length 1 _ (by omega) (by omega) (by omega) (owns_row' OM (by rw [mki_length]; omega))).mono ?_
    rintro e w11 ⟨rfl, b11⟩
    have XW := XW.below b11
    have XG := XG.below b11
    have OW := owns_below OW b11
    have OM := owns_below OM b11
    have B11 := bel_trans B10 b11
    clear b11 B10 y0 y1 y2 y3 zy
    have hr11 := hr.below B11
    go_wp2_with fail
    refine (toByteS_any a ca xs _ hr11).mono ?_
    rintro e w12 ⟨v12, rfl, O12, b12⟩
    obtain ⟨a12, c12, rfl, q12, hc12, hm12⟩ := owns_row O12 (by omega)
    have XW := XW.below b12
    have XG := XG.below b12
    have OW := owns_below OW b12
    have OM := owns_below OM b12
    have B12 := bel_trans B11 b12
    clear b12 B11 hr11 O12
    go_wp2_with fail
    refine (implOf_any a12 c12 xs _ q12 hby hc12 hm12).mono ?_
    rintro e w13 ⟨kH, pH, oH, xH, bH, vH, rfl, RH, OH, b13⟩
    obtain ⟨rfl, rfl, rfl, rfl, rfl⟩ := RW.only RH
    obtain ⟨aH, cH, rfl⟩ := owns_slice OH
    have XW := XW.below b13
    have XG := XG.below b13
    have OW := owns_below OW b13
    have OM := owns_below OM b13
    have B13 := bel_trans B12 b13
    clear b13 B12 q12
    obtain ⟨x0, x1, x2, x3, zx⟩ := XW.at4
    go_wp2_with fail
    have bx := bel_alloc (Below.refl w13.heap.size w13) (.cells #[.int .i64 kW, .int .i64 pW, .bool oW, .slice aH xW.length cH] 33)
    have XG := XG.below bx
    have OW := owns_below OW bx
    have OM := owns_below OM bx
    have OH := owns_below OH bx
    have B13 := bel_trans B13 bx
    clear x0 x1 x2 x3 zx bx
    refine (eqMsg_any kW pW oW aH aW cH cW xW _ (owns_row' OH (by omega)) (owns_row' OW (by omega))).mono ?_
    rintro e w14 ⟨rfl, b14⟩
    have XG := XG.below b14
    have OM := owns_below OM b14
    have B14 := bel_trans B13 b14
    clear b14 B13 OW OH
    obtain ⟨y0, y1, y2, y3, zy⟩ := XG.at4
    go_wp2_with fail
    refine (heldMsg_any kW pW oW aG cG xW.length 1 _ (by omega) (by omega) (by omega) (owns_row' OM (by rw [mki_length]; omega))).mono ?_
    rintro e w15 ⟨rfl, b15⟩
    have B15 := bel_trans B14 b15
    clear b15 B14 OM y0 y1 y2 y3 zy
    go_wp2
    go_ret
    exact ⟨rfl, B15⟩

set_option maxRecDepth 100000 in
theorem lifted (os : Os) (started : os.Started) (H : Type) (enc : TypeId × Value → H) :
    ReturnsInHanded {} Try.checked os 5 .any (Rows.fnExactMsgOfSpec.pre6 enc Try.prog Try.f5 Rows.fnExactMsgOfRow.domain false) (Rows.fnExactMsgOfSpec.post enc Try.prog Try.f5 false true false false) := by
  refine returnsInHanded_of_change (C := Try.checked) own started (by kernel_rfl) Try.func5
    (ChangeSpec.witness6 (enc := enc) (C := Try.checked) false ⟨#[], #[.slice none 0 0], []⟩ 8 (by kernel_rfl) (by kernel_rfl) (by kernel_rfl) (by kernel_rfl)) ?_
  intro W base args ds gs before hval0 hW hcnd _
  have hval : ∀ (j : Nat) t v, Try.f5.params[j]? = some t → args[j]? = some v → Value.okWide Try.prog W .any base t v := hval0
  have hW' := hW
  obtain ⟨p, q, hA0, hV, rfl, hfz, hnd⟩ := hW
  have hA : DataW.TrodAll enc Try.prog W 0 (fun _ => true) true Try.f5.params.toList args.toList ds p := hA0
  rw [Try.params5] at hA hval
  obtain ⟨v0, vs0, d0, ds0, p0, q0, hargs, rfl, rfl, h0, r0⟩ := trodAll_cons hA
  obtain ⟨rfl, rfl, rfl⟩ := trodAll_nil r0
  obtain rfl : args = #[v0] := by cases args; simp_all
  obtain ⟨rfl, rfl⟩ := trodVars_none hV
  obtain ⟨a0, len0, cap0, rfl⟩ := okWide_slice Try.underlying22 (hval 0 22 v0 rfl rfl)
  have k0 := h0
  have lt0 : ∀ x ∈ p0, x.block < W.heap.size := by obtain ⟨m, hm⟩ := k0; exact DataW.trod_lt m _ _ _ hm
  obtain ⟨x0, rfl, w0⟩ : ∃ xs : List Int, xs.length = len0 ∧ Came .u8 W a0 cap0 xs := by
    obtain ⟨fuel, hf⟩ := h0
    rcases open_ints Try.underlying22 Try.underlying5 (by kernel_rfl) hf with ⟨hcs, _⟩ | ⟨x, l, c, zs, hcs, _, hl, hm, hz, _, hcell, hwz⟩
    · simp [Value.cells] at hcs
      obtain ⟨rfl, rfl, rfl⟩ := hcs
      exact ⟨[], rfl, came_nil _ _⟩
    · simp [Value.cells] at hcs
      obtain ⟨rfl, rfl, rfl⟩ := hcs
      have hc := came_of hl hm (by simpa using hz) hcell hwz
      exact ⟨_, hc.1, hc.2⟩
  clear hA0 hval0
  refine (walk a0 cap0 x0 W w0).mono fun e W' ⟨he, bel⟩ => ?_
  subst he
  exact ⟨_, rfl, _, _, _, [], _, [], hW', trodAll_mk1 (shut_bool Try.underlying4 _), (trodAll_cons_mk (Below.trod laidOut (by kernel_rfl) (of_decide_eq_true (by kernel_rfl)) k0 bel lt0) trodAll_mk0), rfl, bel.frame _, fun h => by cases h⟩

theorem over : Rows.fnExactMsgOfRow.holds Try.pinned (OpenSpec.ofChange Rows.fnExactMsgOfSpec) :=
  OpenClaim.holds_of_wide 5 Try.f5 rfl rfl rfl rfl rfl rfl rfl ⟨rfl, rfl, rfl, rfl, rfl⟩ rfl rfl rfl rfl rfl (by kernel_rfl) Try.func5 (by kernel_rfl)
    (of_decide_eq_true (by kernel_rfl)) (by unfold Func.isWrapper; first | (rw [if_pos (by decide +kernel)]; kernel_rfl) | (rw [if_neg (by decide +kernel)]; exact ⟨rfl, rfl⟩))
    (fun os started H enc _ => lifted os started H enc)
end LawFnExactMsgOf

theorem fnExactMsgOf_holds : Rows.FnExactMsgOfSaid := LawFnExactMsgOf.over
#print axioms fnExactMsgOf_holds
end Go.Proofs.Ytbikiffgeinnnab
