/- For every frame and every two numbers the law FnExactFrameWrite returns true: FrameWrite answers as the specification, writes into no argument, keeps nothing of one, and its answer owns its memory, behind another call too. Conditions: none. -/
import Derived.Test.YtdopcdpapbfdlabFrmWs
import Derived.Test.YtdopcdpapbfdlabOpenF
namespace Go.Proofs.Ytdopcdpapbfdlab
open Go.ChangeShapes Go.WideShapes Go.ChangeAt Go.RowKit
set_option linter.unusedVariables false

namespace LawFnExactFrameWrite
set_option maxRecDepth 100000 in
set_option maxHeartbeats 8000000 in
theorem walk (s : Int) (q : Bool) (a : Option Addr) (ca : Nat) (xs : List Int) (i x : Int) (w : World) (hc : Came .i64 w a ca xs) (wi : (Lit.int .i64 i).wf = true) (wx : (Lit.int .i64 x).wf = true) :
    Calls Try.prog 3 #[.agg #[.int .i64 s, .slice a xs.length ca, .bool q], .int .i64 i, .int .i64 x] w fun e w' => e = .returned (.bool true) ∧ Below w.heap.size w w' := by
  clear wi wx
  have B := bel_alloc (Below.refl w.heap.size w) (.cells #[.int .i64 s, .slice a xs.length ca, .bool q] 24)
  have XA := Box.new w #[.int .i64 s, .slice a xs.length ca, .bool q] 24
  by_cases hl : 1048576 < xs.length
  · have hn : xs.length ≤ maxLen := Nat.le_trans hc.1 hc.2.1
    clear hc XA
    go_enter Try.func3, Try.ntmps3
    go_wp2_with fail
    refine (szFrame_big s q a _ ca _ hl hn).mono ?_
    rintro e w1 ⟨rfl, b1⟩
    replace B := bel_trans B b1
    go_wp2
    go_ret
    exact ⟨rfl, B⟩
  · have hsm : xs.length ≤ 1048576 := by omega
    have hr0 := hc.row (by omega)
    have hr := hr0.below B
    clear hc hl
    have hLl := writeL_len s xs i x
    obtain ⟨b, hb⟩ : ∃ b, writeB s xs i x = b := ⟨_, rfl⟩
    obtain ⟨L, hL⟩ : ∃ L, writeL s xs i x = L := ⟨_, rfl⟩
    have HB : Hid (writeB s xs i x = b) := hb
    have HL' : Hid (writeL s xs i x = L) := hL
    rw [hL] at hLl
    have hLs : L.length ≤ 1048576 := by omega
    clear hb hL hLl
    have hspec : Hid (∀ (a' : Option Addr) (c' : Nat) (W : World), Row .i64 W a' xs → Calls Try.prog 6 #[.agg #[.int .i64 s, .slice a' xs.length c', .bool q], .int .i64 i, .int .i64 x] W fun e w' => WriteP s q b L W e w') := fun a' c' W h => by
      have := specWrite_any s q a' c' xs i x W (by omega) h
      rw [HB.out, HL'.out] at this
      exact this
    have himpl : Hid (∀ (a' : Option Addr) (c' : Nat) (W : World), Row .i64 W a' xs → Calls Try.prog 8 #[.agg #[.int .i64 s, .slice a' xs.length c', .bool q], .int .i64 i, .int .i64 x] W fun e w' => WriteP s q b L W e w') := fun a' c' W h => by
      have := implWrite_any s q a' c' xs i x W (by omega) h
      rw [HB.out, HL'.out] at this
      exact this
    clear HB HL'
    have zA := XA.lt
    go_enter Try.func3, Try.ntmps3
    go_wp2_with fail
    refine (szFrame_small s q a _ ca _ hsm).mono ?_
    rintro e w1 ⟨rfl, b1⟩
    replace XA := XA.below b1
    replace hr := hr.below b1
    replace B := bel_trans B b1
    clear b1
    have zA1 := XA.lt
    obtain ⟨m0, m1, m2, mz⟩ := XA.at3
    go_wp2_with fail
    refine (toFrame_any s q a ca xs _ hsm hr).mono ?_
    rintro e w2 ⟨v2, rfl, o2, b2⟩
    clear m0 m1 m2 mz
    have hz2 := b2.size
    obtain ⟨a2, c2, rfl, q2, _, _⟩ := owns_row o2 (by omega)
    replace XA := XA.below b2
    replace hr := hr.below b2
    replace B := bel_trans B b2
    clear b2
    go_wp2_with fail
    refine (hspec.out a2 c2 _ q2).mono ?_
    rintro e w3 ⟨vW, rfl, OW, b3⟩
    clear o2 q2
    have lW : Hid (∀ j, vW.ownBlock = some j → w2.heap.size ≤ j ∧ j < w3.heap.size) := fun j h => OW.lt j h
    obtain ⟨aW, cW, rfl⟩ := owns_slice OW
    have hz3 := b3.size
    replace XA := XA.below b3
    replace hr := hr.below b3
    replace B := bel_trans B b3
    clear b3
    obtain ⟨m0, m1, m2, mz⟩ := XA.at3
    go_wp2_with fail
    clear m0 m1 m2 mz
    have bx := bel_alloc (Below.refl w3.heap.size w3) (.cells #[.int .i64 s, .slice aW L.length cW, .bool q] 26)
    have XW := Box.new w3 #[.int .i64 s, .slice aW L.length cW, .bool q] 26
    replace XA := XA.below bx
    replace OW := owns_below OW bx
    replace hr := hr.below bx
    replace B := bel_trans B bx
    clear bx
    refine (toFrame_any s q a ca xs _ hsm hr).mono ?_
    rintro e w4 ⟨v4, rfl, o4, b4⟩
    have l4 : Hid (∀ j, v4.ownBlock = some j → w3.heap.size < j ∧ j < w4.heap.size) := fun j h => by have h := o4.lt j h; simp at h; omega
    have hz4 : w3.heap.size < w4.heap.size := by have h := b4.size; simp at h; omega
    obtain ⟨a4, c4, rfl⟩ := owns_slice o4
    replace XA := XA.below b4
    replace XW := XW.below b4
    replace OW := owns_below OW b4
    replace hr := hr.below b4
    replace B := bel_trans B b4
    clear b4
    go_wp2_with fail
    have bx := bel_alloc (Below.refl w4.heap.size w4) (.cells #[.int .i64 s, .slice a4 xs.length c4, .bool q] 26)
    have X4 := Box.new w4 #[.int .i64 s, .slice a4 xs.length c4, .bool q] 26
    replace XA := XA.below bx
    replace XW := XW.below bx
    replace OW := owns_below OW bx
    replace o4 := owns_below o4 bx
    replace hr := hr.below bx
    replace B := bel_trans B bx
    clear bx
    obtain ⟨n0, n1, n2, nz⟩ := X4.at3
    refine (himpl.out a4 c4 _ (owns_row' o4 (by omega))).mono ?_
    rintro e w5 ⟨vG, rfl, OG, b5⟩
    clear n0 n1 n2 nz
    have lG : Hid (∀ j, vG.ownBlock = some j → w4.heap.size < j ∧ j < w5.heap.size) := fun j h => by have h := OG.lt j h; simp at h; omega
    have hz5 : w4.heap.size < w5.heap.size := by have h := b5.size; simp at h; omega
    obtain ⟨aG, cG, rfl⟩ := owns_slice OG
    replace XA := XA.below b5
    replace XW := XW.below b5
    replace X4 := X4.below b5
    replace OW := owns_below OW b5
    replace o4 := owns_below o4 b5
    replace hr := hr.below b5
    replace B := bel_trans B b5
    clear b5
    obtain ⟨k0, k1, k2, kz⟩ := XW.at3
    go_wp2_with fail
    clear k0 k1 k2 kz
    have bx := bel_alloc (Below.refl w5.heap.size w5) (.cells #[.int .i64 s, .slice aG L.length cG, .bool q] 26)
    have XG := Box.new w5 #[.int .i64 s, .slice aG L.length cG, .bool q] 26
    replace XA := XA.below bx
    replace XW := XW.below bx
    replace X4 := X4.below bx
    replace OW := owns_below OW bx
    replace o4 := owns_below o4 bx
    replace OG := owns_below OG bx
    replace hr := hr.below bx
    replace B := bel_trans B bx
    clear bx
    refine (eqFrame_any s q aG aW cG cW L _ (owns_row' OG (by omega)) (owns_row' OW (by omega))).mono ?_
    rintro e w6 ⟨rfl, b6⟩
    replace XA := XA.below b6
    replace XW := XW.below b6
    replace X4 := X4.below b6
    replace XG := XG.below b6
    replace OW := owns_below OW b6
    replace o4 := owns_below o4 b6
    replace OG := owns_below OG b6
    replace hr := hr.below b6
    replace B := bel_trans B b6
    clear b6
    obtain ⟨m0, m1, m2, mz⟩ := XA.at3
    obtain ⟨n0, n1, n2, nz⟩ := X4.at3
    have q4 := owns_row' o4 (by omega)
    go_wp2_with fail
    go_region_held3 (fun w' => w'.cell? ⟨w.heap.size, 0, none⟩ = some (.int .i64 s) ∧ w'.cell? ⟨w.heap.size, 1, none⟩ = some (.slice a xs.length ca) ∧ w'.cell? ⟨w.heap.size, 2, none⟩ = some (.bool q) ∧ w'.cell? ⟨w4.heap.size, 0, none⟩ = some (.int .i64 s) ∧ w'.cell? ⟨w4.heap.size, 1, none⟩ = some (.slice a4 xs.length c4) ∧ w'.cell? ⟨w4.heap.size, 2, none⟩ = some (.bool q))
      (first | (with_reducible exact keep6 b8 ‹_›) | (with_reducible exact keep6 b7 ‹_›) | go_keep)
      (first | (go_at_call 7; refine (toFrame_any s q a ca xs _ hsm ?_).mono ?_; exact hr; rintro e w7 ⟨v7, rfl, o7, b7⟩; obtain ⟨a7, c7, rfl, q7, _, _⟩ := owns_row o7 (by omega)) | (go_at_call 9; refine (eqFrame_any s q a4 a7 c4 c7 xs _ ?_ ?_).mono ?_; exact q4.below (bel_undrew b7); exact q7; rintro e w8 ⟨rfl, b8⟩))
    have b68 := bel_trans (bel_undrew b7) b8
    clear b7 b8 o7 q7 q4 m0 m1 m2 mz n0 n1 n2 nz
    replace XA := XA.below b68
    replace XW := XW.below b68
    replace X4 := X4.below b68
    replace XG := XG.below b68
    replace OW := owns_below OW b68
    replace o4 := owns_below o4 b68
    replace OG := owns_below OG b68
    replace hr := hr.below b68
    replace B := bel_trans B b68
    clear b68
    obtain ⟨n0, n1, n2, nz⟩ := X4.at3
    go_wp2_with fail
    refine (markFrame_any s q _ xs.length a4 c4 1 _ _ (by omega) (by omega) (by omega) o4).mono ?_
    rintro e w9 ⟨rfl, o9, g9⟩
    clear o9 o4 n0 n1 n2 nz
    replace XA := XA.kept g9 (fun j hj => by have := l4.out j hj; omega)
    replace XW := XW.kept g9 (fun j hj => by have := l4.out j hj; omega)
    replace XG := XG.kept g9 (fun j hj => by have := l4.out j hj; omega)
    replace OW := owns_ne OW g9 (fun j hj hr => by have := l4.out j hr; have := lW.out j hj; omega)
    replace OG := owns_ne OG g9 (fun j hj hr => by have := l4.out j hr; have := lG.out j hj; omega)
    replace B := B.grown g9 B.size (fun j hj => by have := l4.out j hj; omega)
    clear g9 X4 hr
    have hd : decide ((1 : Int) + xs.length < 0) = false := by simp; omega
    obtain ⟨k0, k1, k2, kz⟩ := XW.at3
    obtain ⟨y0, y1, y2, yz⟩ := XG.at3
    go_wp2_with fail
    refine (eqFrame_any s q aG aW cG cW L _ (owns_row' OG (by omega)) (owns_row' OW (by omega))).mono ?_
    rintro e w10 ⟨rfl, b10⟩
    clear hd k0 k1 k2 kz y0 y1 y2 yz
    replace XA := XA.below b10
    replace XW := XW.below b10
    replace XG := XG.below b10
    replace OW := owns_below OW b10
    replace OG := owns_below OG b10
    replace B := bel_trans B b10
    clear b10
    obtain ⟨y0, y1, y2, yz⟩ := XG.at3
    go_wp2_with fail
    refine (markFrame_any s q _ L.length aG cG 1 _ _ (by omega) (by omega) (by omega) OG).mono ?_
    rintro e w11 ⟨rfl, OM, g11⟩
    clear OG y0 y1 y2 yz
    replace XA := XA.kept g11 (fun j hj => by have := lG.out j hj; omega)
    replace XW := XW.kept g11 (fun j hj => by have := lG.out j hj; omega)
    replace XG := XG.kept g11 (fun j hj => by have := lG.out j hj; omega)
    replace OW := owns_ne OW g11 (fun j hj hr => by have := lG.out j hr; have := lW.out j hj; omega)
    replace B := B.grown g11 B.size (fun j hj => by have := lG.out j hj; omega)
    clear g11
    have hd : decide ((1 : Int) + L.length < 0) = false := by simp; omega
    obtain ⟨y0, y1, y2, yz⟩ := XG.at3
    go_wp2_with fail
    refine (heldFrame_any s q aG cG L.length 1 _ (by omega) (by omega) (by omega) (owns_row' OM (by rw [mki_length]; omega))).mono ?_
    rintro e w12 ⟨rfl, b12⟩
    clear y0 y1 y2 yz
    replace XA := XA.below b12
    replace XW := XW.below b12
    replace XG := XG.below b12
    replace OW := owns_below OW b12
    replace OM := owns_below OM b12
    replace B := bel_trans B b12
    clear b12
    have hr := hr0.below B
    obtain ⟨m0, m1, m2, mz⟩ := XA.at3
    go_wp2_with fail
    refine (toFrame_any s q a ca xs _ hsm hr).mono ?_
    rintro e w13 ⟨v13, rfl, o13, b13⟩
    clear m0 m1 m2 mz
    obtain ⟨a13, c13, rfl, q13, _, _⟩ := owns_row o13 (by omega)
    replace XA := XA.below b13
    replace XW := XW.below b13
    replace XG := XG.below b13
    replace OW := owns_below OW b13
    replace OM := owns_below OM b13
    replace hr := hr.below b13
    replace B := bel_trans B b13
    clear b13
    go_wp2_with fail
    refine (himpl.out a13 c13 _ q13).mono ?_
    rintro e w14 ⟨vH, rfl, OH, b14⟩
    clear o13 q13
    obtain ⟨aH, cH, rfl⟩ := owns_slice OH
    replace XA := XA.below b14
    replace XW := XW.below b14
    replace XG := XG.below b14
    replace OW := owns_below OW b14
    replace OM := owns_below OM b14
    replace hr := hr.below b14
    replace B := bel_trans B b14
    clear b14
    obtain ⟨k0, k1, k2, kz⟩ := XW.at3
    go_wp2_with fail
    clear k0 k1 k2 kz
    have bx := bel_alloc (Below.refl w14.heap.size w14) (.cells #[.int .i64 s, .slice aH L.length cH, .bool q] 26)
    have XH := Box.new w14 #[.int .i64 s, .slice aH L.length cH, .bool q] 26
    replace XA := XA.below bx
    replace XW := XW.below bx
    replace XG := XG.below bx
    replace OW := owns_below OW bx
    replace OM := owns_below OM bx
    replace OH := owns_below OH bx
    replace hr := hr.below bx
    replace B := bel_trans B bx
    clear bx
    refine (eqFrame_any s q aH aW cH cW L _ (owns_row' OH (by omega)) (owns_row' OW (by omega))).mono ?_
    rintro e w15 ⟨rfl, b15⟩
    replace XA := XA.below b15
    replace XW := XW.below b15
    replace XG := XG.below b15
    replace XH := XH.below b15
    replace OW := owns_below OW b15
    replace OM := owns_below OM b15
    replace OH := owns_below OH b15
    replace hr := hr.below b15
    replace B := bel_trans B b15
    clear b15
    obtain ⟨y0, y1, y2, yz⟩ := XG.at3
    go_wp2_with fail
    refine (heldFrame_any s q aG cG L.length 1 _ (by omega) (by omega) (by omega) (owns_row' OM (by rw [mki_length]; omega))).mono ?_
    rintro e w16 ⟨rfl, b16⟩
    replace B := bel_trans B b16
    clear b16 OM OW OH XA XW XG XH hr y0 y1 y2 yz
    go_wp2
    go_ret
    exact ⟨rfl, B⟩

set_option maxRecDepth 100000 in
theorem lifted (os : Os) (started : os.Started) (H : Type) (enc : TypeId × Value → H) :
    ReturnsInHanded {} Try.checked os 3 .any (Rows.fnExactFrameWriteSpec.pre6 enc Try.prog Try.f3 Rows.fnExactFrameWriteRow.domain false) (Rows.fnExactFrameWriteSpec.post enc Try.prog Try.f3 false true false false) := by
  refine returnsInHanded_of_change (C := Try.checked) own started (by kernel_rfl) Try.func3
    (ChangeSpec.witness6 (enc := enc) (C := Try.checked) false ⟨#[], #[.agg #[.int .i64 0, .slice none 0 0, .bool false], .int .i64 0, .int .i64 0], []⟩ 8 (by kernel_rfl) (by kernel_rfl) (by kernel_rfl) (by kernel_rfl)) ?_
  intro W base args ds gs before hval0 hW hcnd _
  have hval : ∀ (j : Nat) t v, Try.f3.params[j]? = some t → args[j]? = some v → Value.okWide Try.prog W .any base t v := hval0
  have hW' := hW
  obtain ⟨p, q, hA0, hV, rfl, hfz, hnd⟩ := hW
  have hA : DataW.TrodAll enc Try.prog W 0 (fun _ => true) true Try.f3.params.toList args.toList ds p := hA0
  rw [Try.params3] at hA hval
  obtain ⟨v0, vs0, d0, ds0, p0, q0, hargs, rfl, rfl, h0, r0⟩ := trodAll_cons hA
  obtain ⟨v1, vs1, d1, ds1, p1, q1, rfl, rfl, rfl, h1, r1⟩ := trodAll_cons r0
  obtain ⟨v2, vs2, d2, ds2, p2, q2, rfl, rfl, rfl, h2, r2⟩ := trodAll_cons r1
  obtain ⟨rfl, rfl, rfl⟩ := trodAll_nil r2
  obtain rfl : args = #[v0, v1, v2] := by cases args; simp_all
  obtain ⟨rfl, rfl⟩ := trodVars_none hV
  have k0 := h0
  have lt0 : ∀ x ∈ p0, x.block < W.heap.size := by obtain ⟨m, hm⟩ := k0; exact DataW.trod_lt m _ _ _ hm
  obtain ⟨s0, b0, a0, cap0, x0, rfl, w0⟩ := open_frame (hval 0 24 v0 rfl rfl) h0
  obtain ⟨a1, rfl, rfl, rfl, w1⟩ := open_int Try.underlying3 (hval 1 3 v1 rfl rfl) h1
  obtain ⟨a2, rfl, rfl, rfl, w2⟩ := open_int Try.underlying3 (hval 2 3 v2 rfl rfl) h2
  clear hA0 hval0
  refine (walk s0 b0 a0 cap0 x0 a1 a2 W w0 w1 w2).mono fun e W' ⟨he, bel⟩ => ?_
  subst he
  exact ⟨_, rfl, _, _, _, [], _, [], hW', trodAll_mk1 (shut_bool Try.underlying4 _), (trodAll_cons_mk (Below.trod laidOut (by kernel_rfl) (of_decide_eq_true (by kernel_rfl)) k0 bel lt0) (trodAll_cons_mk (shut_int Try.underlying3 w1) (trodAll_cons_mk (shut_int Try.underlying3 w2) trodAll_mk0))), rfl, bel.frame _, fun h => by cases h⟩

theorem over : Rows.fnExactFrameWriteRow.holds Try.pinned (OpenSpec.ofChange Rows.fnExactFrameWriteSpec) :=
  OpenClaim.holds_of_wide 3 Try.f3 rfl rfl rfl rfl rfl rfl rfl ⟨rfl, rfl, rfl, rfl, rfl⟩ rfl rfl rfl rfl rfl (by kernel_rfl) Try.func3 (by kernel_rfl)
    (of_decide_eq_true (by kernel_rfl)) (by unfold Func.isWrapper; first | (rw [if_pos (by decide +kernel)]; kernel_rfl) | (rw [if_neg (by decide +kernel)]; exact ⟨rfl, rfl⟩))
    (fun os started H enc _ => lifted os started H enc)
end LawFnExactFrameWrite

theorem fnExactFrameWrite_holds : Rows.FnExactFrameWriteSaid := LawFnExactFrameWrite.over
#print axioms fnExactFrameWrite_holds
end Go.Proofs.Ytdopcdpapbfdlab
