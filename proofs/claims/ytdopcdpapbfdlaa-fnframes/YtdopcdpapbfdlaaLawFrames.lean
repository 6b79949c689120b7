/- For every list of bytes the law FnFrames returns true: a drawn frame that is written is read so, and all its other words stay; who may not write turns nothing. Conditions: none. -/
import Derived.Test.YtdopcdpapbfdlaaDrawF2
import Derived.Test.YtdopcdpapbfdlaaFrmWs
import Derived.Test.YtdopcdpapbfdlaaOpen
namespace Go.Proofs.Ytdopcdpapbfdlaa
open Go.ChangeShapes Go.WideShapes Go.ChangeAt Go.RowKit
set_option linter.unusedVariables false

theorem bigF_any (a : Option Addr) (n ca : Nat) (w : World) (hl : (n : Int) ≤ 1048576) :
    Calls Try.prog 9 #[.slice a n ca] w fun e w' => e = .returned (.bool false) ∧ w' = w := by
  go_enter Try.func9, Try.ntmps9
  go_wp2
  go_ret
  exact ⟨ret_bool (by simp; omega), rfl⟩

theorem keep3 {W W' : World} (b : Below W.heap.size W W') {a0 a1 a2 : Addr} {u0 u1 u2 : Value}
    (h : W.cell? a0 = some u0 ∧ W.cell? a1 = some u1 ∧ W.cell? a2 = some u2) : W'.cell? a0 = some u0 ∧ W'.cell? a1 = some u1 ∧ W'.cell? a2 = some u2 :=
  ⟨cell_later b h.1, cell_later b h.2.1, cell_later b h.2.2⟩

theorem words_set {xs : List Int} {n : Nat} {x : Int} (h : wordsB xs 4 = true) (hx : wordB x = true) : wordsB (xs.set n x) 4 = true := by
  unfold wordsB at h ⊢
  simp only [Bool.and_eq_true, List.all_eq_true] at h ⊢
  refine ⟨fun y hy => ?_, by rw [List.length_set]; exact h.2⟩
  rcases List.mem_or_eq_of_mem_set hy with h1 | h1
  · exact h.1 y h1
  · rw [h1]; exact hx

theorem frame_set {xs : List Int} {n : Nat} {x : Int} (h : frameOkB 2 xs = true) (hx : wordB x = true) : frameOkB 2 (xs.set n x) = true := by
  rw [frame_some rfl] at h ⊢
  simp only [Bool.and_eq_true] at h ⊢
  exact ⟨h.1, words_set h.2 hx⟩

theorem read_at {L : List Int} {k : Nat} (hf : frameOkB 2 L = true) (hk : k < L.length) : readB 2 L k = true ∧ readN 2 L k = L.getD k 0 := by
  have h : readB 2 L k = true := by
    unfold readB
    rw [hf, Bool.true_and]
    exact decide_eq_true (by omega)
  exact ⟨h, by rw [read_yes h, Int.toNat_natCast]⟩

namespace LawFnFrames
set_option maxRecDepth 100000 in
set_option maxHeartbeats 8000000 in
theorem walk (a : Option Addr) (ca : Nat) (bs : List Int) (w : World) (hc : Came .u8 w a ca bs) :
    Calls Try.prog 5 #[.slice a bs.length ca] w fun e w' => e = .returned (.bool true) ∧ Below w.heap.size w w' := by
  by_cases hl : 1048576 < bs.length
  · have hn : bs.length ≤ maxLen := Nat.le_trans hc.1 hc.2.1
    have hl' : (1048576 : Int) < bs.length := by omega
    clear hc
    go_enter Try.func5, Try.ntmps5
    go_wp2
    go_ret
    exact ⟨rfl, Below.refl _ _⟩
  · have hr := hc.row (by omega)
    have hl' : (bs.length : Int) ≤ 1048576 := by omega
    clear hc
    go_enter Try.func5, Try.ntmps5
    go_wp2_with fail
    refine (bigF_any a bs.length ca _ hl').mono ?_
    rintro e w0 ⟨rfl, h⟩
    subst h
    go_wp2_with fail
    refine (drawFWrite_any a ca bs _ hr).mono ?_
    rintro e w1 ⟨s, q, v1, xs, i, x, rfl, hxl, OF, B⟩
    replace hr := hr.below B
    obtain ⟨aF, cF, rfl⟩ := owns_slice OF
    go_wp2_with fail
    have bx := bel_alloc (Below.refl w1.heap.size w1) (.cells #[.int .i64 s, .slice aF xs.length cF, .bool q] 50)
    have XF := Box.new w1 #[.int .i64 s, .slice aF xs.length cF, .bool q] 50
    replace OF := owns_below OF bx
    replace hr := hr.below bx
    replace B := bel_trans B bx
    clear bx
    refine (implWrite_any s q aF cF xs i x _ (by omega) (owns_row' OF (by omega))).mono ?_
    obtain ⟨b, hb⟩ : ∃ b, writeB s xs i x = b := ⟨_, rfl⟩
    obtain ⟨L, hL⟩ : ∃ L, writeL s xs i x = L := ⟨_, rfl⟩
    have HB : Hid (writeB s xs i x = b) := hb
    have HL2 : Hid (writeL s xs i x = L) := hL
    have hLl : L.length ≤ 5 := by rw [← hL, writeL_len]; omega
    rw [hb, hL]
    rintro e w2 ⟨vG, rfl, OG, b2⟩
    have lG : Hid (∀ j, vG.ownBlock = some j → j < w2.heap.size) := fun j h => (OG.lt j h).2
    replace OG := owns_base OG B.size
    obtain ⟨aG, cG, rfl⟩ := owns_slice OG
    clear hb hL
    replace XF := XF.below b2
    replace OF := owns_below OF b2
    replace hr := hr.below b2
    replace B := bel_trans B b2
    clear b2
    obtain ⟨m0, m1, m2, mz⟩ := XF.at3
    go_wp2_with fail
    clear m0 m1 m2 mz
    have bx := bel_alloc (Below.refl w2.heap.size w2) (.cells #[.int .i64 s, .slice aG L.length cG, .bool q] 50)
    have XG := Box.new w2 #[.int .i64 s, .slice aG L.length cG, .bool q] 50
    replace XF := XF.below bx
    replace OF := owns_below OF bx
    replace OG := owns_below OG bx
    replace hr := hr.below bx
    replace B := bel_trans B bx
    clear bx
    refine (specWrite_any s q aF cF xs i x _ (by omega) (owns_row' OF (by omega))).mono ?_
    rw [HB.out, HL2.out]
    rintro e w3 ⟨vW, rfl, OW, b3⟩
    obtain ⟨aW, cW, rfl⟩ := owns_slice OW
    clear OW
    replace XF := XF.below b3
    replace XG := XG.below b3
    replace OF := owns_below OF b3
    replace OG := owns_below OG b3
    replace hr := hr.below b3
    replace B := bel_trans B b3
    clear b3
    go_wp2_with fail
    have bx := bel_alloc (Below.refl w3.heap.size w3) (.cells #[.int .i64 s, .slice aW L.length cW, .bool q] 50)
    have XW := Box.new w3 #[.int .i64 s, .slice aW L.length cW, .bool q] 50
    replace XF := XF.below bx
    replace XG := XG.below bx
    replace OF := owns_below OF bx
    replace OG := owns_below OG bx
    replace hr := hr.below bx
    replace B := bel_trans B bx
    clear bx
    refine (drawFRead_any a ca bs _ hr).mono ?_
    rintro e w4 ⟨s4, q4, v4, zs, k, rfl, hzl, O4, b4⟩
    obtain ⟨a4, c4, rfl⟩ := owns_slice O4
    replace XF := XF.below b4
    replace XG := XG.below b4
    replace XW := XW.below b4
    replace OF := owns_below OF b4
    replace OG := owns_below OG b4
    replace hr := hr.below b4
    replace B := bel_trans B b4
    clear b4
    go_wp2_with fail
    have bx := bel_alloc (Below.refl w4.heap.size w4) (.cells #[.int .i64 s4, .slice a4 zs.length c4, .bool q4] 50)
    have X4 := Box.new w4 #[.int .i64 s4, .slice a4 zs.length c4, .bool q4] 50
    replace XF := XF.below bx
    replace XG := XG.below bx
    replace XW := XW.below bx
    replace OF := owns_below OF bx
    replace OG := owns_below OG bx
    replace O4 := owns_below O4 bx
    replace hr := hr.below bx
    replace B := bel_trans B bx
    clear bx
    refine (implRead_any s4 q4 a4 c4 zs k _ (owns_row' O4 (by omega))).mono ?_
    obtain ⟨N, hN⟩ : ∃ N, readN s4 zs k = N := ⟨_, rfl⟩
    obtain ⟨R, hR⟩ : ∃ R, readB s4 zs k = R := ⟨_, rfl⟩
    have HN : Hid (readN s4 zs k = N) := hN
    have HR : Hid (readB s4 zs k = R) := hR
    rw [hN, hR]
    clear hN hR
    rintro e w5 ⟨rfl, b5⟩
    replace XF := XF.below b5
    replace XG := XG.below b5
    replace XW := XW.below b5
    replace X4 := X4.below b5
    replace OF := owns_below OF b5
    replace OG := owns_below OG b5
    replace O4 := owns_below O4 b5
    replace hr := hr.below b5
    replace B := bel_trans B b5
    clear b5
    obtain ⟨m0, m1, m2, mz⟩ := X4.at3
    go_wp2_with fail
    clear m0 m1 m2 mz
    refine (specRead_any s4 q4 a4 c4 zs k _ (owns_row' O4 (by omega))).mono ?_
    rw [HN.out, HR.out]
    rintro e w6 ⟨rfl, b6⟩
    replace XF := XF.below b6
    replace XG := XG.below b6
    replace XW := XW.below b6
    replace X4 := X4.below b6
    replace OF := owns_below OF b6
    replace OG := owns_below OG b6
    replace O4 := owns_below O4 b6
    replace hr := hr.below b6
    replace B := bel_trans B b6
    clear b6
    clear O4 X4 XW HN HR
    obtain ⟨m0, m1, m2, mz⟩ := XF.at3
    have qF := owns_row' OF (by omega)
    obtain ⟨fo, hfo⟩ : ∃ fo, frameOkB s xs = fo := ⟨_, rfl⟩
    have HFO : Hid (frameOkB s xs = fo) := hfo
    clear hfo
    have hok1 : Hid (∀ W, Row .i64 W aF xs → Calls Try.prog 32 #[.agg #[.int .i64 s, .slice aF xs.length cF, .bool q]] W fun e w' => e = .returned (.bool fo) ∧ Below W.heap.size W w') := fun W h => by have := frameOk_any s q aF cF xs W h; rw [HFO.out] at this; exact this
    have hok2 : Hid (∀ W, Row .i64 W aF xs → Calls Try.prog 33 #[.agg #[.int .i64 s, .slice aF xs.length cF, .bool q]] W fun e w' => e = .returned (.bool fo) ∧ Below W.heap.size W w') := fun W h => by have := specFrameOk_any s q aF cF xs W h; rw [HFO.out] at this; exact this
    go_upto_region 9 with fail
    go_cut [77] (fun v wx => v = .bool false ∧ Below w6.heap.size w6 wx)
    case first =>
      go_region_held3 (fun w' => w'.cell? ⟨w1.heap.size, 0, none⟩ = some (.int .i64 s) ∧ w'.cell? ⟨w1.heap.size, 1, none⟩ = some (.slice aF xs.length cF) ∧ w'.cell? ⟨w1.heap.size, 2, none⟩ = some (.bool q))
        (first | (with_reducible exact keep3 b8 ‹_›) | (with_reducible exact keep3 b7 ‹_›) | go_keep)
        (first | (go_at_call 32; refine (hok1.out _ ?_).mono ?_; (first | exact qF | exact qF.below (bel_undrew b8)); rintro e w7 ⟨rfl, b7⟩) | (go_at_call 33; refine (hok2.out _ ?_).mono ?_; (first | exact qF | exact qF.below (bel_undrew b7)); rintro e w8 ⟨rfl, b8⟩))
      all_goals go_wp2_with fail
      all_goals go_meet
      all_goals first | exact ⟨by simp, bel_trans (bel_undrew b7) b8⟩ | exact ⟨by simp, bel_trans (bel_undrew b8) b7⟩
    case rest =>
      obtain ⟨rfl, b9⟩ := hcut
      clear m0 m1 m2 mz qF hok1 hok2
      replace XF := XF.below b9
      replace XG := XG.below b9
      replace OF := owns_below OF b9
      replace OG := owns_below OG b9
      replace hr := hr.below b9
      replace B := bel_trans B b9
      clear b9
      have qF := owns_row' OF (by omega)
      have qG := owns_row' OG (by omega)
      rcases write_cases s xs i x with ⟨hb, hf, rfl, hp, hx⟩ | ⟨hb, _⟩
      · have hbt : b = true := by rw [← HB.out]; exact hb
        subst hbt
        have hLs : L = xs.set i.toNat x := by rw [← HL2.out]; unfold writeL; rw [hb]; rfl
        clear HB HL2 hb
        have h4 := frame_words hf
        have hp' : 0 ≤ i ∧ i ≤ 3 := by unfold placeB at hp; exact of_decide_eq_true hp
        obtain ⟨hp0, hp3⟩ := hp'
        obtain ⟨n, rfl⟩ : ∃ n : Nat, i = n := ⟨i.toNat, by omega⟩
        rw [Int.toNat_natCast] at hLs
        have hfL : frameOkB 2 L = true := by rw [hLs]; exact frame_set hf hx
        have hL4 : L.length = 4 := by rw [hLs, List.length_set]; exact h4
        have HFL : Hid (frameOkB 2 L = true) := hfL
        have HLS : Hid (L = xs.set n x) := hLs
        have HL4 : Hid (L.length = 4) := hL4
        have H4 : Hid (xs.length = 4) := h4
        clear hfL hLs hL4 h4 hf hp hx
        have hn4 : n < 4 := by omega
        go_wp2_with fail
        go_loopw [16] (fun j wr => ∃ m : Nat, m ≤ 4 ∧ j = .int .i64 m ∧ Below wc.heap.size wc wr) (fun j _ => 4 - (intOf j).toNat)
        case atStart => exact ⟨0, by omega, rfl, Below.refl _ _⟩
        case round =>
          obtain ⟨m, hm, rfl, bw⟩ := hrel
          replace XF := XF.below bw
          replace XG := XG.below bw
          replace qF := qF.below bw
          replace qG := qG.below bw
          replace B := bel_trans B bw
          clear hr OF OG
          obtain ⟨g0, g1, g2, gz⟩ := XG.at3
          by_cases hm4 : (m : Int) < 4
          · go_wp2_with fail
            have hml : m < L.length := by have := HL4.out; omega
            obtain ⟨hrb, hrn⟩ := read_at HFL.out hml
            refine (implRead_any 2 q aG cG L m _ qG).mono ?_
            rw [hrb, hrn]
            rintro e w10 ⟨rfl, b10⟩
            clear hrb hrn g0 g1 g2 gz
            replace XF := XF.below b10
            replace XG := XG.below b10
            replace qF := qF.below b10
            have bw2 := bel_trans bw b10
            clear b10 bw qG B
            obtain ⟨f0, f1, f2, fz⟩ := XF.at3
            by_cases hmn : m = n
            · subst hmn
              have hv : L.getD m 0 = x := by rw [HLS.out]; have h := hml; rw [HLS.out, List.length_set] at h; simp [h]
              rw [hv]
              clear qF hv
              go_wp2
              go_roundw
              case rel => exact ⟨m + 1, by omega, by go_num, bw2⟩
              case measure => simp [intOf]; omega
            · have hv : L.getD m 0 = xs.getD m 0 := by rw [HLS.out]; have h := hml; rw [HLS.out, List.length_set] at h; simp [List.getElem_set, h]; omega
              rw [hv]
              obtain ⟨b5, o5, rfl, hc5⟩ := qF.2 m (by have := H4.out; omega)
              have hmi : ((m : Int) == (n : Int)) = false := by simp; omega
              have hmi2 : ((m : Int) != (n : Int)) = true := by simp; omega
              have hmx : (m : Int) < (xs.length : Int) := by have := H4.out; omega
              clear qF hv
              go_wp2
              go_roundw
              case rel => exact ⟨m + 1, by omega, by go_num, bw2⟩
              case measure => simp [intOf]; omega
          · have hm4' : (4 : Int) ≤ m := by omega
            go_wp2_with fail
            refine (frameOk_any 2 q aG cG L _ qG).mono ?_
            rw [HFL.out]
            rintro e w10 ⟨rfl, b10⟩
            replace XF := XF.below b10
            replace B := bel_trans B b10
            clear b10 bw g0 g1 g2 gz
            obtain ⟨f0, f1, f2, fz⟩ := XF.at3
            go_wp2
            go_ret
            exact ⟨rfl, B⟩
      · have hbt : b = false := by rw [← HB.out]; exact hb
        subst hbt
        have hLs : L = xs := by rw [← HL2.out]; unfold writeL; rw [hb]; rfl
        clear HB HL2 hb
        subst hLs
        obtain ⟨f0, f1, f2, fz⟩ := XF.at3
        obtain ⟨g0, g1, g2, gz⟩ := XG.at3
        go_wp2_with fail
        refine (sameInts_any aG aF cG cF L _ qG qF).mono ?_
        rintro e w10 ⟨rfl, d, h⟩
        subst h
        go_wp2
        go_ret
        exact ⟨rfl, below_drewN B d⟩

set_option maxRecDepth 100000 in
theorem lifted (os : Os) (started : os.Started) (H : Type) (enc : TypeId × Value → H) :
    ReturnsInHanded {} Try.checked os 5 .any (Rows.fnFramesSpec.pre6 enc Try.prog Try.f5 Rows.fnFramesRow.domain false) (Rows.fnFramesSpec.post enc Try.prog Try.f5 false true false false) := by
  refine returnsInHanded_of_change (C := Try.checked) own started (by kernel_rfl) Try.func5
    (ChangeSpec.witness6 (enc := enc) (C := Try.checked) false ⟨#[], #[.slice none 0 0], []⟩ 8 (by kernel_rfl) (by kernel_rfl) (by kernel_rfl) (by kernel_rfl)) ?_
  intro W base args ds gs before hval0 hW hcnd _
  have hval : ∀ (j : Nat) t v, Try.f5.params[j]? = some t → args[j]? = some v → Value.okWide Try.prog W .any base t v := hval0
  have hW' := hW
  obtain ⟨p, q, hA0, hV, rfl, hfz, hnd⟩ := hW
  have hA : DataW.TrodAll enc Try.prog W 0 (fun _ => true) true Try.f5.params.toList args.toList ds p := hA0
  rw [Try.params5] at hA hval
  obtain ⟨v0, vs0, d0, ds0, p0, q0, hargs, rfl, rfl, h0, r0⟩ := trodAll_cons hA
  obtain ⟨rfl, rfl, rfl⟩ := trodAll_nil r0
  obtain rfl : args = #[v0] := by cases args; simp_all
  obtain ⟨rfl, rfl⟩ := trodVars_none hV
  obtain ⟨a0, len0, cap0, rfl⟩ := okWide_slice Try.underlying22 (hval 0 22 v0 rfl rfl)
  have k0 := h0
  have lt0 : ∀ x ∈ p0, x.block < W.heap.size := by obtain ⟨m, hm⟩ := k0; exact DataW.trod_lt m _ _ _ hm
  obtain ⟨x0, rfl, w0⟩ : ∃ xs : List Int, xs.length = len0 ∧ Came .u8 W a0 cap0 xs := by
    obtain ⟨fuel, hf⟩ := h0
    rcases open_ints Try.underlying22 Try.underlying5 (by kernel_rfl) hf with ⟨hcs, _⟩ | ⟨x, l, c, zs, hcs, _, hl, hm, hz, _, hcell, hwz⟩
    · simp [Value.cells] at hcs
      obtain ⟨rfl, rfl, rfl⟩ := hcs
      exact ⟨[], rfl, came_nil _ _⟩
    · simp [Value.cells] at hcs
      obtain ⟨rfl, rfl, rfl⟩ := hcs
      have hc := came_of hl hm (by simpa using hz) hcell hwz
      exact ⟨_, hc.1, hc.2⟩
  clear hA0 hval0
  refine (walk a0 cap0 x0 W w0).mono fun e W' ⟨he, bel⟩ => ?_
  subst he
  exact ⟨_, rfl, _, _, _, [], _, [], hW', trodAll_mk1 (shut_bool Try.underlying4 _), (trodAll_cons_mk (Below.trod laidOut (by kernel_rfl) (of_decide_eq_true (by kernel_rfl)) k0 bel lt0) trodAll_mk0), rfl, bel.frame _, fun h => by cases h⟩

theorem over : Rows.fnFramesRow.holds Try.pinned (OpenSpec.ofChange Rows.fnFramesSpec) :=
  OpenClaim.holds_of_wide 5 Try.f5 rfl rfl rfl rfl rfl rfl rfl ⟨rfl, rfl, rfl, rfl, rfl⟩ rfl rfl rfl rfl rfl (by kernel_rfl) Try.func5 (by kernel_rfl)
    (of_decide_eq_true (by kernel_rfl)) (by unfold Func.isWrapper; first | (rw [if_pos (by decide +kernel)]; kernel_rfl) | (rw [if_neg (by decide +kernel)]; exact ⟨rfl, rfl⟩))
    (fun os started H enc _ => lifted os started H enc)
end LawFnFrames

theorem fnFrames_holds : Rows.FnFramesSaid := LawFnFrames.over
#print axioms fnFrames_holds
end Go.Proofs.Ytdopcdpapbfdlaa
