/- Hc9 and Hi9: see the heads of the parts. -/
import Derived.Test.YtnfjmdegbdphpaaGreatHs9
import Derived.Test.YtnfjmdegbdphpaaGreatCp0
import Derived.Test.YtnfjmdegbdphpaaGreatIsA
/- What impl's copyHart answers. -/
namespace Go.Proofs.YtnfjmdegbdphpaaGreat
open Go.RowKit
set_option linter.unusedVariables false

end Go.Proofs.YtnfjmdegbdphpaaGreat

/- What impl's HartOk and HartNew answer. -/
namespace Go.Proofs.YtnfjmdegbdphpaaGreat
open Go.RowKit
set_option linter.unusedVariables false

set_option maxHeartbeats 1000000 in
theorem isWord9_any (x : Int) (w : World) : Calls Tryz.prog 71 #[.int .i64 x] w fun e w' => e = .returned (.bool (inB x 0 65535)) ∧ w' = w := by
  have HV : Hid (inB x 0 65535 = decide (0 ≤ x ∧ x ≤ 65535)) := by show _ = _; rfl
  by_cases h1 : 0 ≤ x
  · by_cases h2 : x ≤ 65535
    · go_enter Tryz.func71, Tryz.ntmps71
      go_wp2
      go_ret
      exact ⟨ret_bool (by rw [HV.out]; simp; omega), rfl⟩
    · go_enter Tryz.func71, Tryz.ntmps71
      go_wp2
      go_ret
      exact ⟨ret_bool (by rw [HV.out]; simp; omega), rfl⟩
  · go_enter Tryz.func71, Tryz.ntmps71
    go_wp2
    go_ret
    exact ⟨ret_bool (by rw [HV.out]; simp; omega), rfl⟩



theorem wordB_in (x : Int) : inB x 0 65535 = wordB x := rfl

set_option maxRecDepth 100000 in
set_option maxHeartbeats 1000000 in
theorem allOkI_any (a : Option Addr) (c : Nat) (xs : List Int) (w : World) (ha : Row .i64 w a xs) (hl : xs.length ≤ 1048577) :
    Calls Tryz.prog 70 #[.slice a xs.length c, .func (.func 71) #[] #[]] w fun e w' => e = .returned (.bool (xs.all wordB)) ∧ Below w.heap.size w w' := by
  obtain ⟨n, hn⟩ : ∃ n, xs.length = n := ⟨_, rfl⟩
  have HN : Hid (xs.length = n) := hn
  rw [hn] at hl ⊢
  clear hn
  go_enter Tryz.func70, Tryz.ntmps70
  go_wp2
  go_loopw [9] (fun i wr => ∃ k : Nat, k ≤ n ∧ i = .int .i64 k ∧ (∀ i, i < k → wordB (xs.getD i 0) = true) ∧ Row .i64 wr a xs ∧ Below w.heap.size w wr) (fun i _ => n - (intOf i).toNat)
  case atStart => exact ⟨0, Nat.zero_le _, rfl, fun i hi => absurd hi (Nat.not_lt_zero i), ha, Below.refl _ _⟩
  case round =>
    obtain ⟨k, hk, rfl, hall, hma, hB⟩ := hrel
    have HA : Hid (∀ i, i < k → wordB (xs.getD i 0) = true) := hall
    clear hall ha
    by_cases hlt : k < n
    · have hi : (k : Int) < (n : Int) := by omega
      obtain ⟨ba, oa, rfl, y0⟩ := hma.2 k (by rw [HN.out]; exact hlt)
      obtain ⟨x, hx⟩ : ∃ x, xs.getD k 0 = x := ⟨_, rfl⟩
      have HX : Hid (xs.getD k 0 = x) := hx
      rw [hx] at y0
      clear hx
      go_wp2_with fail
      refine (isWord9_any x _).mono ?_
      rintro e w1 ⟨rfl, h⟩
      replace h := h.symm
      subst h
      clear y0
      cases hf : inB x 0 65535
      · have HF : Hid (xs.all wordB = false) := by
          show _ = _
          rw [List.all_eq_false]
          refine ⟨x, ?_, by rw [← wordB_in, hf]; simp⟩
          rw [← HX.out]
          have hkx : k < xs.length := by rw [HN.out]; exact hlt
          simp [List.getD_eq_getElem?_getD, List.getElem?_eq_getElem hkx]
        clear hf
        go_wp2
        go_ret
        exact ⟨ret_bool HF.out.symm, hB⟩
      · have HT : Hid (∀ i, i < k + 1 → wordB (xs.getD i 0) = true) := fun i hi => by
          by_cases e : i = k
          · subst e; rw [HX.out, ← wordB_in]; exact hf
          · exact HA.out i (by omega)
        clear hf
        go_wp2
        go_roundw
        case rel => exact ⟨k + 1, by omega, by go_num, HT.out, hma, hB⟩
        case measure => simp [intOf]; omega
    · have HT : Hid (xs.all wordB = true) := by
        show _ = _
        rw [List.all_eq_true]
        intro x hx
        obtain ⟨i, hi, rfl⟩ := List.getElem_of_mem hx
        have := HA.out i (by have := HN.out; omega)
        simpa [List.getD_eq_getElem?_getD, List.getElem?_eq_getElem hi] using this
      clear hma
      go_wp2
      go_ret
      exact ⟨ret_bool HT.out.symm, hB⟩

set_option maxRecDepth 100000 in
set_option maxHeartbeats 2000000 in
theorem implHartOk_any (a : Option Addr) (c : Nat) (xs : List Int) (pc st : Int) (w : World) (ha : Row .i64 w a xs) (hl : xs.length ≤ 1048577) :
    Calls Tryz.prog 35 #[.agg #[.slice a xs.length c, .int .i64 pc, .int .i64 st]] w fun e w' => e = .returned (.bool (hartB xs pc st)) ∧ Below w.heap.size w w' := by
  have bA := bel_alloc (Below.refl w.heap.size w) (.cells #[.slice a xs.length c, .int .i64 pc, .int .i64 st] 47)
  have hr := ha.below bA
  clear ha
  by_cases hk : st = 0 ∨ st = 1 ∨ st = 2
  · have hs : inB st 0 2 = true := by simp [inB]; omega
    cases h2 : inB pc 0 23
    · have H2 : Hid (inB pc 0 23 = false) := h2
      have HV : Hid (hartB xs pc st = false) := by show _ = _; unfold hartB; rw [h2]; simp
      clear h2 hs
      rcases hk with rfl | rfl | rfl
      all_goals
        go_enter Tryz.func35, Tryz.ntmps35
        go_wp2_with fail
        refine (isAddress_any pc _).mono ?_
        rintro e w1 ⟨rfl, h⟩
        replace h := h.symm
        subst h
        rw [H2.out]
        go_wp2
        go_ret
        exact ⟨ret_bool HV.out.symm, bA⟩
    · have H2 : Hid (inB pc 0 23 = true) := h2
      by_cases h4 : xs.length = 4
      · have H4 : Hid (xs.length = 4) := h4
        have HV : Hid (hartB xs pc st = xs.all wordB) := by show _ = _; unfold hartB wordsB; rw [h2, hs, h4]; simp
        have HA := allOkI_any a c xs (w.alloc (.cells #[.slice a xs.length c, .int .i64 pc, .int .i64 st] 47)) hr hl
        rw [h4] at HA bA ⊢
        have HA' : Hid _ := HA
        clear h2 hs h4 hr HA hl
        rcases hk with rfl | rfl | rfl
        all_goals
          go_enter Tryz.func35, Tryz.ntmps35
          go_wp2_with fail
          refine (isAddress_any pc _).mono ?_
          rintro e w1 ⟨rfl, h⟩
          replace h := h.symm
          subst h
          rw [H2.out]
          go_wp2_with fail
          refine Calls.mono HA'.out ?_
          rintro e w2 ⟨rfl, b2⟩
          obtain ⟨ok, hok⟩ : ∃ ok, xs.all wordB = ok := ⟨_, rfl⟩
          have B := bel_trans bA b2
          rw [hok] at HV ⊢
          clear hok bA b2 HA'
          go_wp2
          go_ret
          exact ⟨ret_bool HV.out.symm, B⟩
      · have HV : Hid (hartB xs pc st = false) := by show _ = _; unfold hartB wordsB; rw [show ((xs.length : Int) == 4) = false by simp; omega]; simp
        obtain ⟨n, hn⟩ : ∃ n, xs.length = n := ⟨_, rfl⟩
        rw [hn] at h4 bA hr hl ⊢
        have e4 : ((n : Int) == 4) = false := by simp; omega
        clear h2 hs hn hr
        rcases hk with rfl | rfl | rfl
        all_goals
          go_enter Tryz.func35, Tryz.ntmps35
          go_wp2_with fail
          refine (isAddress_any pc _).mono ?_
          rintro e w1 ⟨rfl, h⟩
          replace h := h.symm
          subst h
          rw [H2.out]
          go_wp2
          go_ret
          exact ⟨ret_bool HV.out.symm, bA⟩
  · have HV : Hid (hartB xs pc st = false) := by show _ = _; unfold hartB; rw [show inB st 0 2 = false by simp [inB]; omega]; simp
    have e0 : (st == 0) = false := by simp; omega
    have e1 : (st == 1) = false := by simp; omega
    have e2 : (st == 2) = false := by simp; omega
    clear hk
    go_enter Tryz.func35, Tryz.ntmps35
    go_wp2
    go_ret
    exact ⟨ret_bool HV.out.symm, bA⟩

end Go.Proofs.YtnfjmdegbdphpaaGreat
