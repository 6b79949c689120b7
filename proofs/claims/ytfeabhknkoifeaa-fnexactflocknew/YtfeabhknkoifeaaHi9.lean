/- Hc9 and Hi9: see the heads of the parts. -/
import Derived.Test.YtfeabhknkoifeaaHs9
import Derived.Test.YtfeabhknkoifeaaCopy
import Derived.Test.YtfeabhknkoifeaaIsA
/- What impl's copyHart answers. -/
namespace Go.Proofs.Ytfeabhknkoifeaa
open Go.RowKit
set_option linter.unusedVariables false

end Go.Proofs.Ytfeabhknkoifeaa

/- What impl's HartOk and HartNew answer. -/
namespace Go.Proofs.Ytfeabhknkoifeaa
open Go.RowKit
set_option linter.unusedVariables false

set_option maxHeartbeats 1000000 in
theorem isWord9_any (x : Int) (w : World) : Calls Try.prog 30 #[.int .i64 x] w fun e w' => e = .returned (.bool (inB x 0 65535)) ∧ w' = w := by
  have HV : Hid (inB x 0 65535 = decide (0 ≤ x ∧ x ≤ 65535)) := by show _ = _; rfl
  by_cases h1 : 0 ≤ x
  · by_cases h2 : x ≤ 65535
    · go_enter Try.func30, Try.ntmps30
      go_wp2
      go_ret
      exact ⟨ret_bool (by rw [HV.out]; simp; omega), rfl⟩
    · go_enter Try.func30, Try.ntmps30
      go_wp2
      go_ret
      exact ⟨ret_bool (by rw [HV.out]; simp; omega), rfl⟩
  · go_enter Try.func30, Try.ntmps30
    go_wp2
    go_ret
    exact ⟨ret_bool (by rw [HV.out]; simp; omega), rfl⟩

set_option maxRecDepth 100000 in
set_option maxHeartbeats 1000000 in
theorem addressOf_any (n : Int) (w : World) : Calls Try.prog 31 #[.int .i64 n] w fun e w' => e = .returned (.int .i64 (n % 24)) ∧ w' = w := by
  have HA : Hid _ := adr_eq n
  obtain ⟨x, hx⟩ : ∃ x, n.tmod 24 = x := ⟨_, rfl⟩
  have hb : -24 < x ∧ x < 24 := by
    rw [← hx]
    by_cases h : 0 ≤ n
    · rw [Int.tmod_eq_emod_of_nonneg h]; omega
    · obtain ⟨m, rfl⟩ : ∃ m, n = -m := ⟨-n, by omega⟩
      rw [Int.neg_tmod, Int.tmod_eq_emod_of_nonneg (by omega)]; omega
  rw [hx] at HA
  obtain ⟨hb1, hb2⟩ := hb
  by_cases h0 : x < 0
  · have HE : Hid (x + 24 = n % 24) := by have := HA.out; rw [if_pos h0] at this; exact this
    go_enter Try.func31, Try.ntmps31
    go_wp2
    go_ret
    exact ⟨by rw [← HE.out]; first | rfl | go_num, rfl⟩
  · have HE : Hid (x = n % 24) := by have := HA.out; rw [if_neg h0] at this; exact this
    go_enter Try.func31, Try.ntmps31
    go_wp2
    go_ret
    exact ⟨by rw [← HE.out]; first | rfl | go_num, rfl⟩


theorem wordB_in (x : Int) : inB x 0 65535 = wordB x := rfl

set_option maxRecDepth 100000 in
set_option maxHeartbeats 1000000 in
theorem allOkI_any (a : Option Addr) (c : Nat) (xs : List Int) (w : World) (ha : Row .i64 w a xs) (hl : xs.length ≤ 1048577) :
    Calls Try.prog 29 #[.slice a xs.length c, .func (.func 30) #[] #[]] w fun e w' => e = .returned (.bool (xs.all wordB)) ∧ Below w.heap.size w w' := by
  obtain ⟨n, hn⟩ : ∃ n, xs.length = n := ⟨_, rfl⟩
  have HN : Hid (xs.length = n) := hn
  rw [hn] at hl ⊢
  clear hn
  go_enter Try.func29, Try.ntmps29
  go_wp2
  go_loopw [9] (fun i wr => ∃ k : Nat, k ≤ n ∧ i = .int .i64 k ∧ (∀ i, i < k → wordB (xs.getD i 0) = true) ∧ Row .i64 wr a xs ∧ Below w.heap.size w wr) (fun i _ => n - (intOf i).toNat)
  case atStart => exact ⟨0, Nat.zero_le _, rfl, fun i hi => absurd hi (Nat.not_lt_zero i), ha, Below.refl _ _⟩
  case round =>
    obtain ⟨k, hk, rfl, hall, hma, hB⟩ := hrel
    have HA : Hid (∀ i, i < k → wordB (xs.getD i 0) = true) := hall
    clear hall ha
    by_cases hlt : k < n
    · have hi : (k : Int) < (n : Int) := by omega
      obtain ⟨ba, oa, rfl, y0⟩ := hma.2 k (by rw [HN.out]; exact hlt)
      obtain ⟨x, hx⟩ : ∃ x, xs.getD k 0 = x := ⟨_, rfl⟩
      have HX : Hid (xs.getD k 0 = x) := hx
      rw [hx] at y0
      clear hx
      go_wp2_with fail
      refine (isWord9_any x _).mono ?_
      rintro e w1 ⟨rfl, h⟩
      replace h := h.symm
      subst h
      clear y0
      cases hf : inB x 0 65535
      · have HF : Hid (xs.all wordB = false) := by
          show _ = _
          rw [List.all_eq_false]
          refine ⟨x, ?_, by rw [← wordB_in, hf]; simp⟩
          rw [← HX.out]
          have hkx : k < xs.length := by rw [HN.out]; exact hlt
          simp [List.getD_eq_getElem?_getD, List.getElem?_eq_getElem hkx]
        clear hf
        go_wp2
        go_ret
        exact ⟨ret_bool HF.out.symm, hB⟩
      · have HT : Hid (∀ i, i < k + 1 → wordB (xs.getD i 0) = true) := fun i hi => by
          by_cases e : i = k
          · subst e; rw [HX.out, ← wordB_in]; exact hf
          · exact HA.out i (by omega)
        clear hf
        go_wp2
        go_roundw
        case rel => exact ⟨k + 1, by omega, by go_num, HT.out, hma, hB⟩
        case measure => simp [intOf]; omega
    · have HT : Hid (xs.all wordB = true) := by
        show _ = _
        rw [List.all_eq_true]
        intro x hx
        obtain ⟨i, hi, rfl⟩ := List.getElem_of_mem hx
        have := HA.out i (by have := HN.out; omega)
        simpa [List.getD_eq_getElem?_getD, List.getElem?_eq_getElem hi] using this
      clear hma
      go_wp2
      go_ret
      exact ⟨ret_bool HT.out.symm, hB⟩


set_option maxRecDepth 100000 in
set_option maxHeartbeats 2000000 in
theorem implHartNew_any (pc : Int) (w : World) : Calls Try.prog 17 #[.int .i64 pc] w (HartP [0, 0, 0, 0] (pc % 24) 0 w) := by
  have HA : Hid (∀ W, Calls Try.prog 31 #[.int .i64 pc] W fun e w' => e = .returned (.int .i64 (pc % 24)) ∧ w' = W) := fun W => addressOf_any pc W
  have hm4 : ∀ W : World, (Instr.makeSlice 22 (.int .i64 4) (.int .i64 4)).run Try.prog W = .ok (.slice (some ⟨W.heap.size, 0, none⟩) 4 4) (W.alloc (.cells (madeCells #[.int .i64 0] 4) 3)) := fun W => run_make_row' (P := Try.prog) 22 3 (.int .i64 0) 8 Try.underlying22 info_i64 rfl .i64 .i64 4 (by decide) (by decide) W
  obtain ⟨q, hq⟩ : ∃ q, pc % 24 = q := ⟨_, rfl⟩
  rw [hq] at HA ⊢
  clear hq
  go_enter Try.func17, Try.ntmps17
  go_wp2_with fail
  go_region_with (go_at_call 31; refine (HA.out _).mono ?_; rintro e w1 ⟨rfl, rfl⟩)
  all_goals
    go_wp2
    refine bodyPost_ret (v := .agg #[.slice (some ⟨w.heap.size + 1, 0, none⟩) 4 4, .int .i64 q, .int .i64 0]) (by simp [results, Try.results17, go_sem]) rfl (hart_of rfl ?_ ?_)
    · have h := owns_made (w.alloc (.cells #[.slice (some ⟨w.heap.size + 1, 0, none⟩) 4 4, .int .i64 q, .int .i64 0] 54)) (.int .i64 0) w.heap.size 4 3 (by simp) (by decide)
      refine own_dr ?_
      simpa using h
    · exact below_drewN (bel_alloc (bel_alloc (Below.refl _ _) _) _) 1
end Go.Proofs.Ytfeabhknkoifeaa
