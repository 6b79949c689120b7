/- What impl's HartOk, HartNew, copyHart and runs answer. -/
import Derived.Test.YtiilgkloddflcaaHs9
import Derived.Test.YtiilgkloddflcaaCp0
namespace Go.Proofs.Ytiilgkloddflcaa
open Go.RowKit
set_option linter.unusedVariables false

set_option maxHeartbeats 1000000 in
theorem isWord9_any (x : Int) (w : World) : Calls Try.prog 41 #[.int .i64 x] w fun e w' => e = .returned (.bool (inB x 0 65535)) ∧ w' = w := by
  have HV : Hid (inB x 0 65535 = decide (0 ≤ x ∧ x ≤ 65535)) := by show _ = _; rfl
  by_cases h1 : 0 ≤ x
  · by_cases h2 : x ≤ 65535
    · go_enter Try.func41, Try.ntmps41
      go_wp2
      go_ret
      exact ⟨ret_bool (by rw [HV.out]; simp; omega), rfl⟩
    · go_enter Try.func41, Try.ntmps41
      go_wp2
      go_ret
      exact ⟨ret_bool (by rw [HV.out]; simp; omega), rfl⟩
  · go_enter Try.func41, Try.ntmps41
    go_wp2
    go_ret
    exact ⟨ret_bool (by rw [HV.out]; simp; omega), rfl⟩

set_option maxHeartbeats 1000000 in
theorem isAddress_any (x : Int) (w : World) : Calls Try.prog 39 #[.int .i64 x] w fun e w' => e = .returned (.bool (inB x 0 23)) ∧ w' = w := by
  have HV : Hid (inB x 0 23 = decide (0 ≤ x ∧ x ≤ 23)) := by show _ = _; rfl
  by_cases h1 : 0 ≤ x
  · by_cases h2 : x < 24
    · go_enter Try.func39, Try.ntmps39
      go_wp2
      go_ret
      exact ⟨ret_bool (by rw [HV.out]; simp; omega), rfl⟩
    · go_enter Try.func39, Try.ntmps39
      go_wp2
      go_ret
      exact ⟨ret_bool (by rw [HV.out]; simp; omega), rfl⟩
  · go_enter Try.func39, Try.ntmps39
    go_wp2
    go_ret
    exact ⟨ret_bool (by rw [HV.out]; simp; omega), rfl⟩

set_option maxRecDepth 100000 in
set_option maxHeartbeats 1000000 in
theorem addressOf_any (n : Int) (w : World) : Calls Try.prog 43 #[.int .i64 n] w fun e w' => e = .returned (.int .i64 (n % 24)) ∧ w' = w := by
  have HA : Hid _ := adr_eq n
  obtain ⟨x, hx⟩ : ∃ x, n.tmod 24 = x := ⟨_, rfl⟩
  have hb : -24 < x ∧ x < 24 := by
    rw [← hx]
    by_cases h : 0 ≤ n
    · rw [Int.tmod_eq_emod_of_nonneg h]; omega
    · obtain ⟨m, rfl⟩ : ∃ m, n = -m := ⟨-n, by omega⟩
      rw [Int.neg_tmod, Int.tmod_eq_emod_of_nonneg (by omega)]; omega
  rw [hx] at HA
  obtain ⟨hb1, hb2⟩ := hb
  by_cases h0 : x < 0
  · have HE : Hid (x + 24 = n % 24) := by have := HA.out; rw [if_pos h0] at this; exact this
    go_enter Try.func43, Try.ntmps43
    go_wp2
    go_ret
    exact ⟨by rw [← HE.out]; first | rfl | go_num, rfl⟩
  · have HE : Hid (x = n % 24) := by have := HA.out; rw [if_neg h0] at this; exact this
    go_enter Try.func43, Try.ntmps43
    go_wp2
    go_ret
    exact ⟨by rw [← HE.out]; first | rfl | go_num, rfl⟩

set_option maxRecDepth 100000 in
set_option maxHeartbeats 1000000 in
theorem wrapped_any (n : Int) (w : World) : Calls Try.prog 46 #[.int .i64 n] w fun e w' => e = .returned (.int .i64 (n % 65536)) ∧ w' = w := by
  have H := and65535 n
  go_enter Try.func46, Try.ntmps46
  go_wp2
  go_ret
  exact ⟨rfl, rfl⟩

theorem wordB_in (x : Int) : inB x 0 65535 = wordB x := rfl

set_option maxRecDepth 100000 in
set_option maxHeartbeats 1000000 in
theorem allOkI_any (a : Option Addr) (c : Nat) (xs : List Int) (w : World) (ha : Row .i64 w a xs) (hl : xs.length ≤ 1048577) :
    Calls Try.prog 40 #[.slice a xs.length c, .func (.func 41) #[] #[]] w fun e w' => e = .returned (.bool (xs.all wordB)) ∧ Below w.heap.size w w' := by
  obtain ⟨n, hn⟩ : ∃ n, xs.length = n := ⟨_, rfl⟩
  have HN : Hid (xs.length = n) := hn
  rw [hn] at hl ⊢
  clear hn
  go_enter Try.func40, Try.ntmps40
  go_wp2
  go_loopw [9] (fun i wr => ∃ k : Nat, k ≤ n ∧ i = .int .i64 k ∧ (∀ i, i < k → wordB (xs.getD i 0) = true) ∧ Row .i64 wr a xs ∧ Below w.heap.size w wr) (fun i _ => n - (intOf i).toNat)
  case atStart => exact ⟨0, Nat.zero_le _, rfl, fun i hi => absurd hi (Nat.not_lt_zero i), ha, Below.refl _ _⟩
  case round =>
    obtain ⟨k, hk, rfl, hall, hma, hB⟩ := hrel
    have HA : Hid (∀ i, i < k → wordB (xs.getD i 0) = true) := hall
    clear hall ha
    by_cases hlt : k < n
    · have hi : (k : Int) < (n : Int) := by omega
      obtain ⟨ba, oa, rfl, y0⟩ := hma.2 k (by rw [HN.out]; exact hlt)
      obtain ⟨x, hx⟩ : ∃ x, xs.getD k 0 = x := ⟨_, rfl⟩
      have HX : Hid (xs.getD k 0 = x) := hx
      rw [hx] at y0
      clear hx
      go_wp2_with fail
      refine (isWord9_any x _).mono ?_
      rintro e w1 ⟨rfl, h⟩
      replace h := h.symm
      subst h
      clear y0
      cases hf : inB x 0 65535
      · have HF : Hid (xs.all wordB = false) := by
          show _ = _
          rw [List.all_eq_false]
          refine ⟨x, ?_, by rw [← wordB_in, hf]; simp⟩
          rw [← HX.out]
          have hkx : k < xs.length := by rw [HN.out]; exact hlt
          simp [List.getD_eq_getElem?_getD, List.getElem?_eq_getElem hkx]
        clear hf
        go_wp2
        go_ret
        exact ⟨ret_bool HF.out.symm, hB⟩
      · have HT : Hid (∀ i, i < k + 1 → wordB (xs.getD i 0) = true) := fun i hi => by
          by_cases e : i = k
          · subst e; rw [HX.out, ← wordB_in]; exact hf
          · exact HA.out i (by omega)
        clear hf
        go_wp2
        go_roundw
        case rel => exact ⟨k + 1, by omega, by go_num, HT.out, hma, hB⟩
        case measure => simp [intOf]; omega
    · have HT : Hid (xs.all wordB = true) := by
        show _ = _
        rw [List.all_eq_true]
        intro x hx
        obtain ⟨i, hi, rfl⟩ := List.getElem_of_mem hx
        have := HA.out i (by have := HN.out; omega)
        simpa [List.getD_eq_getElem?_getD, List.getElem?_eq_getElem hi] using this
      clear hma
      go_wp2
      go_ret
      exact ⟨ret_bool HT.out.symm, hB⟩

set_option maxRecDepth 100000 in
set_option maxHeartbeats 2000000 in
theorem implHartOk_any (a : Option Addr) (c : Nat) (xs : List Int) (pc st : Int) (w : World) (ha : Row .i64 w a xs) (hl : xs.length ≤ 1048577) :
    Calls Try.prog 12 #[.agg #[.slice a xs.length c, .int .i64 pc, .int .i64 st]] w fun e w' => e = .returned (.bool (hartB xs pc st)) ∧ Below w.heap.size w w' := by
  have bA := bel_alloc (Below.refl w.heap.size w) (.cells #[.slice a xs.length c, .int .i64 pc, .int .i64 st] 27)
  have hr := ha.below bA
  clear ha
  by_cases hk : st = 0 ∨ st = 1 ∨ st = 2
  · have hs : inB st 0 2 = true := by simp [inB]; omega
    cases h2 : inB pc 0 23
    · have H2 : Hid (inB pc 0 23 = false) := h2
      have HV : Hid (hartB xs pc st = false) := by show _ = _; unfold hartB; rw [h2]; simp
      clear h2 hs
      rcases hk with rfl | rfl | rfl
      all_goals
        go_enter Try.func12, Try.ntmps12
        go_wp2_with fail
        refine (isAddress_any pc _).mono ?_
        rintro e w1 ⟨rfl, h⟩
        replace h := h.symm
        subst h
        rw [H2.out]
        go_wp2
        go_ret
        exact ⟨ret_bool HV.out.symm, bA⟩
    · have H2 : Hid (inB pc 0 23 = true) := h2
      by_cases h4 : xs.length = 4
      · have H4 : Hid (xs.length = 4) := h4
        have HV : Hid (hartB xs pc st = xs.all wordB) := by show _ = _; unfold hartB wordsB; rw [h2, hs, h4]; simp
        have HA := allOkI_any a c xs (w.alloc (.cells #[.slice a xs.length c, .int .i64 pc, .int .i64 st] 27)) hr hl
        rw [h4] at HA bA ⊢
        have HA' : Hid _ := HA
        clear h2 hs h4 hr HA hl
        rcases hk with rfl | rfl | rfl
        all_goals
          go_enter Try.func12, Try.ntmps12
          go_wp2_with fail
          refine (isAddress_any pc _).mono ?_
          rintro e w1 ⟨rfl, h⟩
          replace h := h.symm
          subst h
          rw [H2.out]
          go_wp2_with fail
          refine Calls.mono HA'.out ?_
          rintro e w2 ⟨rfl, b2⟩
          obtain ⟨ok, hok⟩ : ∃ ok, xs.all wordB = ok := ⟨_, rfl⟩
          have B := bel_trans bA b2
          rw [hok] at HV ⊢
          clear hok bA b2 HA'
          go_wp2
          go_ret
          exact ⟨ret_bool HV.out.symm, B⟩
      · have HV : Hid (hartB xs pc st = false) := by show _ = _; unfold hartB wordsB; rw [show ((xs.length : Int) == 4) = false by simp; omega]; simp
        obtain ⟨n, hn⟩ : ∃ n, xs.length = n := ⟨_, rfl⟩
        rw [hn] at h4 bA hr hl ⊢
        have e4 : ((n : Int) == 4) = false := by simp; omega
        clear h2 hs hn hr
        rcases hk with rfl | rfl | rfl
        all_goals
          go_enter Try.func12, Try.ntmps12
          go_wp2_with fail
          refine (isAddress_any pc _).mono ?_
          rintro e w1 ⟨rfl, h⟩
          replace h := h.symm
          subst h
          rw [H2.out]
          go_wp2
          go_ret
          exact ⟨ret_bool HV.out.symm, bA⟩
  · have HV : Hid (hartB xs pc st = false) := by show _ = _; unfold hartB; rw [show inB st 0 2 = false by simp [inB]; omega]; simp
    have e0 : (st == 0) = false := by simp; omega
    have e1 : (st == 1) = false := by simp; omega
    have e2 : (st == 2) = false := by simp; omega
    clear hk
    go_enter Try.func12, Try.ntmps12
    go_wp2
    go_ret
    exact ⟨ret_bool HV.out.symm, bA⟩

set_option maxRecDepth 100000 in
set_option maxHeartbeats 2000000 in
theorem implHartNew_any (pc : Int) (w : World) : Calls Try.prog 15 #[.int .i64 pc] w (HartP [0, 0, 0, 0] (pc % 24) 0 w) := by
  have HA : Hid (∀ W, Calls Try.prog 43 #[.int .i64 pc] W fun e w' => e = .returned (.int .i64 (pc % 24)) ∧ w' = W) := fun W => addressOf_any pc W
  have hm4 : ∀ W : World, (Instr.makeSlice 22 (.int .i64 4) (.int .i64 4)).run Try.prog W = .ok (.slice (some ⟨W.heap.size, 0, none⟩) 4 4) (W.alloc (.cells (madeCells #[.int .i64 0] 4) 3)) := fun W => run_make_row' (P := Try.prog) 22 3 (.int .i64 0) 8 Try.underlying22 info_i64 rfl .i64 .i64 4 (by decide) (by decide) W
  obtain ⟨q, hq⟩ : ∃ q, pc % 24 = q := ⟨_, rfl⟩
  rw [hq] at HA ⊢
  clear hq
  go_enter Try.func15, Try.ntmps15
  go_wp2_with fail
  go_region_with (go_at_call 43; refine (HA.out _).mono ?_; rintro e w1 ⟨rfl, rfl⟩)
  all_goals
    go_wp2
    refine bodyPost_ret (v := .agg #[.slice (some ⟨w.heap.size + 1, 0, none⟩) 4 4, .int .i64 q, .int .i64 0]) (by simp [results, Try.results15, go_sem]) rfl (hart_of rfl ?_ ?_)
    · have h := owns_made (w.alloc (.cells #[.slice (some ⟨w.heap.size + 1, 0, none⟩) 4 4, .int .i64 q, .int .i64 0] 27)) (.int .i64 0) w.heap.size 4 3 (by simp) (by decide)
      refine own_dr ?_
      simpa using h
    · exact below_drewN (bel_alloc (bel_alloc (Below.refl _ _) _) _) 1

set_option maxRecDepth 100000 in
set_option maxHeartbeats 2000000 in
theorem copyHart_any (a : Option Addr) (c : Nat) (xs : List Int) (pc st : Int) (w : World) (hsm : xs.length ≤ 1048577) (ha : Row .i64 w a xs) :
    Calls Try.prog 49 #[.agg #[.slice a xs.length c, .int .i64 pc, .int .i64 st]] w (HartP xs pc st w) := by
  have bA := bel_alloc (bel_alloc (Below.refl w.heap.size w) (.cells #[.slice a xs.length c, .int .i64 pc, .int .i64 st] 27)) (.cells #[.slice none 0 0, .int .i64 0, .int .i64 0] 27)
  have hv := ha.below bA
  obtain ⟨X0, X1⟩ := Box.two w #[.slice a xs.length c, .int .i64 pc, .int .i64 st] #[.slice none 0 0, .int .i64 0, .int .i64 0] 27 27
  clear ha
  go_enter Try.func49, Try.ntmps49
  go_wp2_with fail
  refine (copyInts_any a c xs _ hsm hv).mono ?_
  rintro e w5 ⟨v5, rfl, o5, b5⟩
  obtain ⟨a5, c5, rfl⟩ := owns_slice o5
  replace X0 := X0.below b5
  replace X1 := X1.below b5
  have B5 : Hid (Below w.heap.size w w5) := bel_trans bA b5
  have hlt : Hid (∀ j, (Value.slice a5 xs.length c5).ownBlock = some j → w.heap.size + 2 ≤ j) := fun j h => by have := (o5.lt j h).1; simp at this; omega
  have HO : Hid (w5.ownsRow (w.heap.size + 1 + 1) 3 1 (.slice a5 xs.length c5) xs.length (xs.map (Value.int .i64))) := by
    have h := o5
    simp only [World.size_alloc] at h
    exact h
  obtain ⟨x0, x1, x2, xz⟩ := X0.at3
  have fz0 := X0.frozen 0
  obtain ⟨y0, y1, y2, yz⟩ := X1.at3
  have fy0 := X1.frozen 0
  have fy1 := X1.frozen 1
  have fy2 := X1.frozen 2
  clear X0 X1 o5 b5 bA hv
  obtain ⟨n, hn⟩ : ∃ n, xs.length = n := ⟨_, rfl⟩
  have HN : Hid (xs.length = n) := hn
  rw [hn] at x0 hsm hlt HO ⊢
  clear hn
  go_wp2
  refine bodyPost_ret (v := .agg #[.slice a5 n c5, .int .i64 pc, .int .i64 st]) (by simp [results, Try.results49, go_sem, y0, y1, y2]) rfl (hart_of HN.out ?_ ?_)
  · repeat refine owns_setCell ?_ ?_ _
    · exact owns_base HO.out (by omega)
    all_goals (intro j h; have := hlt.out j h; simp; omega)
  · repeat refine bel_setCell ?_ _ _ ?_
    · exact B5.out
    all_goals (simp; try omega)

set_option maxRecDepth 100000 in
set_option maxHeartbeats 2000000 in
theorem runs_any (a : Option Addr) (c : Nat) (xs : List Int) (pc st : Int) (w : World) (ha : Row .i64 w a xs) (hl : xs.length ≤ 1048577) :
    Calls Try.prog 50 #[.agg #[.slice a xs.length c, .int .i64 pc, .int .i64 st]] w fun e w' => e = .returned (.bool (hartB xs pc st && (st == 0))) ∧ Below w.heap.size w w' := by
  have bA := bel_alloc (Below.refl w.heap.size w) (.cells #[.slice a xs.length c, .int .i64 pc, .int .i64 st] 27)
  have hr := ha.below bA
  have X0 := Box.new w #[.slice a xs.length c, .int .i64 pc, .int .i64 st] 27
  clear ha
  go_enter Try.func50, Try.ntmps50
  go_wp2_with fail
  refine (implHartOk_any a c xs pc st _ hr hl).mono ?_
  rintro e w1 ⟨rfl, b1⟩
  replace X0 := X0.below b1
  have B := bel_trans bA b1
  clear bA b1 hr
  obtain ⟨x0, x1, x2, xz⟩ := X0.at3
  obtain ⟨ok, hok⟩ : ∃ ok, hartB xs pc st = ok := ⟨_, rfl⟩
  have HK : Hid (hartB xs pc st = ok) := hok
  rw [hok]
  clear hok X0 hl
  cases ok
  · go_wp2
    go_ret
    exact ⟨ret_bool (by rw [HK.out]; rfl), B⟩
  · by_cases h0 : st = 0
    · subst h0
      go_wp2
      go_ret
      exact ⟨ret_bool (by rw [HK.out]; rfl), B⟩
    · have e0 : (st == 0) = false := by simpa using h0
      have HE : Hid ((st == 0) = false) := e0
      go_wp2
      go_ret
      exact ⟨ret_bool (by rw [HK.out, HE.out]; rfl), B⟩
end Go.Proofs.Ytiilgkloddflcaa
