/- What impl's SameHart answers of any two harts (slices.Equal of two rows of numbers first). -/
import Derived.Test.YtllbpkimeadbmaaSa1
import Derived.BigQuiet
namespace Go.Proofs.Ytllbpkimeadbmaa
open Go.RowKit
set_option linter.unusedVariables false

set_option maxRecDepth 100000 in
set_option maxHeartbeats 4000000 in
theorem equalI_any (a b : Option Addr) (ca cb : Nat) (xs ys : List Int) (w : World) (hn : xs.length ≤ 1048577) (hm : ys.length ≤ 1048577) (ha : Row .i64 w a xs) (hb : Row .i64 w b ys) :
    Calls Try.prog 12 #[.slice a xs.length ca, .slice b ys.length cb] w fun e w' => e = .returned (.bool (decide (xs = ys))) ∧ Below w.heap.size w w' := by
  obtain ⟨n, hx⟩ : ∃ n, xs.length = n := ⟨_, rfl⟩
  obtain ⟨m, hy⟩ : ∃ n, ys.length = n := ⟨_, rfl⟩
  rw [hx] at hn ⊢
  rw [hy] at hm ⊢
  have HX : Hid (xs.length = n ∧ ys.length = m) := ⟨hx, hy⟩
  have HA : Hid (Row .i64 w a xs) := ha
  have HB : Hid (Row .i64 w b ys) := hb
  clear hx hy ha hb
  by_cases hnm : n = m
  · subst hnm
    go_enter Try.func12, Try.ntmps12
    go_wp2_with fail
    go_loopw [13] (fun i wr => ∃ k : Nat, k ≤ n ∧ i = .int .i64 k ∧ (∀ j, j < k → xs.getD j 0 = ys.getD j 0) ∧ Below w.heap.size w wr) (fun i _ => n - (intOf i).toNat)
    case atStart => exact ⟨0, Nat.zero_le _, rfl, fun j hj => absurd hj (Nat.not_lt_zero j), Below.refl _ _⟩
    case round =>
      obtain ⟨k, hk, rfl, hd, hB⟩ := hrel
      have HD : Hid (∀ j, j < k → xs.getD j 0 = ys.getD j 0) := hd
      clear hd
      by_cases hlt : k < n
      · have hi : (k : Int) < (n : Int) := by omega
        have hbb : Hid (Below w.heap.size w wr) := hB
        obtain ⟨ba, oa, ea, hca⟩ := (HA.out.below hB).2 k (by have := HX.out.1; omega)
        obtain ⟨bb, ob, eb, hcb⟩ := (HB.out.below hB).2 k (by have := HX.out.2; omega)
        subst ea eb
        obtain ⟨x, ex⟩ : ∃ x, xs.getD k 0 = x := ⟨_, rfl⟩
        obtain ⟨y, ey⟩ : ∃ x, ys.getD k 0 = x := ⟨_, rfl⟩
        rw [ex] at hca
        rw [ey] at hcb
        have HXY : Hid (xs.getD k 0 = x ∧ ys.getD k 0 = y) := ⟨ex, ey⟩
        clear ex ey hB
        by_cases hxy : x = y
        · subst hxy
          go_wp2_with fail
          go_quiet (fail)
          have HF : Hid (Below w.heap.size w _) := below_drewN hbb.out nq
          have HD2 : Hid (∀ j, j < k + 1 → xs.getD j 0 = ys.getD j 0) := fun j hj => by
            by_cases e : j = k
            · subst e; rw [HXY.out.1, HXY.out.2]
            · exact HD.out j (by omega)
          go_wp2
          go_roundw
          case rel => exact ⟨k + 1, by omega, by go_num, HD2.out, HF.out⟩
          case measure => simp [intOf]; omega
        · have hne : (x == y) = false := by simpa using hxy
          have HV : Hid (decide (xs = ys) = false) := ints_bad2 (k := k) (by rw [HXY.out.1, HXY.out.2]; exact hxy)
          go_wp2_with fail
          go_quiet (fail)
          have HF : Hid (Below w.heap.size w _) := below_drewN hbb.out nq
          go_wp2
          go_ret
          exact ⟨ret_bool HV.out.symm, HF.out⟩
      · have hkn : k = n := by omega
        subst hkn
        have HV : Hid (decide (xs = ys) = true) := ints_ok2 HX.out.1 HX.out.2 (fun j hj => HD.out j hj)
        go_wp2
        go_ret
        exact ⟨ret_bool HV.out.symm, hB⟩
  · have HV : Hid (decide (xs = ys) = false) := by
      show _ = _
      simp only [decide_eq_false_iff_not]
      intro e
      have h1 := HX.out.1
      have h2 := HX.out.2
      rw [e] at h1
      omega
    have hne : ((n : Int) == (m : Int)) = false := by simp; omega
    go_enter Try.func12, Try.ntmps12
    go_wp2
    go_ret
    exact ⟨ret_bool HV.out.symm, Below.refl _ _⟩

set_option maxRecDepth 100000 in
set_option maxHeartbeats 2000000 in
theorem implSameHart_any (a b : Option Addr) (ca cb : Nat) (xs ys : List Int) (pc st pd su : Int) (w : World) (hn : xs.length ≤ 1048577) (hm : ys.length ≤ 1048577) (ha : Row .i64 w a xs) (hb : Row .i64 w b ys) :
    Calls Try.prog 7 #[.agg #[.slice a xs.length ca, .int .i64 pc, .int .i64 st], .agg #[.slice b ys.length cb, .int .i64 pd, .int .i64 su]] w fun e w' => e = .returned (.bool (sameHB xs pc st ys pd su)) ∧ Below w.heap.size w w' := by
  have bA := bel_alloc (bel_alloc (Below.refl w.heap.size w) (.cells #[.slice a xs.length ca, .int .i64 pc, .int .i64 st] 27)) (.cells #[.slice b ys.length cb, .int .i64 pd, .int .i64 su] 27)
  have ha1 := ha.below bA
  have hb1 := hb.below bA
  clear ha hb
  by_cases h1 : pc = pd
  · subst h1
    by_cases h2 : st = su
    · subst h2
      have HV : Hid (sameHB xs pc st ys pc st = decide (xs = ys)) := by show _ = _; simp [sameHB]
      go_enter Try.func7, Try.ntmps7
      go_wp2_with fail
      refine (equalI_any a b ca cb xs ys _ hn hm ha1 hb1).mono ?_
      rintro e w1 ⟨rfl, b1⟩
      have B := bel_trans bA b1
      obtain ⟨z, hz⟩ : ∃ z, decide (xs = ys) = z := ⟨_, rfl⟩
      rw [hz] at HV ⊢
      clear hz bA b1 ha1 hb1
      go_wp2
      go_ret
      exact ⟨ret_bool HV.out.symm, B⟩
    · have e2 : (st == su) = false := by simpa using h2
      have HV : Hid (sameHB xs pc st ys pc su = false) := by show _ = _; simp [sameHB, e2]
      clear ha1 hb1
      go_enter Try.func7, Try.ntmps7
      go_wp2
      go_ret
      exact ⟨ret_bool HV.out.symm, bA⟩
  · have e1 : (pc == pd) = false := by simpa using h1
    have HV : Hid (sameHB xs pc st ys pd su = false) := by show _ = _; simp [sameHB, e1]
    clear ha1 hb1
    go_enter Try.func7, Try.ntmps7
    go_wp2
    go_ret
    exact ⟨ret_bool HV.out.symm, bA⟩
end Go.Proofs.Ytllbpkimeadbmaa
