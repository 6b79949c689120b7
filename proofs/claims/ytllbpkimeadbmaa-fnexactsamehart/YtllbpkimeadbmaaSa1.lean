/- What the specification's l7Ints and SameHart answer of any two rows. -/
import Derived.Test.YtllbpkimeadbmaaHr9
import Derived.BigQuiet
namespace Go.Proofs.Ytllbpkimeadbmaa
open Go.RowKit
set_option linter.unusedVariables false

theorem ints_bad2 {xs ys : List Int} {k : Nat} (h : xs.getD k 0 ≠ ys.getD k 0) : decide (xs = ys) = false := by
  simp only [decide_eq_false_iff_not]
  intro e
  exact h (by rw [e])
theorem ints_ok2 {xs ys : List Int} {n : Nat} (hx : xs.length = n) (hy : ys.length = n) (h : ∀ j, j < n → xs.getD j 0 = ys.getD j 0) : decide (xs = ys) = true := by
  simp only [decide_eq_true_eq]
  refine List.ext_getElem (by omega) (fun i h1 h2 => ?_)
  have := h i (by omega)
  simpa [List.getD_eq_getElem?_getD, List.getElem?_eq_getElem h1, List.getElem?_eq_getElem h2] using this

set_option maxRecDepth 100000 in
set_option maxHeartbeats 2000000 in
theorem l7Ints_gen (a b : Option Addr) (ca cb : Nat) (xs ys : List Int) (w : World) (hn : xs.length ≤ 1048577) (hm : ys.length ≤ 1048577) (ha : Row .i64 w a xs) (hb : Row .i64 w b ys) :
    Calls Try.prog 10 #[.slice a xs.length ca, .slice b ys.length cb] w fun e w' => e = .returned (.bool (decide (xs = ys))) ∧ Below w.heap.size w w' := by
  obtain ⟨n, hx⟩ : ∃ n, xs.length = n := ⟨_, rfl⟩
  obtain ⟨m, hy⟩ : ∃ n, ys.length = n := ⟨_, rfl⟩
  rw [hx] at hn ⊢
  rw [hy] at hm ⊢
  have HX : Hid (xs.length = n ∧ ys.length = m) := ⟨hx, hy⟩
  have HA : Hid (Row .i64 w a xs) := ha
  have HB : Hid (Row .i64 w b ys) := hb
  clear hx hy ha hb
  go_enter Try.func10, Try.ntmps10
  go_wp2
  go_loopw [5] (fun i wr => ∃ k : Nat, k ≤ n ∧ k ≤ m ∧ i = .int .i64 k ∧ (∀ j, j < k → xs.getD j 0 = ys.getD j 0) ∧ Below w.heap.size w wr) (fun i _ => n - (intOf i).toNat)
  case atStart => exact ⟨0, Nat.zero_le _, Nat.zero_le _, rfl, fun j hj => absurd hj (Nat.not_lt_zero j), Below.refl _ _⟩
  case round =>
    obtain ⟨k, hk, hk2, rfl, hd, hB⟩ := hrel
    have HD : Hid (∀ j, j < k → xs.getD j 0 = ys.getD j 0) := hd
    clear hd
    by_cases hlt : k < n
    · have hi : (k : Int) < (n : Int) := by omega
      by_cases hlm : k < m
      · have hj : (k : Int) < (m : Int) := by omega
        have hbb : Hid (Below w.heap.size w wr) := hB
        obtain ⟨ba, oa, ea, hca⟩ := (HA.out.below hB).2 k (by have := HX.out.1; omega)
        obtain ⟨bb, ob, eb, hcb⟩ := (HB.out.below hB).2 k (by have := HX.out.2; omega)
        subst ea eb
        obtain ⟨x, ex⟩ : ∃ x, xs.getD k 0 = x := ⟨_, rfl⟩
        obtain ⟨y, ey⟩ : ∃ x, ys.getD k 0 = x := ⟨_, rfl⟩
        rw [ex] at hca
        rw [ey] at hcb
        have HXY : Hid (xs.getD k 0 = x ∧ ys.getD k 0 = y) := ⟨ex, ey⟩
        clear ex ey hB
        by_cases hxy : x = y
        · subst hxy
          go_wp2
          go_quiet (fail)
          have HF : Hid (Below w.heap.size w _) := below_drewN hbb.out nq
          have HD2 : Hid (∀ j, j < k + 1 → xs.getD j 0 = ys.getD j 0) := fun j hj => by
            by_cases e : j = k
            · subst e; rw [HXY.out.1, HXY.out.2]
            · exact HD.out j (by omega)
          go_wp2
          go_roundw
          case rel => exact ⟨k + 1, by omega, by omega, by go_num, HD2.out, HF.out⟩
          case measure => simp [intOf]; omega
        · have hne : (x == y) = false := by simpa using hxy
          have HV : Hid (decide (xs = ys) = false) := ints_bad2 (k := k) (by rw [HXY.out.1, HXY.out.2]; exact hxy)
          go_wp2
          go_quiet (fail)
          have HF : Hid (Below w.heap.size w _) := below_drewN hbb.out nq
          go_wp2
          go_ret
          exact ⟨ret_bool HV.out.symm, HF.out⟩
      · have hj : ¬ (k : Int) < (m : Int) := by omega
        have HV : Hid (decide (xs = ys) = false) := by
          show _ = _
          simp only [decide_eq_false_iff_not]
          intro e
          have h1 := HX.out.1
          have h2 := HX.out.2
          rw [e] at h1
          omega
        have hnm : ((n : Int) == (m : Int)) = false := by simp; omega
        go_wp2
        go_ret
        exact ⟨ret_bool HV.out.symm, hB⟩
    · have hkn : k = n := by omega
      subst hkn
      by_cases hnm : k = m
      · subst hnm
        have HV : Hid (decide (xs = ys) = true) := ints_ok2 HX.out.1 HX.out.2 (fun j hj => HD.out j hj)
        go_wp2
        go_ret
        exact ⟨ret_bool HV.out.symm, hB⟩
      · have HV : Hid (decide (xs = ys) = false) := by
          show _ = _
          simp only [decide_eq_false_iff_not]
          intro e
          have h1 := HX.out.1
          have h2 := HX.out.2
          rw [e] at h1
          omega
        have hne : ((k : Int) == (m : Int)) = false := by simp; omega
        go_wp2
        go_ret
        exact ⟨ret_bool HV.out.symm, hB⟩

/-- Two harts that are alike. -/
def sameHB (xs : List Int) (pc st : Int) (ys : List Int) (pd su : Int) : Bool := (pc == pd) && ((st == su) && decide (xs = ys))

set_option maxRecDepth 100000 in
set_option maxHeartbeats 2000000 in
theorem specSameHart_any (a b : Option Addr) (ca cb : Nat) (xs ys : List Int) (pc st pd su : Int) (w : World) (hn : xs.length ≤ 1048577) (hm : ys.length ≤ 1048577) (ha : Row .i64 w a xs) (hb : Row .i64 w b ys) :
    Calls Try.prog 5 #[.agg #[.slice a xs.length ca, .int .i64 pc, .int .i64 st], .agg #[.slice b ys.length cb, .int .i64 pd, .int .i64 su]] w fun e w' => e = .returned (.bool (sameHB xs pc st ys pd su)) ∧ Below w.heap.size w w' := by
  have bA := bel_alloc (bel_alloc (Below.refl w.heap.size w) (.cells #[.slice a xs.length ca, .int .i64 pc, .int .i64 st] 27)) (.cells #[.slice b ys.length cb, .int .i64 pd, .int .i64 su] 27)
  have ha1 := ha.below bA
  have hb1 := hb.below bA
  clear ha hb
  by_cases h1 : pc = pd
  · subst h1
    by_cases h2 : st = su
    · subst h2
      have HV : Hid (sameHB xs pc st ys pc st = decide (xs = ys)) := by show _ = _; simp [sameHB]
      go_enter Try.func5, Try.ntmps5
      go_wp2_with fail
      refine (l7Ints_gen a b ca cb xs ys _ hn hm ha1 hb1).mono ?_
      rintro e w1 ⟨rfl, b1⟩
      have B := bel_trans bA b1
      obtain ⟨z, hz⟩ : ∃ z, decide (xs = ys) = z := ⟨_, rfl⟩
      rw [hz] at HV ⊢
      clear hz bA b1 ha1 hb1
      go_wp2
      go_ret
      exact ⟨ret_bool HV.out.symm, B⟩
    · have e2 : (st == su) = false := by simpa using h2
      have HV : Hid (sameHB xs pc st ys pc su = false) := by show _ = _; simp [sameHB, e2]
      clear ha1 hb1
      go_enter Try.func5, Try.ntmps5
      go_wp2
      go_ret
      exact ⟨ret_bool HV.out.symm, bA⟩
  · have e1 : (pc == pd) = false := by simpa using h1
    have HV : Hid (sameHB xs pc st ys pd su = false) := by show _ = _; simp [sameHB, e1]
    clear ha1 hb1
    go_enter Try.func5, Try.ntmps5
    go_wp2
    go_ret
    exact ⟨ret_bool HV.out.symm, bA⟩
end Go.Proofs.Ytllbpkimeadbmaa
