/- What GetNum does. -/
import Derived.Test.YtidgiklkgmfmcaaSpecGet
namespace Go.Proofs.Ytidgiklkgmfmcaa
open Go.RowKit
set_option linter.unusedVariables false

set_option maxHeartbeats 400000 in
theorem get_out (a : Option Addr) (ca n : Nat) (at' : Int) (w : World) (h : at' < 0 ∨ (n : Int) < at') :
    Calls Try.prog 19 #[.slice a n ca, .int .i64 at'] w fun e w' => e = retGet (0, 0, false) ∧ w' = w := by
  by_cases h0 : at' < 0
  · clear h
    go_enter Try.func19, Try.ntmps19
    go_wp2
    go_ret3
    exact ⟨rfl, rfl⟩
  · have h1 : (n : Int) < at' := by omega
    clear h
    go_enter Try.func19, Try.ntmps19
    go_wp2
    go_ret3
    exact ⟨rfl, rfl⟩

set_option maxHeartbeats 1000000 in
theorem get_mid (a : Option Addr) (ca : Nat) (xs : List Int) (p : Nat) (w : World) (ha : Row .u8 w a xs) (hby : Bytes xs) (hcap : xs.length ≤ ca) (hcm : ca ≤ maxLen) (hp : p < xs.length) :
    Calls Try.prog 19 #[.slice a xs.length ca, .int .i64 p] w fun e w' => e = retGet (getn xs p) ∧ w' = w := by
  unfold maxLen at hcm
  obtain ⟨hl, ha⟩ := ha
  obtain ⟨n, hn⟩ : ∃ n, xs.length = n := ⟨_, rfl⟩
  have HN : Hid (xs.length = n) := hn
  rw [hn] at hl ha hp hcap ⊢
  clear hn
  obtain ⟨r, hr⟩ : ∃ r, getn xs p = r := ⟨_, rfl⟩
  have HR : Hid (gnL 3 (xs.drop p) true 0 1 p = r) := by rw [← hr]; show _ = getn xs p; unfold getn; rw [if_neg (by omega)]; simp
  rw [hr]
  clear hr
  obtain ⟨ba, oa, rfl, hx⟩ := ha p hp
  clear hx
  have hp1 : (p : Int) < (n : Int) := by omega
  have hd1 : decide ((p : Int) < 0) = false := by simp
  have hd2 : decide (n < p) = false := by simp; omega
  have hcell : ∀ i, i < n → w.cell? ⟨ba, oa + i, none⟩ = some (.int .u8 (xs.getD i 0)) := by
    intro i hi
    obtain ⟨b, o, he, hc⟩ := ha i hi
    simp only [Option.some.injEq, Addr.mk.injEq] at he
    rw [he.1, he.2.1]
    exact hc
  clear ha
  go_enter Try.func19, Try.ntmps19
  go_wp2
  go_loop [7, 8, 24] (fun q u i => ∃ (k : Nat) (m : Int), k ≤ 3 ∧ k ≤ n - p ∧ i = .int .i64 k ∧ q = .int .i64 m ∧ u = .int .i64 (w7 k) ∧ 0 ≤ m ∧ m < w7 k ∧ gnL (3 - k) (xs.drop (p + k)) (k == 0) m (w7 k) (p + k) = r) (fun _ _ i => 3 - (intOf i).toNat)
  case atStart => exact ⟨0, 0, by omega, by omega, rfl, rfl, rfl, by omega, by simp [w7], by simpa [w7] using HR.out⟩
  case round =>
    obtain ⟨k, m, hk, hkn, rfl, rfl, rfl, hm0, hm1, hg⟩ := hrel
    have HG : Hid (gnL (3 - k) (xs.drop (p + k)) (k == 0) m (w7 k) (p + k) = r) := hg
    clear hg
    by_cases hin : p + k < n
    · have hca := hcell (p + k) hin
      have hc := hby.at (p + k) (by have := HN.out; omega)
      have hdr : Hid (xs.drop (p + k) = xs.getD (p + k) 0 :: xs.drop (p + k + 1)) := drop_at xs (p + k) (by have := HN.out; omega)
      obtain ⟨c, hce⟩ : ∃ c, xs.getD (p + k) 0 = c := ⟨_, rfl⟩
      rw [hce] at hca hc hdr
      clear hce hcell
      obtain ⟨hc0, hc1⟩ := hc
      have hi1 : (k : Int) < ((n - p : Nat) : Int) := by omega
      rw [← Nat.add_assoc] at hca
      rcases (by omega : k = 0 ∨ k = 1 ∨ k = 2 ∨ k = 3) with rfl | rfl | rfl | rfl
      · rw [Nat.add_zero] at hca
        have hm : m = 0 := by simp [w7] at hm1; omega
        subst hm
        have hG := HG.out
        rw [hdr.out] at hG
        simp only [w7, if_true]
        by_cases hc : c < 128
        · have HF : Hid (r = (0 + c * 1, (p : Int) + 1, true)) := by rw [← hG]; exact gnL_hit 2 c _ true 0 1 p hc (by simp; omega)
          clear hG HG hdr
          go_wp2
          all_goals (go_ret3; rw [HF.out]; exact ⟨ret3_eq (by omega) (by omega), rfl⟩)
        · have HF : Hid (gnL 2 (xs.drop (p + 1)) false (c - 128) 128 (p + 1) = r) := by
            rw [← hG]; have := gnL_go 2 c (xs.drop (p + 1)) true 0 1 p hc; rw [Int.zero_add, Int.mul_one, Int.one_mul] at this; exact this.symm
          clear hG HG hdr
          go_wp2
          go_round
          case rel => exact ⟨1, c - 128, by omega, by omega, rfl, by go_num, rfl, by omega, (by omega : c - 128 < 128), HF.out⟩
          case measure => simp [intOf]
      · have hm : m < 128 := by simpa [w7] using hm1
        clear hm1
        have hG := HG.out
        rw [hdr.out] at hG
        have hw7 : w7 1 = 128 := rfl
        rw [hw7]
        clear hw7
        by_cases hc : c < 128
        · by_cases hz : c = 0
          · have HF : Hid (r = (0, 0, false)) := by rw [← hG]; exact gnL_bad 1 c _ false m 128 _ hc (.inl ⟨hz, rfl⟩)
            clear hG HG hdr
            go_wp2
            all_goals (go_ret3; rw [HF.out]; exact ⟨rfl, rfl⟩)
          · have HF : Hid (r = (m + c * 128, (p : Int) + 1 + 1, true)) := by rw [← hG]; exact gnL_hit 1 c _ false m 128 _ hc (by simp; omega)
            clear hG HG hdr
            have hz' : (c == 0) = false := by simp [hz]
            go_wp2
            all_goals (go_ret3; rw [HF.out]; exact ⟨ret3_eq (by omega) (by omega), rfl⟩)
        · have HF : Hid (gnL 1 (xs.drop (p + 2)) false (m + (c - 128) * 128) 16384 (p + 2) = r) := by
            rw [← hG]; exact (gnL_go 1 c (xs.drop (p + 2)) false m 128 (p + 1) hc).symm
          clear hG HG hdr
          go_wp2
          go_round
          case rel => exact ⟨2, m + (c - 128) * 128, by omega, by omega, rfl, by go_num, rfl, by omega, (by omega : m + (c - 128) * 128 < 16384), HF.out⟩
          case measure => simp [intOf]
      · have hm : m < 16384 := by simpa [w7] using hm1
        clear hm1
        have hG := HG.out
        rw [hdr.out] at hG
        have hw7 : w7 2 = 16384 := rfl
        rw [hw7]
        clear hw7
        by_cases hc : c < 128
        · by_cases hz : c = 0
          · have HF : Hid (r = (0, 0, false)) := by rw [← hG]; exact gnL_bad 0 c _ false m 16384 _ hc (.inl ⟨hz, rfl⟩)
            clear hG HG hdr
            go_wp2
            all_goals (go_ret3; rw [HF.out]; exact ⟨rfl, rfl⟩)
          · have hz' : (c == 0) = false := by simp [hz]
            by_cases hbg : 100000 < m + c * 16384
            · have HF : Hid (r = (0, 0, false)) := by rw [← hG]; exact gnL_bad 0 c _ false m 16384 _ hc (.inr hbg)
              clear hG HG hdr
              go_wp2
              all_goals (go_ret3; rw [HF.out]; exact ⟨rfl, rfl⟩)
            · have HF : Hid (r = (m + c * 16384, (p : Int) + 2 + 1, true)) := by rw [← hG]; exact gnL_hit 0 c _ false m 16384 _ hc (by simp; omega)
              clear hG HG hdr
              go_wp2
              all_goals (go_ret3; rw [HF.out]; exact ⟨ret3_eq (by omega) (by omega), rfl⟩)
        · have HF : Hid (r = (0, 0, false)) := by rw [← hG]; exact gnL_go 0 c _ false m 16384 _ hc
          have HF' : Hid (gnL 0 (xs.drop (p + 3)) false (m + (c - 128) * 16384) 2097152 (p + 3) = r) := by rw [HF.out]; rfl
          clear hG HG hdr HF
          go_wp2
          go_round
          case rel => exact ⟨3, m + (c - 128) * 16384, by omega, by omega, rfl, by go_num, rfl, by omega, by simp [w7]; omega, HF'.out⟩
          case measure => simp [intOf]
      · have HF : Hid (r = (0, 0, false)) := by rw [← HG.out]; rfl
        have hw7 : w7 3 = 2097152 := rfl
        rw [hw7]
        clear hw7 HG hdr
        go_wp2
        all_goals (go_ret3; rw [HF.out]; exact ⟨rfl, rfl⟩)
    · have HF : Hid (r = (0, 0, false)) := by rw [← HG.out, List.drop_eq_nil_of_le (by have := HN.out; omega)]; exact gnL_end _ _ _ _ _
      clear HG
      go_wp2
      all_goals (go_ret3; rw [HF.out]; exact ⟨rfl, rfl⟩)

set_option maxHeartbeats 400000 in
theorem get_end (a : Option Addr) (ca n : Nat) (w : World) (hn : n ≤ 140737488351232) (hcap : n ≤ ca) (hcm : ca ≤ maxLen) :
    Calls Try.prog 19 #[.slice a n ca, .int .i64 n] w fun e w' => e = retGet (0, 0, false) ∧ w' = w := by
  unfold maxLen at hcm
  have hd1 : decide ((n : Int) < 0) = false := by simp
  have hd2 : decide (n < n) = false := by simp
  by_cases hc : ca = n
  · subst hc
    go_enter Try.func19, Try.ntmps19
    go_wp2
    go_loop [24] (fun i => i = .int .i64 0) (fun _ => 0)
    case atStart => rfl
    case round =>
      subst hrel
      go_wp2
      go_ret3
      exact ⟨rfl, rfl⟩
  · go_enter Try.func19, Try.ntmps19
    go_wp2
    go_loop [24] (fun i => i = .int .i64 0) (fun _ => 0)
    case atStart => rfl
    case round =>
      subst hrel
      go_wp2
      go_ret3
      exact ⟨rfl, rfl⟩

theorem get_any (a : Option Addr) (ca : Nat) (xs : List Int) (at' : Int) (w : World) (ha : Row .u8 w a xs) (hby : Bytes xs) (hcap : xs.length ≤ ca) (hcm : ca ≤ maxLen) :
    Calls Try.prog 19 #[.slice a xs.length ca, .int .i64 at'] w fun e w' => e = retGet (getn xs at') ∧ w' = w := by
  by_cases h0 : at' < 0
  · have : getn xs at' = (0, 0, false) := by unfold getn; rw [if_pos h0]
    rw [this]
    exact get_out a ca _ at' w (.inl h0)
  · obtain ⟨p, rfl⟩ := Int.eq_ofNat_of_zero_le (by omega : 0 ≤ at')
    by_cases h1 : p < xs.length
    · exact get_mid a ca xs p w ha hby hcap hcm h1
    · have : getn xs p = (0, 0, false) := by unfold getn; rw [if_neg h0, List.drop_eq_nil_of_le (by simp; omega)]; rfl
      rw [this]
      by_cases h2 : p = xs.length
      · rw [h2]
        exact get_end a ca _ w ha.1 hcap hcm
      · exact get_out a ca _ p w (.inr (by omega))
end Go.Proofs.Ytidgiklkgmfmcaa
