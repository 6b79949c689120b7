/- What the specification's MsgOk does. -/
import Derived.Test.YtidgiklkgmfmcaaMsg
import Derived.Test.YtidgiklkgmfmcaaOkB
import Derived.Test.YtidgiklkgmfmcaaSpecIn
namespace Go.Proofs.Ytidgiklkgmfmcaa
open Go.RowKit
set_option linter.unusedVariables false

set_option maxHeartbeats 400000 in
theorem specWords_any (a : Option Addr) (ca : Nat) (xs : List Int) (m : Int) (w : World) (ha : Row .i64 w a xs) :
    Calls Try.prog 25 #[.slice a xs.length ca, .int .i64 m] w fun e w' => e = .returned (.bool (wordsB xs m)) ∧ w' = w := by
  obtain ⟨hl, ha⟩ := ha
  obtain ⟨n, hn⟩ : ∃ n, xs.length = n := ⟨_, rfl⟩
  have HN : Hid (xs.length = n) := hn
  rw [hn] at hl ha ⊢
  clear hn
  go_enter Try.func25, Try.ntmps25
  go_wp2
  go_loop [5] (fun i => ∃ k : Nat, k ≤ n ∧ i = .int .i64 k ∧ (xs.take k).all wordB = true) (fun i => n - (intOf i).toNat)
  case atStart => exact ⟨0, Nat.zero_le _, rfl, by simp⟩
  case round =>
    obtain ⟨k, hk, rfl, hg⟩ := hrel
    have HG : Hid ((xs.take k).all wordB = true) := hg
    clear hg
    by_cases hlt : k < n
    · obtain ⟨ba, oa, rfl, hca⟩ := ha k hlt
      have hi : (k : Int) < (n : Int) := by omega
      have H1 : Hid ((xs.take (k + 1)).all wordB = wordB (xs.getD k 0)) := by show _ = _; rw [all_take xs k (by have := HN.out; omega), HG.out, Bool.true_and]
      obtain ⟨c, hce⟩ : ∃ c, xs.getD k 0 = c := ⟨_, rfl⟩
      have HC : Hid (xs.getD k 0 = c) := hce
      rw [hce] at hca
      clear ha hce
      by_cases hw : 0 ≤ c ∧ c ≤ 65535
      · have hd : decide (0 ≤ c ∧ c ≤ 65535) = true := decide_eq_true hw
        clear hw
        go_wp2_with (go_at_call 24; refine (specIn_any _ _ _ _).mono ?_; rintro e w1 ⟨rfl, rfl⟩)
        go_round
        case rel => exact ⟨k + 1, by omega, by go_num, by rw [H1.out, HC.out]; exact hd⟩
        case measure => simp [intOf]; omega
      · have hd : decide (0 ≤ c ∧ c ≤ 65535) = false := decide_eq_false hw
        clear hw
        go_wp2_with (go_at_call 24; refine (specIn_any _ _ _ _).mono ?_; rintro e w1 ⟨rfl, rfl⟩)
        go_ret
        refine ⟨ret_bool ?_, rfl⟩
        unfold wordsB
        rw [all_bad xs k (by have := HN.out; omega) (by rw [HC.out]; exact hd)]
        rfl
    · go_wp2
      go_ret
      have e : xs.take k = xs := List.take_of_length_le (by have := HN.out; omega)
      have hall := HG.out
      rw [e] at hall
      refine ⟨ret_bool ?_, rfl⟩
      unfold wordsB
      rw [hall, HN.out]
      rfl

theorem msgOk_kind {k p : Int} {o : Bool} {xs : List Int} (h : decide (1 ≤ k ∧ k ≤ 7) = false) : msgOkB k p o xs = false := by simp [msgOkB, h]
theorem msgOk_page {k p : Int} {o : Bool} {xs : List Int} (h : decide (0 ≤ p ∧ p ≤ 5) = false) : msgOkB k p o xs = false := by simp [msgOkB, h]

set_option maxHeartbeats 1000000 in
theorem specMsgOk_any (k p : Int) (o : Bool) (a : Option Addr) (ca : Nat) (xs : List Int) (w : World) (ha : Row .i64 w a xs) :
    Calls Try.prog 8 #[.agg #[.int .i64 k, .int .i64 p, .bool o, .slice a xs.length ca]] w fun e w' => e = .returned (.bool (msgOkB k p o xs)) ∧ Below w.heap.size w w' := by
  have bA := bel_alloc (Below.refl w.heap.size w) (.cells #[.int .i64 k, .int .i64 p, .bool o, .slice a xs.length ca] 27)
  have hr := ha.below bA
  by_cases hp : 0 ≤ p ∧ p ≤ 5
  · have hpd : decide (0 ≤ p ∧ p ≤ 5) = true := decide_eq_true hp
    clear hp
    by_cases h3 : k = 3
    · subst h3
      have HF : Hid (msgOkB 3 p o xs = wordsB xs 4) := by simp [msgOkB, hpd, Hid]
      go_enter Try.func8, Try.ntmps8
      go_wp2_with (first | (go_at_call 24; refine (specIn_any _ _ _ _).mono ?_; rintro e w1 ⟨rfl, rfl⟩) | (go_at_call 25; refine (specWords_any a ca xs _ _ hr).mono ?_; rintro e w1 ⟨rfl, rfl⟩))
      go_ret
      exact ⟨ret_bool (HF.out.symm), bA⟩
    · by_cases h6 : k = 6
      · subst h6
        have HF : Hid (msgOkB 6 p o xs = wordsB xs 0) := by simp [msgOkB, hpd, Hid]
        clear h3
        go_enter Try.func8, Try.ntmps8
        go_wp2_with (first | (go_at_call 24; refine (specIn_any _ _ _ _).mono ?_; rintro e w1 ⟨rfl, rfl⟩) | (go_at_call 25; refine (specWords_any a ca xs _ _ hr).mono ?_; rintro e w1 ⟨rfl, rfl⟩))
        go_ret
        exact ⟨ret_bool (HF.out.symm), bA⟩
      · by_cases h7 : k = 7
        · subst h7
          clear h3 h6
          cases o
          · have HF : Hid (msgOkB 7 p false xs = wordsB xs 4) := by simp [msgOkB, hpd, Hid]
            go_enter Try.func8, Try.ntmps8
            go_wp2_with (first | (go_at_call 24; refine (specIn_any _ _ _ _).mono ?_; rintro e w1 ⟨rfl, rfl⟩) | (go_at_call 25; refine (specWords_any a ca xs _ _ hr).mono ?_; rintro e w1 ⟨rfl, rfl⟩))
            go_ret
            exact ⟨ret_bool (HF.out.symm), bA⟩
          · have HF : Hid (msgOkB 7 p true xs = false) := by simp [msgOkB, Hid]
            go_enter Try.func8, Try.ntmps8
            go_wp2_with (first | (go_at_call 24; refine (specIn_any _ _ _ _).mono ?_; rintro e w1 ⟨rfl, rfl⟩) | (go_at_call 25; refine (specWords_any a ca xs _ _ hr).mono ?_; rintro e w1 ⟨rfl, rfl⟩))
            go_ret
            exact ⟨ret_bool (HF.out.symm), bA⟩
        · have b3 : (k == 3) = false := by simp [h3]
          have b6 : (k == 6) = false := by simp [h6]
          have b7 : (k == 7) = false := by simp [h7]
          by_cases hk : 1 ≤ k ∧ k ≤ 7
          · have hkd : decide (1 ≤ k ∧ k ≤ 7) = true := decide_eq_true hk
            clear hk h3 h6 h7
            cases o
            · have HF : Hid (msgOkB k p false xs = wordsB xs 0) := by simp [msgOkB, hpd, hkd, b3, b6, b7, Hid]
              go_enter Try.func8, Try.ntmps8
              go_wp2_with (first | (go_at_call 24; refine (specIn_any _ _ _ _).mono ?_; rintro e w1 ⟨rfl, rfl⟩) | (go_at_call 25; refine (specWords_any a ca xs _ _ hr).mono ?_; rintro e w1 ⟨rfl, rfl⟩))
              go_ret
              exact ⟨ret_bool (HF.out.symm), bA⟩
            · have HF : Hid (msgOkB k p true xs = false) := by simp [msgOkB, b3, b6, Hid]
              go_enter Try.func8, Try.ntmps8
              go_wp2_with (first | (go_at_call 24; refine (specIn_any _ _ _ _).mono ?_; rintro e w1 ⟨rfl, rfl⟩) | (go_at_call 25; refine (specWords_any a ca xs _ _ hr).mono ?_; rintro e w1 ⟨rfl, rfl⟩))
              go_ret
              exact ⟨ret_bool (HF.out.symm), bA⟩
          · have hkd : decide (1 ≤ k ∧ k ≤ 7) = false := decide_eq_false hk
            have HF : Hid (msgOkB k p o xs = false) := msgOk_kind hkd
            clear hk h3 h6 h7
            go_enter Try.func8, Try.ntmps8
            go_wp2_with (first | (go_at_call 24; refine (specIn_any _ _ _ _).mono ?_; rintro e w1 ⟨rfl, rfl⟩) | (go_at_call 25; refine (specWords_any a ca xs _ _ hr).mono ?_; rintro e w1 ⟨rfl, rfl⟩))
            go_ret
            exact ⟨ret_bool (HF.out.symm), bA⟩
  · have hpd : decide (0 ≤ p ∧ p ≤ 5) = false := decide_eq_false hp
    have HF : Hid (msgOkB k p o xs = false) := msgOk_page hpd
    rw [HF.out]
    clear hp
    obtain ⟨c3, b3⟩ : ∃ c, (k == 3) = c := ⟨_, rfl⟩
    obtain ⟨c7, b7⟩ : ∃ c, (k == 7) = c := ⟨_, rfl⟩
    obtain ⟨c6, b6⟩ : ∃ c, (k == 6) = c := ⟨_, rfl⟩
    obtain ⟨ck, hkd⟩ : ∃ c, decide (1 ≤ k ∧ k ≤ 7) = c := ⟨_, rfl⟩
    cases c3 <;> cases c7 <;> cases c6 <;> cases ck
    all_goals try (exfalso; simp at b3 b7 b6 hkd; omega)
    all_goals
      go_enter Try.func8, Try.ntmps8
      go_wp2_with (first | (go_at_call 24; refine (specIn_any _ _ _ _).mono ?_; rintro e w1 ⟨rfl, rfl⟩) | (go_at_call 25; refine (specWords_any a ca xs _ _ hr).mono ?_; rintro e w1 ⟨rfl, rfl⟩))
      go_ret
      exact ⟨rfl, bA⟩
end Go.Proofs.Ytidgiklkgmfmcaa
