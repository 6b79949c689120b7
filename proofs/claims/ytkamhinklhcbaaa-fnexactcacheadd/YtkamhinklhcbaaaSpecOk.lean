/- Msg and SpecOk: see the heads of the parts. -/
import Derived.Test.YtkamhinklhcbaaaInts
import Derived.Test.YtkamhinklhcbaaaOkB
import Derived.Test.YtkamhinklhcbaaaSpecIn
/- What the law's small functions over messages do: szMsg, toMsg, eqMsg. -/
namespace Go.Proofs.Ytkamhinklhcbaaa
open Go.RowKit
set_option linter.unusedVariables false

/-- A message's value. -/
def msgV (k p : Int) (o : Bool) (l : Value) : Value := .agg #[.int .i64 k, .int .i64 p, .bool o, l]





end Go.Proofs.Ytkamhinklhcbaaa

/- What the specification's MsgOk does. -/
namespace Go.Proofs.Ytkamhinklhcbaaa
open Go.RowKit
set_option linter.unusedVariables false

set_option maxHeartbeats 400000 in
theorem specWords_any (a : Option Addr) (ca : Nat) (xs : List Int) (m : Int) (w : World) (ha : Row .i64 w a xs) :
    Calls Try.prog 90 #[.slice a xs.length ca, .int .i64 m] w fun e w' => e = .returned (.bool (wordsB xs m)) ∧ w' = w := by
  obtain ⟨hl, ha⟩ := ha
  obtain ⟨n, hn⟩ : ∃ n, xs.length = n := ⟨_, rfl⟩
  have HN : Hid (xs.length = n) := hn
  rw [hn] at hl ha ⊢
  clear hn
  go_enter Try.func90, Try.ntmps90
  go_wp2
  go_loop [5] (fun i => ∃ k : Nat, k ≤ n ∧ i = .int .i64 k ∧ (xs.take k).all wordB = true) (fun i => n - (intOf i).toNat)
  case atStart => exact ⟨0, Nat.zero_le _, rfl, by simp⟩
  case round =>
    obtain ⟨k, hk, rfl, hg⟩ := hrel
    have HG : Hid ((xs.take k).all wordB = true) := hg
    clear hg
    by_cases hlt : k < n
    · obtain ⟨ba, oa, rfl, hca⟩ := ha k hlt
      have hi : (k : Int) < (n : Int) := by omega
      have H1 : Hid ((xs.take (k + 1)).all wordB = wordB (xs.getD k 0)) := by show _ = _; rw [all_take xs k (by have := HN.out; omega), HG.out, Bool.true_and]
      obtain ⟨c, hce⟩ : ∃ c, xs.getD k 0 = c := ⟨_, rfl⟩
      have HC : Hid (xs.getD k 0 = c) := hce
      rw [hce] at hca
      clear ha hce
      by_cases hw : 0 ≤ c ∧ c ≤ 65535
      · have hd : decide (0 ≤ c ∧ c ≤ 65535) = true := decide_eq_true hw
        clear hw
        go_wp2_with (go_at_call 80; refine (specIn_any _ _ _ _).mono ?_; rintro e w1 ⟨rfl, rfl⟩)
        go_round
        case rel => exact ⟨k + 1, by omega, by go_num, by rw [H1.out, HC.out]; exact hd⟩
        case measure => simp [intOf]; omega
      · have hd : decide (0 ≤ c ∧ c ≤ 65535) = false := decide_eq_false hw
        clear hw
        go_wp2_with (go_at_call 80; refine (specIn_any _ _ _ _).mono ?_; rintro e w1 ⟨rfl, rfl⟩)
        go_ret
        refine ⟨ret_bool ?_, rfl⟩
        unfold wordsB
        rw [all_bad xs k (by have := HN.out; omega) (by rw [HC.out]; exact hd)]
        rfl
    · go_wp2
      go_ret
      have e : xs.take k = xs := List.take_of_length_le (by have := HN.out; omega)
      have hall := HG.out
      rw [e] at hall
      refine ⟨ret_bool ?_, rfl⟩
      unfold wordsB
      rw [hall, HN.out]
      rfl

theorem msgOk_kind {k p : Int} {o : Bool} {xs : List Int} (h : decide (1 ≤ k ∧ k ≤ 7) = false) : msgOkB k p o xs = false := by simp [msgOkB, h]
theorem msgOk_page {k p : Int} {o : Bool} {xs : List Int} (h : decide (0 ≤ p ∧ p ≤ 5) = false) : msgOkB k p o xs = false := by simp [msgOkB, h]

end Go.Proofs.Ytkamhinklhcbaaa
