/- What letterOf and MsgOk do. -/
import Derived.Test.YtidgiklkgmfmcaaWords
import Derived.BigQuiet
namespace Go.Proofs.Ytidgiklkgmfmcaa
open Go.RowKit
set_option linter.unusedVariables false

/-- The letter of a right message. -/
def letterV (k p : Int) (o : Bool) (xs : List Int) : Value :=
  if k = 1 then .iface 59 (.agg #[.int .i64 p])
  else if k = 2 then .iface 60 (.agg #[.int .i64 p])
  else if k = 3 then .iface 62 (.agg #[.int .i64 p, .bool o, .int .i64 (xs.getD 0 0), .int .i64 (xs.getD 1 0), .int .i64 (xs.getD 2 0), .int .i64 (xs.getD 3 0)])
  else if k = 4 then .iface 63 (.agg #[.int .i64 p])
  else if k = 5 then .iface 64 (.agg #[.int .i64 p])
  else if k = 6 then .iface 66 (.agg #[.int .i64 p, .bool o])
  else .iface 68 (.agg #[.int .i64 p, .int .i64 (xs.getD 0 0), .int .i64 (xs.getD 1 0), .int .i64 (xs.getD 2 0), .int .i64 (xs.getD 3 0)])

set_option maxHeartbeats 1000000 in
theorem letter_page (k p : Int) (o : Bool) (a : Option Addr) (n ca : Nat) (w : World) (hp : ¬ (0 ≤ p ∧ p ≤ 5)) :
    Calls Try.prog 27 #[.agg #[.int .i64 k, .int .i64 p, .bool o, .slice a n ca]] w fun e w' => e = .returned (.tuple #[.nilIface, .bool false]) ∧ Below w.heap.size w w' := by
  by_cases h0 : p < 0
  · clear hp
    go_enter Try.func27, Try.ntmps27
    go_wp2
    go_ret2
    exact ⟨rfl, bel_alloc (Below.refl _ _) _⟩
  · have h1 : 6 ≤ p := by omega
    clear hp
    go_enter Try.func27, Try.ntmps27
    go_wp2
    go_ret2
    exact ⟨rfl, bel_alloc (Below.refl _ _) _⟩

set_option maxHeartbeats 2000000 in
theorem letter_1 (p : Int) (o : Bool) (a : Option Addr) (ca : Nat) (xs : List Int) (w : World) (ha : Row .i64 w a xs) (h0 : 0 ≤ p) (h1 : p ≤ 5) :
    Calls Try.prog 27 #[.agg #[.int .i64 1, .int .i64 p, .bool o, .slice a xs.length ca]] w fun e w' => e = .returned (.tuple #[.iface 59 (.agg #[.int .i64 p]), .bool (!o && (xs.length : Int) == 0)]) ∧ Below w.heap.size w w' := by
  have bA := bel_alloc (Below.refl w.heap.size w) (.cells #[.int .i64 1, .int .i64 p, .bool o, .slice a xs.length ca] 27)
  have hr := ha.below bA
  have h6 : decide (p < 0) = false := by simp; omega
  have h7 : decide (6 ≤ p) = false := by simp; omega
  cases o
  all_goals
    go_enter Try.func27, Try.ntmps27
    go_wp2_with fail
    refine (words_any a ca xs _ hr).mono ?_
    rintro e w1 ⟨c0, c1, c2, c3, rfl, hw, b1⟩
    have HW : Hid (wordsB xs 4 = true → xs = [c0, c1, c2, c3]) := hw
    obtain ⟨hc, hf⟩ := bcell b1
    have hz : w.heap.size < w1.heap.size := by have := b1.size; simp at this; omega
    have B := bel_trans bA b1
    clear hw b1 bA hr ha
    go_wp2
    go_ret2
    exact ⟨rfl, bel_alloc B _⟩

set_option maxHeartbeats 2000000 in
theorem letter_2 (p : Int) (o : Bool) (a : Option Addr) (ca : Nat) (xs : List Int) (w : World) (ha : Row .i64 w a xs) (h0 : 0 ≤ p) (h1 : p ≤ 5) :
    Calls Try.prog 27 #[.agg #[.int .i64 2, .int .i64 p, .bool o, .slice a xs.length ca]] w fun e w' => e = .returned (.tuple #[.iface 60 (.agg #[.int .i64 p]), .bool (!o && (xs.length : Int) == 0)]) ∧ Below w.heap.size w w' := by
  have bA := bel_alloc (Below.refl w.heap.size w) (.cells #[.int .i64 2, .int .i64 p, .bool o, .slice a xs.length ca] 27)
  have hr := ha.below bA
  have h6 : decide (p < 0) = false := by simp; omega
  have h7 : decide (6 ≤ p) = false := by simp; omega
  cases o
  all_goals
    go_enter Try.func27, Try.ntmps27
    go_wp2_with fail
    refine (words_any a ca xs _ hr).mono ?_
    rintro e w1 ⟨c0, c1, c2, c3, rfl, hw, b1⟩
    have HW : Hid (wordsB xs 4 = true → xs = [c0, c1, c2, c3]) := hw
    obtain ⟨hc, hf⟩ := bcell b1
    have hz : w.heap.size < w1.heap.size := by have := b1.size; simp at this; omega
    have B := bel_trans bA b1
    clear hw b1 bA hr ha
    go_wp2
    go_ret2
    exact ⟨rfl, bel_alloc B _⟩

set_option maxHeartbeats 2000000 in
theorem letter_4 (p : Int) (o : Bool) (a : Option Addr) (ca : Nat) (xs : List Int) (w : World) (ha : Row .i64 w a xs) (h0 : 0 ≤ p) (h1 : p ≤ 5) :
    Calls Try.prog 27 #[.agg #[.int .i64 4, .int .i64 p, .bool o, .slice a xs.length ca]] w fun e w' => e = .returned (.tuple #[.iface 63 (.agg #[.int .i64 p]), .bool (!o && (xs.length : Int) == 0)]) ∧ Below w.heap.size w w' := by
  have bA := bel_alloc (Below.refl w.heap.size w) (.cells #[.int .i64 4, .int .i64 p, .bool o, .slice a xs.length ca] 27)
  have hr := ha.below bA
  have h6 : decide (p < 0) = false := by simp; omega
  have h7 : decide (6 ≤ p) = false := by simp; omega
  cases o
  all_goals
    go_enter Try.func27, Try.ntmps27
    go_wp2_with fail
    refine (words_any a ca xs _ hr).mono ?_
    rintro e w1 ⟨c0, c1, c2, c3, rfl, hw, b1⟩
    have HW : Hid (wordsB xs 4 = true → xs = [c0, c1, c2, c3]) := hw
    obtain ⟨hc, hf⟩ := bcell b1
    have hz : w.heap.size < w1.heap.size := by have := b1.size; simp at this; omega
    have B := bel_trans bA b1
    clear hw b1 bA hr ha
    go_wp2
    go_ret2
    exact ⟨rfl, bel_alloc B _⟩

set_option maxHeartbeats 2000000 in
theorem letter_5 (p : Int) (o : Bool) (a : Option Addr) (ca : Nat) (xs : List Int) (w : World) (ha : Row .i64 w a xs) (h0 : 0 ≤ p) (h1 : p ≤ 5) :
    Calls Try.prog 27 #[.agg #[.int .i64 5, .int .i64 p, .bool o, .slice a xs.length ca]] w fun e w' => e = .returned (.tuple #[.iface 64 (.agg #[.int .i64 p]), .bool (!o && (xs.length : Int) == 0)]) ∧ Below w.heap.size w w' := by
  have bA := bel_alloc (Below.refl w.heap.size w) (.cells #[.int .i64 5, .int .i64 p, .bool o, .slice a xs.length ca] 27)
  have hr := ha.below bA
  have h6 : decide (p < 0) = false := by simp; omega
  have h7 : decide (6 ≤ p) = false := by simp; omega
  cases o
  all_goals
    go_enter Try.func27, Try.ntmps27
    go_wp2_with fail
    refine (words_any a ca xs _ hr).mono ?_
    rintro e w1 ⟨c0, c1, c2, c3, rfl, hw, b1⟩
    have HW : Hid (wordsB xs 4 = true → xs = [c0, c1, c2, c3]) := hw
    obtain ⟨hc, hf⟩ := bcell b1
    have hz : w.heap.size < w1.heap.size := by have := b1.size; simp at this; omega
    have B := bel_trans bA b1
    clear hw b1 bA hr ha
    go_wp2
    go_ret2
    exact ⟨rfl, bel_alloc B _⟩

set_option maxHeartbeats 2000000 in
theorem letter_3 (p : Int) (o : Bool) (a : Option Addr) (ca : Nat) (xs : List Int) (w : World) (ha : Row .i64 w a xs) (h0 : 0 ≤ p) (h1 : p ≤ 5) :
    Calls Try.prog 27 #[.agg #[.int .i64 3, .int .i64 p, .bool o, .slice a xs.length ca]] w fun e w' => ∃ c0 c1 c2 c3 : Int, e = .returned (.tuple #[.iface 62 (.agg #[.int .i64 p, .bool o, .int .i64 c0, .int .i64 c1, .int .i64 c2, .int .i64 c3]), .bool (wordsB xs 4)]) ∧ (wordsB xs 4 = true → xs = [c0, c1, c2, c3]) ∧ Below w.heap.size w w' := by
  have bA := bel_alloc (Below.refl w.heap.size w) (.cells #[.int .i64 3, .int .i64 p, .bool o, .slice a xs.length ca] 27)
  have hr := ha.below bA
  have h6 : decide (p < 0) = false := by simp; omega
  have h7 : decide (6 ≤ p) = false := by simp; omega
  cases o
  all_goals
    go_enter Try.func27, Try.ntmps27
    go_wp2_with fail
    refine (words_any a ca xs _ hr).mono ?_
    rintro e w1 ⟨c0, c1, c2, c3, rfl, hw, b1⟩
    have HW : Hid (wordsB xs 4 = true → xs = [c0, c1, c2, c3]) := hw
    obtain ⟨hc, hf⟩ := bcell b1
    have hz : w.heap.size < w1.heap.size := by have := b1.size; simp at this; omega
    have B := bel_trans bA b1
    clear hw b1 bA hr ha
    go_wp2
    go_ret2
    exact ⟨c0, c1, c2, c3, rfl, HW.out, bel_alloc B _⟩

set_option maxHeartbeats 2000000 in
theorem letter_6 (p : Int) (o : Bool) (a : Option Addr) (ca : Nat) (xs : List Int) (w : World) (ha : Row .i64 w a xs) (h0 : 0 ≤ p) (h1 : p ≤ 5) :
    Calls Try.prog 27 #[.agg #[.int .i64 6, .int .i64 p, .bool o, .slice a xs.length ca]] w fun e w' => e = .returned (.tuple #[.iface 66 (.agg #[.int .i64 p, .bool o]), .bool ((xs.length : Int) == 0)]) ∧ Below w.heap.size w w' := by
  have bA := bel_alloc (Below.refl w.heap.size w) (.cells #[.int .i64 6, .int .i64 p, .bool o, .slice a xs.length ca] 27)
  have hr := ha.below bA
  have h6 : decide (p < 0) = false := by simp; omega
  have h7 : decide (6 ≤ p) = false := by simp; omega
  cases o
  all_goals
    go_enter Try.func27, Try.ntmps27
    go_wp2_with fail
    refine (words_any a ca xs _ hr).mono ?_
    rintro e w1 ⟨c0, c1, c2, c3, rfl, hw, b1⟩
    have HW : Hid (wordsB xs 4 = true → xs = [c0, c1, c2, c3]) := hw
    obtain ⟨hc, hf⟩ := bcell b1
    have hz : w.heap.size < w1.heap.size := by have := b1.size; simp at this; omega
    have B := bel_trans bA b1
    clear hw b1 bA hr ha
    go_wp2
    go_quiet (fail)
    go_wp2
    go_ret2
    exact ⟨rfl, below_drewN (bel_alloc B _) _⟩

set_option maxHeartbeats 2000000 in
theorem letter_7 (p : Int) (o : Bool) (a : Option Addr) (ca : Nat) (xs : List Int) (w : World) (ha : Row .i64 w a xs) (h0 : 0 ≤ p) (h1 : p ≤ 5) :
    Calls Try.prog 27 #[.agg #[.int .i64 7, .int .i64 p, .bool o, .slice a xs.length ca]] w fun e w' => ∃ c0 c1 c2 c3 : Int, e = .returned (.tuple #[.iface 68 (.agg #[.int .i64 p, .int .i64 c0, .int .i64 c1, .int .i64 c2, .int .i64 c3]), .bool (wordsB xs 4 && !o)]) ∧ (wordsB xs 4 = true → xs = [c0, c1, c2, c3]) ∧ Below w.heap.size w w' := by
  have bA := bel_alloc (Below.refl w.heap.size w) (.cells #[.int .i64 7, .int .i64 p, .bool o, .slice a xs.length ca] 27)
  have hr := ha.below bA
  have h6 : decide (p < 0) = false := by simp; omega
  have h7 : decide (6 ≤ p) = false := by simp; omega
  obtain ⟨f, hf4⟩ : ∃ f, wordsB xs 4 = f := ⟨_, rfl⟩
  cases o <;> cases f
  all_goals
    go_enter Try.func27, Try.ntmps27
    go_wp2_with fail
    refine (words_any a ca xs _ hr).mono ?_
    rintro e w1 ⟨c0, c1, c2, c3, rfl, hw, b1⟩
    have HW : Hid (wordsB xs 4 = true → xs = [c0, c1, c2, c3]) := hw
    obtain ⟨hc, hf⟩ := bcell b1
    have hz : w.heap.size < w1.heap.size := by have := b1.size; simp at this; omega
    have B := bel_trans bA b1
    clear hw b1 bA hr ha
    go_wp2
    go_quiet (fail)
    go_wp2
    go_ret2
    have HW2 := HW.out
    rw [hf4] at HW2 ⊢
    exact ⟨c0, c1, c2, c3, rfl, HW2, below_drewN (bel_alloc B _) _⟩

set_option maxHeartbeats 2000000 in
theorem letter_no (k : Int) (p : Int) (o : Bool) (a : Option Addr) (ca : Nat) (xs : List Int) (w : World) (ha : Row .i64 w a xs) (h0 : 0 ≤ p) (h1 : p ≤ 5) (hk : k < 1 ∨ 7 < k) :
    Calls Try.prog 27 #[.agg #[.int .i64 k, .int .i64 p, .bool o, .slice a xs.length ca]] w fun e w' => e = .returned (.tuple #[.nilIface, .bool false]) ∧ Below w.heap.size w w' := by
  have bA := bel_alloc (Below.refl w.heap.size w) (.cells #[.int .i64 k, .int .i64 p, .bool o, .slice a xs.length ca] 27)
  have hr := ha.below bA
  have h6 : decide (p < 0) = false := by simp; omega
  have h7 : decide (6 ≤ p) = false := by simp; omega
  have b1 : (k == 1) = false := by simp; omega
  have b2 : (k == 2) = false := by simp; omega
  have b3 : (k == 3) = false := by simp; omega
  have b4 : (k == 4) = false := by simp; omega
  have b5 : (k == 5) = false := by simp; omega
  have b6 : (k == 6) = false := by simp; omega
  have b7 : (k == 7) = false := by simp; omega
  clear hk
  cases o
  all_goals
    go_enter Try.func27, Try.ntmps27
    go_wp2_with fail
    refine (words_any a ca xs _ hr).mono ?_
    rintro e w1 ⟨c0, c1, c2, c3, rfl, hw, b1⟩
    have HW : Hid (wordsB xs 4 = true → xs = [c0, c1, c2, c3]) := hw
    obtain ⟨hc, hf⟩ := bcell b1
    have hz : w.heap.size < w1.heap.size := by have := b1.size; simp at this; omega
    have B := bel_trans bA b1
    clear hw b1 bA hr ha
    go_wp2
    go_ret2
    exact ⟨rfl, bel_alloc B _⟩

theorem letter_any (k p : Int) (o : Bool) (a : Option Addr) (ca : Nat) (xs : List Int) (w : World) (ha : Row .i64 w a xs) :
    Calls Try.prog 27 #[.agg #[.int .i64 k, .int .i64 p, .bool o, .slice a xs.length ca]] w fun e w' =>
      ∃ L, e = .returned (.tuple #[L, .bool (msgOkB k p o xs)]) ∧ (msgOkB k p o xs = true → L = letterV k p o xs) ∧ Below w.heap.size w w' := by
  by_cases hp : 0 ≤ p ∧ p ≤ 5
  · obtain ⟨h0, h1⟩ := hp
    by_cases hk : 1 ≤ k ∧ k ≤ 7
    · rcases (by omega : k = 1 ∨ k = 2 ∨ k = 3 ∨ k = 4 ∨ k = 5 ∨ k = 6 ∨ k = 7) with rfl | rfl | rfl | rfl | rfl | rfl | rfl
      · refine (letter_1 p o a ca xs w ha h0 h1).mono ?_
        rintro e w1 ⟨rfl, hb⟩
        rw [ok_plain ⟨h0, h1⟩ hk (by decide) (by decide) (by decide)]
        exact ⟨_, rfl, fun _ => rfl, hb⟩
      · refine (letter_2 p o a ca xs w ha h0 h1).mono ?_
        rintro e w1 ⟨rfl, hb⟩
        rw [ok_plain ⟨h0, h1⟩ hk (by decide) (by decide) (by decide)]
        exact ⟨_, rfl, fun _ => rfl, hb⟩
      · refine (letter_3 p o a ca xs w ha h0 h1).mono ?_
        rintro e w1 ⟨c0, c1, c2, c3, rfl, hw, hb⟩
        rw [ok_3 ⟨h0, h1⟩]
        exact ⟨_, rfl, fun h => by rw [hw h]; rfl, hb⟩
      · refine (letter_4 p o a ca xs w ha h0 h1).mono ?_
        rintro e w1 ⟨rfl, hb⟩
        rw [ok_plain ⟨h0, h1⟩ hk (by decide) (by decide) (by decide)]
        exact ⟨_, rfl, fun _ => rfl, hb⟩
      · refine (letter_5 p o a ca xs w ha h0 h1).mono ?_
        rintro e w1 ⟨rfl, hb⟩
        rw [ok_plain ⟨h0, h1⟩ hk (by decide) (by decide) (by decide)]
        exact ⟨_, rfl, fun _ => rfl, hb⟩
      · refine (letter_6 p o a ca xs w ha h0 h1).mono ?_
        rintro e w1 ⟨rfl, hb⟩
        rw [ok_6 ⟨h0, h1⟩]
        exact ⟨_, rfl, fun _ => rfl, hb⟩
      · refine (letter_7 p o a ca xs w ha h0 h1).mono ?_
        rintro e w1 ⟨c0, c1, c2, c3, rfl, hw, hb⟩
        rw [ok_7 ⟨h0, h1⟩]
        refine ⟨_, rfl, fun h => ?_, hb⟩
        rw [Bool.and_eq_true] at h
        rw [hw h.1]
        rfl
    · refine (letter_no k p o a ca xs w ha h0 h1 (by omega)).mono ?_
      rintro e w1 ⟨rfl, hb⟩
      rw [msgOk_kind (decide_eq_false hk)]
      exact ⟨_, rfl, (fun h => by cases h), hb⟩
  · refine (letter_page k p o a _ ca w hp).mono ?_
    rintro e w1 ⟨rfl, hb⟩
    rw [msgOk_page (decide_eq_false hp)]
    exact ⟨_, rfl, (fun h => by cases h), hb⟩

set_option maxHeartbeats 400000 in
theorem msgOk_any (k p : Int) (o : Bool) (a : Option Addr) (ca : Nat) (xs : List Int) (w : World) (ha : Row .i64 w a xs) :
    Calls Try.prog 10 #[.agg #[.int .i64 k, .int .i64 p, .bool o, .slice a xs.length ca]] w fun e w' => e = .returned (.bool (msgOkB k p o xs)) ∧ Below w.heap.size w w' := by
  have bA := bel_alloc (Below.refl w.heap.size w) (.cells #[.int .i64 k, .int .i64 p, .bool o, .slice a xs.length ca] 27)
  have hr := ha.below bA
  go_enter Try.func10, Try.ntmps10
  go_wp2_with fail
  refine (letter_any k p o a ca xs _ hr).mono ?_
  rintro e w1 ⟨L, rfl, hL, b1⟩
  have B := bel_trans bA b1
  clear hL b1 bA hr ha
  go_wp2
  go_ret
  exact ⟨rfl, B⟩
end Go.Proofs.Ytidgiklkgmfmcaa
