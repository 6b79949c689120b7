/- Letter and Snd: see the heads of the parts. -/
import Derived.Test.YtpfppeifppdmbaaGreatWords
import Derived.BigQuiet
import Derived.Test.YtpfppeifppdmbaaGreatKeep
import Derived.Test.YtpfppeifppdmbaaGreatSeq
/- What letterOf and MsgOk do. -/
namespace Go.Proofs.YtpfppeifppdmbaaGreat
open Go.RowKit
set_option linter.unusedVariables false

/-- The letter of a right message. -/
def letterV (k p : Int) (o : Bool) (xs : List Int) : Value :=
  if k = 1 then .iface 180 (.agg #[.int .i64 p])
  else if k = 2 then .iface 181 (.agg #[.int .i64 p])
  else if k = 3 then .iface 183 (.agg #[.int .i64 p, .bool o, .int .i64 (xs.getD 0 0), .int .i64 (xs.getD 1 0), .int .i64 (xs.getD 2 0), .int .i64 (xs.getD 3 0)])
  else if k = 4 then .iface 184 (.agg #[.int .i64 p])
  else if k = 5 then .iface 185 (.agg #[.int .i64 p])
  else if k = 6 then .iface 187 (.agg #[.int .i64 p, .bool o])
  else .iface 189 (.agg #[.int .i64 p, .int .i64 (xs.getD 0 0), .int .i64 (xs.getD 1 0), .int .i64 (xs.getD 2 0), .int .i64 (xs.getD 3 0)])

set_option maxHeartbeats 1000000 in
theorem letter_page (k p : Int) (o : Bool) (a : Option Addr) (n ca : Nat) (w : World) (hp : ¬ (0 ≤ p ∧ p ≤ 5)) :
    Calls Tryz.prog 110 #[.agg #[.int .i64 k, .int .i64 p, .bool o, .slice a n ca]] w fun e w' => e = .returned (.tuple #[.nilIface, .bool false]) ∧ Below w.heap.size w w' := by
  by_cases h0 : p < 0
  · clear hp
    go_enter Tryz.func110, Tryz.ntmps110
    go_wp2
    go_ret2
    exact ⟨rfl, bel_alloc (Below.refl _ _) _⟩
  · have h1 : 6 ≤ p := by omega
    clear hp
    go_enter Tryz.func110, Tryz.ntmps110
    go_wp2
    go_ret2
    exact ⟨rfl, bel_alloc (Below.refl _ _) _⟩

set_option maxHeartbeats 2000000 in
theorem letter_1 (p : Int) (o : Bool) (a : Option Addr) (ca : Nat) (xs : List Int) (w : World) (ha : Row .i64 w a xs) (h0 : 0 ≤ p) (h1 : p ≤ 5) :
    Calls Tryz.prog 110 #[.agg #[.int .i64 1, .int .i64 p, .bool o, .slice a xs.length ca]] w fun e w' => e = .returned (.tuple #[.iface 180 (.agg #[.int .i64 p]), .bool (!o && (xs.length : Int) == 0)]) ∧ Below w.heap.size w w' := by
  have bA := bel_alloc (Below.refl w.heap.size w) (.cells #[.int .i64 1, .int .i64 p, .bool o, .slice a xs.length ca] 69)
  have hr := ha.below bA
  have h6 : decide (p < 0) = false := by simp; omega
  have h7 : decide (6 ≤ p) = false := by simp; omega
  cases o
  all_goals
    go_enter Tryz.func110, Tryz.ntmps110
    go_wp2_with fail
    refine (words_any a ca xs _ hr).mono ?_
    rintro e w1 ⟨c0, c1, c2, c3, rfl, hw, b1⟩
    have HW : Hid (wordsB xs 4 = true → xs = [c0, c1, c2, c3]) := hw
    obtain ⟨hc, hf⟩ := bcell b1
    have hz : w.heap.size < w1.heap.size := by have := b1.size; simp at this; omega
    have B := bel_trans bA b1
    clear hw b1 bA hr ha
    go_wp2
    go_ret2
    exact ⟨rfl, bel_alloc B _⟩

set_option maxHeartbeats 2000000 in
theorem letter_2 (p : Int) (o : Bool) (a : Option Addr) (ca : Nat) (xs : List Int) (w : World) (ha : Row .i64 w a xs) (h0 : 0 ≤ p) (h1 : p ≤ 5) :
    Calls Tryz.prog 110 #[.agg #[.int .i64 2, .int .i64 p, .bool o, .slice a xs.length ca]] w fun e w' => e = .returned (.tuple #[.iface 181 (.agg #[.int .i64 p]), .bool (!o && (xs.length : Int) == 0)]) ∧ Below w.heap.size w w' := by
  have bA := bel_alloc (Below.refl w.heap.size w) (.cells #[.int .i64 2, .int .i64 p, .bool o, .slice a xs.length ca] 69)
  have hr := ha.below bA
  have h6 : decide (p < 0) = false := by simp; omega
  have h7 : decide (6 ≤ p) = false := by simp; omega
  cases o
  all_goals
    go_enter Tryz.func110, Tryz.ntmps110
    go_wp2_with fail
    refine (words_any a ca xs _ hr).mono ?_
    rintro e w1 ⟨c0, c1, c2, c3, rfl, hw, b1⟩
    have HW : Hid (wordsB xs 4 = true → xs = [c0, c1, c2, c3]) := hw
    obtain ⟨hc, hf⟩ := bcell b1
    have hz : w.heap.size < w1.heap.size := by have := b1.size; simp at this; omega
    have B := bel_trans bA b1
    clear hw b1 bA hr ha
    go_wp2
    go_ret2
    exact ⟨rfl, bel_alloc B _⟩

set_option maxHeartbeats 2000000 in
theorem letter_4 (p : Int) (o : Bool) (a : Option Addr) (ca : Nat) (xs : List Int) (w : World) (ha : Row .i64 w a xs) (h0 : 0 ≤ p) (h1 : p ≤ 5) :
    Calls Tryz.prog 110 #[.agg #[.int .i64 4, .int .i64 p, .bool o, .slice a xs.length ca]] w fun e w' => e = .returned (.tuple #[.iface 184 (.agg #[.int .i64 p]), .bool (!o && (xs.length : Int) == 0)]) ∧ Below w.heap.size w w' := by
  have bA := bel_alloc (Below.refl w.heap.size w) (.cells #[.int .i64 4, .int .i64 p, .bool o, .slice a xs.length ca] 69)
  have hr := ha.below bA
  have h6 : decide (p < 0) = false := by simp; omega
  have h7 : decide (6 ≤ p) = false := by simp; omega
  cases o
  all_goals
    go_enter Tryz.func110, Tryz.ntmps110
    go_wp2_with fail
    refine (words_any a ca xs _ hr).mono ?_
    rintro e w1 ⟨c0, c1, c2, c3, rfl, hw, b1⟩
    have HW : Hid (wordsB xs 4 = true → xs = [c0, c1, c2, c3]) := hw
    obtain ⟨hc, hf⟩ := bcell b1
    have hz : w.heap.size < w1.heap.size := by have := b1.size; simp at this; omega
    have B := bel_trans bA b1
    clear hw b1 bA hr ha
    go_wp2
    go_ret2
    exact ⟨rfl, bel_alloc B _⟩

set_option maxHeartbeats 2000000 in
theorem letter_5 (p : Int) (o : Bool) (a : Option Addr) (ca : Nat) (xs : List Int) (w : World) (ha : Row .i64 w a xs) (h0 : 0 ≤ p) (h1 : p ≤ 5) :
    Calls Tryz.prog 110 #[.agg #[.int .i64 5, .int .i64 p, .bool o, .slice a xs.length ca]] w fun e w' => e = .returned (.tuple #[.iface 185 (.agg #[.int .i64 p]), .bool (!o && (xs.length : Int) == 0)]) ∧ Below w.heap.size w w' := by
  have bA := bel_alloc (Below.refl w.heap.size w) (.cells #[.int .i64 5, .int .i64 p, .bool o, .slice a xs.length ca] 69)
  have hr := ha.below bA
  have h6 : decide (p < 0) = false := by simp; omega
  have h7 : decide (6 ≤ p) = false := by simp; omega
  cases o
  all_goals
    go_enter Tryz.func110, Tryz.ntmps110
    go_wp2_with fail
    refine (words_any a ca xs _ hr).mono ?_
    rintro e w1 ⟨c0, c1, c2, c3, rfl, hw, b1⟩
    have HW : Hid (wordsB xs 4 = true → xs = [c0, c1, c2, c3]) := hw
    obtain ⟨hc, hf⟩ := bcell b1
    have hz : w.heap.size < w1.heap.size := by have := b1.size; simp at this; omega
    have B := bel_trans bA b1
    clear hw b1 bA hr ha
    go_wp2
    go_ret2
    exact ⟨rfl, bel_alloc B _⟩

set_option maxHeartbeats 2000000 in
theorem letter_3 (p : Int) (o : Bool) (a : Option Addr) (ca : Nat) (xs : List Int) (w : World) (ha : Row .i64 w a xs) (h0 : 0 ≤ p) (h1 : p ≤ 5) :
    Calls Tryz.prog 110 #[.agg #[.int .i64 3, .int .i64 p, .bool o, .slice a xs.length ca]] w fun e w' => ∃ c0 c1 c2 c3 : Int, e = .returned (.tuple #[.iface 183 (.agg #[.int .i64 p, .bool o, .int .i64 c0, .int .i64 c1, .int .i64 c2, .int .i64 c3]), .bool (wordsB xs 4)]) ∧ (wordsB xs 4 = true → xs = [c0, c1, c2, c3]) ∧ Below w.heap.size w w' := by
  have bA := bel_alloc (Below.refl w.heap.size w) (.cells #[.int .i64 3, .int .i64 p, .bool o, .slice a xs.length ca] 69)
  have hr := ha.below bA
  have h6 : decide (p < 0) = false := by simp; omega
  have h7 : decide (6 ≤ p) = false := by simp; omega
  cases o
  all_goals
    go_enter Tryz.func110, Tryz.ntmps110
    go_wp2_with fail
    refine (words_any a ca xs _ hr).mono ?_
    rintro e w1 ⟨c0, c1, c2, c3, rfl, hw, b1⟩
    have HW : Hid (wordsB xs 4 = true → xs = [c0, c1, c2, c3]) := hw
    obtain ⟨hc, hf⟩ := bcell b1
    have hz : w.heap.size < w1.heap.size := by have := b1.size; simp at this; omega
    have B := bel_trans bA b1
    clear hw b1 bA hr ha
    go_wp2
    go_ret2
    exact ⟨c0, c1, c2, c3, rfl, HW.out, bel_alloc B _⟩

set_option maxHeartbeats 2000000 in
theorem letter_6 (p : Int) (o : Bool) (a : Option Addr) (ca : Nat) (xs : List Int) (w : World) (ha : Row .i64 w a xs) (h0 : 0 ≤ p) (h1 : p ≤ 5) :
    Calls Tryz.prog 110 #[.agg #[.int .i64 6, .int .i64 p, .bool o, .slice a xs.length ca]] w fun e w' => e = .returned (.tuple #[.iface 187 (.agg #[.int .i64 p, .bool o]), .bool ((xs.length : Int) == 0)]) ∧ Below w.heap.size w w' := by
  have bA := bel_alloc (Below.refl w.heap.size w) (.cells #[.int .i64 6, .int .i64 p, .bool o, .slice a xs.length ca] 69)
  have hr := ha.below bA
  have h6 : decide (p < 0) = false := by simp; omega
  have h7 : decide (6 ≤ p) = false := by simp; omega
  cases o
  all_goals
    go_enter Tryz.func110, Tryz.ntmps110
    go_wp2_with fail
    refine (words_any a ca xs _ hr).mono ?_
    rintro e w1 ⟨c0, c1, c2, c3, rfl, hw, b1⟩
    have HW : Hid (wordsB xs 4 = true → xs = [c0, c1, c2, c3]) := hw
    obtain ⟨hc, hf⟩ := bcell b1
    have hz : w.heap.size < w1.heap.size := by have := b1.size; simp at this; omega
    have B := bel_trans bA b1
    clear hw b1 bA hr ha
    go_wp2
    go_quiet (fail)
    go_wp2
    go_ret2
    exact ⟨rfl, below_drewN (bel_alloc B _) _⟩

set_option maxHeartbeats 2000000 in
theorem letter_7 (p : Int) (o : Bool) (a : Option Addr) (ca : Nat) (xs : List Int) (w : World) (ha : Row .i64 w a xs) (h0 : 0 ≤ p) (h1 : p ≤ 5) :
    Calls Tryz.prog 110 #[.agg #[.int .i64 7, .int .i64 p, .bool o, .slice a xs.length ca]] w fun e w' => ∃ c0 c1 c2 c3 : Int, e = .returned (.tuple #[.iface 189 (.agg #[.int .i64 p, .int .i64 c0, .int .i64 c1, .int .i64 c2, .int .i64 c3]), .bool (wordsB xs 4 && !o)]) ∧ (wordsB xs 4 = true → xs = [c0, c1, c2, c3]) ∧ Below w.heap.size w w' := by
  have bA := bel_alloc (Below.refl w.heap.size w) (.cells #[.int .i64 7, .int .i64 p, .bool o, .slice a xs.length ca] 69)
  have hr := ha.below bA
  have h6 : decide (p < 0) = false := by simp; omega
  have h7 : decide (6 ≤ p) = false := by simp; omega
  obtain ⟨f, hf4⟩ : ∃ f, wordsB xs 4 = f := ⟨_, rfl⟩
  cases o <;> cases f
  all_goals
    go_enter Tryz.func110, Tryz.ntmps110
    go_wp2_with fail
    refine (words_any a ca xs _ hr).mono ?_
    rintro e w1 ⟨c0, c1, c2, c3, rfl, hw, b1⟩
    have HW : Hid (wordsB xs 4 = true → xs = [c0, c1, c2, c3]) := hw
    obtain ⟨hc, hf⟩ := bcell b1
    have hz : w.heap.size < w1.heap.size := by have := b1.size; simp at this; omega
    have B := bel_trans bA b1
    clear hw b1 bA hr ha
    go_wp2
    go_quiet (fail)
    go_wp2
    go_ret2
    have HW2 := HW.out
    rw [hf4] at HW2 ⊢
    exact ⟨c0, c1, c2, c3, rfl, HW2, below_drewN (bel_alloc B _) _⟩

set_option maxHeartbeats 2000000 in
theorem letter_no (k : Int) (p : Int) (o : Bool) (a : Option Addr) (ca : Nat) (xs : List Int) (w : World) (ha : Row .i64 w a xs) (h0 : 0 ≤ p) (h1 : p ≤ 5) (hk : k < 1 ∨ 7 < k) :
    Calls Tryz.prog 110 #[.agg #[.int .i64 k, .int .i64 p, .bool o, .slice a xs.length ca]] w fun e w' => e = .returned (.tuple #[.nilIface, .bool false]) ∧ Below w.heap.size w w' := by
  have bA := bel_alloc (Below.refl w.heap.size w) (.cells #[.int .i64 k, .int .i64 p, .bool o, .slice a xs.length ca] 69)
  have hr := ha.below bA
  have h6 : decide (p < 0) = false := by simp; omega
  have h7 : decide (6 ≤ p) = false := by simp; omega
  have b1 : (k == 1) = false := by simp; omega
  have b2 : (k == 2) = false := by simp; omega
  have b3 : (k == 3) = false := by simp; omega
  have b4 : (k == 4) = false := by simp; omega
  have b5 : (k == 5) = false := by simp; omega
  have b6 : (k == 6) = false := by simp; omega
  have b7 : (k == 7) = false := by simp; omega
  clear hk
  cases o
  all_goals
    go_enter Tryz.func110, Tryz.ntmps110
    go_wp2_with fail
    refine (words_any a ca xs _ hr).mono ?_
    rintro e w1 ⟨c0, c1, c2, c3, rfl, hw, b1⟩
    have HW : Hid (wordsB xs 4 = true → xs = [c0, c1, c2, c3]) := hw
    obtain ⟨hc, hf⟩ := bcell b1
    have hz : w.heap.size < w1.heap.size := by have := b1.size; simp at this; omega
    have B := bel_trans bA b1
    clear hw b1 bA hr ha
    go_wp2
    go_ret2
    exact ⟨rfl, bel_alloc B _⟩

theorem letter_any (k p : Int) (o : Bool) (a : Option Addr) (ca : Nat) (xs : List Int) (w : World) (ha : Row .i64 w a xs) :
    Calls Tryz.prog 110 #[.agg #[.int .i64 k, .int .i64 p, .bool o, .slice a xs.length ca]] w fun e w' =>
      ∃ L, e = .returned (.tuple #[L, .bool (msgOkB k p o xs)]) ∧ (msgOkB k p o xs = true → L = letterV k p o xs) ∧ Below w.heap.size w w' := by
  by_cases hp : 0 ≤ p ∧ p ≤ 5
  · obtain ⟨h0, h1⟩ := hp
    by_cases hk : 1 ≤ k ∧ k ≤ 7
    · rcases (by omega : k = 1 ∨ k = 2 ∨ k = 3 ∨ k = 4 ∨ k = 5 ∨ k = 6 ∨ k = 7) with rfl | rfl | rfl | rfl | rfl | rfl | rfl
      · refine (letter_1 p o a ca xs w ha h0 h1).mono ?_
        rintro e w1 ⟨rfl, hb⟩
        rw [ok_plain ⟨h0, h1⟩ hk (by decide) (by decide) (by decide)]
        exact ⟨_, rfl, fun _ => rfl, hb⟩
      · refine (letter_2 p o a ca xs w ha h0 h1).mono ?_
        rintro e w1 ⟨rfl, hb⟩
        rw [ok_plain ⟨h0, h1⟩ hk (by decide) (by decide) (by decide)]
        exact ⟨_, rfl, fun _ => rfl, hb⟩
      · refine (letter_3 p o a ca xs w ha h0 h1).mono ?_
        rintro e w1 ⟨c0, c1, c2, c3, rfl, hw, hb⟩
        rw [ok_3 ⟨h0, h1⟩]
        exact ⟨_, rfl, fun h => by rw [hw h]; rfl, hb⟩
      · refine (letter_4 p o a ca xs w ha h0 h1).mono ?_
        rintro e w1 ⟨rfl, hb⟩
        rw [ok_plain ⟨h0, h1⟩ hk (by decide) (by decide) (by decide)]
        exact ⟨_, rfl, fun _ => rfl, hb⟩
      · refine (letter_5 p o a ca xs w ha h0 h1).mono ?_
        rintro e w1 ⟨rfl, hb⟩
        rw [ok_plain ⟨h0, h1⟩ hk (by decide) (by decide) (by decide)]
        exact ⟨_, rfl, fun _ => rfl, hb⟩
      · refine (letter_6 p o a ca xs w ha h0 h1).mono ?_
        rintro e w1 ⟨rfl, hb⟩
        rw [ok_6 ⟨h0, h1⟩]
        exact ⟨_, rfl, fun _ => rfl, hb⟩
      · refine (letter_7 p o a ca xs w ha h0 h1).mono ?_
        rintro e w1 ⟨c0, c1, c2, c3, rfl, hw, hb⟩
        rw [ok_7 ⟨h0, h1⟩]
        refine ⟨_, rfl, fun h => ?_, hb⟩
        rw [Bool.and_eq_true] at h
        rw [hw h.1]
        rfl
    · refine (letter_no k p o a ca xs w ha h0 h1 (by omega)).mono ?_
      rintro e w1 ⟨rfl, hb⟩
      rw [msgOk_kind (decide_eq_false hk)]
      exact ⟨_, rfl, (fun h => by cases h), hb⟩
  · refine (letter_page k p o a _ ca w hp).mono ?_
    rintro e w1 ⟨rfl, hb⟩
    rw [msgOk_page (decide_eq_false hp)]
    exact ⟨_, rfl, (fun h => by cases h), hb⟩

set_option maxHeartbeats 400000 in
theorem msgOk_any (k p : Int) (o : Bool) (a : Option Addr) (ca : Nat) (xs : List Int) (w : World) (ha : Row .i64 w a xs) :
    Calls Tryz.prog 94 #[.agg #[.int .i64 k, .int .i64 p, .bool o, .slice a xs.length ca]] w fun e w' => e = .returned (.bool (msgOkB k p o xs)) ∧ Below w.heap.size w w' := by
  have bA := bel_alloc (Below.refl w.heap.size w) (.cells #[.int .i64 k, .int .i64 p, .bool o, .slice a xs.length ca] 69)
  have hr := ha.below bA
  go_enter Tryz.func94, Tryz.ntmps94
  go_wp2_with fail
  refine (letter_any k p o a ca xs _ hr).mono ?_
  rintro e w1 ⟨L, rfl, hL, b1⟩
  have B := bel_trans bA b1
  clear hL b1 bA hr ha
  go_wp2
  go_ret
  exact ⟨rfl, B⟩
end Go.Proofs.YtpfppeifppdmbaaGreat

/- Rows of messages, as a reader is told of them; what both SenderOk answer. -/
namespace Go.Proofs.YtpfppeifppdmbaaGreat
open Go.RowKit
set_option linter.unusedVariables false

/-- A message that lies somewhere: its fields, and where its words lie. -/
structure M where
  k : Int
  p : Int
  o : Bool
  a : Option Addr
  c : Nat
  xs : List Int

/-- What a message says, wherever it lies. -/
abbrev Say := Int × Int × Bool × List Int
def M.say (m : M) : Say := (m.k, m.p, m.o, m.xs)
def okS (s : Say) : Bool := msgOkB s.1 s.2.1 s.2.2.1 s.2.2.2

/-- Four cells at one place. -/
def At4 (w : World) (b off : Nat) (m : M) : Prop :=
  w.cell? ⟨b, off, none⟩ = some (.int .i64 m.k) ∧ w.cell? ⟨b, off + 1, none⟩ = some (.int .i64 m.p) ∧ w.cell? ⟨b, off + 2, none⟩ = some (.bool m.o) ∧ w.cell? ⟨b, off + 3, none⟩ = some (.slice m.a m.xs.length m.c)

/-- WHAT A READER IS TOLD OF A SLICE OF MESSAGES. -/
def MRow (w : World) (a : Option Addr) (ms : List M) : Prop :=
  ms.length ≤ 1048577 ∧ ∀ i m, ms[i]? = some m → (∃ b off, a = some ⟨b, off, none⟩ ∧ At4 w b (off + i * 4) m) ∧ Row .i64 w m.a m.xs

theorem At4.lt {w : World} {b off : Nat} {m : M} (h : At4 w b off m) : b < w.heap.size := lt_of_cell h.1
theorem At4.below {w w' : World} {b off : Nat} {m : M} (h : At4 w b off m) (hb : Below w.heap.size w w') : At4 w' b off m :=
  ⟨(hb.cell (p := ⟨b, off, none⟩) h.lt).trans h.1, (hb.cell (p := ⟨b, off + 1, none⟩) h.lt).trans h.2.1, (hb.cell (p := ⟨b, off + 2, none⟩) h.lt).trans h.2.2.1, (hb.cell (p := ⟨b, off + 3, none⟩) h.lt).trans h.2.2.2⟩

theorem MRow.below {w w' : World} {a : Option Addr} {ms : List M} (h : MRow w a ms) (hb : Below w.heap.size w w') : MRow w' a ms := by
  refine ⟨h.1, fun i m hi => ?_⟩
  obtain ⟨⟨b, off, rfl, h4⟩, hr⟩ := h.2 i m hi
  exact ⟨⟨b, off, rfl, h4.below hb⟩, hr.below hb⟩

theorem MRow.dr {w w' : World} {d : Nat} (e : w' = w.drewN d) {a : Option Addr} {ms : List M} (h : MRow w a ms) : MRow w' a ms := by subst e; exact h

def senderB (base : Int) (ms : List M) : Bool := decide (0 ≤ base ∧ base ≤ 100000) && (decide (ms.length ≤ 30) && (decide (base + ms.length ≤ 100000) && ms.all (fun m => okS m.say)))

theorem senderB_bad (base : Int) {ms : List M} {k : Nat} {m : M} (hm : ms[k]? = some m) (hb : msgOkB m.k m.p m.o m.xs = false) : senderB base ms = false := by
  have : ms.all (fun m => okS m.say) = false := by
    rw [List.all_eq_false]
    exact ⟨m, List.mem_of_getElem? hm, by simp [okS, M.say, hb]⟩
  simp [senderB, this]
theorem take_ok {ms : List M} {k : Nat} {m : M} (h : (ms.take k).all (fun m => okS m.say) = true) (hm : ms[k]? = some m) (hb : msgOkB m.k m.p m.o m.xs = true) : (ms.take (k + 1)).all (fun m => okS m.say) = true := by
  obtain ⟨hk, rfl⟩ := List.getElem?_eq_some_iff.1 hm
  rw [List.take_succ_eq_append_getElem hk, List.all_append, h]
  simp [okS, M.say, hb]

set_option maxRecDepth 100000 in
set_option maxHeartbeats 2000000 in
theorem specSender_any (base : Int) (a : Option Addr) (c : Nat) (ms : List M) (w : World) (ha : MRow w a ms) :
    Calls Tryz.prog 74 #[.agg #[.int .i64 base, .slice a ms.length c]] w fun e w' => e = .returned (.bool (senderB base ms)) ∧ Below w.heap.size w w' := by
  have bA := bel_alloc (Below.refl w.heap.size w) (.cells #[.int .i64 base, .slice a ms.length c] 115)
  have XA := Box.new w #[.int .i64 base, .slice a ms.length c] 115
  have hr := ha.below bA
  have hl := ha.1
  clear ha
  obtain ⟨n, hn⟩ : ∃ n, ms.length = n := ⟨_, rfl⟩
  have HN : Hid (ms.length = n) := hn
  rw [hn] at hl XA bA hr ⊢
  clear hn
  go_enter Tryz.func74, Tryz.ntmps74
  go_wp2
  go_loopw [3] (fun i wr => ∃ k : Nat, k ≤ n ∧ i = .int .i64 k ∧ (ms.take k).all (fun m => okS m.say) = true ∧ Box wr w.heap.size #[.int .i64 base, .slice a n c] 115 ∧ MRow wr a ms ∧ Below w.heap.size w wr) (fun i _ => n - (intOf i).toNat)
  case atStart => exact ⟨0, Nat.zero_le _, rfl, by simp, XA, hr, bA⟩
  case round =>
    obtain ⟨k, hk, rfl, hok, hX, hm, hB⟩ := hrel
    have HOK : Hid ((ms.take k).all (fun m => okS m.say) = true) := hok
    clear hok
    obtain ⟨x0, x1, zx⟩ := hX.at2
    by_cases hlt : k < n
    · have hi : (k : Int) < (n : Int) := by omega
      obtain ⟨m, hmk⟩ : ∃ m, ms[k]? = some m := ⟨_, List.getElem?_eq_getElem (by have := HN.out; omega)⟩
      have HM : Hid (ms[k]? = some m) := hmk
      obtain ⟨⟨b, off, rfl, y0, y1, y2, y3⟩, hrow⟩ := hm.2 k m hmk
      clear hmk
      go_wp2_with fail
      refine (specMsgOk_any m.k m.p m.o m.a m.c m.xs _ hrow).mono ?_
      rintro e w1 ⟨rfl, b1⟩
      have hX1 := hX.below b1
      have hm1 := hm.below b1
      have hB1 := bel_trans hB b1
      clear hX hm hB hrow y0 y1 y2 y3 x0 x1 zx b1 hr XA bA
      cases hb : msgOkB m.k m.p m.o m.xs
      · have HF : Hid (senderB base ms = false) := senderB_bad base HM.out hb
        clear hb
        go_wp2
        go_ret
        exact ⟨ret_bool HF.out.symm, hB1⟩
      · have HT := take_ok HOK.out HM.out hb
        have HT : Hid ((ms.take (k + 1)).all (fun m => okS m.say) = true) := HT
        clear hb
        go_wp2
        go_roundw
        case rel => exact ⟨k + 1, by omega, by go_num, HT.out, hX1, hm1, hB1⟩
        case measure => simp [intOf]; omega
    · have hkn : k = n := by omega
      have hall : Hid (ms.all (fun m => okS m.say) = true) := by
        have := HOK.out
        rw [List.take_of_length_le (by have := HN.out; omega)] at this
        exact this
      have E : Hid (senderB base ms = (decide (0 ≤ base ∧ base ≤ 100000) && (decide ((n : Int) ≤ 30) && decide (base + n ≤ 100000)))) := by
        unfold senderB
        have e30 : decide (n ≤ 30) = decide ((n : Int) ≤ 30) := by rw [decide_eq_decide]; omega
        rw [hall.out, HN.out, e30, Bool.and_true]
        exact rfl
      clear hm hr XA bA hall HOK hX
      by_cases h0 : 0 ≤ base ∧ base ≤ 100000
      · have H0 : Hid (decide (0 ≤ base ∧ base ≤ 100000) = true) := decide_eq_true h0
        obtain ⟨h00, h01⟩ := h0
        by_cases h1 : (n : Int) ≤ 30
        · have H1 : Hid (decide ((n : Int) ≤ 30) = true) := decide_eq_true h1
          go_wp2_with fail
          refine (specIn_any base 0 100000 _).mono ?_
          rintro e w1 ⟨rfl, h⟩
          subst h
          rw [H0.out]
          go_wp2
          go_ret
          exact ⟨ret_bool (by rw [E.out, H0.out, H1.out]; simp), hB⟩
        · have H1 : Hid (decide ((n : Int) ≤ 30) = false) := decide_eq_false h1
          have h1' : (30 : Int) < n := by omega
          go_wp2_with fail
          refine (specIn_any base 0 100000 _).mono ?_
          rintro e w1 ⟨rfl, h⟩
          subst h
          rw [H0.out]
          go_wp2
          go_ret
          exact ⟨ret_bool (by rw [E.out, H0.out, H1.out]; simp), hB⟩
      · have H0 : Hid (decide (0 ≤ base ∧ base ≤ 100000) = false) := decide_eq_false h0
        clear h0
        go_wp2_with fail
        refine (specIn_any base 0 100000 _).mono ?_
        rintro e w1 ⟨rfl, h⟩
        subst h
        rw [H0.out]
        go_wp2
        go_ret
        exact ⟨ret_bool (by rw [E.out, H0.out]; simp), hB⟩

set_option maxRecDepth 100000 in
set_option maxHeartbeats 2000000 in
theorem implSender_any (base : Int) (a : Option Addr) (c : Nat) (ms : List M) (w : World) (ha : MRow w a ms) :
    Calls Tryz.prog 91 #[.agg #[.int .i64 base, .slice a ms.length c]] w fun e w' => e = .returned (.bool (senderB base ms)) ∧ Below w.heap.size w w' := by
  have bA := bel_alloc (Below.refl w.heap.size w) (.cells #[.int .i64 base, .slice a ms.length c] 115)
  have XA := Box.new w #[.int .i64 base, .slice a ms.length c] 115
  have hr := ha.below bA
  have hl := ha.1
  clear ha
  obtain ⟨n, hn⟩ : ∃ n, ms.length = n := ⟨_, rfl⟩
  have HN : Hid (ms.length = n) := hn
  rw [hn] at hl XA bA hr ⊢
  clear hn
  have E : Hid (senderB base ms = (inB base 0 100000 && (decide ((n : Int) ≤ 30) && (decide (base + n ≤ 100000) && ms.all (fun m => okS m.say))))) := by
    unfold senderB
    have e30 : decide (n ≤ 30) = decide ((n : Int) ≤ 30) := by rw [decide_eq_decide]; omega
    rw [HN.out, e30]
    exact rfl
  by_cases h0 : inB base 0 100000 = true
  case neg =>
    have H0 : Hid (inB base 0 100000 = false) := by show _ = _; simpa using h0
    clear h0 XA hr
    go_enter Tryz.func91, Tryz.ntmps91
    go_wp2_with fail
    refine (isSeq_any base _).mono ?_
    rintro e w1 ⟨rfl, h⟩
    subst h
    rw [H0.out]
    go_wp2
    go_ret
    exact ⟨ret_bool (by rw [E.out, H0.out]; simp), bA⟩
  have H0 : Hid (inB base 0 100000 = true) := h0
  obtain ⟨h00, h01⟩ : 0 ≤ base ∧ base ≤ 100000 := of_decide_eq_true h0
  clear h0
  by_cases h1 : (n : Int) ≤ 30
  case neg =>
    have H1 : Hid (decide ((n : Int) ≤ 30) = false) := decide_eq_false h1
    have h1' : (30 : Int) < n := by omega
    clear XA hr
    go_enter Tryz.func91, Tryz.ntmps91
    go_wp2_with fail
    refine (isSeq_any base _).mono ?_
    rintro e w1 ⟨rfl, h⟩
    subst h
    rw [H0.out]
    go_wp2
    go_ret
    exact ⟨ret_bool (by rw [E.out, H0.out, H1.out]; simp), bA⟩
  have H1 : Hid (decide ((n : Int) ≤ 30) = true) := decide_eq_true h1
  by_cases h2 : base + (n : Int) ≤ 100000
  case neg =>
    have H2 : Hid (decide (base + (n : Int) ≤ 100000) = false) := decide_eq_false h2
    have H3 : Hid (inB (base + n) 0 100000 = false) := by simp [Hid, inB, h2]
    clear XA hr
    go_enter Tryz.func91, Tryz.ntmps91
    go_wp2_with fail
    refine (isSeq_any base _).mono ?_
    rintro e w1 ⟨rfl, h⟩
    subst h
    rw [H0.out]
    go_wp2_with fail
    refine (isSeq_any (base + n) _).mono ?_
    rintro e w1 ⟨rfl, h⟩
    subst h
    rw [H3.out]
    go_wp2
    go_ret
    exact ⟨ret_bool (by rw [E.out, H0.out, H1.out, H2.out]; simp), bA⟩
  have H2 : Hid (decide (base + (n : Int) ≤ 100000) = true) := decide_eq_true h2
  have H3 : Hid (inB (base + n) 0 100000 = true) := by unfold inB; exact decide_eq_true ⟨by omega, h2⟩
  have EE : Hid (senderB base ms = ms.all (fun m => okS m.say)) := by
    show senderB base ms = _
    rw [E.out, H0.out, H1.out, H2.out]
    simp
  go_enter Tryz.func91, Tryz.ntmps91
  go_wp2_with fail
  refine (isSeq_any base _).mono ?_
  rintro e w1 ⟨rfl, h⟩
  subst h
  rw [H0.out]
  go_wp2_with fail
  refine (isSeq_any (base + n) _).mono ?_
  rintro e w1 ⟨rfl, h⟩
  subst h
  rw [H3.out]
  go_wp2
  go_loopw [28] (fun i wr => ∃ k : Nat, k ≤ n ∧ i = .int .i64 k ∧ (ms.take k).all (fun m => okS m.say) = true ∧ MRow wr a ms ∧ Below w.heap.size w wr) (fun i _ => n - (intOf i).toNat)
  case atStart => exact ⟨0, Nat.zero_le _, rfl, by simp, hr, bA⟩
  case round =>
    obtain ⟨k, hk, rfl, hok, hm, hB⟩ := hrel
    have HOK : Hid ((ms.take k).all (fun m => okS m.say) = true) := hok
    clear hok
    by_cases hlt : k < n
    · have hi : (k : Int) < (n : Int) := by omega
      obtain ⟨m, hmk⟩ : ∃ m, ms[k]? = some m := ⟨_, List.getElem?_eq_getElem (by have := HN.out; omega)⟩
      have HM : Hid (ms[k]? = some m) := hmk
      obtain ⟨⟨b, off, rfl, y0, y1, y2, y3⟩, hrow⟩ := hm.2 k m hmk
      clear hmk
      go_wp2_with fail
      have bx := bel_alloc (Below.refl wr.heap.size wr) (.cells #[.int .i64 m.k, .int .i64 m.p, .bool m.o, .slice m.a m.xs.length m.c] 69)
      refine (msgOk_any m.k m.p m.o m.a m.c m.xs _ (hrow.below bx)).mono ?_
      rintro e w1 ⟨rfl, b1⟩
      have b1 := bel_trans bx b1
      have hm1 := hm.below b1
      have hB1 := bel_trans hB b1
      clear hm hB hrow y0 y1 y2 y3 b1 bx hr XA bA
      cases hb : msgOkB m.k m.p m.o m.xs
      · have HF : Hid (senderB base ms = false) := senderB_bad base HM.out hb
        clear hb
        go_wp2
        go_ret
        exact ⟨ret_bool HF.out.symm, hB1⟩
      · have HT := take_ok HOK.out HM.out hb
        have HT : Hid ((ms.take (k + 1)).all (fun m => okS m.say) = true) := HT
        clear hb
        go_wp2
        go_roundw
        case rel => exact ⟨k + 1, by omega, by go_num, HT.out, hm1, hB1⟩
        case measure => simp [intOf]; omega
    · have hkn : k = n := by omega
      have hall : Hid (ms.all (fun m => okS m.say) = true) := by
        have := HOK.out
        rw [List.take_of_length_le (by have := HN.out; omega)] at this
        exact this
      clear hm hr XA bA HOK
      go_wp2
      go_ret
      exact ⟨ret_bool (by rw [EE.out, hall.out]), hB⟩
end Go.Proofs.YtpfppeifppdmbaaGreat
