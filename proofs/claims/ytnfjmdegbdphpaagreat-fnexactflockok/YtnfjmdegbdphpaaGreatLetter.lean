/- Words and Letter: see the heads of the parts. -/
import Derived.Test.YtnfjmdegbdphpaaGreatHr9
import Derived.BigQuiet
/- What wordsOf does: four words as an array, and whether they are that. -/
namespace Go.Proofs.YtnfjmdegbdphpaaGreat
open Go.RowKit
set_option linter.unusedVariables false

def arr4 (c0 c1 c2 c3 : Int) : Value := .agg #[.int .i64 c0, .int .i64 c1, .int .i64 c2, .int .i64 c3]

set_option maxHeartbeats 400000 in
theorem words_len (a : Option Addr) (ca n : Nat) (w : World) (hn : ((n : Int) != 4) = true) :
    Calls Tryz.prog 99 #[.slice a n ca] w fun e w' => e = .returned (.tuple #[.agg #[.int .i64 0, .int .i64 0, .int .i64 0, .int .i64 0], .bool false]) ∧ Below w.heap.size w w' := by
  go_enter Tryz.func99, Tryz.ntmps99
  go_wp2
  refine bodyPost_ret (v := .tuple #[.agg #[.int .i64 0, .int .i64 0, .int .i64 0, .int .i64 0], .bool false]) (by simp [results, Tryz.results99, go_sem]) rfl ⟨rfl, ?_⟩
  exact bel_alloc (bel_alloc (Below.refl _ _) _) _

set_option maxHeartbeats 400000 in
theorem isWord_any (x : Int) (w : World) :
    Calls Tryz.prog 71 #[.int .i64 x] w fun e w' => e = .returned (.bool (wordB x)) ∧ w' = w := by
  by_cases h0 : 0 ≤ x
  · by_cases h1 : x ≤ 65535
    · have hd : Hid (wordB x = true) := by show _ = _; simp [wordB, h0, h1]
      go_enter Tryz.func71, Tryz.ntmps71
      go_wp2
      go_ret
      rw [hd.out]
      exact ⟨rfl, rfl⟩
    · have hd : Hid (wordB x = false) := by show _ = _; simp [wordB, h1]
      have h1' : 65535 < x := by omega
      go_enter Tryz.func71, Tryz.ntmps71
      go_wp2
      go_ret
      rw [hd.out]
      exact ⟨rfl, rfl⟩
  · have hd : Hid (wordB x = false) := by show _ = _; simp [wordB, h0]
    have h1' : x < 0 := by omega
    go_enter Tryz.func71, Tryz.ntmps71
    go_wp2
    go_ret
    rw [hd.out]
    exact ⟨rfl, rfl⟩

/-- The two arrays of wordsOf: the result's, and the one that is filled. -/
abbrev A4 (w : World) (c0 c1 c2 c3 : Int) : World := (w.alloc (.cells #[.int .i64 0, .int .i64 0, .int .i64 0, .int .i64 0] 163)).alloc (.cells #[.int .i64 c0, .int .i64 c1, .int .i64 c2, .int .i64 c3] 163)
theorem A4_bel (w : World) (c0 c1 c2 c3 : Int) : Below w.heap.size w (A4 w c0 c1 c2 c3) := bel_alloc (bel_alloc (Below.refl _ _) _) _

set_option maxHeartbeats 1000000 in
theorem words_four (b off ca : Nat) (x0 x1 x2 x3 : Int) (w : World) (h0 : w.cell? ⟨b, off, none⟩ = some (.int .i64 x0)) (h1 : w.cell? ⟨b, off + 1, none⟩ = some (.int .i64 x1)) (h2 : w.cell? ⟨b, off + 2, none⟩ = some (.int .i64 x2)) (h3 : w.cell? ⟨b, off + 3, none⟩ = some (.int .i64 x3)) :
    Calls Tryz.prog 99 #[.slice (some ⟨b, off, none⟩) 4 ca] w fun e w' => ∃ c0 c1 c2 c3 : Int, e = .returned (.tuple #[.agg #[.int .i64 c0, .int .i64 c1, .int .i64 c2, .int .i64 c3], .bool ([x0, x1, x2, x3].all wordB)]) ∧
      ([x0, x1, x2, x3].all wordB = true → c0 = x0 ∧ c1 = x1 ∧ c2 = x2 ∧ c3 = x3) ∧ Below w.heap.size w w' := by
  have hb := lt_of_cell h0
  simp only at hb
  go_enter Tryz.func99, Tryz.ntmps99
  go_wp2
  go_loopw [13] (fun i wr => (i = .int .i64 0 ∧ wr = A4 w 0 0 0 0) ∨ (i = .int .i64 1 ∧ wordB x0 = true ∧ wr = A4 w x0 0 0 0) ∨ (i = .int .i64 2 ∧ wordB x0 = true ∧ wordB x1 = true ∧ wr = A4 w x0 x1 0 0) ∨ (i = .int .i64 3 ∧ wordB x0 = true ∧ wordB x1 = true ∧ wordB x2 = true ∧ wr = A4 w x0 x1 x2 0) ∨ (i = .int .i64 4 ∧ wordB x0 = true ∧ wordB x1 = true ∧ wordB x2 = true ∧ wordB x3 = true ∧ wr = A4 w x0 x1 x2 x3)) (fun i _ => 4 - (intOf i).toNat)
  case atStart => exact .inl ⟨rfl, rfl⟩
  case round =>
    rcases hrel with ⟨rfl, rfl⟩ | ⟨rfl, b0, rfl⟩ | ⟨rfl, b0, b1, rfl⟩ | ⟨rfl, b0, b1, b2, rfl⟩ | ⟨rfl, b0, b1, b2, b3, rfl⟩
    · by_cases hw : wordB x0 = true
      · go_wp2_with (go_at_call 71; refine (isWord_any _ _).mono ?_; rintro e w1 ⟨rfl, rfl⟩)
        go_roundw
        case rel => refine .inr (.inl ⟨?_, ?_, ?_⟩) <;> first | trivial | rfl | exact hw
        case measure => simp [intOf]
      · have hw' : wordB x0 = false := by simpa using hw
        have HF : Hid ([x0, x1, x2, x3].all wordB = false) := by show _ = _; simp [hw']
        clear hw
        go_wp2_with (go_at_call 71; refine (isWord_any _ _).mono ?_; rintro e w1 ⟨rfl, rfl⟩)
        rw [HF.out]
        refine bodyPost_ret (v := .tuple #[.agg #[.int .i64 0, .int .i64 0, .int .i64 0, .int .i64 0], .bool false]) (by simp [results, Tryz.results99, go_sem]) rfl ⟨_, _, _, _, rfl, by simp, ?_⟩
        exact bel_alloc (bel_alloc (Below.refl _ _) _) _
    · have B0 : Hid (wordB x0 = true) := b0
      clear b0
      by_cases hw : wordB x1 = true
      · go_wp2_with (go_at_call 71; refine (isWord_any _ _).mono ?_; rintro e w1 ⟨rfl, rfl⟩)
        go_roundw
        case rel => refine .inr (.inr (.inl ⟨?_, ?_, ?_, ?_⟩)) <;> first | trivial | rfl | exact B0.out | exact hw
        case measure => simp [intOf]
      · have hw' : wordB x1 = false := by simpa using hw
        have HF : Hid ([x0, x1, x2, x3].all wordB = false) := by show _ = _; simp [hw']
        clear hw
        go_wp2_with (go_at_call 71; refine (isWord_any _ _).mono ?_; rintro e w1 ⟨rfl, rfl⟩)
        rw [HF.out]
        refine bodyPost_ret (v := .tuple #[.agg #[.int .i64 x0, .int .i64 0, .int .i64 0, .int .i64 0], .bool false]) (by simp [results, Tryz.results99, go_sem]) rfl ⟨_, _, _, _, rfl, by simp, ?_⟩
        exact bel_alloc (bel_alloc (Below.refl _ _) _) _
    · have B0 : Hid (wordB x0 = true) := b0
      have B1 : Hid (wordB x1 = true) := b1
      clear b0 b1
      by_cases hw : wordB x2 = true
      · go_wp2_with (go_at_call 71; refine (isWord_any _ _).mono ?_; rintro e w1 ⟨rfl, rfl⟩)
        go_roundw
        case rel => refine .inr (.inr (.inr (.inl ⟨?_, ?_, ?_, ?_, ?_⟩))) <;> first | trivial | rfl | exact B0.out | exact B1.out | exact hw
        case measure => simp [intOf]
      · have hw' : wordB x2 = false := by simpa using hw
        have HF : Hid ([x0, x1, x2, x3].all wordB = false) := by show _ = _; simp [hw']
        clear hw
        go_wp2_with (go_at_call 71; refine (isWord_any _ _).mono ?_; rintro e w1 ⟨rfl, rfl⟩)
        rw [HF.out]
        refine bodyPost_ret (v := .tuple #[.agg #[.int .i64 x0, .int .i64 x1, .int .i64 0, .int .i64 0], .bool false]) (by simp [results, Tryz.results99, go_sem]) rfl ⟨_, _, _, _, rfl, by simp, ?_⟩
        exact bel_alloc (bel_alloc (Below.refl _ _) _) _
    · have B0 : Hid (wordB x0 = true) := b0
      have B1 : Hid (wordB x1 = true) := b1
      have B2 : Hid (wordB x2 = true) := b2
      clear b0 b1 b2
      by_cases hw : wordB x3 = true
      · go_wp2_with (go_at_call 71; refine (isWord_any _ _).mono ?_; rintro e w1 ⟨rfl, rfl⟩)
        go_roundw
        case rel => refine .inr (.inr (.inr (.inr ⟨?_, ?_, ?_, ?_, ?_, ?_⟩))) <;> first | trivial | rfl | exact B0.out | exact B1.out | exact B2.out | exact hw
        case measure => simp [intOf]
      · have hw' : wordB x3 = false := by simpa using hw
        have HF : Hid ([x0, x1, x2, x3].all wordB = false) := by show _ = _; simp [hw']
        clear hw
        go_wp2_with (go_at_call 71; refine (isWord_any _ _).mono ?_; rintro e w1 ⟨rfl, rfl⟩)
        rw [HF.out]
        refine bodyPost_ret (v := .tuple #[.agg #[.int .i64 x0, .int .i64 x1, .int .i64 x2, .int .i64 0], .bool false]) (by simp [results, Tryz.results99, go_sem]) rfl ⟨_, _, _, _, rfl, by simp, ?_⟩
        exact bel_alloc (bel_alloc (Below.refl _ _) _) _
    · have B0 : Hid (wordB x0 = true) := b0
      have B1 : Hid (wordB x1 = true) := b1
      have B2 : Hid (wordB x2 = true) := b2
      have B3 : Hid (wordB x3 = true) := b3
      clear b0 b1 b2 b3
      have HF : Hid ([x0, x1, x2, x3].all wordB = true) := by show _ = _; simp [B0.out, B1.out, B2.out, B3.out]
      go_wp2
      rw [HF.out]
      refine bodyPost_ret (v := .tuple #[.agg #[.int .i64 x0, .int .i64 x1, .int .i64 x2, .int .i64 x3], .bool true]) (by simp [results, Tryz.results99, go_sem]) rfl ⟨_, _, _, _, rfl, fun _ => ⟨rfl, rfl, rfl, rfl⟩, ?_⟩
      exact bel_alloc (bel_alloc (Below.refl _ _) _) _

theorem four (xs : List Int) (h : xs.length = 4) : ∃ x0 x1 x2 x3, xs = [x0, x1, x2, x3] := by
  match xs, h with
  | [x0, x1, x2, x3], _ => exact ⟨x0, x1, x2, x3, rfl⟩

theorem words_any (a : Option Addr) (ca : Nat) (xs : List Int) (w : World) (ha : Row .i64 w a xs) :
    Calls Tryz.prog 99 #[.slice a xs.length ca] w fun e w' => ∃ c0 c1 c2 c3 : Int, e = .returned (.tuple #[.agg #[.int .i64 c0, .int .i64 c1, .int .i64 c2, .int .i64 c3], .bool (wordsB xs 4)]) ∧
      (wordsB xs 4 = true → xs = [c0, c1, c2, c3]) ∧ Below w.heap.size w w' := by
  by_cases h : xs.length = 4
  · obtain ⟨x0, x1, x2, x3, rfl⟩ := four xs h
    have g := ha.2
    obtain ⟨b, off, rfl, g0⟩ := g 0 (by simp)
    obtain ⟨b', off', e1, g1⟩ := g 1 (by simp)
    obtain ⟨rfl, rfl⟩ : b' = b ∧ off' = off := by simp only [Option.some.injEq, Addr.mk.injEq] at e1; exact ⟨e1.1.symm, e1.2.1.symm⟩
    obtain ⟨b2, off2, e2, g2⟩ := g 2 (by simp)
    obtain ⟨rfl, rfl⟩ : b2 = b' ∧ off2 = off' := by simp only [Option.some.injEq, Addr.mk.injEq] at e2; exact ⟨e2.1.symm, e2.2.1.symm⟩
    obtain ⟨b3, off3, e3, g3⟩ := g 3 (by simp)
    obtain ⟨rfl, rfl⟩ : b3 = b2 ∧ off3 = off2 := by simp only [Option.some.injEq, Addr.mk.injEq] at e3; exact ⟨e3.1.symm, e3.2.1.symm⟩
    have ew : wordsB [x0, x1, x2, x3] 4 = [x0, x1, x2, x3].all wordB := by unfold wordsB; simp
    refine (words_four b3 off3 ca x0 x1 x2 x3 w g0 g1 g2 g3).mono ?_
    rintro e w1 ⟨c0, c1, c2, c3, rfl, hc, hb⟩
    rw [ew]
    refine ⟨c0, c1, c2, c3, rfl, fun h => ?_, hb⟩
    obtain ⟨rfl, rfl, rfl, rfl⟩ := hc h
    rfl
  · have ew : wordsB xs 4 = false := by unfold wordsB; simp; omega
    refine (words_len a ca xs.length w (by simp; omega)).mono ?_
    rintro e w1 ⟨rfl, hb⟩
    rw [ew]
    exact ⟨0, 0, 0, 0, rfl, (fun h => by cases h), hb⟩
end Go.Proofs.YtnfjmdegbdphpaaGreat

/- What letterOf and MsgOk do. -/
namespace Go.Proofs.YtnfjmdegbdphpaaGreat
open Go.RowKit
set_option linter.unusedVariables false

/-- The letter of a right message. -/
def letterV (k p : Int) (o : Bool) (xs : List Int) : Value :=
  if k = 1 then .iface 205 (.agg #[.int .i64 p])
  else if k = 2 then .iface 206 (.agg #[.int .i64 p])
  else if k = 3 then .iface 208 (.agg #[.int .i64 p, .bool o, .int .i64 (xs.getD 0 0), .int .i64 (xs.getD 1 0), .int .i64 (xs.getD 2 0), .int .i64 (xs.getD 3 0)])
  else if k = 4 then .iface 209 (.agg #[.int .i64 p])
  else if k = 5 then .iface 210 (.agg #[.int .i64 p])
  else if k = 6 then .iface 212 (.agg #[.int .i64 p, .bool o])
  else .iface 214 (.agg #[.int .i64 p, .int .i64 (xs.getD 0 0), .int .i64 (xs.getD 1 0), .int .i64 (xs.getD 2 0), .int .i64 (xs.getD 3 0)])

set_option maxHeartbeats 1000000 in
theorem letter_page (k p : Int) (o : Bool) (a : Option Addr) (n ca : Nat) (w : World) (hp : ¬ (0 ≤ p ∧ p ≤ 5)) :
    Calls Tryz.prog 101 #[.agg #[.int .i64 k, .int .i64 p, .bool o, .slice a n ca]] w fun e w' => e = .returned (.tuple #[.nilIface, .bool false]) ∧ Below w.heap.size w w' := by
  by_cases h0 : p < 0
  · clear hp
    go_enter Tryz.func101, Tryz.ntmps101
    go_wp2
    go_ret2
    exact ⟨rfl, bel_alloc (Below.refl _ _) _⟩
  · have h1 : 6 ≤ p := by omega
    clear hp
    go_enter Tryz.func101, Tryz.ntmps101
    go_wp2
    go_ret2
    exact ⟨rfl, bel_alloc (Below.refl _ _) _⟩

set_option maxHeartbeats 2000000 in
theorem letter_1 (p : Int) (o : Bool) (a : Option Addr) (ca : Nat) (xs : List Int) (w : World) (ha : Row .i64 w a xs) (h0 : 0 ≤ p) (h1 : p ≤ 5) :
    Calls Tryz.prog 101 #[.agg #[.int .i64 1, .int .i64 p, .bool o, .slice a xs.length ca]] w fun e w' => e = .returned (.tuple #[.iface 205 (.agg #[.int .i64 p]), .bool (!o && (xs.length : Int) == 0)]) ∧ Below w.heap.size w w' := by
  have bA := bel_alloc (Below.refl w.heap.size w) (.cells #[.int .i64 1, .int .i64 p, .bool o, .slice a xs.length ca] 72)
  have hr := ha.below bA
  have h6 : decide (p < 0) = false := by simp; omega
  have h7 : decide (6 ≤ p) = false := by simp; omega
  cases o
  all_goals
    go_enter Tryz.func101, Tryz.ntmps101
    go_wp2_with fail
    refine (words_any a ca xs _ hr).mono ?_
    rintro e w1 ⟨c0, c1, c2, c3, rfl, hw, b1⟩
    have HW : Hid (wordsB xs 4 = true → xs = [c0, c1, c2, c3]) := hw
    obtain ⟨hc, hf⟩ := bcell b1
    have hz : w.heap.size < w1.heap.size := by have := b1.size; simp at this; omega
    have B := bel_trans bA b1
    clear hw b1 bA hr ha
    go_wp2
    go_ret2
    exact ⟨rfl, bel_alloc B _⟩

set_option maxHeartbeats 2000000 in
theorem letter_2 (p : Int) (o : Bool) (a : Option Addr) (ca : Nat) (xs : List Int) (w : World) (ha : Row .i64 w a xs) (h0 : 0 ≤ p) (h1 : p ≤ 5) :
    Calls Tryz.prog 101 #[.agg #[.int .i64 2, .int .i64 p, .bool o, .slice a xs.length ca]] w fun e w' => e = .returned (.tuple #[.iface 206 (.agg #[.int .i64 p]), .bool (!o && (xs.length : Int) == 0)]) ∧ Below w.heap.size w w' := by
  have bA := bel_alloc (Below.refl w.heap.size w) (.cells #[.int .i64 2, .int .i64 p, .bool o, .slice a xs.length ca] 72)
  have hr := ha.below bA
  have h6 : decide (p < 0) = false := by simp; omega
  have h7 : decide (6 ≤ p) = false := by simp; omega
  cases o
  all_goals
    go_enter Tryz.func101, Tryz.ntmps101
    go_wp2_with fail
    refine (words_any a ca xs _ hr).mono ?_
    rintro e w1 ⟨c0, c1, c2, c3, rfl, hw, b1⟩
    have HW : Hid (wordsB xs 4 = true → xs = [c0, c1, c2, c3]) := hw
    obtain ⟨hc, hf⟩ := bcell b1
    have hz : w.heap.size < w1.heap.size := by have := b1.size; simp at this; omega
    have B := bel_trans bA b1
    clear hw b1 bA hr ha
    go_wp2
    go_ret2
    exact ⟨rfl, bel_alloc B _⟩

set_option maxHeartbeats 2000000 in
theorem letter_4 (p : Int) (o : Bool) (a : Option Addr) (ca : Nat) (xs : List Int) (w : World) (ha : Row .i64 w a xs) (h0 : 0 ≤ p) (h1 : p ≤ 5) :
    Calls Tryz.prog 101 #[.agg #[.int .i64 4, .int .i64 p, .bool o, .slice a xs.length ca]] w fun e w' => e = .returned (.tuple #[.iface 209 (.agg #[.int .i64 p]), .bool (!o && (xs.length : Int) == 0)]) ∧ Below w.heap.size w w' := by
  have bA := bel_alloc (Below.refl w.heap.size w) (.cells #[.int .i64 4, .int .i64 p, .bool o, .slice a xs.length ca] 72)
  have hr := ha.below bA
  have h6 : decide (p < 0) = false := by simp; omega
  have h7 : decide (6 ≤ p) = false := by simp; omega
  cases o
  all_goals
    go_enter Tryz.func101, Tryz.ntmps101
    go_wp2_with fail
    refine (words_any a ca xs _ hr).mono ?_
    rintro e w1 ⟨c0, c1, c2, c3, rfl, hw, b1⟩
    have HW : Hid (wordsB xs 4 = true → xs = [c0, c1, c2, c3]) := hw
    obtain ⟨hc, hf⟩ := bcell b1
    have hz : w.heap.size < w1.heap.size := by have := b1.size; simp at this; omega
    have B := bel_trans bA b1
    clear hw b1 bA hr ha
    go_wp2
    go_ret2
    exact ⟨rfl, bel_alloc B _⟩

set_option maxHeartbeats 2000000 in
theorem letter_5 (p : Int) (o : Bool) (a : Option Addr) (ca : Nat) (xs : List Int) (w : World) (ha : Row .i64 w a xs) (h0 : 0 ≤ p) (h1 : p ≤ 5) :
    Calls Tryz.prog 101 #[.agg #[.int .i64 5, .int .i64 p, .bool o, .slice a xs.length ca]] w fun e w' => e = .returned (.tuple #[.iface 210 (.agg #[.int .i64 p]), .bool (!o && (xs.length : Int) == 0)]) ∧ Below w.heap.size w w' := by
  have bA := bel_alloc (Below.refl w.heap.size w) (.cells #[.int .i64 5, .int .i64 p, .bool o, .slice a xs.length ca] 72)
  have hr := ha.below bA
  have h6 : decide (p < 0) = false := by simp; omega
  have h7 : decide (6 ≤ p) = false := by simp; omega
  cases o
  all_goals
    go_enter Tryz.func101, Tryz.ntmps101
    go_wp2_with fail
    refine (words_any a ca xs _ hr).mono ?_
    rintro e w1 ⟨c0, c1, c2, c3, rfl, hw, b1⟩
    have HW : Hid (wordsB xs 4 = true → xs = [c0, c1, c2, c3]) := hw
    obtain ⟨hc, hf⟩ := bcell b1
    have hz : w.heap.size < w1.heap.size := by have := b1.size; simp at this; omega
    have B := bel_trans bA b1
    clear hw b1 bA hr ha
    go_wp2
    go_ret2
    exact ⟨rfl, bel_alloc B _⟩

set_option maxHeartbeats 2000000 in
theorem letter_3 (p : Int) (o : Bool) (a : Option Addr) (ca : Nat) (xs : List Int) (w : World) (ha : Row .i64 w a xs) (h0 : 0 ≤ p) (h1 : p ≤ 5) :
    Calls Tryz.prog 101 #[.agg #[.int .i64 3, .int .i64 p, .bool o, .slice a xs.length ca]] w fun e w' => ∃ c0 c1 c2 c3 : Int, e = .returned (.tuple #[.iface 208 (.agg #[.int .i64 p, .bool o, .int .i64 c0, .int .i64 c1, .int .i64 c2, .int .i64 c3]), .bool (wordsB xs 4)]) ∧ (wordsB xs 4 = true → xs = [c0, c1, c2, c3]) ∧ Below w.heap.size w w' := by
  have bA := bel_alloc (Below.refl w.heap.size w) (.cells #[.int .i64 3, .int .i64 p, .bool o, .slice a xs.length ca] 72)
  have hr := ha.below bA
  have h6 : decide (p < 0) = false := by simp; omega
  have h7 : decide (6 ≤ p) = false := by simp; omega
  cases o
  all_goals
    go_enter Tryz.func101, Tryz.ntmps101
    go_wp2_with fail
    refine (words_any a ca xs _ hr).mono ?_
    rintro e w1 ⟨c0, c1, c2, c3, rfl, hw, b1⟩
    have HW : Hid (wordsB xs 4 = true → xs = [c0, c1, c2, c3]) := hw
    obtain ⟨hc, hf⟩ := bcell b1
    have hz : w.heap.size < w1.heap.size := by have := b1.size; simp at this; omega
    have B := bel_trans bA b1
    clear hw b1 bA hr ha
    go_wp2
    go_ret2
    exact ⟨c0, c1, c2, c3, rfl, HW.out, bel_alloc B _⟩

set_option maxHeartbeats 2000000 in
theorem letter_6 (p : Int) (o : Bool) (a : Option Addr) (ca : Nat) (xs : List Int) (w : World) (ha : Row .i64 w a xs) (h0 : 0 ≤ p) (h1 : p ≤ 5) :
    Calls Tryz.prog 101 #[.agg #[.int .i64 6, .int .i64 p, .bool o, .slice a xs.length ca]] w fun e w' => e = .returned (.tuple #[.iface 212 (.agg #[.int .i64 p, .bool o]), .bool ((xs.length : Int) == 0)]) ∧ Below w.heap.size w w' := by
  have bA := bel_alloc (Below.refl w.heap.size w) (.cells #[.int .i64 6, .int .i64 p, .bool o, .slice a xs.length ca] 72)
  have hr := ha.below bA
  have h6 : decide (p < 0) = false := by simp; omega
  have h7 : decide (6 ≤ p) = false := by simp; omega
  cases o
  all_goals
    go_enter Tryz.func101, Tryz.ntmps101
    go_wp2_with fail
    refine (words_any a ca xs _ hr).mono ?_
    rintro e w1 ⟨c0, c1, c2, c3, rfl, hw, b1⟩
    have HW : Hid (wordsB xs 4 = true → xs = [c0, c1, c2, c3]) := hw
    obtain ⟨hc, hf⟩ := bcell b1
    have hz : w.heap.size < w1.heap.size := by have := b1.size; simp at this; omega
    have B := bel_trans bA b1
    clear hw b1 bA hr ha
    go_wp2
    go_quiet (fail)
    go_wp2
    go_ret2
    exact ⟨rfl, below_drewN (bel_alloc B _) _⟩

set_option maxHeartbeats 2000000 in
theorem letter_7 (p : Int) (o : Bool) (a : Option Addr) (ca : Nat) (xs : List Int) (w : World) (ha : Row .i64 w a xs) (h0 : 0 ≤ p) (h1 : p ≤ 5) :
    Calls Tryz.prog 101 #[.agg #[.int .i64 7, .int .i64 p, .bool o, .slice a xs.length ca]] w fun e w' => ∃ c0 c1 c2 c3 : Int, e = .returned (.tuple #[.iface 214 (.agg #[.int .i64 p, .int .i64 c0, .int .i64 c1, .int .i64 c2, .int .i64 c3]), .bool (wordsB xs 4 && !o)]) ∧ (wordsB xs 4 = true → xs = [c0, c1, c2, c3]) ∧ Below w.heap.size w w' := by
  have bA := bel_alloc (Below.refl w.heap.size w) (.cells #[.int .i64 7, .int .i64 p, .bool o, .slice a xs.length ca] 72)
  have hr := ha.below bA
  have h6 : decide (p < 0) = false := by simp; omega
  have h7 : decide (6 ≤ p) = false := by simp; omega
  obtain ⟨f, hf4⟩ : ∃ f, wordsB xs 4 = f := ⟨_, rfl⟩
  cases o <;> cases f
  all_goals
    go_enter Tryz.func101, Tryz.ntmps101
    go_wp2_with fail
    refine (words_any a ca xs _ hr).mono ?_
    rintro e w1 ⟨c0, c1, c2, c3, rfl, hw, b1⟩
    have HW : Hid (wordsB xs 4 = true → xs = [c0, c1, c2, c3]) := hw
    obtain ⟨hc, hf⟩ := bcell b1
    have hz : w.heap.size < w1.heap.size := by have := b1.size; simp at this; omega
    have B := bel_trans bA b1
    clear hw b1 bA hr ha
    go_wp2
    go_quiet (fail)
    go_wp2
    go_ret2
    have HW2 := HW.out
    rw [hf4] at HW2 ⊢
    exact ⟨c0, c1, c2, c3, rfl, HW2, below_drewN (bel_alloc B _) _⟩

set_option maxHeartbeats 2000000 in
theorem letter_no (k : Int) (p : Int) (o : Bool) (a : Option Addr) (ca : Nat) (xs : List Int) (w : World) (ha : Row .i64 w a xs) (h0 : 0 ≤ p) (h1 : p ≤ 5) (hk : k < 1 ∨ 7 < k) :
    Calls Tryz.prog 101 #[.agg #[.int .i64 k, .int .i64 p, .bool o, .slice a xs.length ca]] w fun e w' => e = .returned (.tuple #[.nilIface, .bool false]) ∧ Below w.heap.size w w' := by
  have bA := bel_alloc (Below.refl w.heap.size w) (.cells #[.int .i64 k, .int .i64 p, .bool o, .slice a xs.length ca] 72)
  have hr := ha.below bA
  have h6 : decide (p < 0) = false := by simp; omega
  have h7 : decide (6 ≤ p) = false := by simp; omega
  have b1 : (k == 1) = false := by simp; omega
  have b2 : (k == 2) = false := by simp; omega
  have b3 : (k == 3) = false := by simp; omega
  have b4 : (k == 4) = false := by simp; omega
  have b5 : (k == 5) = false := by simp; omega
  have b6 : (k == 6) = false := by simp; omega
  have b7 : (k == 7) = false := by simp; omega
  clear hk
  cases o
  all_goals
    go_enter Tryz.func101, Tryz.ntmps101
    go_wp2_with fail
    refine (words_any a ca xs _ hr).mono ?_
    rintro e w1 ⟨c0, c1, c2, c3, rfl, hw, b1⟩
    have HW : Hid (wordsB xs 4 = true → xs = [c0, c1, c2, c3]) := hw
    obtain ⟨hc, hf⟩ := bcell b1
    have hz : w.heap.size < w1.heap.size := by have := b1.size; simp at this; omega
    have B := bel_trans bA b1
    clear hw b1 bA hr ha
    go_wp2
    go_ret2
    exact ⟨rfl, bel_alloc B _⟩

theorem letter_any (k p : Int) (o : Bool) (a : Option Addr) (ca : Nat) (xs : List Int) (w : World) (ha : Row .i64 w a xs) :
    Calls Tryz.prog 101 #[.agg #[.int .i64 k, .int .i64 p, .bool o, .slice a xs.length ca]] w fun e w' =>
      ∃ L, e = .returned (.tuple #[L, .bool (msgOkB k p o xs)]) ∧ (msgOkB k p o xs = true → L = letterV k p o xs) ∧ Below w.heap.size w w' := by
  by_cases hp : 0 ≤ p ∧ p ≤ 5
  · obtain ⟨h0, h1⟩ := hp
    by_cases hk : 1 ≤ k ∧ k ≤ 7
    · rcases (by omega : k = 1 ∨ k = 2 ∨ k = 3 ∨ k = 4 ∨ k = 5 ∨ k = 6 ∨ k = 7) with rfl | rfl | rfl | rfl | rfl | rfl | rfl
      · refine (letter_1 p o a ca xs w ha h0 h1).mono ?_
        rintro e w1 ⟨rfl, hb⟩
        rw [ok_plain ⟨h0, h1⟩ hk (by decide) (by decide) (by decide)]
        exact ⟨_, rfl, fun _ => rfl, hb⟩
      · refine (letter_2 p o a ca xs w ha h0 h1).mono ?_
        rintro e w1 ⟨rfl, hb⟩
        rw [ok_plain ⟨h0, h1⟩ hk (by decide) (by decide) (by decide)]
        exact ⟨_, rfl, fun _ => rfl, hb⟩
      · refine (letter_3 p o a ca xs w ha h0 h1).mono ?_
        rintro e w1 ⟨c0, c1, c2, c3, rfl, hw, hb⟩
        rw [ok_3 ⟨h0, h1⟩]
        exact ⟨_, rfl, fun h => by rw [hw h]; rfl, hb⟩
      · refine (letter_4 p o a ca xs w ha h0 h1).mono ?_
        rintro e w1 ⟨rfl, hb⟩
        rw [ok_plain ⟨h0, h1⟩ hk (by decide) (by decide) (by decide)]
        exact ⟨_, rfl, fun _ => rfl, hb⟩
      · refine (letter_5 p o a ca xs w ha h0 h1).mono ?_
        rintro e w1 ⟨rfl, hb⟩
        rw [ok_plain ⟨h0, h1⟩ hk (by decide) (by decide) (by decide)]
        exact ⟨_, rfl, fun _ => rfl, hb⟩
      · refine (letter_6 p o a ca xs w ha h0 h1).mono ?_
        rintro e w1 ⟨rfl, hb⟩
        rw [ok_6 ⟨h0, h1⟩]
        exact ⟨_, rfl, fun _ => rfl, hb⟩
      · refine (letter_7 p o a ca xs w ha h0 h1).mono ?_
        rintro e w1 ⟨c0, c1, c2, c3, rfl, hw, hb⟩
        rw [ok_7 ⟨h0, h1⟩]
        refine ⟨_, rfl, fun h => ?_, hb⟩
        rw [Bool.and_eq_true] at h
        rw [hw h.1]
        rfl
    · refine (letter_no k p o a ca xs w ha h0 h1 (by omega)).mono ?_
      rintro e w1 ⟨rfl, hb⟩
      rw [msgOk_kind (decide_eq_false hk)]
      exact ⟨_, rfl, (fun h => by cases h), hb⟩
  · refine (letter_page k p o a _ ca w hp).mono ?_
    rintro e w1 ⟨rfl, hb⟩
    rw [msgOk_page (decide_eq_false hp)]
    exact ⟨_, rfl, (fun h => by cases h), hb⟩

set_option maxHeartbeats 400000 in
theorem msgOk_any (k p : Int) (o : Bool) (a : Option Addr) (ca : Nat) (xs : List Int) (w : World) (ha : Row .i64 w a xs) :
    Calls Tryz.prog 68 #[.agg #[.int .i64 k, .int .i64 p, .bool o, .slice a xs.length ca]] w fun e w' => e = .returned (.bool (msgOkB k p o xs)) ∧ Below w.heap.size w w' := by
  have bA := bel_alloc (Below.refl w.heap.size w) (.cells #[.int .i64 k, .int .i64 p, .bool o, .slice a xs.length ca] 72)
  have hr := ha.below bA
  go_enter Tryz.func68, Tryz.ntmps68
  go_wp2_with fail
  refine (letter_any k p o a ca xs _ hr).mono ?_
  rintro e w1 ⟨L, rfl, hL, b1⟩
  have B := bel_trans bA b1
  clear hL b1 bA hr ha
  go_wp2
  go_ret
  exact ⟨rfl, B⟩
end Go.Proofs.YtnfjmdegbdphpaaGreat
