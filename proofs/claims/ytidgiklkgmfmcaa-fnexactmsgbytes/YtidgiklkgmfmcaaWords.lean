/- What wordsOf does: four words as an array, and whether they are that. -/
import Derived.Test.YtidgiklkgmfmcaaSpecOk
import Derived.BigQuiet
namespace Go.Proofs.Ytidgiklkgmfmcaa
open Go.RowKit
set_option linter.unusedVariables false

def arr4 (c0 c1 c2 c3 : Int) : Value := .agg #[.int .i64 c0, .int .i64 c1, .int .i64 c2, .int .i64 c3]

set_option maxHeartbeats 400000 in
theorem words_len (a : Option Addr) (ca n : Nat) (w : World) (hn : ((n : Int) != 4) = true) :
    Calls Try.prog 33 #[.slice a n ca] w fun e w' => e = .returned (.tuple #[.agg #[.int .i64 0, .int .i64 0, .int .i64 0, .int .i64 0], .bool false]) ∧ Below w.heap.size w w' := by
  go_enter Try.func33, Try.ntmps33
  go_wp2
  refine bodyPost_ret (v := .tuple #[.agg #[.int .i64 0, .int .i64 0, .int .i64 0, .int .i64 0], .bool false]) (by simp [results, Try.results33, go_sem]) rfl ⟨rfl, ?_⟩
  exact bel_alloc (bel_alloc (Below.refl _ _) _) _

set_option maxHeartbeats 400000 in
theorem isWord_any (x : Int) (w : World) :
    Calls Try.prog 35 #[.int .i64 x] w fun e w' => e = .returned (.bool (wordB x)) ∧ w' = w := by
  by_cases h0 : 0 ≤ x
  · by_cases h1 : x ≤ 65535
    · have hd : Hid (wordB x = true) := by show _ = _; simp [wordB, h0, h1]
      go_enter Try.func35, Try.ntmps35
      go_wp2
      go_ret
      rw [hd.out]
      exact ⟨rfl, rfl⟩
    · have hd : Hid (wordB x = false) := by show _ = _; simp [wordB, h1]
      have h1' : 65535 < x := by omega
      go_enter Try.func35, Try.ntmps35
      go_wp2
      go_ret
      rw [hd.out]
      exact ⟨rfl, rfl⟩
  · have hd : Hid (wordB x = false) := by show _ = _; simp [wordB, h0]
    have h1' : x < 0 := by omega
    go_enter Try.func35, Try.ntmps35
    go_wp2
    go_ret
    rw [hd.out]
    exact ⟨rfl, rfl⟩

/-- The two arrays of wordsOf: the result's, and the one that is filled. -/
abbrev A4 (w : World) (c0 c1 c2 c3 : Int) : World := (w.alloc (.cells #[.int .i64 0, .int .i64 0, .int .i64 0, .int .i64 0] 55)).alloc (.cells #[.int .i64 c0, .int .i64 c1, .int .i64 c2, .int .i64 c3] 55)
theorem A4_bel (w : World) (c0 c1 c2 c3 : Int) : Below w.heap.size w (A4 w c0 c1 c2 c3) := bel_alloc (bel_alloc (Below.refl _ _) _) _

set_option maxHeartbeats 1000000 in
theorem words_four (b off ca : Nat) (x0 x1 x2 x3 : Int) (w : World) (h0 : w.cell? ⟨b, off, none⟩ = some (.int .i64 x0)) (h1 : w.cell? ⟨b, off + 1, none⟩ = some (.int .i64 x1)) (h2 : w.cell? ⟨b, off + 2, none⟩ = some (.int .i64 x2)) (h3 : w.cell? ⟨b, off + 3, none⟩ = some (.int .i64 x3)) :
    Calls Try.prog 33 #[.slice (some ⟨b, off, none⟩) 4 ca] w fun e w' => ∃ c0 c1 c2 c3 : Int, e = .returned (.tuple #[.agg #[.int .i64 c0, .int .i64 c1, .int .i64 c2, .int .i64 c3], .bool ([x0, x1, x2, x3].all wordB)]) ∧
      ([x0, x1, x2, x3].all wordB = true → c0 = x0 ∧ c1 = x1 ∧ c2 = x2 ∧ c3 = x3) ∧ Below w.heap.size w w' := by
  have hb := lt_of_cell h0
  simp only at hb
  go_enter Try.func33, Try.ntmps33
  go_wp2
  go_loopw [13] (fun i wr => (i = .int .i64 0 ∧ wr = A4 w 0 0 0 0) ∨ (i = .int .i64 1 ∧ wordB x0 = true ∧ wr = A4 w x0 0 0 0) ∨ (i = .int .i64 2 ∧ wordB x0 = true ∧ wordB x1 = true ∧ wr = A4 w x0 x1 0 0) ∨ (i = .int .i64 3 ∧ wordB x0 = true ∧ wordB x1 = true ∧ wordB x2 = true ∧ wr = A4 w x0 x1 x2 0) ∨ (i = .int .i64 4 ∧ wordB x0 = true ∧ wordB x1 = true ∧ wordB x2 = true ∧ wordB x3 = true ∧ wr = A4 w x0 x1 x2 x3)) (fun i _ => 4 - (intOf i).toNat)
  case atStart => exact .inl ⟨rfl, rfl⟩
  case round =>
    rcases hrel with ⟨rfl, rfl⟩ | ⟨rfl, b0, rfl⟩ | ⟨rfl, b0, b1, rfl⟩ | ⟨rfl, b0, b1, b2, rfl⟩ | ⟨rfl, b0, b1, b2, b3, rfl⟩
    · by_cases hw : wordB x0 = true
      · go_wp2_with (go_at_call 35; refine (isWord_any _ _).mono ?_; rintro e w1 ⟨rfl, rfl⟩)
        go_roundw
        case rel => refine .inr (.inl ⟨?_, ?_, ?_⟩) <;> first | trivial | rfl | exact hw
        case measure => simp [intOf]
      · have hw' : wordB x0 = false := by simpa using hw
        have HF : Hid ([x0, x1, x2, x3].all wordB = false) := by show _ = _; simp [hw']
        clear hw
        go_wp2_with (go_at_call 35; refine (isWord_any _ _).mono ?_; rintro e w1 ⟨rfl, rfl⟩)
        rw [HF.out]
        refine bodyPost_ret (v := .tuple #[.agg #[.int .i64 0, .int .i64 0, .int .i64 0, .int .i64 0], .bool false]) (by simp [results, Try.results33, go_sem]) rfl ⟨_, _, _, _, rfl, by simp, ?_⟩
        exact bel_alloc (bel_alloc (Below.refl _ _) _) _
    · have B0 : Hid (wordB x0 = true) := b0
      clear b0
      by_cases hw : wordB x1 = true
      · go_wp2_with (go_at_call 35; refine (isWord_any _ _).mono ?_; rintro e w1 ⟨rfl, rfl⟩)
        go_roundw
        case rel => refine .inr (.inr (.inl ⟨?_, ?_, ?_, ?_⟩)) <;> first | trivial | rfl | exact B0.out | exact hw
        case measure => simp [intOf]
      · have hw' : wordB x1 = false := by simpa using hw
        have HF : Hid ([x0, x1, x2, x3].all wordB = false) := by show _ = _; simp [hw']
        clear hw
        go_wp2_with (go_at_call 35; refine (isWord_any _ _).mono ?_; rintro e w1 ⟨rfl, rfl⟩)
        rw [HF.out]
        refine bodyPost_ret (v := .tuple #[.agg #[.int .i64 x0, .int .i64 0, .int .i64 0, .int .i64 0], .bool false]) (by simp [results, Try.results33, go_sem]) rfl ⟨_, _, _, _, rfl, by simp, ?_⟩
        exact bel_alloc (bel_alloc (Below.refl _ _) _) _
    · have B0 : Hid (wordB x0 = true) := b0
      have B1 : Hid (wordB x1 = true) := b1
      clear b0 b1
      by_cases hw : wordB x2 = true
      · go_wp2_with (go_at_call 35; refine (isWord_any _ _).mono ?_; rintro e w1 ⟨rfl, rfl⟩)
        go_roundw
        case rel => refine .inr (.inr (.inr (.inl ⟨?_, ?_, ?_, ?_, ?_⟩))) <;> first | trivial | rfl | exact B0.out | exact B1.out | exact hw
        case measure => simp [intOf]
      · have hw' : wordB x2 = false := by simpa using hw
        have HF : Hid ([x0, x1, x2, x3].all wordB = false) := by show _ = _; simp [hw']
        clear hw
        go_wp2_with (go_at_call 35; refine (isWord_any _ _).mono ?_; rintro e w1 ⟨rfl, rfl⟩)
        rw [HF.out]
        refine bodyPost_ret (v := .tuple #[.agg #[.int .i64 x0, .int .i64 x1, .int .i64 0, .int .i64 0], .bool false]) (by simp [results, Try.results33, go_sem]) rfl ⟨_, _, _, _, rfl, by simp, ?_⟩
        exact bel_alloc (bel_alloc (Below.refl _ _) _) _
    · have B0 : Hid (wordB x0 = true) := b0
      have B1 : Hid (wordB x1 = true) := b1
      have B2 : Hid (wordB x2 = true) := b2
      clear b0 b1 b2
      by_cases hw : wordB x3 = true
      · go_wp2_with (go_at_call 35; refine (isWord_any _ _).mono ?_; rintro e w1 ⟨rfl, rfl⟩)
        go_roundw
        case rel => refine .inr (.inr (.inr (.inr ⟨?_, ?_, ?_, ?_, ?_, ?_⟩))) <;> first | trivial | rfl | exact B0.out | exact B1.out | exact B2.out | exact hw
        case measure => simp [intOf]
      · have hw' : wordB x3 = false := by simpa using hw
        have HF : Hid ([x0, x1, x2, x3].all wordB = false) := by show _ = _; simp [hw']
        clear hw
        go_wp2_with (go_at_call 35; refine (isWord_any _ _).mono ?_; rintro e w1 ⟨rfl, rfl⟩)
        rw [HF.out]
        refine bodyPost_ret (v := .tuple #[.agg #[.int .i64 x0, .int .i64 x1, .int .i64 x2, .int .i64 0], .bool false]) (by simp [results, Try.results33, go_sem]) rfl ⟨_, _, _, _, rfl, by simp, ?_⟩
        exact bel_alloc (bel_alloc (Below.refl _ _) _) _
    · have B0 : Hid (wordB x0 = true) := b0
      have B1 : Hid (wordB x1 = true) := b1
      have B2 : Hid (wordB x2 = true) := b2
      have B3 : Hid (wordB x3 = true) := b3
      clear b0 b1 b2 b3
      have HF : Hid ([x0, x1, x2, x3].all wordB = true) := by show _ = _; simp [B0.out, B1.out, B2.out, B3.out]
      go_wp2
      rw [HF.out]
      refine bodyPost_ret (v := .tuple #[.agg #[.int .i64 x0, .int .i64 x1, .int .i64 x2, .int .i64 x3], .bool true]) (by simp [results, Try.results33, go_sem]) rfl ⟨_, _, _, _, rfl, fun _ => ⟨rfl, rfl, rfl, rfl⟩, ?_⟩
      exact bel_alloc (bel_alloc (Below.refl _ _) _) _

theorem four (xs : List Int) (h : xs.length = 4) : ∃ x0 x1 x2 x3, xs = [x0, x1, x2, x3] := by
  match xs, h with
  | [x0, x1, x2, x3], _ => exact ⟨x0, x1, x2, x3, rfl⟩

theorem words_any (a : Option Addr) (ca : Nat) (xs : List Int) (w : World) (ha : Row .i64 w a xs) :
    Calls Try.prog 33 #[.slice a xs.length ca] w fun e w' => ∃ c0 c1 c2 c3 : Int, e = .returned (.tuple #[.agg #[.int .i64 c0, .int .i64 c1, .int .i64 c2, .int .i64 c3], .bool (wordsB xs 4)]) ∧
      (wordsB xs 4 = true → xs = [c0, c1, c2, c3]) ∧ Below w.heap.size w w' := by
  by_cases h : xs.length = 4
  · obtain ⟨x0, x1, x2, x3, rfl⟩ := four xs h
    have g := ha.2
    obtain ⟨b, off, rfl, g0⟩ := g 0 (by simp)
    obtain ⟨b', off', e1, g1⟩ := g 1 (by simp)
    obtain ⟨rfl, rfl⟩ : b' = b ∧ off' = off := by simp only [Option.some.injEq, Addr.mk.injEq] at e1; exact ⟨e1.1.symm, e1.2.1.symm⟩
    obtain ⟨b2, off2, e2, g2⟩ := g 2 (by simp)
    obtain ⟨rfl, rfl⟩ : b2 = b' ∧ off2 = off' := by simp only [Option.some.injEq, Addr.mk.injEq] at e2; exact ⟨e2.1.symm, e2.2.1.symm⟩
    obtain ⟨b3, off3, e3, g3⟩ := g 3 (by simp)
    obtain ⟨rfl, rfl⟩ : b3 = b2 ∧ off3 = off2 := by simp only [Option.some.injEq, Addr.mk.injEq] at e3; exact ⟨e3.1.symm, e3.2.1.symm⟩
    have ew : wordsB [x0, x1, x2, x3] 4 = [x0, x1, x2, x3].all wordB := by unfold wordsB; simp
    refine (words_four b3 off3 ca x0 x1 x2 x3 w g0 g1 g2 g3).mono ?_
    rintro e w1 ⟨c0, c1, c2, c3, rfl, hc, hb⟩
    rw [ew]
    refine ⟨c0, c1, c2, c3, rfl, fun h => ?_, hb⟩
    obtain ⟨rfl, rfl, rfl, rfl⟩ := hc h
    rfl
  · have ew : wordsB xs 4 = false := by unfold wordsB; simp; omega
    refine (words_len a ca xs.length w (by simp; omega)).mono ?_
    rintro e w1 ⟨rfl, hb⟩
    rw [ew]
    exact ⟨0, 0, 0, 0, rfl, (fun h => by cases h), hb⟩
end Go.Proofs.Ytidgiklkgmfmcaa
