/- SpecOk and Words: see the heads of the parts. -/
import Derived.Test.YtpfppeifppdmbaaGreatFrm
import Derived.Test.YtpfppeifppdmbaaGreatOkB
import Derived.Test.YtpfppeifppdmbaaGreatSpecIn
import Derived.BigQuiet
/- What the specification's MsgOk does. -/
namespace Go.Proofs.YtpfppeifppdmbaaGreat
open Go.RowKit
set_option linter.unusedVariables false

set_option maxHeartbeats 400000 in
theorem specWords_any (a : Option Addr) (ca : Nat) (xs : List Int) (m : Int) (w : World) (ha : Row .i64 w a xs) :
    Calls Tryz.prog 103 #[.slice a xs.length ca, .int .i64 m] w fun e w' => e = .returned (.bool (wordsB xs m)) ∧ w' = w := by
  obtain ⟨hl, ha⟩ := ha
  obtain ⟨n, hn⟩ : ∃ n, xs.length = n := ⟨_, rfl⟩
  have HN : Hid (xs.length = n) := hn
  rw [hn] at hl ha ⊢
  clear hn
  go_enter Tryz.func103, Tryz.ntmps103
  go_wp2
  go_loop [5] (fun i => ∃ k : Nat, k ≤ n ∧ i = .int .i64 k ∧ (xs.take k).all wordB = true) (fun i => n - (intOf i).toNat)
  case atStart => exact ⟨0, Nat.zero_le _, rfl, by simp⟩
  case round =>
    obtain ⟨k, hk, rfl, hg⟩ := hrel
    have HG : Hid ((xs.take k).all wordB = true) := hg
    clear hg
    by_cases hlt : k < n
    · obtain ⟨ba, oa, rfl, hca⟩ := ha k hlt
      have hi : (k : Int) < (n : Int) := by omega
      have H1 : Hid ((xs.take (k + 1)).all wordB = wordB (xs.getD k 0)) := by show _ = _; rw [all_take xs k (by have := HN.out; omega), HG.out, Bool.true_and]
      obtain ⟨c, hce⟩ : ∃ c, xs.getD k 0 = c := ⟨_, rfl⟩
      have HC : Hid (xs.getD k 0 = c) := hce
      rw [hce] at hca
      clear ha hce
      by_cases hw : 0 ≤ c ∧ c ≤ 65535
      · have hd : decide (0 ≤ c ∧ c ≤ 65535) = true := decide_eq_true hw
        clear hw
        go_wp2_with (go_at_call 26; refine (specIn_any _ _ _ _).mono ?_; rintro e w1 ⟨rfl, rfl⟩)
        go_round
        case rel => exact ⟨k + 1, by omega, by go_num, by rw [H1.out, HC.out]; exact hd⟩
        case measure => simp [intOf]; omega
      · have hd : decide (0 ≤ c ∧ c ≤ 65535) = false := decide_eq_false hw
        clear hw
        go_wp2_with (go_at_call 26; refine (specIn_any _ _ _ _).mono ?_; rintro e w1 ⟨rfl, rfl⟩)
        go_ret
        refine ⟨ret_bool ?_, rfl⟩
        unfold wordsB
        rw [all_bad xs k (by have := HN.out; omega) (by rw [HC.out]; exact hd)]
        rfl
    · go_wp2
      go_ret
      have e : xs.take k = xs := List.take_of_length_le (by have := HN.out; omega)
      have hall := HG.out
      rw [e] at hall
      refine ⟨ret_bool ?_, rfl⟩
      unfold wordsB
      rw [hall, HN.out]
      rfl

theorem msgOk_kind {k p : Int} {o : Bool} {xs : List Int} (h : decide (1 ≤ k ∧ k ≤ 7) = false) : msgOkB k p o xs = false := by simp [msgOkB, h]
theorem msgOk_page {k p : Int} {o : Bool} {xs : List Int} (h : decide (0 ≤ p ∧ p ≤ 5) = false) : msgOkB k p o xs = false := by simp [msgOkB, h]

set_option maxHeartbeats 1000000 in
theorem specMsgOk_any (k p : Int) (o : Bool) (a : Option Addr) (ca : Nat) (xs : List Int) (w : World) (ha : Row .i64 w a xs) :
    Calls Tryz.prog 75 #[.agg #[.int .i64 k, .int .i64 p, .bool o, .slice a xs.length ca]] w fun e w' => e = .returned (.bool (msgOkB k p o xs)) ∧ Below w.heap.size w w' := by
  have bA := bel_alloc (Below.refl w.heap.size w) (.cells #[.int .i64 k, .int .i64 p, .bool o, .slice a xs.length ca] 69)
  have hr := ha.below bA
  by_cases hp : 0 ≤ p ∧ p ≤ 5
  · have hpd : decide (0 ≤ p ∧ p ≤ 5) = true := decide_eq_true hp
    clear hp
    by_cases h3 : k = 3
    · subst h3
      have HF : Hid (msgOkB 3 p o xs = wordsB xs 4) := by simp [msgOkB, hpd, Hid]
      go_enter Tryz.func75, Tryz.ntmps75
      go_wp2_with (first | (go_at_call 26; refine (specIn_any _ _ _ _).mono ?_; rintro e w1 ⟨rfl, rfl⟩) | (go_at_call 103; refine (specWords_any a ca xs _ _ hr).mono ?_; rintro e w1 ⟨rfl, rfl⟩))
      go_ret
      exact ⟨ret_bool (HF.out.symm), bA⟩
    · by_cases h6 : k = 6
      · subst h6
        have HF : Hid (msgOkB 6 p o xs = wordsB xs 0) := by simp [msgOkB, hpd, Hid]
        clear h3
        go_enter Tryz.func75, Tryz.ntmps75
        go_wp2_with (first | (go_at_call 26; refine (specIn_any _ _ _ _).mono ?_; rintro e w1 ⟨rfl, rfl⟩) | (go_at_call 103; refine (specWords_any a ca xs _ _ hr).mono ?_; rintro e w1 ⟨rfl, rfl⟩))
        go_ret
        exact ⟨ret_bool (HF.out.symm), bA⟩
      · by_cases h7 : k = 7
        · subst h7
          clear h3 h6
          cases o
          · have HF : Hid (msgOkB 7 p false xs = wordsB xs 4) := by simp [msgOkB, hpd, Hid]
            go_enter Tryz.func75, Tryz.ntmps75
            go_wp2_with (first | (go_at_call 26; refine (specIn_any _ _ _ _).mono ?_; rintro e w1 ⟨rfl, rfl⟩) | (go_at_call 103; refine (specWords_any a ca xs _ _ hr).mono ?_; rintro e w1 ⟨rfl, rfl⟩))
            go_ret
            exact ⟨ret_bool (HF.out.symm), bA⟩
          · have HF : Hid (msgOkB 7 p true xs = false) := by simp [msgOkB, Hid]
            go_enter Tryz.func75, Tryz.ntmps75
            go_wp2_with (first | (go_at_call 26; refine (specIn_any _ _ _ _).mono ?_; rintro e w1 ⟨rfl, rfl⟩) | (go_at_call 103; refine (specWords_any a ca xs _ _ hr).mono ?_; rintro e w1 ⟨rfl, rfl⟩))
            go_ret
            exact ⟨ret_bool (HF.out.symm), bA⟩
        · have b3 : (k == 3) = false := by simp [h3]
          have b6 : (k == 6) = false := by simp [h6]
          have b7 : (k == 7) = false := by simp [h7]
          by_cases hk : 1 ≤ k ∧ k ≤ 7
          · have hkd : decide (1 ≤ k ∧ k ≤ 7) = true := decide_eq_true hk
            clear hk h3 h6 h7
            cases o
            · have HF : Hid (msgOkB k p false xs = wordsB xs 0) := by simp [msgOkB, hpd, hkd, b3, b6, b7, Hid]
              go_enter Tryz.func75, Tryz.ntmps75
              go_wp2_with (first | (go_at_call 26; refine (specIn_any _ _ _ _).mono ?_; rintro e w1 ⟨rfl, rfl⟩) | (go_at_call 103; refine (specWords_any a ca xs _ _ hr).mono ?_; rintro e w1 ⟨rfl, rfl⟩))
              go_ret
              exact ⟨ret_bool (HF.out.symm), bA⟩
            · have HF : Hid (msgOkB k p true xs = false) := by simp [msgOkB, b3, b6, Hid]
              go_enter Tryz.func75, Tryz.ntmps75
              go_wp2_with (first | (go_at_call 26; refine (specIn_any _ _ _ _).mono ?_; rintro e w1 ⟨rfl, rfl⟩) | (go_at_call 103; refine (specWords_any a ca xs _ _ hr).mono ?_; rintro e w1 ⟨rfl, rfl⟩))
              go_ret
              exact ⟨ret_bool (HF.out.symm), bA⟩
          · have hkd : decide (1 ≤ k ∧ k ≤ 7) = false := decide_eq_false hk
            have HF : Hid (msgOkB k p o xs = false) := msgOk_kind hkd
            clear hk h3 h6 h7
            go_enter Tryz.func75, Tryz.ntmps75
            go_wp2_with (first | (go_at_call 26; refine (specIn_any _ _ _ _).mono ?_; rintro e w1 ⟨rfl, rfl⟩) | (go_at_call 103; refine (specWords_any a ca xs _ _ hr).mono ?_; rintro e w1 ⟨rfl, rfl⟩))
            go_ret
            exact ⟨ret_bool (HF.out.symm), bA⟩
  · have hpd : decide (0 ≤ p ∧ p ≤ 5) = false := decide_eq_false hp
    have HF : Hid (msgOkB k p o xs = false) := msgOk_page hpd
    rw [HF.out]
    clear hp
    obtain ⟨c3, b3⟩ : ∃ c, (k == 3) = c := ⟨_, rfl⟩
    obtain ⟨c7, b7⟩ : ∃ c, (k == 7) = c := ⟨_, rfl⟩
    obtain ⟨c6, b6⟩ : ∃ c, (k == 6) = c := ⟨_, rfl⟩
    obtain ⟨ck, hkd⟩ : ∃ c, decide (1 ≤ k ∧ k ≤ 7) = c := ⟨_, rfl⟩
    cases c3 <;> cases c7 <;> cases c6 <;> cases ck
    all_goals try (exfalso; simp at b3 b7 b6 hkd; omega)
    all_goals
      go_enter Tryz.func75, Tryz.ntmps75
      go_wp2_with (first | (go_at_call 26; refine (specIn_any _ _ _ _).mono ?_; rintro e w1 ⟨rfl, rfl⟩) | (go_at_call 103; refine (specWords_any a ca xs _ _ hr).mono ?_; rintro e w1 ⟨rfl, rfl⟩))
      go_ret
      exact ⟨rfl, bA⟩
end Go.Proofs.YtpfppeifppdmbaaGreat

/- What wordsOf does: four words as an array, and whether they are that. -/
namespace Go.Proofs.YtpfppeifppdmbaaGreat
open Go.RowKit
set_option linter.unusedVariables false

def arr4 (c0 c1 c2 c3 : Int) : Value := .agg #[.int .i64 c0, .int .i64 c1, .int .i64 c2, .int .i64 c3]

set_option maxHeartbeats 400000 in
theorem words_len (a : Option Addr) (ca n : Nat) (w : World) (hn : ((n : Int) != 4) = true) :
    Calls Tryz.prog 108 #[.slice a n ca] w fun e w' => e = .returned (.tuple #[.agg #[.int .i64 0, .int .i64 0, .int .i64 0, .int .i64 0], .bool false]) ∧ Below w.heap.size w w' := by
  go_enter Tryz.func108, Tryz.ntmps108
  go_wp2
  refine bodyPost_ret (v := .tuple #[.agg #[.int .i64 0, .int .i64 0, .int .i64 0, .int .i64 0], .bool false]) (by simp [results, Tryz.results108, go_sem]) rfl ⟨rfl, ?_⟩
  exact bel_alloc (bel_alloc (Below.refl _ _) _) _

set_option maxHeartbeats 400000 in
theorem isWord_any (x : Int) (w : World) :
    Calls Tryz.prog 116 #[.int .i64 x] w fun e w' => e = .returned (.bool (wordB x)) ∧ w' = w := by
  by_cases h0 : 0 ≤ x
  · by_cases h1 : x ≤ 65535
    · have hd : Hid (wordB x = true) := by show _ = _; simp [wordB, h0, h1]
      go_enter Tryz.func116, Tryz.ntmps116
      go_wp2
      go_ret
      rw [hd.out]
      exact ⟨rfl, rfl⟩
    · have hd : Hid (wordB x = false) := by show _ = _; simp [wordB, h1]
      have h1' : 65535 < x := by omega
      go_enter Tryz.func116, Tryz.ntmps116
      go_wp2
      go_ret
      rw [hd.out]
      exact ⟨rfl, rfl⟩
  · have hd : Hid (wordB x = false) := by show _ = _; simp [wordB, h0]
    have h1' : x < 0 := by omega
    go_enter Tryz.func116, Tryz.ntmps116
    go_wp2
    go_ret
    rw [hd.out]
    exact ⟨rfl, rfl⟩

/-- The two arrays of wordsOf: the result's, and the one that is filled. -/
abbrev A4 (w : World) (c0 c1 c2 c3 : Int) : World := (w.alloc (.cells #[.int .i64 0, .int .i64 0, .int .i64 0, .int .i64 0] 161)).alloc (.cells #[.int .i64 c0, .int .i64 c1, .int .i64 c2, .int .i64 c3] 161)
theorem A4_bel (w : World) (c0 c1 c2 c3 : Int) : Below w.heap.size w (A4 w c0 c1 c2 c3) := bel_alloc (bel_alloc (Below.refl _ _) _) _

set_option maxHeartbeats 1000000 in
theorem words_four (b off ca : Nat) (x0 x1 x2 x3 : Int) (w : World) (h0 : w.cell? ⟨b, off, none⟩ = some (.int .i64 x0)) (h1 : w.cell? ⟨b, off + 1, none⟩ = some (.int .i64 x1)) (h2 : w.cell? ⟨b, off + 2, none⟩ = some (.int .i64 x2)) (h3 : w.cell? ⟨b, off + 3, none⟩ = some (.int .i64 x3)) :
    Calls Tryz.prog 108 #[.slice (some ⟨b, off, none⟩) 4 ca] w fun e w' => ∃ c0 c1 c2 c3 : Int, e = .returned (.tuple #[.agg #[.int .i64 c0, .int .i64 c1, .int .i64 c2, .int .i64 c3], .bool ([x0, x1, x2, x3].all wordB)]) ∧
      ([x0, x1, x2, x3].all wordB = true → c0 = x0 ∧ c1 = x1 ∧ c2 = x2 ∧ c3 = x3) ∧ Below w.heap.size w w' := by
  have hb := lt_of_cell h0
  simp only at hb
  go_enter Tryz.func108, Tryz.ntmps108
  go_wp2
  go_loopw [13] (fun i wr => (i = .int .i64 0 ∧ wr = A4 w 0 0 0 0) ∨ (i = .int .i64 1 ∧ wordB x0 = true ∧ wr = A4 w x0 0 0 0) ∨ (i = .int .i64 2 ∧ wordB x0 = true ∧ wordB x1 = true ∧ wr = A4 w x0 x1 0 0) ∨ (i = .int .i64 3 ∧ wordB x0 = true ∧ wordB x1 = true ∧ wordB x2 = true ∧ wr = A4 w x0 x1 x2 0) ∨ (i = .int .i64 4 ∧ wordB x0 = true ∧ wordB x1 = true ∧ wordB x2 = true ∧ wordB x3 = true ∧ wr = A4 w x0 x1 x2 x3)) (fun i _ => 4 - (intOf i).toNat)
  case atStart => exact .inl ⟨rfl, rfl⟩
  case round =>
    rcases hrel with ⟨rfl, rfl⟩ | ⟨rfl, b0, rfl⟩ | ⟨rfl, b0, b1, rfl⟩ | ⟨rfl, b0, b1, b2, rfl⟩ | ⟨rfl, b0, b1, b2, b3, rfl⟩
    · by_cases hw : wordB x0 = true
      · go_wp2_with (go_at_call 116; refine (isWord_any _ _).mono ?_; rintro e w1 ⟨rfl, rfl⟩)
        go_roundw
        case rel => refine .inr (.inl ⟨?_, ?_, ?_⟩) <;> first | trivial | rfl | exact hw
        case measure => simp [intOf]
      · have hw' : wordB x0 = false := by simpa using hw
        have HF : Hid ([x0, x1, x2, x3].all wordB = false) := by show _ = _; simp [hw']
        clear hw
        go_wp2_with (go_at_call 116; refine (isWord_any _ _).mono ?_; rintro e w1 ⟨rfl, rfl⟩)
        rw [HF.out]
        refine bodyPost_ret (v := .tuple #[.agg #[.int .i64 0, .int .i64 0, .int .i64 0, .int .i64 0], .bool false]) (by simp [results, Tryz.results108, go_sem]) rfl ⟨_, _, _, _, rfl, by simp, ?_⟩
        exact bel_alloc (bel_alloc (Below.refl _ _) _) _
    · have B0 : Hid (wordB x0 = true) := b0
      clear b0
      by_cases hw : wordB x1 = true
      · go_wp2_with (go_at_call 116; refine (isWord_any _ _).mono ?_; rintro e w1 ⟨rfl, rfl⟩)
        go_roundw
        case rel => refine .inr (.inr (.inl ⟨?_, ?_, ?_, ?_⟩)) <;> first | trivial | rfl | exact B0.out | exact hw
        case measure => simp [intOf]
      · have hw' : wordB x1 = false := by simpa using hw
        have HF : Hid ([x0, x1, x2, x3].all wordB = false) := by show _ = _; simp [hw']
        clear hw
        go_wp2_with (go_at_call 116; refine (isWord_any _ _).mono ?_; rintro e w1 ⟨rfl, rfl⟩)
        rw [HF.out]
        refine bodyPost_ret (v := .tuple #[.agg #[.int .i64 x0, .int .i64 0, .int .i64 0, .int .i64 0], .bool false]) (by simp [results, Tryz.results108, go_sem]) rfl ⟨_, _, _, _, rfl, by simp, ?_⟩
        exact bel_alloc (bel_alloc (Below.refl _ _) _) _
    · have B0 : Hid (wordB x0 = true) := b0
      have B1 : Hid (wordB x1 = true) := b1
      clear b0 b1
      by_cases hw : wordB x2 = true
      · go_wp2_with (go_at_call 116; refine (isWord_any _ _).mono ?_; rintro e w1 ⟨rfl, rfl⟩)
        go_roundw
        case rel => refine .inr (.inr (.inr (.inl ⟨?_, ?_, ?_, ?_, ?_⟩))) <;> first | trivial | rfl | exact B0.out | exact B1.out | exact hw
        case measure => simp [intOf]
      · have hw' : wordB x2 = false := by simpa using hw
        have HF : Hid ([x0, x1, x2, x3].all wordB = false) := by show _ = _; simp [hw']
        clear hw
        go_wp2_with (go_at_call 116; refine (isWord_any _ _).mono ?_; rintro e w1 ⟨rfl, rfl⟩)
        rw [HF.out]
        refine bodyPost_ret (v := .tuple #[.agg #[.int .i64 x0, .int .i64 x1, .int .i64 0, .int .i64 0], .bool false]) (by simp [results, Tryz.results108, go_sem]) rfl ⟨_, _, _, _, rfl, by simp, ?_⟩
        exact bel_alloc (bel_alloc (Below.refl _ _) _) _
    · have B0 : Hid (wordB x0 = true) := b0
      have B1 : Hid (wordB x1 = true) := b1
      have B2 : Hid (wordB x2 = true) := b2
      clear b0 b1 b2
      by_cases hw : wordB x3 = true
      · go_wp2_with (go_at_call 116; refine (isWord_any _ _).mono ?_; rintro e w1 ⟨rfl, rfl⟩)
        go_roundw
        case rel => refine .inr (.inr (.inr (.inr ⟨?_, ?_, ?_, ?_, ?_, ?_⟩))) <;> first | trivial | rfl | exact B0.out | exact B1.out | exact B2.out | exact hw
        case measure => simp [intOf]
      · have hw' : wordB x3 = false := by simpa using hw
        have HF : Hid ([x0, x1, x2, x3].all wordB = false) := by show _ = _; simp [hw']
        clear hw
        go_wp2_with (go_at_call 116; refine (isWord_any _ _).mono ?_; rintro e w1 ⟨rfl, rfl⟩)
        rw [HF.out]
        refine bodyPost_ret (v := .tuple #[.agg #[.int .i64 x0, .int .i64 x1, .int .i64 x2, .int .i64 0], .bool false]) (by simp [results, Tryz.results108, go_sem]) rfl ⟨_, _, _, _, rfl, by simp, ?_⟩
        exact bel_alloc (bel_alloc (Below.refl _ _) _) _
    · have B0 : Hid (wordB x0 = true) := b0
      have B1 : Hid (wordB x1 = true) := b1
      have B2 : Hid (wordB x2 = true) := b2
      have B3 : Hid (wordB x3 = true) := b3
      clear b0 b1 b2 b3
      have HF : Hid ([x0, x1, x2, x3].all wordB = true) := by show _ = _; simp [B0.out, B1.out, B2.out, B3.out]
      go_wp2
      rw [HF.out]
      refine bodyPost_ret (v := .tuple #[.agg #[.int .i64 x0, .int .i64 x1, .int .i64 x2, .int .i64 x3], .bool true]) (by simp [results, Tryz.results108, go_sem]) rfl ⟨_, _, _, _, rfl, fun _ => ⟨rfl, rfl, rfl, rfl⟩, ?_⟩
      exact bel_alloc (bel_alloc (Below.refl _ _) _) _

theorem four (xs : List Int) (h : xs.length = 4) : ∃ x0 x1 x2 x3, xs = [x0, x1, x2, x3] := by
  match xs, h with
  | [x0, x1, x2, x3], _ => exact ⟨x0, x1, x2, x3, rfl⟩

theorem words_any (a : Option Addr) (ca : Nat) (xs : List Int) (w : World) (ha : Row .i64 w a xs) :
    Calls Tryz.prog 108 #[.slice a xs.length ca] w fun e w' => ∃ c0 c1 c2 c3 : Int, e = .returned (.tuple #[.agg #[.int .i64 c0, .int .i64 c1, .int .i64 c2, .int .i64 c3], .bool (wordsB xs 4)]) ∧
      (wordsB xs 4 = true → xs = [c0, c1, c2, c3]) ∧ Below w.heap.size w w' := by
  by_cases h : xs.length = 4
  · obtain ⟨x0, x1, x2, x3, rfl⟩ := four xs h
    have g := ha.2
    obtain ⟨b, off, rfl, g0⟩ := g 0 (by simp)
    obtain ⟨b', off', e1, g1⟩ := g 1 (by simp)
    obtain ⟨rfl, rfl⟩ : b' = b ∧ off' = off := by simp only [Option.some.injEq, Addr.mk.injEq] at e1; exact ⟨e1.1.symm, e1.2.1.symm⟩
    obtain ⟨b2, off2, e2, g2⟩ := g 2 (by simp)
    obtain ⟨rfl, rfl⟩ : b2 = b' ∧ off2 = off' := by simp only [Option.some.injEq, Addr.mk.injEq] at e2; exact ⟨e2.1.symm, e2.2.1.symm⟩
    obtain ⟨b3, off3, e3, g3⟩ := g 3 (by simp)
    obtain ⟨rfl, rfl⟩ : b3 = b2 ∧ off3 = off2 := by simp only [Option.some.injEq, Addr.mk.injEq] at e3; exact ⟨e3.1.symm, e3.2.1.symm⟩
    have ew : wordsB [x0, x1, x2, x3] 4 = [x0, x1, x2, x3].all wordB := by unfold wordsB; simp
    refine (words_four b3 off3 ca x0 x1 x2 x3 w g0 g1 g2 g3).mono ?_
    rintro e w1 ⟨c0, c1, c2, c3, rfl, hc, hb⟩
    rw [ew]
    refine ⟨c0, c1, c2, c3, rfl, fun h => ?_, hb⟩
    obtain ⟨rfl, rfl, rfl, rfl⟩ := hc h
    rfl
  · have ew : wordsB xs 4 = false := by unfold wordsB; simp; omega
    refine (words_len a ca xs.length w (by simp; omega)).mono ?_
    rintro e w1 ⟨rfl, hb⟩
    rw [ew]
    exact ⟨0, 0, 0, 0, rfl, (fun h => by cases h), hb⟩
end Go.Proofs.YtpfppeifppdmbaaGreat
