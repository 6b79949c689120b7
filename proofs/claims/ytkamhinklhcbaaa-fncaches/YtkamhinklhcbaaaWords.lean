/- Ints and Msg and SpecOk and Frm and Words: see the heads of the parts. -/
import Derived.Test.YtkamhinklhcbaaaRows
import Derived.Test.YtkamhinklhcbaaaKeep
import Derived.BigQuiet
import Derived.Test.YtkamhinklhcbaaaOkB
import Derived.Test.YtkamhinklhcbaaaSpecPut
/- What the law's own small functions over numbers do: eqIntS, markIntS, heldIntS. -/
namespace Go.Proofs.Ytkamhinklhcbaaa
open Go.RowKit
set_option linter.unusedVariables false

set_option maxHeartbeats 400000 in
theorem eqIntS_any (a b : Option Addr) (ca cb : Nat) (xs : List Int) (w : World) (ha : Row .i64 w a xs) (hb : Row .i64 w b xs) :
    Calls Try.prog 98 #[.slice a xs.length ca, .slice b xs.length cb] w fun e w' => e = .returned (.bool true) ∧ ∃ n, w' = w.drewN n := by
  obtain ⟨hl, ha⟩ := ha
  obtain ⟨_, hb⟩ := hb
  go_enter Try.func98, Try.ntmps98
  go_wp2
  go_loopw [5] (fun i wr => ∃ k n : Nat, k ≤ xs.length ∧ i = .int .i64 k ∧ wr = w.drewN n) (fun i _ => xs.length - (intOf i).toNat)
  case atStart => exact ⟨0, 0, Nat.zero_le _, rfl, rfl⟩
  case round =>
    obtain ⟨k, n, hk, rfl, rfl⟩ := hrel
    by_cases hlt : k < xs.length
    · obtain ⟨ba, oa, rfl, hca⟩ := ha k hlt
      obtain ⟨bb, ob, rfl, hcb⟩ := hb k hlt
      have hi : (k : Int) < (xs.length : Int) := by omega
      go_wp2
      go_quiet (fail)
      go_wp2
      go_roundw
      case rel => exact ⟨k + 1, n + nq, by omega, by go_num, rfl⟩
      case measure => simp [intOf]; omega
    · go_wp2
      go_ret
      exact ⟨rfl, n, rfl⟩

/-- What is marked: so many numbers, counted on from k. -/
def mki (k : Int) (n : Nat) : List Int := (List.range n).map fun (i : Nat) => k + (i : Int)
theorem mki_length (k : Int) (n : Nat) : (mki k n).length = n := by simp [mki]
theorem mki_get (k : Int) (n i : Nat) (h : i < n) : (mki k n).getD i 0 = k + i := by
  simp [mki, h]
theorem mki_succ (k : Int) (n : Nat) : mki k (n + 1) = mki k n ++ [k + n] := by
  simp [mki, List.range_succ]



theorem info_i64 : (Try.prog.info? 3).map (fun i => (i.zero, i.size, i.bytes)) = some (some (.int .i64 0), 1, 8) := by kernel_rfl

set_option maxHeartbeats 400000 in
theorem toIntS_any (a : Option Addr) (ca : Nat) (xs : List Int) (w : World) (hsm : xs.length ≤ 1048576) (ha : Row .i64 w a xs) :
    Calls Try.prog 97 #[.slice a xs.length ca] w fun e w' => ∃ v, e = .returned v ∧ w'.ownsRow w.heap.size 3 1 v xs.length (xs.map (Value.int .i64)) ∧ Below w.heap.size w w' := by
  obtain ⟨i0, hi, hz0, hz1, hz2⟩ := info_parts info_i64
  obtain ⟨hl, ha⟩ := ha
  obtain ⟨n, hn⟩ : ∃ n, xs.length = n := ⟨_, rfl⟩
  have HN : Hid (xs.length = n) := hn
  rw [hn] at hl ha hsm ⊢
  clear hn
  go_enter Try.func97, Try.ntmps97
  go_wp2_with (at_make; refine wpList_make_full _ rfl (.tmp 6) (.tmp 6) 82 rfl w.heap.size 3 i0 (.int .i64 0) 1 Try.underlying82 hi hz0 hz1 .i64 .i64 _ _ n rfl rfl rfl rfl (by rw [hz2]; omega) (by unfold maxLen; omega) (Nat.le_refl _) ?_)
  intro w1 ho hg
  obtain ⟨zs, ho⟩ : ∃ zs, w1.ownsRow w.heap.size 3 1 (.slice (some ⟨w.heap.size, 0, none⟩) n n) n zs := ⟨_, ho⟩
  have hzl : Hid (zs.length = n) := by have := ho.1; rw [Nat.mul_one] at this; exact this
  have hb1 : Below w.heap.size w w1 := (Below.refl _ _).grown hg (Nat.le_refl _) (fun k hk => by cases hk)
  clear hg
  go_wp2
  go_loopw [4] (fun i wr => ∃ k : Nat, k ≤ n ∧ i = .int .i64 k ∧ wr.ownsRow w.heap.size 3 1 (.slice (some ⟨w.heap.size, 0, none⟩) n n) n ((xs.take k).map (Value.int .i64) ++ zs.drop k) ∧ Below w.heap.size w wr) (fun i _ => n - (intOf i).toNat)
  case atStart => exact ⟨0, Nat.zero_le _, rfl, by simpa using ho, hb1⟩
  case round =>
    obtain ⟨k, hk, rfl, hr, hbr⟩ := hrel
    by_cases hkn : k < n
    · obtain ⟨ba, oa, rfl, hca⟩ := ha k hkn
      have R := copy_step hzl.out HN.out hkn (Nat.le_refl _) hr hbr
      have hcr : wr.cell? ⟨ba, oa + k, none⟩ = some (.int .i64 (xs.getD k 0)) := (hbr.cell (p := ⟨ba, oa + k, none⟩) (lt_of_cell hca)).trans hca
      have hfz := hr.frozenAt k
      obtain ⟨u, hcell⟩ := cell_row hr hkn
      have hi' : (k : Int) < (n : Int) := by omega
      clear hr hbr ha hca ho hb1
      go_wp2
      go_roundw
      case rel => exact ⟨k + 1, by omega, by go_num, R.1, R.2⟩
      case measure => simp [intOf]; omega
    · go_wp2
      go_ret
      have : k = n := by omega
      subst this
      refine ⟨_, rfl, ?_, hbr⟩
      rw [List.drop_eq_nil_of_le (by have := hzl.out; omega), List.append_nil, List.take_of_length_le (by have := HN.out; omega)] at hr
      exact hr
end Go.Proofs.Ytkamhinklhcbaaa

/- What the law's small functions over messages do: szMsg, toMsg, eqMsg. -/
namespace Go.Proofs.Ytkamhinklhcbaaa
open Go.RowKit
set_option linter.unusedVariables false

/-- A message's value. -/
def msgV (k p : Int) (o : Bool) (l : Value) : Value := .agg #[.int .i64 k, .int .i64 p, .bool o, l]





end Go.Proofs.Ytkamhinklhcbaaa

/- What the specification's MsgOk does. -/
namespace Go.Proofs.Ytkamhinklhcbaaa
open Go.RowKit
set_option linter.unusedVariables false

set_option maxHeartbeats 400000 in
theorem specWords_any (a : Option Addr) (ca : Nat) (xs : List Int) (m : Int) (w : World) (ha : Row .i64 w a xs) :
    Calls Try.prog 90 #[.slice a xs.length ca, .int .i64 m] w fun e w' => e = .returned (.bool (wordsB xs m)) ∧ w' = w := by
  obtain ⟨hl, ha⟩ := ha
  obtain ⟨n, hn⟩ : ∃ n, xs.length = n := ⟨_, rfl⟩
  have HN : Hid (xs.length = n) := hn
  rw [hn] at hl ha ⊢
  clear hn
  go_enter Try.func90, Try.ntmps90
  go_wp2
  go_loop [5] (fun i => ∃ k : Nat, k ≤ n ∧ i = .int .i64 k ∧ (xs.take k).all wordB = true) (fun i => n - (intOf i).toNat)
  case atStart => exact ⟨0, Nat.zero_le _, rfl, by simp⟩
  case round =>
    obtain ⟨k, hk, rfl, hg⟩ := hrel
    have HG : Hid ((xs.take k).all wordB = true) := hg
    clear hg
    by_cases hlt : k < n
    · obtain ⟨ba, oa, rfl, hca⟩ := ha k hlt
      have hi : (k : Int) < (n : Int) := by omega
      have H1 : Hid ((xs.take (k + 1)).all wordB = wordB (xs.getD k 0)) := by show _ = _; rw [all_take xs k (by have := HN.out; omega), HG.out, Bool.true_and]
      obtain ⟨c, hce⟩ : ∃ c, xs.getD k 0 = c := ⟨_, rfl⟩
      have HC : Hid (xs.getD k 0 = c) := hce
      rw [hce] at hca
      clear ha hce
      by_cases hw : 0 ≤ c ∧ c ≤ 65535
      · have hd : decide (0 ≤ c ∧ c ≤ 65535) = true := decide_eq_true hw
        clear hw
        go_wp2_with (go_at_call 80; refine (specIn_any _ _ _ _).mono ?_; rintro e w1 ⟨rfl, rfl⟩)
        go_round
        case rel => exact ⟨k + 1, by omega, by go_num, by rw [H1.out, HC.out]; exact hd⟩
        case measure => simp [intOf]; omega
      · have hd : decide (0 ≤ c ∧ c ≤ 65535) = false := decide_eq_false hw
        clear hw
        go_wp2_with (go_at_call 80; refine (specIn_any _ _ _ _).mono ?_; rintro e w1 ⟨rfl, rfl⟩)
        go_ret
        refine ⟨ret_bool ?_, rfl⟩
        unfold wordsB
        rw [all_bad xs k (by have := HN.out; omega) (by rw [HC.out]; exact hd)]
        rfl
    · go_wp2
      go_ret
      have e : xs.take k = xs := List.take_of_length_le (by have := HN.out; omega)
      have hall := HG.out
      rw [e] at hall
      refine ⟨ret_bool ?_, rfl⟩
      unfold wordsB
      rw [hall, HN.out]
      rfl

theorem msgOk_kind {k p : Int} {o : Bool} {xs : List Int} (h : decide (1 ≤ k ∧ k ≤ 7) = false) : msgOkB k p o xs = false := by simp [msgOkB, h]
theorem msgOk_page {k p : Int} {o : Bool} {xs : List Int} (h : decide (0 ≤ p ∧ p ≤ 5) = false) : msgOkB k p o xs = false := by simp [msgOkB, h]

end Go.Proofs.Ytkamhinklhcbaaa

/- What the law's small functions over frames do: szFrame, toFrame, eqFrame, markFrame, heldFrame; when a frame is right. -/
namespace Go.Proofs.Ytkamhinklhcbaaa
open Go.RowKit
set_option linter.unusedVariables false

def frameOkB (s : Int) (xs : List Int) : Bool := if s == 0 then ((xs.length : Int) == 0) else decide (0 ≤ s ∧ s ≤ 2) && wordsB xs 4

theorem frame_zero (xs : List Int) : frameOkB 0 xs = ((xs.length : Int) == 0) := rfl
theorem frame_some {s : Int} {xs : List Int} (h : (s == 0) = false) : frameOkB s xs = (decide (0 ≤ s ∧ s ≤ 2) && wordsB xs 4) := by
  unfold frameOkB
  rw [h]
  rfl

theorem Box.at3 {w : World} {m : Nat} {c0 c1 c2 : Value} {t : TypeId} (h : Box w m #[c0, c1, c2] t) :
    w.cell? ⟨m, 0, none⟩ = some c0 ∧ w.cell? ⟨m, 1, none⟩ = some c1 ∧ w.cell? ⟨m, 2, none⟩ = some c2 ∧ m < w.heap.size :=
  ⟨by rw [h.cell]; rfl, by rw [h.cell]; rfl, by rw [h.cell]; rfl, h.lt⟩

set_option maxHeartbeats 400000 in
theorem szFrame_big (s : Int) (q : Bool) (a : Option Addr) (n c : Nat) (w : World) (h : 1048576 < n) (hn : n ≤ maxLen) :
    Calls Try.prog 67 #[.agg #[.int .i64 s, .slice a n c, .bool q], .int .i64 1048576] w fun e w' => e = .returned (.int .i64 (-1)) ∧ Below w.heap.size w w' := by
  unfold maxLen at hn
  go_enter Try.func67, Try.ntmps67
  go_wp2
  go_ret
  exact ⟨rfl, (Below.refl _ _).alloc (Nat.le_refl _) _⟩

set_option maxHeartbeats 400000 in
theorem szFrame_small (s : Int) (q : Bool) (a : Option Addr) (n c : Nat) (w : World) (h : n ≤ 1048576) :
    Calls Try.prog 67 #[.agg #[.int .i64 s, .slice a n c, .bool q], .int .i64 1048576] w fun e w' => e = .returned (.int .i64 (1048576 - n)) ∧ Below w.heap.size w w' := by
  go_enter Try.func67, Try.ntmps67
  go_wp2
  go_ret
  exact ⟨rfl, (Below.refl _ _).alloc (Nat.le_refl _) _⟩

set_option maxHeartbeats 400000 in
theorem toFrame_any (s : Int) (q : Bool) (a : Option Addr) (c : Nat) (xs : List Int) (w : World) (hsm : xs.length ≤ 1048576) (ha : Row .i64 w a xs) :
    Calls Try.prog 68 #[.agg #[.int .i64 s, .slice a xs.length c, .bool q]] w fun e w' => ∃ v, e = .returned (.agg #[.int .i64 s, v, .bool q]) ∧ w'.ownsRow w.heap.size 3 1 v xs.length (xs.map (Value.int .i64)) ∧ Below w.heap.size w w' := by
  go_enter Try.func68, Try.ntmps68
  go_wp2_with fail
  have bA := bel_alloc (bel_alloc (bel_alloc (Below.refl w.heap.size w) (.cells #[.int .i64 s, .slice a xs.length c, .bool q] 92)) (.cells #[.int .i64 0, .slice none 0 0, .bool false] 84)) (.cells #[.int .i64 s, .slice none 0 0, .bool false] 84)
  refine (toIntS_any a c xs _ hsm (ha.below bA)).mono ?_
  rintro e w1 ⟨v, rfl, o1, b1⟩
  obtain ⟨hc, hf⟩ := bcell b1
  have hz : w.heap.size + 3 ≤ w1.heap.size := by have := b1.size; simp at this; omega
  have B : Below w.heap.size w w1 := bel_trans bA b1
  have hlt : Hid (∀ j, v.ownBlock = some j → w.heap.size + 3 ≤ j) := fun j h => by have := (o1.lt j h).1; simp at this; exact this
  obtain ⟨a1, c1, rfl⟩ := owns_slice o1
  clear bA b1 ha
  go_wp2
  refine bodyPost_ret (v := .agg #[.int .i64 s, .slice a1 xs.length c1, .bool q]) (by simp [results, Try.results68, go_sem, hc]) rfl ⟨_, rfl, ?_, ?_⟩
  · repeat refine owns_setCell ?_ ?_ _
    · exact owns_base o1 (by simp; omega)
    all_goals (intro j h; have := hlt.out j h; simp; omega)
  · repeat refine bel_setCell ?_ _ _ ?_
    · exact B
    all_goals (simp; try omega)

set_option maxHeartbeats 400000 in
theorem eqFrame_any (s : Int) (q : Bool) (a b : Option Addr) (ca cb : Nat) (xs : List Int) (w : World) (ha : Row .i64 w a xs) (hb : Row .i64 w b xs) :
    Calls Try.prog 69 #[.agg #[.int .i64 s, .slice a xs.length ca, .bool q], .agg #[.int .i64 s, .slice b xs.length cb, .bool q]] w fun e w' => e = .returned (.bool true) ∧ Below w.heap.size w w' := by
  go_enter Try.func69, Try.ntmps69
  go_wp2_with fail
  have bA := bel_alloc (bel_alloc (Below.refl w.heap.size w) (.cells #[.int .i64 s, .slice a xs.length ca, .bool q] 84)) (.cells #[.int .i64 s, .slice b xs.length cb, .bool q] 84)
  refine (eqIntS_any a b ca cb xs _ (ha.below bA) (hb.below bA)).mono ?_
  rintro e w1 ⟨rfl, d1, rfl⟩
  go_wp2
  go_ret
  exact ⟨rfl, below_drewN bA d1⟩


end Go.Proofs.Ytkamhinklhcbaaa

/- What wordsOf does: four words as an array, and whether they are that. -/
namespace Go.Proofs.Ytkamhinklhcbaaa
open Go.RowKit
set_option linter.unusedVariables false

def arr4 (c0 c1 c2 c3 : Int) : Value := .agg #[.int .i64 c0, .int .i64 c1, .int .i64 c2, .int .i64 c3]

set_option maxHeartbeats 400000 in
theorem words_len (a : Option Addr) (ca n : Nat) (w : World) (hn : ((n : Int) != 4) = true) :
    Calls Try.prog 107 #[.slice a n ca] w fun e w' => e = .returned (.tuple #[.agg #[.int .i64 0, .int .i64 0, .int .i64 0, .int .i64 0], .bool false]) ∧ Below w.heap.size w w' := by
  go_enter Try.func107, Try.ntmps107
  go_wp2
  refine bodyPost_ret (v := .tuple #[.agg #[.int .i64 0, .int .i64 0, .int .i64 0, .int .i64 0], .bool false]) (by simp [results, Try.results107, go_sem]) rfl ⟨rfl, ?_⟩
  exact bel_alloc (bel_alloc (Below.refl _ _) _) _

set_option maxHeartbeats 400000 in
theorem isWord_any (x : Int) (w : World) :
    Calls Try.prog 110 #[.int .i64 x] w fun e w' => e = .returned (.bool (wordB x)) ∧ w' = w := by
  by_cases h0 : 0 ≤ x
  · by_cases h1 : x ≤ 65535
    · have hd : Hid (wordB x = true) := by show _ = _; simp [wordB, h0, h1]
      go_enter Try.func110, Try.ntmps110
      go_wp2
      go_ret
      rw [hd.out]
      exact ⟨rfl, rfl⟩
    · have hd : Hid (wordB x = false) := by show _ = _; simp [wordB, h1]
      have h1' : 65535 < x := by omega
      go_enter Try.func110, Try.ntmps110
      go_wp2
      go_ret
      rw [hd.out]
      exact ⟨rfl, rfl⟩
  · have hd : Hid (wordB x = false) := by show _ = _; simp [wordB, h0]
    have h1' : x < 0 := by omega
    go_enter Try.func110, Try.ntmps110
    go_wp2
    go_ret
    rw [hd.out]
    exact ⟨rfl, rfl⟩

/-- The two arrays of wordsOf: the result's, and the one that is filled. -/
abbrev A4 (w : World) (c0 c1 c2 c3 : Int) : World := (w.alloc (.cells #[.int .i64 0, .int .i64 0, .int .i64 0, .int .i64 0] 106)).alloc (.cells #[.int .i64 c0, .int .i64 c1, .int .i64 c2, .int .i64 c3] 106)
theorem A4_bel (w : World) (c0 c1 c2 c3 : Int) : Below w.heap.size w (A4 w c0 c1 c2 c3) := bel_alloc (bel_alloc (Below.refl _ _) _) _

set_option maxHeartbeats 1000000 in
theorem words_four (b off ca : Nat) (x0 x1 x2 x3 : Int) (w : World) (h0 : w.cell? ⟨b, off, none⟩ = some (.int .i64 x0)) (h1 : w.cell? ⟨b, off + 1, none⟩ = some (.int .i64 x1)) (h2 : w.cell? ⟨b, off + 2, none⟩ = some (.int .i64 x2)) (h3 : w.cell? ⟨b, off + 3, none⟩ = some (.int .i64 x3)) :
    Calls Try.prog 107 #[.slice (some ⟨b, off, none⟩) 4 ca] w fun e w' => ∃ c0 c1 c2 c3 : Int, e = .returned (.tuple #[.agg #[.int .i64 c0, .int .i64 c1, .int .i64 c2, .int .i64 c3], .bool ([x0, x1, x2, x3].all wordB)]) ∧
      ([x0, x1, x2, x3].all wordB = true → c0 = x0 ∧ c1 = x1 ∧ c2 = x2 ∧ c3 = x3) ∧ Below w.heap.size w w' := by
  have hb := lt_of_cell h0
  simp only at hb
  go_enter Try.func107, Try.ntmps107
  go_wp2
  go_loopw [13] (fun i wr => (i = .int .i64 0 ∧ wr = A4 w 0 0 0 0) ∨ (i = .int .i64 1 ∧ wordB x0 = true ∧ wr = A4 w x0 0 0 0) ∨ (i = .int .i64 2 ∧ wordB x0 = true ∧ wordB x1 = true ∧ wr = A4 w x0 x1 0 0) ∨ (i = .int .i64 3 ∧ wordB x0 = true ∧ wordB x1 = true ∧ wordB x2 = true ∧ wr = A4 w x0 x1 x2 0) ∨ (i = .int .i64 4 ∧ wordB x0 = true ∧ wordB x1 = true ∧ wordB x2 = true ∧ wordB x3 = true ∧ wr = A4 w x0 x1 x2 x3)) (fun i _ => 4 - (intOf i).toNat)
  case atStart => exact .inl ⟨rfl, rfl⟩
  case round =>
    rcases hrel with ⟨rfl, rfl⟩ | ⟨rfl, b0, rfl⟩ | ⟨rfl, b0, b1, rfl⟩ | ⟨rfl, b0, b1, b2, rfl⟩ | ⟨rfl, b0, b1, b2, b3, rfl⟩
    · by_cases hw : wordB x0 = true
      · go_wp2_with (go_at_call 110; refine (isWord_any _ _).mono ?_; rintro e w1 ⟨rfl, rfl⟩)
        go_roundw
        case rel => refine .inr (.inl ⟨?_, ?_, ?_⟩) <;> first | trivial | rfl | exact hw
        case measure => simp [intOf]
      · have hw' : wordB x0 = false := by simpa using hw
        have HF : Hid ([x0, x1, x2, x3].all wordB = false) := by show _ = _; simp [hw']
        clear hw
        go_wp2_with (go_at_call 110; refine (isWord_any _ _).mono ?_; rintro e w1 ⟨rfl, rfl⟩)
        rw [HF.out]
        refine bodyPost_ret (v := .tuple #[.agg #[.int .i64 0, .int .i64 0, .int .i64 0, .int .i64 0], .bool false]) (by simp [results, Try.results107, go_sem]) rfl ⟨_, _, _, _, rfl, by simp, ?_⟩
        exact bel_alloc (bel_alloc (Below.refl _ _) _) _
    · have B0 : Hid (wordB x0 = true) := b0
      clear b0
      by_cases hw : wordB x1 = true
      · go_wp2_with (go_at_call 110; refine (isWord_any _ _).mono ?_; rintro e w1 ⟨rfl, rfl⟩)
        go_roundw
        case rel => refine .inr (.inr (.inl ⟨?_, ?_, ?_, ?_⟩)) <;> first | trivial | rfl | exact B0.out | exact hw
        case measure => simp [intOf]
      · have hw' : wordB x1 = false := by simpa using hw
        have HF : Hid ([x0, x1, x2, x3].all wordB = false) := by show _ = _; simp [hw']
        clear hw
        go_wp2_with (go_at_call 110; refine (isWord_any _ _).mono ?_; rintro e w1 ⟨rfl, rfl⟩)
        rw [HF.out]
        refine bodyPost_ret (v := .tuple #[.agg #[.int .i64 x0, .int .i64 0, .int .i64 0, .int .i64 0], .bool false]) (by simp [results, Try.results107, go_sem]) rfl ⟨_, _, _, _, rfl, by simp, ?_⟩
        exact bel_alloc (bel_alloc (Below.refl _ _) _) _
    · have B0 : Hid (wordB x0 = true) := b0
      have B1 : Hid (wordB x1 = true) := b1
      clear b0 b1
      by_cases hw : wordB x2 = true
      · go_wp2_with (go_at_call 110; refine (isWord_any _ _).mono ?_; rintro e w1 ⟨rfl, rfl⟩)
        go_roundw
        case rel => refine .inr (.inr (.inr (.inl ⟨?_, ?_, ?_, ?_, ?_⟩))) <;> first | trivial | rfl | exact B0.out | exact B1.out | exact hw
        case measure => simp [intOf]
      · have hw' : wordB x2 = false := by simpa using hw
        have HF : Hid ([x0, x1, x2, x3].all wordB = false) := by show _ = _; simp [hw']
        clear hw
        go_wp2_with (go_at_call 110; refine (isWord_any _ _).mono ?_; rintro e w1 ⟨rfl, rfl⟩)
        rw [HF.out]
        refine bodyPost_ret (v := .tuple #[.agg #[.int .i64 x0, .int .i64 x1, .int .i64 0, .int .i64 0], .bool false]) (by simp [results, Try.results107, go_sem]) rfl ⟨_, _, _, _, rfl, by simp, ?_⟩
        exact bel_alloc (bel_alloc (Below.refl _ _) _) _
    · have B0 : Hid (wordB x0 = true) := b0
      have B1 : Hid (wordB x1 = true) := b1
      have B2 : Hid (wordB x2 = true) := b2
      clear b0 b1 b2
      by_cases hw : wordB x3 = true
      · go_wp2_with (go_at_call 110; refine (isWord_any _ _).mono ?_; rintro e w1 ⟨rfl, rfl⟩)
        go_roundw
        case rel => refine .inr (.inr (.inr (.inr ⟨?_, ?_, ?_, ?_, ?_, ?_⟩))) <;> first | trivial | rfl | exact B0.out | exact B1.out | exact B2.out | exact hw
        case measure => simp [intOf]
      · have hw' : wordB x3 = false := by simpa using hw
        have HF : Hid ([x0, x1, x2, x3].all wordB = false) := by show _ = _; simp [hw']
        clear hw
        go_wp2_with (go_at_call 110; refine (isWord_any _ _).mono ?_; rintro e w1 ⟨rfl, rfl⟩)
        rw [HF.out]
        refine bodyPost_ret (v := .tuple #[.agg #[.int .i64 x0, .int .i64 x1, .int .i64 x2, .int .i64 0], .bool false]) (by simp [results, Try.results107, go_sem]) rfl ⟨_, _, _, _, rfl, by simp, ?_⟩
        exact bel_alloc (bel_alloc (Below.refl _ _) _) _
    · have B0 : Hid (wordB x0 = true) := b0
      have B1 : Hid (wordB x1 = true) := b1
      have B2 : Hid (wordB x2 = true) := b2
      have B3 : Hid (wordB x3 = true) := b3
      clear b0 b1 b2 b3
      have HF : Hid ([x0, x1, x2, x3].all wordB = true) := by show _ = _; simp [B0.out, B1.out, B2.out, B3.out]
      go_wp2
      rw [HF.out]
      refine bodyPost_ret (v := .tuple #[.agg #[.int .i64 x0, .int .i64 x1, .int .i64 x2, .int .i64 x3], .bool true]) (by simp [results, Try.results107, go_sem]) rfl ⟨_, _, _, _, rfl, fun _ => ⟨rfl, rfl, rfl, rfl⟩, ?_⟩
      exact bel_alloc (bel_alloc (Below.refl _ _) _) _

theorem four (xs : List Int) (h : xs.length = 4) : ∃ x0 x1 x2 x3, xs = [x0, x1, x2, x3] := by
  match xs, h with
  | [x0, x1, x2, x3], _ => exact ⟨x0, x1, x2, x3, rfl⟩

theorem words_any (a : Option Addr) (ca : Nat) (xs : List Int) (w : World) (ha : Row .i64 w a xs) :
    Calls Try.prog 107 #[.slice a xs.length ca] w fun e w' => ∃ c0 c1 c2 c3 : Int, e = .returned (.tuple #[.agg #[.int .i64 c0, .int .i64 c1, .int .i64 c2, .int .i64 c3], .bool (wordsB xs 4)]) ∧
      (wordsB xs 4 = true → xs = [c0, c1, c2, c3]) ∧ Below w.heap.size w w' := by
  by_cases h : xs.length = 4
  · obtain ⟨x0, x1, x2, x3, rfl⟩ := four xs h
    have g := ha.2
    obtain ⟨b, off, rfl, g0⟩ := g 0 (by simp)
    obtain ⟨b', off', e1, g1⟩ := g 1 (by simp)
    obtain ⟨rfl, rfl⟩ : b' = b ∧ off' = off := by simp only [Option.some.injEq, Addr.mk.injEq] at e1; exact ⟨e1.1.symm, e1.2.1.symm⟩
    obtain ⟨b2, off2, e2, g2⟩ := g 2 (by simp)
    obtain ⟨rfl, rfl⟩ : b2 = b' ∧ off2 = off' := by simp only [Option.some.injEq, Addr.mk.injEq] at e2; exact ⟨e2.1.symm, e2.2.1.symm⟩
    obtain ⟨b3, off3, e3, g3⟩ := g 3 (by simp)
    obtain ⟨rfl, rfl⟩ : b3 = b2 ∧ off3 = off2 := by simp only [Option.some.injEq, Addr.mk.injEq] at e3; exact ⟨e3.1.symm, e3.2.1.symm⟩
    have ew : wordsB [x0, x1, x2, x3] 4 = [x0, x1, x2, x3].all wordB := by unfold wordsB; simp
    refine (words_four b3 off3 ca x0 x1 x2 x3 w g0 g1 g2 g3).mono ?_
    rintro e w1 ⟨c0, c1, c2, c3, rfl, hc, hb⟩
    rw [ew]
    refine ⟨c0, c1, c2, c3, rfl, fun h => ?_, hb⟩
    obtain ⟨rfl, rfl, rfl, rfl⟩ := hc h
    rfl
  · have ew : wordsB xs 4 = false := by unfold wordsB; simp; omega
    refine (words_len a ca xs.length w (by simp; omega)).mono ?_
    rintro e w1 ⟨rfl, hb⟩
    rw [ew]
    exact ⟨0, 0, 0, 0, rfl, (fun h => by cases h), hb⟩
end Go.Proofs.Ytkamhinklhcbaaa
