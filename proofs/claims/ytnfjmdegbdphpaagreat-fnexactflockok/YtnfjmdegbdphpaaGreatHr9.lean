/- Ints and Msg and SpecOk and Frm and Hr9: see the heads of the parts. -/
import Derived.Test.YtnfjmdegbdphpaaGreatRows
import Derived.Test.YtnfjmdegbdphpaaGreatKeep
import Derived.BigQuiet
import Derived.Test.YtnfjmdegbdphpaaGreatOkB
import Derived.Test.YtnfjmdegbdphpaaGreatIn8
/- What the law's own small functions over numbers do: eqIntS, markIntS, heldIntS. -/
namespace Go.Proofs.YtnfjmdegbdphpaaGreat
open Go.RowKit
set_option linter.unusedVariables false

set_option maxHeartbeats 400000 in
theorem eqIntS_any (a b : Option Addr) (ca cb : Nat) (xs : List Int) (w : World) (ha : Row .i64 w a xs) (hb : Row .i64 w b xs) :
    Calls Tryz.prog 113 #[.slice a xs.length ca, .slice b xs.length cb] w fun e w' => e = .returned (.bool true) ∧ ∃ n, w' = w.drewN n := by
  obtain ⟨hl, ha⟩ := ha
  obtain ⟨_, hb⟩ := hb
  go_enter Tryz.func113, Tryz.ntmps113
  go_wp2
  go_loopw [5] (fun i wr => ∃ k n : Nat, k ≤ xs.length ∧ i = .int .i64 k ∧ wr = w.drewN n) (fun i _ => xs.length - (intOf i).toNat)
  case atStart => exact ⟨0, 0, Nat.zero_le _, rfl, rfl⟩
  case round =>
    obtain ⟨k, n, hk, rfl, rfl⟩ := hrel
    by_cases hlt : k < xs.length
    · obtain ⟨ba, oa, rfl, hca⟩ := ha k hlt
      obtain ⟨bb, ob, rfl, hcb⟩ := hb k hlt
      have hi : (k : Int) < (xs.length : Int) := by omega
      go_wp2
      go_quiet (fail)
      go_wp2
      go_roundw
      case rel => exact ⟨k + 1, n + nq, by omega, by go_num, rfl⟩
      case measure => simp [intOf]; omega
    · go_wp2
      go_ret
      exact ⟨rfl, n, rfl⟩

/-- What is marked: so many numbers, counted on from k. -/
def mki (k : Int) (n : Nat) : List Int := (List.range n).map fun (i : Nat) => k + (i : Int)
theorem mki_length (k : Int) (n : Nat) : (mki k n).length = n := by simp [mki]
theorem mki_get (k : Int) (n i : Nat) (h : i < n) : (mki k n).getD i 0 = k + i := by
  simp [mki, h]
theorem mki_succ (k : Int) (n : Nat) : mki k (n + 1) = mki k n ++ [k + n] := by
  simp [mki, List.range_succ]



theorem info_i64 : (Tryz.prog.info? 3).map (fun i => (i.zero, i.size, i.bytes)) = some (some (.int .i64 0), 1, 8) := by kernel_rfl

set_option maxHeartbeats 400000 in
theorem toIntS_any (a : Option Addr) (ca : Nat) (xs : List Int) (w : World) (hsm : xs.length ≤ 1048576) (ha : Row .i64 w a xs) :
    Calls Tryz.prog 97 #[.slice a xs.length ca] w fun e w' => ∃ v, e = .returned v ∧ w'.ownsRow w.heap.size 3 1 v xs.length (xs.map (Value.int .i64)) ∧ Below w.heap.size w w' := by
  obtain ⟨i0, hi, hz0, hz1, hz2⟩ := info_parts info_i64
  obtain ⟨hl, ha⟩ := ha
  obtain ⟨n, hn⟩ : ∃ n, xs.length = n := ⟨_, rfl⟩
  have HN : Hid (xs.length = n) := hn
  rw [hn] at hl ha hsm ⊢
  clear hn
  go_enter Tryz.func97, Tryz.ntmps97
  go_wp2_with (at_make; refine wpList_make_full _ rfl (.tmp 6) (.tmp 6) 45 rfl w.heap.size 3 i0 (.int .i64 0) 1 Tryz.underlying45 hi hz0 hz1 .i64 .i64 _ _ n rfl rfl rfl rfl (by rw [hz2]; omega) (by unfold maxLen; omega) (Nat.le_refl _) ?_)
  intro w1 ho hg
  obtain ⟨zs, ho⟩ : ∃ zs, w1.ownsRow w.heap.size 3 1 (.slice (some ⟨w.heap.size, 0, none⟩) n n) n zs := ⟨_, ho⟩
  have hzl : Hid (zs.length = n) := by have := ho.1; rw [Nat.mul_one] at this; exact this
  have hb1 : Below w.heap.size w w1 := (Below.refl _ _).grown hg (Nat.le_refl _) (fun k hk => by cases hk)
  clear hg
  go_wp2
  go_loopw [4] (fun i wr => ∃ k : Nat, k ≤ n ∧ i = .int .i64 k ∧ wr.ownsRow w.heap.size 3 1 (.slice (some ⟨w.heap.size, 0, none⟩) n n) n ((xs.take k).map (Value.int .i64) ++ zs.drop k) ∧ Below w.heap.size w wr) (fun i _ => n - (intOf i).toNat)
  case atStart => exact ⟨0, Nat.zero_le _, rfl, by simpa using ho, hb1⟩
  case round =>
    obtain ⟨k, hk, rfl, hr, hbr⟩ := hrel
    by_cases hkn : k < n
    · obtain ⟨ba, oa, rfl, hca⟩ := ha k hkn
      have R := copy_step hzl.out HN.out hkn (Nat.le_refl _) hr hbr
      have hcr : wr.cell? ⟨ba, oa + k, none⟩ = some (.int .i64 (xs.getD k 0)) := (hbr.cell (p := ⟨ba, oa + k, none⟩) (lt_of_cell hca)).trans hca
      have hfz := hr.frozenAt k
      obtain ⟨u, hcell⟩ := cell_row hr hkn
      have hi' : (k : Int) < (n : Int) := by omega
      clear hr hbr ha hca ho hb1
      go_wp2
      go_roundw
      case rel => exact ⟨k + 1, by omega, by go_num, R.1, R.2⟩
      case measure => simp [intOf]; omega
    · go_wp2
      go_ret
      have : k = n := by omega
      subst this
      refine ⟨_, rfl, ?_, hbr⟩
      rw [List.drop_eq_nil_of_le (by have := hzl.out; omega), List.append_nil, List.take_of_length_le (by have := HN.out; omega)] at hr
      exact hr
end Go.Proofs.YtnfjmdegbdphpaaGreat

/- What the law's small functions over messages do: szMsg, toMsg, eqMsg. -/
namespace Go.Proofs.YtnfjmdegbdphpaaGreat
open Go.RowKit
set_option linter.unusedVariables false

/-- A message's value. -/
def msgV (k p : Int) (o : Bool) (l : Value) : Value := .agg #[.int .i64 k, .int .i64 p, .bool o, l]

set_option maxHeartbeats 400000 in
theorem szMsg_big (k p : Int) (o : Bool) (a : Option Addr) (n c : Nat) (w : World) (h : 1048576 < n) (hn : n ≤ maxLen) :
    Calls Tryz.prog 86 #[.agg #[.int .i64 k, .int .i64 p, .bool o, .slice a n c], .int .i64 1048576] w fun e w' => e = .returned (.int .i64 (-1)) ∧ Below w.heap.size w w' := by
  unfold maxLen at hn
  go_enter Tryz.func86, Tryz.ntmps86
  go_wp2
  go_ret
  exact ⟨rfl, (Below.refl _ _).alloc (Nat.le_refl _) _⟩

set_option maxHeartbeats 400000 in
theorem szMsg_small (k p : Int) (o : Bool) (a : Option Addr) (n c : Nat) (w : World) (h : n ≤ 1048576) :
    Calls Tryz.prog 86 #[.agg #[.int .i64 k, .int .i64 p, .bool o, .slice a n c], .int .i64 1048576] w fun e w' => e = .returned (.int .i64 (1048576 - n)) ∧ Below w.heap.size w w' := by
  go_enter Tryz.func86, Tryz.ntmps86
  go_wp2
  go_ret
  exact ⟨rfl, (Below.refl _ _).alloc (Nat.le_refl _) _⟩

set_option maxHeartbeats 400000 in
theorem toMsg_any (k p : Int) (o : Bool) (a : Option Addr) (c : Nat) (xs : List Int) (w : World) (hsm : xs.length ≤ 1048576) (ha : Row .i64 w a xs) :
    Calls Tryz.prog 96 #[.agg #[.int .i64 k, .int .i64 p, .bool o, .slice a xs.length c]] w fun e w' => ∃ v, e = .returned (.agg #[.int .i64 k, .int .i64 p, .bool o, v]) ∧ w'.ownsRow w.heap.size 3 1 v xs.length (xs.map (Value.int .i64)) ∧ Below w.heap.size w w' := by
  go_enter Tryz.func96, Tryz.ntmps96
  go_wp2_with fail
  have bA := bel_alloc (bel_alloc (bel_alloc (Below.refl w.heap.size w) (.cells #[.int .i64 k, .int .i64 p, .bool o, .slice a xs.length c] 94)) (.cells #[.int .i64 0, .int .i64 0, .bool false, .slice none 0 0] 72)) (.cells #[.int .i64 k, .int .i64 p, .bool o, .slice none 0 0] 72)
  refine (toIntS_any a c xs _ hsm (ha.below bA)).mono ?_
  rintro e w1 ⟨v, rfl, o1, b1⟩
  obtain ⟨hc, hf⟩ := bcell b1
  have hz : w.heap.size + 3 ≤ w1.heap.size := by have := b1.size; simp at this; omega
  have B : Below w.heap.size w w1 := bel_trans bA b1
  have hlt : Hid (∀ j, v.ownBlock = some j → w.heap.size + 3 ≤ j) := fun j h => by have := (o1.lt j h).1; simp at this; exact this
  obtain ⟨a1, c1, rfl⟩ := owns_slice o1
  clear bA b1 ha
  go_wp2
  refine bodyPost_ret (v := .agg #[.int .i64 k, .int .i64 p, .bool o, .slice a1 xs.length c1]) (by simp [results, Tryz.results96, go_sem, hc]) rfl ⟨_, rfl, ?_, ?_⟩
  · refine owns_setCell (owns_setCell (owns_setCell (owns_setCell (owns_setCell (owns_base o1 ?_) ?_ _) ?_ _) ?_ _) ?_ _) ?_ _
    · simp; omega
    all_goals (intro j h; have := hlt.out j h; simp; omega)
  · refine bel_setCell (bel_setCell (bel_setCell (bel_setCell (bel_setCell B _ _ ?_) _ _ ?_) _ _ ?_) _ _ ?_) _ _ ?_
    all_goals (simp; try omega)

set_option maxHeartbeats 400000 in
theorem eqMsg_any (k p : Int) (o : Bool) (a b : Option Addr) (ca cb : Nat) (xs : List Int) (w : World) (ha : Row .i64 w a xs) (hb : Row .i64 w b xs) :
    Calls Tryz.prog 112 #[.agg #[.int .i64 k, .int .i64 p, .bool o, .slice a xs.length ca], .agg #[.int .i64 k, .int .i64 p, .bool o, .slice b xs.length cb]] w fun e w' => e = .returned (.bool true) ∧ Below w.heap.size w w' := by
  go_enter Tryz.func112, Tryz.ntmps112
  go_wp2_with fail
  have bA := bel_alloc (bel_alloc (Below.refl w.heap.size w) (.cells #[.int .i64 k, .int .i64 p, .bool o, .slice a xs.length ca] 72)) (.cells #[.int .i64 k, .int .i64 p, .bool o, .slice b xs.length cb] 72)
  refine (eqIntS_any a b ca cb xs _ (ha.below bA) (hb.below bA)).mono ?_
  rintro e w1 ⟨rfl, d1, rfl⟩
  go_wp2
  go_ret
  exact ⟨rfl, below_drewN bA d1⟩

end Go.Proofs.YtnfjmdegbdphpaaGreat

/- What the specification's MsgOk does. -/
namespace Go.Proofs.YtnfjmdegbdphpaaGreat
open Go.RowKit
set_option linter.unusedVariables false

set_option maxHeartbeats 400000 in
theorem specWords_any (a : Option Addr) (ca : Nat) (xs : List Int) (m : Int) (w : World) (ha : Row .i64 w a xs) :
    Calls Tryz.prog 48 #[.slice a xs.length ca, .int .i64 m] w fun e w' => e = .returned (.bool (wordsB xs m)) ∧ w' = w := by
  obtain ⟨hl, ha⟩ := ha
  obtain ⟨n, hn⟩ : ∃ n, xs.length = n := ⟨_, rfl⟩
  have HN : Hid (xs.length = n) := hn
  rw [hn] at hl ha ⊢
  clear hn
  go_enter Tryz.func48, Tryz.ntmps48
  go_wp2
  go_loop [5] (fun i => ∃ k : Nat, k ≤ n ∧ i = .int .i64 k ∧ (xs.take k).all wordB = true) (fun i => n - (intOf i).toNat)
  case atStart => exact ⟨0, Nat.zero_le _, rfl, by simp⟩
  case round =>
    obtain ⟨k, hk, rfl, hg⟩ := hrel
    have HG : Hid ((xs.take k).all wordB = true) := hg
    clear hg
    by_cases hlt : k < n
    · obtain ⟨ba, oa, rfl, hca⟩ := ha k hlt
      have hi : (k : Int) < (n : Int) := by omega
      have H1 : Hid ((xs.take (k + 1)).all wordB = wordB (xs.getD k 0)) := by show _ = _; rw [all_take xs k (by have := HN.out; omega), HG.out, Bool.true_and]
      obtain ⟨c, hce⟩ : ∃ c, xs.getD k 0 = c := ⟨_, rfl⟩
      have HC : Hid (xs.getD k 0 = c) := hce
      rw [hce] at hca
      clear ha hce
      by_cases hw : 0 ≤ c ∧ c ≤ 65535
      · have hd : decide (0 ≤ c ∧ c ≤ 65535) = true := decide_eq_true hw
        clear hw
        go_wp2_with (go_at_call 22; refine (specIn_any _ _ _ _).mono ?_; rintro e w1 ⟨rfl, rfl⟩)
        go_round
        case rel => exact ⟨k + 1, by omega, by go_num, by rw [H1.out, HC.out]; exact hd⟩
        case measure => simp [intOf]; omega
      · have hd : decide (0 ≤ c ∧ c ≤ 65535) = false := decide_eq_false hw
        clear hw
        go_wp2_with (go_at_call 22; refine (specIn_any _ _ _ _).mono ?_; rintro e w1 ⟨rfl, rfl⟩)
        go_ret
        refine ⟨ret_bool ?_, rfl⟩
        unfold wordsB
        rw [all_bad xs k (by have := HN.out; omega) (by rw [HC.out]; exact hd)]
        rfl
    · go_wp2
      go_ret
      have e : xs.take k = xs := List.take_of_length_le (by have := HN.out; omega)
      have hall := HG.out
      rw [e] at hall
      refine ⟨ret_bool ?_, rfl⟩
      unfold wordsB
      rw [hall, HN.out]
      rfl

theorem msgOk_kind {k p : Int} {o : Bool} {xs : List Int} (h : decide (1 ≤ k ∧ k ≤ 7) = false) : msgOkB k p o xs = false := by simp [msgOkB, h]
theorem msgOk_page {k p : Int} {o : Bool} {xs : List Int} (h : decide (0 ≤ p ∧ p ≤ 5) = false) : msgOkB k p o xs = false := by simp [msgOkB, h]

set_option maxHeartbeats 1000000 in
theorem specMsgOk_any (k p : Int) (o : Bool) (a : Option Addr) (ca : Nat) (xs : List Int) (w : World) (ha : Row .i64 w a xs) :
    Calls Tryz.prog 47 #[.agg #[.int .i64 k, .int .i64 p, .bool o, .slice a xs.length ca]] w fun e w' => e = .returned (.bool (msgOkB k p o xs)) ∧ Below w.heap.size w w' := by
  have bA := bel_alloc (Below.refl w.heap.size w) (.cells #[.int .i64 k, .int .i64 p, .bool o, .slice a xs.length ca] 72)
  have hr := ha.below bA
  by_cases hp : 0 ≤ p ∧ p ≤ 5
  · have hpd : decide (0 ≤ p ∧ p ≤ 5) = true := decide_eq_true hp
    clear hp
    by_cases h3 : k = 3
    · subst h3
      have HF : Hid (msgOkB 3 p o xs = wordsB xs 4) := by simp [msgOkB, hpd, Hid]
      go_enter Tryz.func47, Tryz.ntmps47
      go_wp2_with (first | (go_at_call 22; refine (specIn_any _ _ _ _).mono ?_; rintro e w1 ⟨rfl, rfl⟩) | (go_at_call 48; refine (specWords_any a ca xs _ _ hr).mono ?_; rintro e w1 ⟨rfl, rfl⟩))
      go_ret
      exact ⟨ret_bool (HF.out.symm), bA⟩
    · by_cases h6 : k = 6
      · subst h6
        have HF : Hid (msgOkB 6 p o xs = wordsB xs 0) := by simp [msgOkB, hpd, Hid]
        clear h3
        go_enter Tryz.func47, Tryz.ntmps47
        go_wp2_with (first | (go_at_call 22; refine (specIn_any _ _ _ _).mono ?_; rintro e w1 ⟨rfl, rfl⟩) | (go_at_call 48; refine (specWords_any a ca xs _ _ hr).mono ?_; rintro e w1 ⟨rfl, rfl⟩))
        go_ret
        exact ⟨ret_bool (HF.out.symm), bA⟩
      · by_cases h7 : k = 7
        · subst h7
          clear h3 h6
          cases o
          · have HF : Hid (msgOkB 7 p false xs = wordsB xs 4) := by simp [msgOkB, hpd, Hid]
            go_enter Tryz.func47, Tryz.ntmps47
            go_wp2_with (first | (go_at_call 22; refine (specIn_any _ _ _ _).mono ?_; rintro e w1 ⟨rfl, rfl⟩) | (go_at_call 48; refine (specWords_any a ca xs _ _ hr).mono ?_; rintro e w1 ⟨rfl, rfl⟩))
            go_ret
            exact ⟨ret_bool (HF.out.symm), bA⟩
          · have HF : Hid (msgOkB 7 p true xs = false) := by simp [msgOkB, Hid]
            go_enter Tryz.func47, Tryz.ntmps47
            go_wp2_with (first | (go_at_call 22; refine (specIn_any _ _ _ _).mono ?_; rintro e w1 ⟨rfl, rfl⟩) | (go_at_call 48; refine (specWords_any a ca xs _ _ hr).mono ?_; rintro e w1 ⟨rfl, rfl⟩))
            go_ret
            exact ⟨ret_bool (HF.out.symm), bA⟩
        · have b3 : (k == 3) = false := by simp [h3]
          have b6 : (k == 6) = false := by simp [h6]
          have b7 : (k == 7) = false := by simp [h7]
          by_cases hk : 1 ≤ k ∧ k ≤ 7
          · have hkd : decide (1 ≤ k ∧ k ≤ 7) = true := decide_eq_true hk
            clear hk h3 h6 h7
            cases o
            · have HF : Hid (msgOkB k p false xs = wordsB xs 0) := by simp [msgOkB, hpd, hkd, b3, b6, b7, Hid]
              go_enter Tryz.func47, Tryz.ntmps47
              go_wp2_with (first | (go_at_call 22; refine (specIn_any _ _ _ _).mono ?_; rintro e w1 ⟨rfl, rfl⟩) | (go_at_call 48; refine (specWords_any a ca xs _ _ hr).mono ?_; rintro e w1 ⟨rfl, rfl⟩))
              go_ret
              exact ⟨ret_bool (HF.out.symm), bA⟩
            · have HF : Hid (msgOkB k p true xs = false) := by simp [msgOkB, b3, b6, Hid]
              go_enter Tryz.func47, Tryz.ntmps47
              go_wp2_with (first | (go_at_call 22; refine (specIn_any _ _ _ _).mono ?_; rintro e w1 ⟨rfl, rfl⟩) | (go_at_call 48; refine (specWords_any a ca xs _ _ hr).mono ?_; rintro e w1 ⟨rfl, rfl⟩))
              go_ret
              exact ⟨ret_bool (HF.out.symm), bA⟩
          · have hkd : decide (1 ≤ k ∧ k ≤ 7) = false := decide_eq_false hk
            have HF : Hid (msgOkB k p o xs = false) := msgOk_kind hkd
            clear hk h3 h6 h7
            go_enter Tryz.func47, Tryz.ntmps47
            go_wp2_with (first | (go_at_call 22; refine (specIn_any _ _ _ _).mono ?_; rintro e w1 ⟨rfl, rfl⟩) | (go_at_call 48; refine (specWords_any a ca xs _ _ hr).mono ?_; rintro e w1 ⟨rfl, rfl⟩))
            go_ret
            exact ⟨ret_bool (HF.out.symm), bA⟩
  · have hpd : decide (0 ≤ p ∧ p ≤ 5) = false := decide_eq_false hp
    have HF : Hid (msgOkB k p o xs = false) := msgOk_page hpd
    rw [HF.out]
    clear hp
    obtain ⟨c3, b3⟩ : ∃ c, (k == 3) = c := ⟨_, rfl⟩
    obtain ⟨c7, b7⟩ : ∃ c, (k == 7) = c := ⟨_, rfl⟩
    obtain ⟨c6, b6⟩ : ∃ c, (k == 6) = c := ⟨_, rfl⟩
    obtain ⟨ck, hkd⟩ : ∃ c, decide (1 ≤ k ∧ k ≤ 7) = c := ⟨_, rfl⟩
    cases c3 <;> cases c7 <;> cases c6 <;> cases ck
    all_goals try (exfalso; simp at b3 b7 b6 hkd; omega)
    all_goals
      go_enter Tryz.func47, Tryz.ntmps47
      go_wp2_with (first | (go_at_call 22; refine (specIn_any _ _ _ _).mono ?_; rintro e w1 ⟨rfl, rfl⟩) | (go_at_call 48; refine (specWords_any a ca xs _ _ hr).mono ?_; rintro e w1 ⟨rfl, rfl⟩))
      go_ret
      exact ⟨rfl, bA⟩
end Go.Proofs.YtnfjmdegbdphpaaGreat

/- What the law's small functions over frames do: szFrame, toFrame, eqFrame, markFrame, heldFrame; when a frame is right. -/
namespace Go.Proofs.YtnfjmdegbdphpaaGreat
open Go.RowKit
set_option linter.unusedVariables false

def frameOkB (s : Int) (xs : List Int) : Bool := if s == 0 then ((xs.length : Int) == 0) else decide (0 ≤ s ∧ s ≤ 2) && wordsB xs 4

theorem frame_zero (xs : List Int) : frameOkB 0 xs = ((xs.length : Int) == 0) := rfl
theorem frame_some {s : Int} {xs : List Int} (h : (s == 0) = false) : frameOkB s xs = (decide (0 ≤ s ∧ s ≤ 2) && wordsB xs 4) := by
  unfold frameOkB
  rw [h]
  rfl

theorem Box.at3 {w : World} {m : Nat} {c0 c1 c2 : Value} {t : TypeId} (h : Box w m #[c0, c1, c2] t) :
    w.cell? ⟨m, 0, none⟩ = some c0 ∧ w.cell? ⟨m, 1, none⟩ = some c1 ∧ w.cell? ⟨m, 2, none⟩ = some c2 ∧ m < w.heap.size :=
  ⟨by rw [h.cell]; rfl, by rw [h.cell]; rfl, by rw [h.cell]; rfl, h.lt⟩

set_option maxHeartbeats 400000 in
theorem szFrame_big (s : Int) (q : Bool) (a : Option Addr) (n c : Nat) (w : World) (h : 1048576 < n) (hn : n ≤ maxLen) :
    Calls Tryz.prog 115 #[.agg #[.int .i64 s, .slice a n c, .bool q], .int .i64 1048576] w fun e w' => e = .returned (.int .i64 (-1)) ∧ Below w.heap.size w w' := by
  unfold maxLen at hn
  go_enter Tryz.func115, Tryz.ntmps115
  go_wp2
  go_ret
  exact ⟨rfl, (Below.refl _ _).alloc (Nat.le_refl _) _⟩

set_option maxHeartbeats 400000 in
theorem szFrame_small (s : Int) (q : Bool) (a : Option Addr) (n c : Nat) (w : World) (h : n ≤ 1048576) :
    Calls Tryz.prog 115 #[.agg #[.int .i64 s, .slice a n c, .bool q], .int .i64 1048576] w fun e w' => e = .returned (.int .i64 (1048576 - n)) ∧ Below w.heap.size w w' := by
  go_enter Tryz.func115, Tryz.ntmps115
  go_wp2
  go_ret
  exact ⟨rfl, (Below.refl _ _).alloc (Nat.le_refl _) _⟩

set_option maxHeartbeats 400000 in
theorem toFrame_any (s : Int) (q : Bool) (a : Option Addr) (c : Nat) (xs : List Int) (w : World) (hsm : xs.length ≤ 1048576) (ha : Row .i64 w a xs) :
    Calls Tryz.prog 121 #[.agg #[.int .i64 s, .slice a xs.length c, .bool q]] w fun e w' => ∃ v, e = .returned (.agg #[.int .i64 s, v, .bool q]) ∧ w'.ownsRow w.heap.size 3 1 v xs.length (xs.map (Value.int .i64)) ∧ Below w.heap.size w w' := by
  go_enter Tryz.func121, Tryz.ntmps121
  go_wp2_with fail
  have bA := bel_alloc (bel_alloc (bel_alloc (Below.refl w.heap.size w) (.cells #[.int .i64 s, .slice a xs.length c, .bool q] 183)) (.cells #[.int .i64 0, .slice none 0 0, .bool false] 101)) (.cells #[.int .i64 s, .slice none 0 0, .bool false] 101)
  refine (toIntS_any a c xs _ hsm (ha.below bA)).mono ?_
  rintro e w1 ⟨v, rfl, o1, b1⟩
  obtain ⟨hc, hf⟩ := bcell b1
  have hz : w.heap.size + 3 ≤ w1.heap.size := by have := b1.size; simp at this; omega
  have B : Below w.heap.size w w1 := bel_trans bA b1
  have hlt : Hid (∀ j, v.ownBlock = some j → w.heap.size + 3 ≤ j) := fun j h => by have := (o1.lt j h).1; simp at this; exact this
  obtain ⟨a1, c1, rfl⟩ := owns_slice o1
  clear bA b1 ha
  go_wp2
  refine bodyPost_ret (v := .agg #[.int .i64 s, .slice a1 xs.length c1, .bool q]) (by simp [results, Tryz.results121, go_sem, hc]) rfl ⟨_, rfl, ?_, ?_⟩
  · repeat refine owns_setCell ?_ ?_ _
    · exact owns_base o1 (by simp; omega)
    all_goals (intro j h; have := hlt.out j h; simp; omega)
  · repeat refine bel_setCell ?_ _ _ ?_
    · exact B
    all_goals (simp; try omega)

set_option maxHeartbeats 400000 in
theorem eqFrame_any (s : Int) (q : Bool) (a b : Option Addr) (ca cb : Nat) (xs : List Int) (w : World) (ha : Row .i64 w a xs) (hb : Row .i64 w b xs) :
    Calls Tryz.prog 133 #[.agg #[.int .i64 s, .slice a xs.length ca, .bool q], .agg #[.int .i64 s, .slice b xs.length cb, .bool q]] w fun e w' => e = .returned (.bool true) ∧ Below w.heap.size w w' := by
  go_enter Tryz.func133, Tryz.ntmps133
  go_wp2_with fail
  have bA := bel_alloc (bel_alloc (Below.refl w.heap.size w) (.cells #[.int .i64 s, .slice a xs.length ca, .bool q] 101)) (.cells #[.int .i64 s, .slice b xs.length cb, .bool q] 101)
  refine (eqIntS_any a b ca cb xs _ (ha.below bA) (hb.below bA)).mono ?_
  rintro e w1 ⟨rfl, d1, rfl⟩
  go_wp2
  go_ret
  exact ⟨rfl, below_drewN bA d1⟩


end Go.Proofs.YtnfjmdegbdphpaaGreat

/- What the law's small functions over harts do: szHart, toHart, eqHart, markHart, heldHart; when a hart is right; what the specification's HartOk, HartNew, l9Copy, Target answer. -/
namespace Go.Proofs.YtnfjmdegbdphpaaGreat
open Go.RowKit
set_option linter.unusedVariables false

set_option maxHeartbeats 400000 in
theorem szHart_big (pc st : Int) (a : Option Addr) (n c : Nat) (w : World) (h : 1048576 < n) (hn : n ≤ maxLen) :
    Calls Tryz.prog 42 #[.agg #[.slice a n c, .int .i64 pc, .int .i64 st], .int .i64 1048576] w fun e w' => e = .returned (.int .i64 (-1)) ∧ Below w.heap.size w w' := by
  unfold maxLen at hn
  go_enter Tryz.func42, Tryz.ntmps42
  go_wp2
  go_ret
  exact ⟨rfl, (Below.refl _ _).alloc (Nat.le_refl _) _⟩

set_option maxHeartbeats 400000 in
theorem szHart_small (pc st : Int) (a : Option Addr) (n c : Nat) (w : World) (h : n ≤ 1048576) :
    Calls Tryz.prog 42 #[.agg #[.slice a n c, .int .i64 pc, .int .i64 st], .int .i64 1048576] w fun e w' => e = .returned (.int .i64 (1048576 - n)) ∧ Below w.heap.size w w' := by
  go_enter Tryz.func42, Tryz.ntmps42
  go_wp2
  go_ret
  exact ⟨rfl, (Below.refl _ _).alloc (Nat.le_refl _) _⟩

set_option maxHeartbeats 400000 in
theorem toHart_any (pc st : Int) (a : Option Addr) (c : Nat) (xs : List Int) (w : World) (hsm : xs.length ≤ 1048576) (ha : Row .i64 w a xs) :
    Calls Tryz.prog 54 #[.agg #[.slice a xs.length c, .int .i64 pc, .int .i64 st]] w fun e w' => ∃ v, e = .returned (.agg #[v, .int .i64 pc, .int .i64 st]) ∧ w'.ownsRow w.heap.size 3 1 v xs.length (xs.map (Value.int .i64)) ∧ Below w.heap.size w w' := by
  go_enter Tryz.func54, Tryz.ntmps54
  go_wp2_with fail
  have bA := bel_alloc (bel_alloc (bel_alloc (Below.refl w.heap.size w) (.cells #[.slice a xs.length c, .int .i64 pc, .int .i64 st] 64)) (.cells #[.slice none 0 0, .int .i64 0, .int .i64 0] 47)) (.cells #[.slice none 0 0, .int .i64 0, .int .i64 0] 47)
  refine (toIntS_any a c xs _ hsm (ha.below bA)).mono ?_
  rintro e w1 ⟨v, rfl, o1, b1⟩
  obtain ⟨hc, hf⟩ := bcell b1
  have hz : w.heap.size + 3 ≤ w1.heap.size := by have := b1.size; simp at this; omega
  have B : Below w.heap.size w w1 := bel_trans bA b1
  have hlt : Hid (∀ j, v.ownBlock = some j → w.heap.size + 3 ≤ j) := fun j h => by have := (o1.lt j h).1; simp at this; exact this
  obtain ⟨a1, c1, rfl⟩ := owns_slice o1
  clear bA b1 ha
  go_wp2
  refine bodyPost_ret (v := .agg #[.slice a1 xs.length c1, .int .i64 pc, .int .i64 st]) (by simp [results, Tryz.results54, go_sem, hc]) rfl ⟨_, rfl, ?_, ?_⟩
  · repeat refine owns_setCell ?_ ?_ _
    · exact owns_base o1 (by simp; omega)
    all_goals (intro j h; have := hlt.out j h; simp; omega)
  · repeat refine bel_setCell ?_ _ _ ?_
    · exact B
    all_goals (simp; try omega)

set_option maxHeartbeats 400000 in
theorem eqHart_any (pc st : Int) (a b : Option Addr) (ca cb : Nat) (xs : List Int) (w : World) (ha : Row .i64 w a xs) (hb : Row .i64 w b xs) :
    Calls Tryz.prog 80 #[.agg #[.slice a xs.length ca, .int .i64 pc, .int .i64 st], .agg #[.slice b xs.length cb, .int .i64 pc, .int .i64 st]] w fun e w' => e = .returned (.bool true) ∧ Below w.heap.size w w' := by
  go_enter Tryz.func80, Tryz.ntmps80
  go_wp2_with fail
  have bA := bel_alloc (bel_alloc (Below.refl w.heap.size w) (.cells #[.slice a xs.length ca, .int .i64 pc, .int .i64 st] 47)) (.cells #[.slice b xs.length cb, .int .i64 pc, .int .i64 st] 47)
  refine (eqIntS_any a b ca cb xs _ (ha.below bA) (hb.below bA)).mono ?_
  rintro e w1 ⟨rfl, d1, rfl⟩
  go_wp2
  go_ret
  exact ⟨rfl, below_drewN bA d1⟩


end Go.Proofs.YtnfjmdegbdphpaaGreat
