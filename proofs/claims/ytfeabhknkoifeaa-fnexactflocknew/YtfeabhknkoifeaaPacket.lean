/- Ints and Frm and Hr9 and Msg and SpecOk and Words and Letter and Snd and Packet: see the heads of the parts. -/
import Derived.Test.YtfeabhknkoifeaaRows
import Derived.Test.YtfeabhknkoifeaaKeep
import Derived.BigQuiet
import Derived.Test.YtfeabhknkoifeaaOkB
import Derived.Test.YtfeabhknkoifeaaIsA
/- What the law's own small functions over numbers do: eqIntS, markIntS, heldIntS. -/
namespace Go.Proofs.Ytfeabhknkoifeaa
open Go.RowKit
set_option linter.unusedVariables false

set_option maxHeartbeats 400000 in
theorem eqIntS_any (a b : Option Addr) (ca cb : Nat) (xs : List Int) (w : World) (ha : Row .i64 w a xs) (hb : Row .i64 w b xs) :
    Calls Try.prog 8 #[.slice a xs.length ca, .slice b xs.length cb] w fun e w' => e = .returned (.bool true) ∧ ∃ n, w' = w.drewN n := by
  obtain ⟨hl, ha⟩ := ha
  obtain ⟨_, hb⟩ := hb
  go_enter Try.func8, Try.ntmps8
  go_wp2
  go_loopw [5] (fun i wr => ∃ k n : Nat, k ≤ xs.length ∧ i = .int .i64 k ∧ wr = w.drewN n) (fun i _ => xs.length - (intOf i).toNat)
  case atStart => exact ⟨0, 0, Nat.zero_le _, rfl, rfl⟩
  case round =>
    obtain ⟨k, n, hk, rfl, rfl⟩ := hrel
    by_cases hlt : k < xs.length
    · obtain ⟨ba, oa, rfl, hca⟩ := ha k hlt
      obtain ⟨bb, ob, rfl, hcb⟩ := hb k hlt
      have hi : (k : Int) < (xs.length : Int) := by omega
      go_wp2
      go_quiet (fail)
      go_wp2
      go_roundw
      case rel => exact ⟨k + 1, n + nq, by omega, by go_num, rfl⟩
      case measure => simp [intOf]; omega
    · go_wp2
      go_ret
      exact ⟨rfl, n, rfl⟩

/-- What is marked: so many numbers, counted on from k. -/
def mki (k : Int) (n : Nat) : List Int := (List.range n).map fun (i : Nat) => k + (i : Int)
theorem mki_length (k : Int) (n : Nat) : (mki k n).length = n := by simp [mki]
theorem mki_get (k : Int) (n i : Nat) (h : i < n) : (mki k n).getD i 0 = k + i := by
  simp [mki, h]
theorem mki_succ (k : Int) (n : Nat) : mki k (n + 1) = mki k n ++ [k + n] := by
  simp [mki, List.range_succ]

set_option maxHeartbeats 400000 in
theorem heldIntS_any (a : Option Addr) (ca n : Nat) (k0 : Int) (w : World) (h0 : 0 ≤ k0) (h1 : k0 ≤ 4611686018427387904) (ha : Row .i64 w a (mki k0 n)) :
    Calls Try.prog 40 #[.slice a n ca, .int .i64 k0] w fun e w' => e = .returned (.int .i64 (k0 + n)) ∧ w' = w := by
  obtain ⟨hl, ha⟩ := ha
  rw [mki_length] at hl ha
  go_enter Try.func40, Try.ntmps40
  go_wp2
  go_loop [1, 5] (fun q i => ∃ k : Nat, k ≤ n ∧ i = .int .i64 k ∧ q = .int .i64 (k0 + k)) (fun _ i => n - (intOf i).toNat)
  case atStart => exact ⟨0, Nat.zero_le _, rfl, by simp⟩
  case round =>
    obtain ⟨k, hk, rfl, rfl⟩ := hrel
    by_cases hlt : k < n
    · obtain ⟨ba, oa, rfl, hca⟩ := ha k hlt
      rw [mki_get k0 n k hlt] at hca
      have hi : (k : Int) < (n : Int) := by omega
      clear ha
      go_wp2
      go_round
      case rel => exact ⟨k + 1, by omega, by go_num, by go_num⟩
      case measure => simp [intOf]; omega
    · go_wp2
      go_ret
      have : k = n := by omega
      exact ⟨ret_int (by rw [this]), rfl⟩

set_option maxHeartbeats 400000 in
theorem markIntS_any (base n : Nat) (v : Value) (k0 : Int) (xs : List Value) (w : World) (h0 : 0 ≤ k0) (h1 : k0 ≤ 4611686018427387904) (hn : n ≤ 140737488351232) (hown : w.ownsRow base 3 1 v n xs) :
    Calls Try.prog 9 #[v, .int .i64 k0] w fun e w' => e = .returned (.int .i64 (k0 + n)) ∧ w'.ownsRow base 3 1 v n ((mki k0 n).map (Value.int .i64)) ∧ w.grownBy w' v.ownBlock := by
  have hxs : Hid (xs.length = n) := by have := hown.1; rw [Nat.mul_one] at this; exact this
  obtain ⟨a, cap, rfl⟩ := owns_slice hown
  go_enter Try.func9, Try.ntmps9
  go_wp2
  go_loopw [1, 5] (fun q i wr => ∃ k : Nat, k ≤ n ∧ i = .int .i64 k ∧ q = .int .i64 (k0 + k) ∧ wr.ownsRow base 3 1 (.slice a n cap) n ((mki k0 k).map (Value.int .i64) ++ xs.drop k) ∧ w.grownBy wr (Value.slice a n cap).ownBlock) (fun _ i _ => n - (intOf i).toNat)
  case atStart => exact ⟨0, Nat.zero_le _, rfl, by simp, by simpa [mki] using hown, World.grownBy.refl _ _⟩
  case round =>
    obtain ⟨k, hk, rfl, rfl, hr, hgr⟩ := hrel
    by_cases hlt : k < n
    · obtain ⟨g, rfl⟩ := owns_addr hr (by omega)
      have R : (wr.setCell ⟨g, k, none⟩ (.int .i64 (k0 + k))).ownsRow base 3 1 (.slice (some ⟨g, 0, none⟩) n cap) n ((mki k0 (k + 1)).map (Value.int .i64) ++ xs.drop (k + 1)) ∧ w.grownBy (wr.setCell ⟨g, k, none⟩ (.int .i64 (k0 + k))) (Value.slice (some ⟨g, 0, none⟩) n cap).ownBlock := by
        rw [mki_succ, List.map_append]
        exact mark_step _ (by simp [mki_length]) hxs.out hlt hr hgr
      have hfz := hr.frozenAt k
      obtain ⟨u, hcell⟩ : ∃ u, wr.cell? ⟨g, k, none⟩ = some u := by
        rw [hr.cellAt k (by omega)]
        exact ⟨_, List.getElem?_eq_getElem (by have := hr.1; omega)⟩
      have hi : (k : Int) < (n : Int) := by omega
      clear hr hgr hown
      go_wp2
      go_roundw
      case rel => exact ⟨k + 1, by omega, by go_num, by go_num, R.1, R.2⟩
      case measure => simp [intOf]; omega
    · go_wp2
      go_ret
      have : k = n := by omega
      subst this
      refine ⟨rfl, ?_, hgr⟩
      have hd : xs.drop k = [] := List.drop_eq_nil_of_le (by have := hxs.out; omega)
      rw [hd, List.append_nil] at hr
      exact hr

theorem info_i64 : (Try.prog.info? 3).map (fun i => (i.zero, i.size, i.bytes)) = some (some (.int .i64 0), 1, 8) := by kernel_rfl

set_option maxHeartbeats 400000 in
theorem toIntS_any (a : Option Addr) (ca : Nat) (xs : List Int) (w : World) (hsm : xs.length ≤ 1048576) (ha : Row .i64 w a xs) :
    Calls Try.prog 5 #[.slice a xs.length ca] w fun e w' => ∃ v, e = .returned v ∧ w'.ownsRow w.heap.size 3 1 v xs.length (xs.map (Value.int .i64)) ∧ Below w.heap.size w w' := by
  obtain ⟨i0, hi, hz0, hz1, hz2⟩ := info_parts info_i64
  obtain ⟨hl, ha⟩ := ha
  obtain ⟨n, hn⟩ : ∃ n, xs.length = n := ⟨_, rfl⟩
  have HN : Hid (xs.length = n) := hn
  rw [hn] at hl ha hsm ⊢
  clear hn
  go_enter Try.func5, Try.ntmps5
  go_wp2_with (at_make; refine wpList_make_full _ rfl (.tmp 6) (.tmp 6) 22 rfl w.heap.size 3 i0 (.int .i64 0) 1 Try.underlying22 hi hz0 hz1 .i64 .i64 _ _ n rfl rfl rfl rfl (by rw [hz2]; omega) (by unfold maxLen; omega) (Nat.le_refl _) ?_)
  intro w1 ho hg
  obtain ⟨zs, ho⟩ : ∃ zs, w1.ownsRow w.heap.size 3 1 (.slice (some ⟨w.heap.size, 0, none⟩) n n) n zs := ⟨_, ho⟩
  have hzl : Hid (zs.length = n) := by have := ho.1; rw [Nat.mul_one] at this; exact this
  have hb1 : Below w.heap.size w w1 := (Below.refl _ _).grown hg (Nat.le_refl _) (fun k hk => by cases hk)
  clear hg
  go_wp2
  go_loopw [4] (fun i wr => ∃ k : Nat, k ≤ n ∧ i = .int .i64 k ∧ wr.ownsRow w.heap.size 3 1 (.slice (some ⟨w.heap.size, 0, none⟩) n n) n ((xs.take k).map (Value.int .i64) ++ zs.drop k) ∧ Below w.heap.size w wr) (fun i _ => n - (intOf i).toNat)
  case atStart => exact ⟨0, Nat.zero_le _, rfl, by simpa using ho, hb1⟩
  case round =>
    obtain ⟨k, hk, rfl, hr, hbr⟩ := hrel
    by_cases hkn : k < n
    · obtain ⟨ba, oa, rfl, hca⟩ := ha k hkn
      have R := copy_step hzl.out HN.out hkn (Nat.le_refl _) hr hbr
      have hcr : wr.cell? ⟨ba, oa + k, none⟩ = some (.int .i64 (xs.getD k 0)) := (hbr.cell (p := ⟨ba, oa + k, none⟩) (lt_of_cell hca)).trans hca
      have hfz := hr.frozenAt k
      obtain ⟨u, hcell⟩ := cell_row hr hkn
      have hi' : (k : Int) < (n : Int) := by omega
      clear hr hbr ha hca ho hb1
      go_wp2
      go_roundw
      case rel => exact ⟨k + 1, by omega, by go_num, R.1, R.2⟩
      case measure => simp [intOf]; omega
    · go_wp2
      go_ret
      have : k = n := by omega
      subst this
      refine ⟨_, rfl, ?_, hbr⟩
      rw [List.drop_eq_nil_of_le (by have := hzl.out; omega), List.append_nil, List.take_of_length_le (by have := HN.out; omega)] at hr
      exact hr
end Go.Proofs.Ytfeabhknkoifeaa

/- What the law's small functions over frames do: szFrame, toFrame, eqFrame, markFrame, heldFrame; when a frame is right. -/
namespace Go.Proofs.Ytfeabhknkoifeaa
open Go.RowKit
set_option linter.unusedVariables false

def frameOkB (s : Int) (xs : List Int) : Bool := if s == 0 then ((xs.length : Int) == 0) else decide (0 ≤ s ∧ s ≤ 2) && wordsB xs 4

theorem frame_zero (xs : List Int) : frameOkB 0 xs = ((xs.length : Int) == 0) := rfl
theorem frame_some {s : Int} {xs : List Int} (h : (s == 0) = false) : frameOkB s xs = (decide (0 ≤ s ∧ s ≤ 2) && wordsB xs 4) := by
  unfold frameOkB
  rw [h]
  rfl

theorem Box.at3 {w : World} {m : Nat} {c0 c1 c2 : Value} {t : TypeId} (h : Box w m #[c0, c1, c2] t) :
    w.cell? ⟨m, 0, none⟩ = some c0 ∧ w.cell? ⟨m, 1, none⟩ = some c1 ∧ w.cell? ⟨m, 2, none⟩ = some c2 ∧ m < w.heap.size :=
  ⟨by rw [h.cell]; rfl, by rw [h.cell]; rfl, by rw [h.cell]; rfl, h.lt⟩




set_option maxHeartbeats 400000 in
theorem eqFrame_any (s : Int) (q : Bool) (a b : Option Addr) (ca cb : Nat) (xs : List Int) (w : World) (ha : Row .i64 w a xs) (hb : Row .i64 w b xs) :
    Calls Try.prog 71 #[.agg #[.int .i64 s, .slice a xs.length ca, .bool q], .agg #[.int .i64 s, .slice b xs.length cb, .bool q]] w fun e w' => e = .returned (.bool true) ∧ Below w.heap.size w w' := by
  go_enter Try.func71, Try.ntmps71
  go_wp2_with fail
  have bA := bel_alloc (bel_alloc (Below.refl w.heap.size w) (.cells #[.int .i64 s, .slice a xs.length ca, .bool q] 101)) (.cells #[.int .i64 s, .slice b xs.length cb, .bool q] 101)
  refine (eqIntS_any a b ca cb xs _ (ha.below bA) (hb.below bA)).mono ?_
  rintro e w1 ⟨rfl, d1, rfl⟩
  go_wp2
  go_ret
  exact ⟨rfl, below_drewN bA d1⟩


end Go.Proofs.Ytfeabhknkoifeaa

/- What the law's small functions over harts do: szHart, toHart, eqHart, markHart, heldHart; when a hart is right; what the specification's HartOk, HartNew, l9Copy, Target answer. -/
namespace Go.Proofs.Ytfeabhknkoifeaa
open Go.RowKit
set_option linter.unusedVariables false




set_option maxHeartbeats 400000 in
theorem eqHart_any (pc st : Int) (a b : Option Addr) (ca cb : Nat) (xs : List Int) (w : World) (ha : Row .i64 w a xs) (hb : Row .i64 w b xs) :
    Calls Try.prog 47 #[.agg #[.slice a xs.length ca, .int .i64 pc, .int .i64 st], .agg #[.slice b xs.length cb, .int .i64 pc, .int .i64 st]] w fun e w' => e = .returned (.bool true) ∧ Below w.heap.size w w' := by
  go_enter Try.func47, Try.ntmps47
  go_wp2_with fail
  have bA := bel_alloc (bel_alloc (Below.refl w.heap.size w) (.cells #[.slice a xs.length ca, .int .i64 pc, .int .i64 st] 54)) (.cells #[.slice b xs.length cb, .int .i64 pc, .int .i64 st] 54)
  refine (eqIntS_any a b ca cb xs _ (ha.below bA) (hb.below bA)).mono ?_
  rintro e w1 ⟨rfl, d1, rfl⟩
  go_wp2
  go_ret
  exact ⟨rfl, below_drewN bA d1⟩


end Go.Proofs.Ytfeabhknkoifeaa

/- What the law's small functions over messages do: szMsg, toMsg, eqMsg. -/
namespace Go.Proofs.Ytfeabhknkoifeaa
open Go.RowKit
set_option linter.unusedVariables false

/-- A message's value. -/
def msgV (k p : Int) (o : Bool) (l : Value) : Value := .agg #[.int .i64 k, .int .i64 p, .bool o, l]




set_option maxHeartbeats 400000 in
theorem eqMsg_any (k p : Int) (o : Bool) (a b : Option Addr) (ca cb : Nat) (xs : List Int) (w : World) (ha : Row .i64 w a xs) (hb : Row .i64 w b xs) :
    Calls Try.prog 63 #[.agg #[.int .i64 k, .int .i64 p, .bool o, .slice a xs.length ca], .agg #[.int .i64 k, .int .i64 p, .bool o, .slice b xs.length cb]] w fun e w' => e = .returned (.bool true) ∧ Below w.heap.size w w' := by
  go_enter Try.func63, Try.ntmps63
  go_wp2_with fail
  have bA := bel_alloc (bel_alloc (Below.refl w.heap.size w) (.cells #[.int .i64 k, .int .i64 p, .bool o, .slice a xs.length ca] 81)) (.cells #[.int .i64 k, .int .i64 p, .bool o, .slice b xs.length cb] 81)
  refine (eqIntS_any a b ca cb xs _ (ha.below bA) (hb.below bA)).mono ?_
  rintro e w1 ⟨rfl, d1, rfl⟩
  go_wp2
  go_ret
  exact ⟨rfl, below_drewN bA d1⟩

end Go.Proofs.Ytfeabhknkoifeaa

/- What the specification's MsgOk does. -/
namespace Go.Proofs.Ytfeabhknkoifeaa
open Go.RowKit
set_option linter.unusedVariables false

set_option maxHeartbeats 400000 in
theorem specWords_any (a : Option Addr) (ca : Nat) (xs : List Int) (m : Int) (w : World) (ha : Row .i64 w a xs) :
    Calls Try.prog 13 #[.slice a xs.length ca, .int .i64 m] w fun e w' => e = .returned (.bool (wordsB xs m)) ∧ w' = w := by
  obtain ⟨hl, ha⟩ := ha
  obtain ⟨n, hn⟩ : ∃ n, xs.length = n := ⟨_, rfl⟩
  have HN : Hid (xs.length = n) := hn
  rw [hn] at hl ha ⊢
  clear hn
  go_enter Try.func13, Try.ntmps13
  go_wp2
  go_loop [5] (fun i => ∃ k : Nat, k ≤ n ∧ i = .int .i64 k ∧ (xs.take k).all wordB = true) (fun i => n - (intOf i).toNat)
  case atStart => exact ⟨0, Nat.zero_le _, rfl, by simp⟩
  case round =>
    obtain ⟨k, hk, rfl, hg⟩ := hrel
    have HG : Hid ((xs.take k).all wordB = true) := hg
    clear hg
    by_cases hlt : k < n
    · obtain ⟨ba, oa, rfl, hca⟩ := ha k hlt
      have hi : (k : Int) < (n : Int) := by omega
      have H1 : Hid ((xs.take (k + 1)).all wordB = wordB (xs.getD k 0)) := by show _ = _; rw [all_take xs k (by have := HN.out; omega), HG.out, Bool.true_and]
      obtain ⟨c, hce⟩ : ∃ c, xs.getD k 0 = c := ⟨_, rfl⟩
      have HC : Hid (xs.getD k 0 = c) := hce
      rw [hce] at hca
      clear ha hce
      by_cases hw : 0 ≤ c ∧ c ≤ 65535
      · have hd : decide (0 ≤ c ∧ c ≤ 65535) = true := decide_eq_true hw
        clear hw
        go_wp2_with (go_at_call 24; refine (specIn_any _ _ _ _).mono ?_; rintro e w1 ⟨rfl, rfl⟩)
        go_round
        case rel => exact ⟨k + 1, by omega, by go_num, by rw [H1.out, HC.out]; exact hd⟩
        case measure => simp [intOf]; omega
      · have hd : decide (0 ≤ c ∧ c ≤ 65535) = false := decide_eq_false hw
        clear hw
        go_wp2_with (go_at_call 24; refine (specIn_any _ _ _ _).mono ?_; rintro e w1 ⟨rfl, rfl⟩)
        go_ret
        refine ⟨ret_bool ?_, rfl⟩
        unfold wordsB
        rw [all_bad xs k (by have := HN.out; omega) (by rw [HC.out]; exact hd)]
        rfl
    · go_wp2
      go_ret
      have e : xs.take k = xs := List.take_of_length_le (by have := HN.out; omega)
      have hall := HG.out
      rw [e] at hall
      refine ⟨ret_bool ?_, rfl⟩
      unfold wordsB
      rw [hall, HN.out]
      rfl

theorem msgOk_kind {k p : Int} {o : Bool} {xs : List Int} (h : decide (1 ≤ k ∧ k ≤ 7) = false) : msgOkB k p o xs = false := by simp [msgOkB, h]
theorem msgOk_page {k p : Int} {o : Bool} {xs : List Int} (h : decide (0 ≤ p ∧ p ≤ 5) = false) : msgOkB k p o xs = false := by simp [msgOkB, h]

end Go.Proofs.Ytfeabhknkoifeaa

/- What wordsOf does: four words as an array, and whether they are that. -/
namespace Go.Proofs.Ytfeabhknkoifeaa
open Go.RowKit
set_option linter.unusedVariables false

def arr4 (c0 c1 c2 c3 : Int) : Value := .agg #[.int .i64 c0, .int .i64 c1, .int .i64 c2, .int .i64 c3]


set_option maxHeartbeats 400000 in
theorem isWord_any (x : Int) (w : World) :
    Calls Try.prog 30 #[.int .i64 x] w fun e w' => e = .returned (.bool (wordB x)) ∧ w' = w := by
  by_cases h0 : 0 ≤ x
  · by_cases h1 : x ≤ 65535
    · have hd : Hid (wordB x = true) := by show _ = _; simp [wordB, h0, h1]
      go_enter Try.func30, Try.ntmps30
      go_wp2
      go_ret
      rw [hd.out]
      exact ⟨rfl, rfl⟩
    · have hd : Hid (wordB x = false) := by show _ = _; simp [wordB, h1]
      have h1' : 65535 < x := by omega
      go_enter Try.func30, Try.ntmps30
      go_wp2
      go_ret
      rw [hd.out]
      exact ⟨rfl, rfl⟩
  · have hd : Hid (wordB x = false) := by show _ = _; simp [wordB, h0]
    have h1' : x < 0 := by omega
    go_enter Try.func30, Try.ntmps30
    go_wp2
    go_ret
    rw [hd.out]
    exact ⟨rfl, rfl⟩



theorem four (xs : List Int) (h : xs.length = 4) : ∃ x0 x1 x2 x3, xs = [x0, x1, x2, x3] := by
  match xs, h with
  | [x0, x1, x2, x3], _ => exact ⟨x0, x1, x2, x3, rfl⟩

end Go.Proofs.Ytfeabhknkoifeaa

/- What letterOf and MsgOk do. -/
namespace Go.Proofs.Ytfeabhknkoifeaa
open Go.RowKit
set_option linter.unusedVariables false












end Go.Proofs.Ytfeabhknkoifeaa

/- Rows of messages, as a reader is told of them; what both SenderOk answer. -/
namespace Go.Proofs.Ytfeabhknkoifeaa
open Go.RowKit
set_option linter.unusedVariables false

/-- A message that lies somewhere: its fields, and where its words lie. -/
structure M where
  k : Int
  p : Int
  o : Bool
  a : Option Addr
  c : Nat
  xs : List Int

/-- What a message says, wherever it lies. -/
abbrev Say := Int × Int × Bool × List Int
def M.say (m : M) : Say := (m.k, m.p, m.o, m.xs)
def okS (s : Say) : Bool := msgOkB s.1 s.2.1 s.2.2.1 s.2.2.2

/-- Four cells at one place. -/
def At4 (w : World) (b off : Nat) (m : M) : Prop :=
  w.cell? ⟨b, off, none⟩ = some (.int .i64 m.k) ∧ w.cell? ⟨b, off + 1, none⟩ = some (.int .i64 m.p) ∧ w.cell? ⟨b, off + 2, none⟩ = some (.bool m.o) ∧ w.cell? ⟨b, off + 3, none⟩ = some (.slice m.a m.xs.length m.c)

/-- WHAT A READER IS TOLD OF A SLICE OF MESSAGES. -/
def MRow (w : World) (a : Option Addr) (ms : List M) : Prop :=
  ms.length ≤ 1048577 ∧ ∀ i m, ms[i]? = some m → (∃ b off, a = some ⟨b, off, none⟩ ∧ At4 w b (off + i * 4) m) ∧ Row .i64 w m.a m.xs

theorem At4.lt {w : World} {b off : Nat} {m : M} (h : At4 w b off m) : b < w.heap.size := lt_of_cell h.1
theorem At4.below {w w' : World} {b off : Nat} {m : M} (h : At4 w b off m) (hb : Below w.heap.size w w') : At4 w' b off m :=
  ⟨(hb.cell (p := ⟨b, off, none⟩) h.lt).trans h.1, (hb.cell (p := ⟨b, off + 1, none⟩) h.lt).trans h.2.1, (hb.cell (p := ⟨b, off + 2, none⟩) h.lt).trans h.2.2.1, (hb.cell (p := ⟨b, off + 3, none⟩) h.lt).trans h.2.2.2⟩

theorem MRow.below {w w' : World} {a : Option Addr} {ms : List M} (h : MRow w a ms) (hb : Below w.heap.size w w') : MRow w' a ms := by
  refine ⟨h.1, fun i m hi => ?_⟩
  obtain ⟨⟨b, off, rfl, h4⟩, hr⟩ := h.2 i m hi
  exact ⟨⟨b, off, rfl, h4.below hb⟩, hr.below hb⟩

theorem MRow.dr {w w' : World} {d : Nat} (e : w' = w.drewN d) {a : Option Addr} {ms : List M} (h : MRow w a ms) : MRow w' a ms := by subst e; exact h

def senderB (base : Int) (ms : List M) : Bool := decide (0 ≤ base ∧ base ≤ 100000) && (decide (ms.length ≤ 30) && (decide (base + ms.length ≤ 100000) && ms.all (fun m => okS m.say)))

theorem senderB_bad (base : Int) {ms : List M} {k : Nat} {m : M} (hm : ms[k]? = some m) (hb : msgOkB m.k m.p m.o m.xs = false) : senderB base ms = false := by
  have : ms.all (fun m => okS m.say) = false := by
    rw [List.all_eq_false]
    exact ⟨m, List.mem_of_getElem? hm, by simp [okS, M.say, hb]⟩
  simp [senderB, this]
theorem take_ok {ms : List M} {k : Nat} {m : M} (h : (ms.take k).all (fun m => okS m.say) = true) (hm : ms[k]? = some m) (hb : msgOkB m.k m.p m.o m.xs = true) : (ms.take (k + 1)).all (fun m => okS m.say) = true := by
  obtain ⟨hk, rfl⟩ := List.getElem?_eq_some_iff.1 hm
  rw [List.take_succ_eq_append_getElem hk, List.all_append, h]
  simp [okS, M.say, hb]


end Go.Proofs.Ytfeabhknkoifeaa

/- What both PacketOk do, and the law's small functions over packets. -/
namespace Go.Proofs.Ytfeabhknkoifeaa
open Go.RowKit
set_option linter.unusedVariables false

def zeroB (k p : Int) (o : Bool) (n : Nat) : Bool := k == 0 && (p == 0 && (!o && (n : Int) == 0))
def restB (A : Bool) (k p : Int) (o : Bool) (xs : List Int) : Bool := if A then zeroB k p o xs.length else msgOkB k p o xs
/-- What PacketOk answers. -/
def packetB (F T : Int) (A : Bool) (N k p : Int) (o : Bool) (xs : List Int) (nodes : Int) : Bool :=
  inB nodes 1 4 && (inB F 0 (nodes - 1) && (inB T 0 (nodes - 1) && (inB N 0 100000 && restB A k p o xs)))

abbrev pkV (F T : Int) (A : Bool) (N k p : Int) (o : Bool) (a : Option Addr) (n ca : Nat) : Array Value := #[.int .i64 F, .int .i64 T, .bool A, .int .i64 N, .int .i64 k, .int .i64 p, .bool o, .slice a n ca]

theorem at8 {w : World} {m : Nat} {t : TypeId} {c0 c1 c2 c3 c4 c5 c6 c7 : Value} (h : Box w m #[c0, c1, c2, c3, c4, c5, c6, c7] t) :
    w.cell? ⟨m, 0, none⟩ = some c0 ∧ w.cell? ⟨m, 1, none⟩ = some c1 ∧ w.cell? ⟨m, 2, none⟩ = some c2 ∧ w.cell? ⟨m, 3, none⟩ = some c3 ∧ w.cell? ⟨m, 4, none⟩ = some c4 ∧ w.cell? ⟨m, 5, none⟩ = some c5 ∧ w.cell? ⟨m, 6, none⟩ = some c6 ∧ w.cell? ⟨m, 7, none⟩ = some c7 ∧ m < w.heap.size :=
  ⟨by rw [h.cell]; rfl, by rw [h.cell]; rfl, by rw [h.cell]; rfl, by rw [h.cell]; rfl, by rw [h.cell]; rfl, by rw [h.cell]; rfl, by rw [h.cell]; rfl, by rw [h.cell]; rfl, h.lt⟩




set_option maxRecDepth 100000 in
set_option maxHeartbeats 1000000 in
theorem eqPacket_any (F T : Int) (A : Bool) (N k p : Int) (o : Bool) (a b : Option Addr) (ca cb : Nat) (xs : List Int) (w : World) (ha : Row .i64 w a xs) (hb : Row .i64 w b xs) :
    Calls Try.prog 46 #[.agg #[.int .i64 F, .int .i64 T, .bool A, .int .i64 N, .int .i64 k, .int .i64 p, .bool o, .slice a xs.length ca], .agg #[.int .i64 F, .int .i64 T, .bool A, .int .i64 N, .int .i64 k, .int .i64 p, .bool o, .slice b xs.length cb]] w fun e w' => e = .returned (.bool true) ∧ Below w.heap.size w w' := by
  have bA := bel_alloc (bel_alloc (Below.refl w.heap.size w) (.cells #[.int .i64 F, .int .i64 T, .bool A, .int .i64 N, .int .i64 k, .int .i64 p, .bool o, .slice a xs.length ca] 83)) (.cells #[.int .i64 F, .int .i64 T, .bool A, .int .i64 N, .int .i64 k, .int .i64 p, .bool o, .slice b xs.length cb] 83)
  go_enter Try.func46, Try.ntmps46
  go_wp2_with fail
  refine (eqMsg_any k p o a b ca cb xs _ (ha.below bA) (hb.below bA)).mono ?_
  rintro e w1 ⟨rfl, b1⟩
  have B := bel_trans bA b1
  go_wp2
  go_ret
  exact ⟨rfl, B⟩

def nodePB (id nodes : Int) : Bool := decide (nodes ≤ 4) && (decide (0 ≤ id) && decide (id < nodes))

theorem isNode_any (id nodes : Int) (w : World) :
    Calls Try.prog 43 #[.int .i64 id, .int .i64 nodes] w fun e w' => e = .returned (.bool (nodePB id nodes)) ∧ w' = w := by
  unfold nodePB
  by_cases h0 : nodes ≤ 4
  · by_cases h1 : 0 ≤ id
    · rw [decide_eq_true h0, decide_eq_true h1]
      go_enter Try.func43, Try.ntmps43
      go_wp2
      go_ret
      exact ⟨rfl, rfl⟩
    · rw [decide_eq_true h0, decide_eq_false h1]
      have h1' : id < 0 := by omega
      go_enter Try.func43, Try.ntmps43
      go_wp2
      go_ret
      exact ⟨rfl, rfl⟩
  · rw [decide_eq_false h0]
    have h0' : 4 < nodes := by omega
    go_enter Try.func43, Try.ntmps43
    go_wp2
    go_ret
    exact ⟨rfl, rfl⟩


end Go.Proofs.Ytfeabhknkoifeaa
