/- What the law's markFrameS, markSenderS, markReceiverS and the like of 'held' do at rows whose lists are empty. -/
import Derived.Test.YtpfppeifppdmbaaGreatWoR
import Derived.Test.YtpfppeifppdmbaaGreatHomM
import Derived.Test.YtpfppeifppdmbaaGreatKeep
namespace Go.Proofs.YtpfppeifppdmbaaGreat
open Go.RowKit
set_option linter.unusedVariables false

set_option maxHeartbeats 400000 in
theorem markIntS_none (k0 : Int) (w : World) :
    Calls Tryz.prog 11 #[.slice none 0 0, .int .i64 k0] w fun e w' => e = .returned (.int .i64 k0) ∧ w' = w := by
  go_enter Tryz.func11, Tryz.ntmps11
  go_wp2
  go_loopw [1, 5] (fun q i wr => i = .int .i64 0 ∧ q = .int .i64 k0 ∧ wr = w) (fun _ i _ => 0)
  case atStart => exact ⟨rfl, rfl, rfl⟩
  case round =>
    obtain ⟨rfl, rfl, rfl⟩ := hrel
    go_wp2
    go_ret
    exact ⟨rfl, rfl⟩

set_option maxHeartbeats 400000 in
theorem markMsgS_none (k0 : Int) (w : World) :
    Calls Tryz.prog 67 #[.slice none 0 0, .int .i64 k0] w fun e w' => e = .returned (.int .i64 k0) ∧ w' = w := by
  go_enter Tryz.func67, Tryz.ntmps67
  go_wp2
  go_loopw [1, 5] (fun q i wr => i = .int .i64 0 ∧ q = .int .i64 k0 ∧ wr = w) (fun _ i _ => 0)
  case atStart => exact ⟨rfl, rfl, rfl⟩
  case round =>
    obtain ⟨rfl, rfl, rfl⟩ := hrel
    go_wp2
    go_ret
    exact ⟨rfl, rfl⟩


set_option maxHeartbeats 400000 in
theorem heldIntS_none (k0 : Int) (w : World) :
    Calls Tryz.prog 12 #[.slice none 0 0, .int .i64 k0] w fun e w' => e = .returned (.int .i64 k0) ∧ w' = w := by
  go_enter Tryz.func12, Tryz.ntmps12
  go_wp2
  go_loopw [1, 5] (fun q i wr => i = .int .i64 0 ∧ q = .int .i64 k0 ∧ wr = w) (fun _ i _ => 0)
  case atStart => exact ⟨rfl, rfl, rfl⟩
  case round =>
    obtain ⟨rfl, rfl, rfl⟩ := hrel
    go_wp2
    go_ret
    exact ⟨rfl, rfl⟩

def s0 (b : Int) : List Value := [.int .i64 b, .slice none 0 0]
/-- Marked: frames, senders, receivers, counted on from k. -/
def mf (k : Int) (i : Nat) : List Value := f0 (k + 2 * (i : Int)) ((k + 2 * (i : Int) + 1) % 3 == 0)
def ms' (k : Int) (i : Nat) : List Value := s0 (k + i)
def mg (k : Int) (i : Nat) : List Value := gcells (k + i)

theorem mark_f {w : World} {lo n g c j : Nat} {k : Int} {o : Nat → Int × Bool} (hr : w.ownsRow lo 95 3 (.slice (some ⟨g, 0, none⟩) n c) n (chunks n fun i => if i < j then mf k i else f0 (o i).1 (o i).2)) (hj : j < n) :
    ((w.setCell ⟨g, j * 3, none⟩ (.int .i64 (k + 2 * (j : Int)))).setCell ⟨g, j * 3 + 2, none⟩ (.bool ((k + 2 * (j : Int) + 1) % 3 == 0))).ownsRow lo 95 3 (.slice (some ⟨g, 0, none⟩) n c) n (chunks n fun i => if i < j + 1 then mf k i else f0 (o i).1 (o i).2) := by
  have hf : ∀ i, i < n → ((fun i => if i < j then mf k i else f0 (o i).1 (o i).2) i).length = 3 := fun i _ => by dsimp only; split <;> rfl
  have h1 := owns_stored hr hf hj (j := 0) (by decide) (.int .i64 (k + 2 * (j : Int)))
  have h2 := owns_stored h1 (set_len hf _ _ _) hj (j := 2) (by decide) (.bool ((k + 2 * (j : Int) + 1) % 3 == 0))
  refine owns_congr h2 (fun i hi => ?_)
  by_cases e : i = j
  · subst e
    simp [f0, mf]
  · try dsimp only
    rw [if_neg e, if_neg e]
    by_cases h : i < j
    · rw [if_pos h, if_pos (by omega)]
    · rw [if_neg h, if_neg (by omega)]

theorem grown_set {w wr : World} {lo e s n g c : Nat} {xs : List Value} (hg : w.grownBy wr (Value.slice (some ⟨g, 0, none⟩) n c).ownBlock) (hr : wr.ownsRow lo e s (.slice (some ⟨g, 0, none⟩) n c) n xs) (k : Nat) (u : Value) : w.grownBy (wr.setCell ⟨g, k, none⟩ u) (Value.slice (some ⟨g, 0, none⟩) n c).ownBlock :=
  grownBy_trans hg (hr.stored k u).2

set_option maxRecDepth 100000 in
set_option maxHeartbeats 1000000 in
theorem markFrameS_none (lo n : Nat) (a : Option Addr) (c : Nat) (o : Nat → Int × Bool) (k0 : Int) (w : World) (h0 : 0 ≤ k0) (h1 : k0 ≤ 100000000000) (hn : n ≤ 1048577) (hown : w.ownsRow lo 95 3 (.slice a n c) n (chunks n fun i => f0 (o i).1 (o i).2)) :
    Calls Tryz.prog 36 #[.slice a n c, .int .i64 k0] w fun e w' => e = .returned (.int .i64 (k0 + 2 * (n : Int))) ∧ w'.ownsRow lo 95 3 (.slice a n c) n (chunks n (mf k0)) ∧ w.grownBy w' (Value.slice a n c).ownBlock := by
  go_enter Tryz.func36, Tryz.ntmps36
  go_wp2
  go_loopw [1, 5] (fun q i wr => ∃ j : Nat, j ≤ n ∧ i = .int .i64 j ∧ q = .int .i64 (k0 + 2 * (j : Int)) ∧ wr.ownsRow lo 95 3 (.slice a n c) n (chunks n fun i => if i < j then mf k0 i else f0 (o i).1 (o i).2) ∧ w.grownBy wr (Value.slice a n c).ownBlock) (fun _ i _ => n - (intOf i).toNat)
  case atStart => exact ⟨0, Nat.zero_le _, rfl, by simp, by simpa using hown, World.grownBy.refl _ _⟩
  case round =>
    obtain ⟨j, hj, rfl, rfl, hr, hgr⟩ := hrel
    by_cases hlt : j < n
    · obtain ⟨g, rfl⟩ := owns_addr hr (by omega)
      have hi : (j : Int) < (n : Int) := by omega
      have hf : ∀ i, i < n → ((fun i => if i < j then mf k0 i else f0 (o i).1 (o i).2) i).length = 3 := fun i _ => by dsimp only; split <;> rfl
      have c0 := owns_chunk hr hf hlt (j := 0) (by decide)
      have c1 := owns_chunk hr hf hlt (j := 1) (by decide)
      have c2 := owns_chunk hr hf hlt (j := 2) (by decide)
      simp only [Nat.lt_irrefl, if_false, Nat.add_zero] at c0 c1 c2
      replace c0 : wr.cell? ⟨g, j * 3, none⟩ = some (.int .i64 (o j).1) := c0
      replace c1 : wr.cell? ⟨g, j * 3 + 1, none⟩ = some (.slice none 0 0) := c1
      replace c2 : wr.cell? ⟨g, j * 3 + 2, none⟩ = some (.bool (o j).2) := c2
      have z0 := hr.frozenAt (j * 3)
      have z1 := hr.frozenAt (j * 3 + 1)
      have z2 := hr.frozenAt (j * 3 + 2)
      have R : Hid _ := mark_f hr hlt
      have G : Hid _ := grown_set (grown_set hgr hr (j * 3) (.int .i64 (k0 + 2 * (j : Int)))) (hr.stored (j * 3) _).1 (j * 3 + 2) (.bool ((k0 + 2 * (j : Int) + 1) % 3 == 0))
      clear hr hgr hown hf
      go_wp2_with fail
      refine (markIntS_none _ _).mono ?_
      rintro e w1 ⟨rfl, h⟩
      subst h
      go_wp2
      go_roundw
      case rel => exact ⟨j + 1, by omega, by go_num, by go_num, R.out, G.out⟩
      case measure => simp [intOf]; omega
    · have : j = n := by omega
      subst this
      have R : w.grownBy wr (Value.slice a j c).ownBlock ∧ wr.ownsRow lo 95 3 (.slice a j c) j (chunks j (mf k0)) := ⟨hgr, owns_congr hr (fun i hi => by rw [if_pos hi])⟩
      clear hr hgr hown
      go_wp2
      go_ret
      exact ⟨rfl, R.2, R.1⟩


theorem mark_s {w : World} {lo n g c j : Nat} {k : Int} {o : Nat → Int} (hr : w.ownsRow lo 115 2 (.slice (some ⟨g, 0, none⟩) n c) n (chunks n fun i => if i < j then ms' k i else s0 (o i))) (hj : j < n) :
    (w.setCell ⟨g, j * 2, none⟩ (.int .i64 (k + (j : Int)))).ownsRow lo 115 2 (.slice (some ⟨g, 0, none⟩) n c) n (chunks n fun i => if i < j + 1 then ms' k i else s0 (o i)) := by
  have hf : ∀ i, i < n → ((fun i => if i < j then ms' k i else s0 (o i)) i).length = 2 := fun i _ => by dsimp only; split <;> rfl
  have h1 := owns_stored hr hf hj (j := 0) (by decide) (.int .i64 (k + (j : Int)))
  refine owns_congr h1 (fun i hi => ?_)
  by_cases e : i = j
  · subst e
    simp [s0, ms']
  · try dsimp only
    rw [if_neg e]
    by_cases h : i < j
    · rw [if_pos h, if_pos (by omega)]
    · rw [if_neg h, if_neg (by omega)]

set_option maxRecDepth 100000 in
set_option maxHeartbeats 1000000 in
theorem markSenderS_none (lo n : Nat) (a : Option Addr) (c : Nat) (o : Nat → Int) (k0 : Int) (w : World) (h0 : 0 ≤ k0) (h1 : k0 ≤ 100000000000) (hn : n ≤ 1048577) (hown : w.ownsRow lo 115 2 (.slice a n c) n (chunks n fun i => s0 (o i))) :
    Calls Tryz.prog 38 #[.slice a n c, .int .i64 k0] w fun e w' => e = .returned (.int .i64 (k0 + (n : Int))) ∧ w'.ownsRow lo 115 2 (.slice a n c) n (chunks n (ms' k0)) ∧ w.grownBy w' (Value.slice a n c).ownBlock := by
  go_enter Tryz.func38, Tryz.ntmps38
  go_wp2
  go_loopw [1, 5] (fun q i wr => ∃ j : Nat, j ≤ n ∧ i = .int .i64 j ∧ q = .int .i64 (k0 + (j : Int)) ∧ wr.ownsRow lo 115 2 (.slice a n c) n (chunks n fun i => if i < j then ms' k0 i else s0 (o i)) ∧ w.grownBy wr (Value.slice a n c).ownBlock) (fun _ i _ => n - (intOf i).toNat)
  case atStart => exact ⟨0, Nat.zero_le _, rfl, by simp, by simpa using hown, World.grownBy.refl _ _⟩
  case round =>
    obtain ⟨j, hj, rfl, rfl, hr, hgr⟩ := hrel
    by_cases hlt : j < n
    · obtain ⟨g, rfl⟩ := owns_addr hr (by omega)
      have hi : (j : Int) < (n : Int) := by omega
      have hf : ∀ i, i < n → ((fun i => if i < j then ms' k0 i else s0 (o i)) i).length = 2 := fun i _ => by dsimp only; split <;> rfl
      have c0 := owns_chunk hr hf hlt (j := 0) (by decide)
      have c1 := owns_chunk hr hf hlt (j := 1) (by decide)
      simp only [Nat.lt_irrefl, if_false, Nat.add_zero] at c0 c1
      replace c0 : wr.cell? ⟨g, j * 2, none⟩ = some (.int .i64 (o j)) := c0
      replace c1 : wr.cell? ⟨g, j * 2 + 1, none⟩ = some (.slice none 0 0) := c1
      have z0 := hr.frozenAt (j * 2)
      have R : Hid _ := mark_s hr hlt
      have G : Hid _ := grown_set hgr hr (j * 2) (.int .i64 (k0 + (j : Int)))
      clear hr hgr hown hf
      go_wp2_with fail
      refine (markMsgS_none _ _).mono ?_
      rintro e w1 ⟨rfl, h⟩
      subst h
      go_wp2
      go_roundw
      case rel => exact ⟨j + 1, by omega, by go_num, by go_num, R.out, G.out⟩
      case measure => simp [intOf]; omega
    · have : j = n := by omega
      subst this
      have R : w.grownBy wr (Value.slice a j c).ownBlock ∧ wr.ownsRow lo 115 2 (.slice a j c) j (chunks j (ms' k0)) := ⟨hgr, owns_congr hr (fun i hi => by rw [if_pos hi])⟩
      clear hr hgr hown
      go_wp2
      go_ret
      exact ⟨rfl, R.2, R.1⟩


theorem mark_g {w : World} {lo n g c j : Nat} {k : Int} {o : Nat → Int} (hr : w.ownsRow lo 118 1 (.slice (some ⟨g, 0, none⟩) n c) n (chunks n fun i => if i < j then mg k i else gcells (o i))) (hj : j < n) :
    (w.setCell ⟨g, j, none⟩ (.int .i64 (k + (j : Int)))).ownsRow lo 118 1 (.slice (some ⟨g, 0, none⟩) n c) n (chunks n fun i => if i < j + 1 then mg k i else gcells (o i)) := by
  have hf : ∀ i, i < n → ((fun i => if i < j then mg k i else gcells (o i)) i).length = 1 := fun i _ => by dsimp only; split <;> rfl
  have h1 := owns_stored hr hf hj (j := 0) (by decide) (.int .i64 (k + (j : Int)))
  rw [Nat.mul_one, Nat.add_zero] at h1
  refine owns_congr h1 (fun i hi => ?_)
  by_cases e : i = j
  · subst e
    simp [gcells, mg]
  · try dsimp only
    rw [if_neg e]
    by_cases h : i < j
    · rw [if_pos h, if_pos (by omega)]
    · rw [if_neg h, if_neg (by omega)]

set_option maxRecDepth 100000 in
set_option maxHeartbeats 1000000 in
theorem markReceiverS_any (lo n : Nat) (a : Option Addr) (c : Nat) (o : Nat → Int) (k0 : Int) (w : World) (h0 : 0 ≤ k0) (h1 : k0 ≤ 4611686018427387904) (hn : n ≤ 1048577) (hown : w.ownsRow lo 118 1 (.slice a n c) n (chunks n fun i => gcells (o i))) :
    Calls Tryz.prog 39 #[.slice a n c, .int .i64 k0] w fun e w' => e = .returned (.int .i64 (k0 + (n : Int))) ∧ w'.ownsRow lo 118 1 (.slice a n c) n (chunks n (mg k0)) ∧ w.grownBy w' (Value.slice a n c).ownBlock := by
  go_enter Tryz.func39, Tryz.ntmps39
  go_wp2
  go_loopw [1, 5] (fun q i wr => ∃ j : Nat, j ≤ n ∧ i = .int .i64 j ∧ q = .int .i64 (k0 + (j : Int)) ∧ wr.ownsRow lo 118 1 (.slice a n c) n (chunks n fun i => if i < j then mg k0 i else gcells (o i)) ∧ w.grownBy wr (Value.slice a n c).ownBlock) (fun _ i _ => n - (intOf i).toNat)
  case atStart => exact ⟨0, Nat.zero_le _, rfl, by simp, by simpa using hown, World.grownBy.refl _ _⟩
  case round =>
    obtain ⟨j, hj, rfl, rfl, hr, hgr⟩ := hrel
    by_cases hlt : j < n
    · obtain ⟨g, rfl⟩ := owns_addr hr (by omega)
      have hi : (j : Int) < (n : Int) := by omega
      have hf : ∀ i, i < n → ((fun i => if i < j then mg k0 i else gcells (o i)) i).length = 1 := fun i _ => by dsimp only; split <;> rfl
      have c0 := owns_chunk hr hf hlt (j := 0) (by decide)
      simp only [Nat.lt_irrefl, if_false, Nat.add_zero, Nat.mul_one] at c0
      replace c0 : wr.cell? ⟨g, j, none⟩ = some (.int .i64 (o j)) := c0
      have z0 := hr.frozenAt j
      have R : Hid _ := mark_g hr hlt
      have G : Hid _ := grown_set hgr hr j (.int .i64 (k0 + (j : Int)))
      clear hr hgr hown hf
      go_wp2
      go_roundw
      case rel => exact ⟨j + 1, by omega, by go_num, by go_num, R.out, G.out⟩
      case measure => simp [intOf]; omega
    · have : j = n := by omega
      subst this
      have R : w.grownBy wr (Value.slice a j c).ownBlock ∧ wr.ownsRow lo 118 1 (.slice a j c) j (chunks j (mg k0)) := ⟨hgr, owns_congr hr (fun i hi => by rw [if_pos hi])⟩
      clear hr hgr hown
      go_wp2
      go_ret
      exact ⟨rfl, R.2, R.1⟩

end Go.Proofs.YtpfppeifppdmbaaGreat
