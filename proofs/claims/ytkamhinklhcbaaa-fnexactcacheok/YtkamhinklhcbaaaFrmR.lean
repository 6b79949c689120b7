/- What FrameRead does on both sides; the specification's FrameOk. -/
import Derived.Test.YtkamhinklhcbaaaFrmH
import Derived.Test.YtkamhinklhcbaaaSpecOk
namespace Go.Proofs.Ytkamhinklhcbaaa
open Go.RowKit
set_option linter.unusedVariables false

set_option maxHeartbeats 1000000 in
theorem specFrameOk_any (s : Int) (q : Bool) (a : Option Addr) (ca : Nat) (xs : List Int) (w : World) (ha : Row .i64 w a xs) :
    Calls Try.prog 59 #[.agg #[.int .i64 s, .slice a xs.length ca, .bool q]] w fun e w' => e = .returned (.bool (frameOkB s xs)) ∧ Below w.heap.size w w' := by
  have bA := bel_alloc (Below.refl w.heap.size w) (.cells #[.int .i64 s, .slice a xs.length ca, .bool q] 84)
  have hr := ha.below bA
  by_cases h0 : s = 0
  · subst h0
    clear ha hr
    go_enter Try.func59, Try.ntmps59
    go_wp2
    go_ret
    exact ⟨ret_bool (frame_zero xs).symm, bA⟩
  · have hs : (s == 0) = false := by simp [h0]
    have HF : Hid (frameOkB s xs = (decide (0 ≤ s ∧ s ≤ 2) && wordsB xs 4)) := frame_some hs
    clear h0
    cases hd : decide (0 ≤ s ∧ s ≤ 2)
    all_goals
      rw [hd] at HF
      go_enter Try.func59, Try.ntmps59
      go_wp2_with (first | (go_at_call 80; refine (specIn_any _ _ _ _).mono ?_; rintro e w1 ⟨rfl, rfl⟩) | (go_at_call 90; refine (specWords_any a ca xs _ _ hr).mono ?_; rintro e w1 ⟨rfl, rfl⟩))
      go_ret
      exact ⟨ret_bool (HF.out.symm), bA⟩

/-- What FrameRead answers. -/
def readN (s : Int) (xs : List Int) (i : Int) : Int := if frameOkB s xs && decide (0 ≤ i ∧ i < xs.length) then xs.getD i.toNat 0 else 0
def readB (s : Int) (xs : List Int) (i : Int) : Bool := frameOkB s xs && decide (0 ≤ i ∧ i < xs.length)

theorem read_no {s : Int} {xs : List Int} {i : Int} (h : readB s xs i = false) : readN s xs i = 0 := by
  unfold readB at h
  unfold readN
  rw [h]
  rfl
theorem read_yes {s : Int} {xs : List Int} {i : Int} (h : readB s xs i = true) : readN s xs i = xs.getD i.toNat 0 := by
  unfold readB at h
  unfold readN
  rw [h]
  rfl


end Go.Proofs.Ytkamhinklhcbaaa
