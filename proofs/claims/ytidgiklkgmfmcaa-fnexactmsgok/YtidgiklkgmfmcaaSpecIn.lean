/- What the specification's l1In does. -/
import Derived.Test.YtidgiklkgmfmcaaRows
import Derived.Test.YtidgiklkgmfmcaaBase
namespace Go.Proofs.Ytidgiklkgmfmcaa
open Go.RowKit

set_option maxHeartbeats 400000 in
theorem specIn_any (x lo hi : Int) (w : World) :
    Calls Try.prog 24 #[.int .i64 x, .int .i64 lo, .int .i64 hi] w fun e w' => e = .returned (.bool (decide (lo ≤ x ∧ x ≤ hi))) ∧ w' = w := by
  by_cases h0 : lo ≤ x
  · by_cases h1 : x ≤ hi
    · have hd : decide (lo ≤ x ∧ x ≤ hi) = true := by simp [h0, h1]
      rw [hd]
      go_enter Try.func24, Try.ntmps24
      go_wp2
      go_ret
      exact ⟨rfl, rfl⟩
    · have hd : decide (lo ≤ x ∧ x ≤ hi) = false := by simp [h1]
      rw [hd]
      have h1' : hi < x := by omega
      go_enter Try.func24, Try.ntmps24
      go_wp2
      go_ret
      exact ⟨rfl, rfl⟩
  · have hd : decide (lo ≤ x ∧ x ≤ hi) = false := by simp [h0]
    rw [hd]
    have h1' : x < lo := by omega
    go_enter Try.func24, Try.ntmps24
    go_wp2
    go_ret
    exact ⟨rfl, rfl⟩

end Go.Proofs.Ytidgiklkgmfmcaa
