/- What isSeq does. -/
import Derived.Test.YtpfppeifppdmbaaGreatRows
import Derived.Test.YtpfppeifppdmbaaGreatKeep
namespace Go.Proofs.YtpfppeifppdmbaaGreat
open Go.RowKit
set_option linter.unusedVariables false

def inB (x lo hi : Int) : Bool := decide (lo ≤ x ∧ x ≤ hi)

theorem isSeq_any (n : Int) (w : World) :
    Calls Tryz.prog 86 #[.int .i64 n] w fun e w' => e = .returned (.bool (inB n 0 100000)) ∧ w' = w := by
  by_cases h0 : 0 ≤ n
  · by_cases h1 : n ≤ 100000
    · have hd : inB n 0 100000 = true := by simp [inB, h0, h1]
      rw [hd]
      go_enter Tryz.func86, Tryz.ntmps86
      go_wp2
      go_ret
      exact ⟨rfl, rfl⟩
    · have hd : inB n 0 100000 = false := by simp [inB, h1]
      rw [hd]
      have h1' : 100000 < n := by omega
      go_enter Tryz.func86, Tryz.ntmps86
      go_wp2
      go_ret
      exact ⟨rfl, rfl⟩
  · have hd : inB n 0 100000 = false := by simp [inB, h0]
    rw [hd]
    have h1' : n < 0 := by omega
    go_enter Tryz.func86, Tryz.ntmps86
    go_wp2
    go_ret
    exact ⟨rfl, rfl⟩
end Go.Proofs.YtpfppeifppdmbaaGreat
