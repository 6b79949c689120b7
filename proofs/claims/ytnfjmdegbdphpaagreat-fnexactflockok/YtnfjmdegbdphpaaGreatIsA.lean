/- What impl's isAddress answers. -/
import Derived.Test.YtnfjmdegbdphpaaGreatIn8
namespace Go.Proofs.YtnfjmdegbdphpaaGreat
open Go.RowKit
set_option linter.unusedVariables false

set_option maxHeartbeats 1000000 in
theorem isAddress_any (x : Int) (w : World) : Calls Tryz.prog 69 #[.int .i64 x] w fun e w' => e = .returned (.bool (inB x 0 23)) ∧ w' = w := by
  have HV : Hid (inB x 0 23 = decide (0 ≤ x ∧ x ≤ 23)) := by show _ = _; rfl
  by_cases h1 : 0 ≤ x
  · by_cases h2 : x < 24
    · go_enter Tryz.func69, Tryz.ntmps69
      go_wp2
      go_ret
      exact ⟨ret_bool (by rw [HV.out]; simp; omega), rfl⟩
    · go_enter Tryz.func69, Tryz.ntmps69
      go_wp2
      go_ret
      exact ⟨ret_bool (by rw [HV.out]; simp; omega), rfl⟩
  · go_enter Tryz.func69, Tryz.ntmps69
    go_wp2
    go_ret
    exact ⟨ret_bool (by rw [HV.out]; simp; omega), rfl⟩

end Go.Proofs.YtnfjmdegbdphpaaGreat
