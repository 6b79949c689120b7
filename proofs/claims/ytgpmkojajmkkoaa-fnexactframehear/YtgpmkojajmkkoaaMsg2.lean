/- What the law's heldMsg does. -/
import Derived.Test.YtgpmkojajmkkoaaMsg
namespace Go.Proofs.Ytgpmkojajmkkoaa
open Go.RowKit
set_option linter.unusedVariables false

set_option maxHeartbeats 400000 in
theorem heldMsg_any (k p : Int) (o : Bool) (a : Option Addr) (c n : Nat) (k0 : Int) (w : World) (h0 : 0 ≤ k0) (h1 : k0 ≤ 140737488351232) (hn : n ≤ 1048576) (ha : Row .i64 w a (mki k0 n)) :
    Calls Try.prog 15 #[.agg #[.int .i64 k, .int .i64 p, .bool o, .slice a n c], .int .i64 k0] w fun e w' => e = .returned (.int .i64 (k0 + n)) ∧ Below w.heap.size w w' := by
  go_enter Try.func15, Try.ntmps15
  go_wp2_with fail
  have bA := bel_alloc (Below.refl w.heap.size w) (.cells #[.int .i64 k, .int .i64 p, .bool o, .slice a n c] 30)
  refine (heldIntS_any a c n k0 _ h0 (by omega) (ha.below bA)).mono ?_
  rintro e w1 ⟨rfl, h⟩
  subst h
  have hd : decide (k0 + (n : Int) < 0) = false := by simp; omega
  go_wp2
  go_ret
  exact ⟨rfl, bA⟩
end Go.Proofs.Ytgpmkojajmkkoaa
