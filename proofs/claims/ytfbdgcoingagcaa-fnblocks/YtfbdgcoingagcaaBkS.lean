/- What the laws' sameIns answers of two rows alike; two places held against each other. -/
import Derived.Test.YtfbdgcoingagcaaBk5
import Derived.BigQuiet
import Derived.BigRegion
import Derived.Deep.RegionHeld3
namespace Go.Proofs.Ytfbdgcoingagcaa
open Go.RowKit
set_option linter.unusedVariables false

set_option maxHeartbeats 1000000 in
theorem insv_eq (a b c d e : Int) (w : World) : (Op.equalIn 10000 36 (.agg (icells a b c d e)) (.agg (icells a b c d e))).run Try.prog w = .ok true w := by
  have u3 := Try.underlying3
  have a3 := Try.isAgg3
  have z3 := Try.sizeOf3
  rw [show (10000 : Nat) = 9999 + 1 from rfl, Op.equalIn]
  simp only [Sem.run_bind, run_underlying Try.underlying36, Result.andThen_ok]
  go_simp

set_option maxRecDepth 100000 in
set_option maxHeartbeats 1000000 in
theorem sameIns_any (a b : Option Addr) (ca cb n : Nat) (d : Nat → XD) (w : World) (ha : IR w a n d) (hb : IR w b n d) :
    Calls Try.prog 12 #[.slice a n ca, .slice b n cb] w fun e w' => e = .returned (.bool true) ∧ Below w.heap.size w w' := by
  have hl : n ≤ 1048577 := ha.1
  go_enter Try.func12, Try.ntmps12
  go_wp2
  go_loopw [5] (fun i wr => ∃ k : Nat, k ≤ n ∧ i = .int .i64 k ∧ IR wr a n d ∧ IR wr b n d ∧ Below w.heap.size w wr) (fun i _ => n - (intOf i).toNat)
  case atStart => exact ⟨0, Nat.zero_le _, rfl, ha, hb, Below.refl _ _⟩
  case round =>
    obtain ⟨k, hk, rfl, hma, hmb, hB⟩ := hrel
    by_cases hlt : k < n
    · have hi : (k : Int) < (n : Int) := by omega
      obtain ⟨ba, oa, rfl, y0, y1, y2, y3, y4⟩ := hma.at hlt
      obtain ⟨bb, ob, rfl, z0, z1, z2, z3, z4⟩ := hmb.at hlt
      have HMA : Hid (∀ q, IR (wr.drewN q) (some ⟨ba, oa, none⟩) n d ∧ IR (wr.drewN q) (some ⟨bb, ob, none⟩) n d ∧ Below w.heap.size w (wr.drewN q)) := fun q => ⟨hma.below (below_drewN (Below.refl _ _) q), hmb.below (below_drewN (Below.refl _ _) q), below_drewN hB q⟩
      clear ha hb hma hmb hB
      go_wp2_with fail
      go_quiet (fail)
      go_wp2
      go_roundw
      case rel => exact ⟨k + 1, by omega, by go_num, (HMA.out _).1, (HMA.out _).2.1, (HMA.out _).2.2⟩
      case measure => simp [intOf]; omega
    · clear ha hb hma hmb
      go_wp2
      go_ret
      exact ⟨rfl, hB⟩
end Go.Proofs.Ytfbdgcoingagcaa
