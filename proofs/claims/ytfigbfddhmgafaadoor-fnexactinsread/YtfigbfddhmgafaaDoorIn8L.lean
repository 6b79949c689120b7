/- The laws of chapter 8 over any impl that answers as it should; the law's toIns, eqIns. -/
import Derived.Test.YtfigbfddhmgafaaDoorIn8d
import Derived.Test.YtfigbfddhmgafaaDoorHomT
namespace Go.Proofs.YtfigbfddhmgafaaDoor
open Go.RowKit
set_option linter.unusedVariables false

set_option maxRecDepth 100000 in
set_option maxHeartbeats 2000000 in
theorem toIns_any (op r a b n : Int) (w : World) : Calls Tryd.prog 7 #[.agg (icells op r a b n)] w fun e w' => e = .returned (.agg (icells op r a b n)) ∧ Below w.heap.size w w' := by
  go_enter Tryd.func7, Tryd.ntmps7
  go_wp2
  refine bodyPost_ret (v := .agg (icells op r a b n)) (by simp [results, Tryd.results7, go_sem]) rfl ⟨rfl, ?_⟩
  exact bel_alloc (bel_alloc (bel_alloc (Below.refl _ _) _) _) _

set_option maxRecDepth 100000 in
set_option maxHeartbeats 2000000 in
theorem eqIns_any (op r a b n : Int) (w : World) : Calls Tryd.prog 11 #[.agg (icells op r a b n), .agg (icells op r a b n)] w fun e w' => e = .returned (.bool true) ∧ Below w.heap.size w w' := by
  have B := bel_alloc (bel_alloc (Below.refl w.heap.size w) (.cells (icells op r a b n) 25)) (.cells (icells op r a b n) 25)
  go_enter Tryd.func11, Tryd.ntmps11
  go_wp2
  go_ret
  exact ⟨rfl, B⟩




theorem decV_cells (v : Int) : ∃ op r a b n, decV v = icells op r a b n := by
  unfold decV
  split
  · exact ⟨_, _, _, _, _, rfl⟩
  · exact ⟨_, _, _, _, _, rfl⟩

end Go.Proofs.YtfigbfddhmgafaaDoor
