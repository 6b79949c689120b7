/- The laws of chapter 8 over any impl that answers as it should; the law's toIns, eqIns. -/
import Derived.Test.YtiilgkloddflcaaIn8d
import Derived.Test.YtiilgkloddflcaaHomT
namespace Go.Proofs.Ytiilgkloddflcaa
open Go.RowKit
set_option linter.unusedVariables false

set_option maxRecDepth 100000 in
set_option maxHeartbeats 2000000 in
theorem toIns_any (op r a b n : Int) (w : World) : Calls Try.prog 19 #[.agg (icells op r a b n)] w fun e w' => e = .returned (.agg (icells op r a b n)) ∧ Below w.heap.size w w' := by
  go_enter Try.func19, Try.ntmps19
  go_wp2
  refine bodyPost_ret (v := .agg (icells op r a b n)) (by simp [results, Try.results19, go_sem]) rfl ⟨rfl, ?_⟩
  exact bel_alloc (bel_alloc (bel_alloc (Below.refl _ _) _) _) _





theorem decV_cells (v : Int) : ∃ op r a b n, decV v = icells op r a b n := by
  unfold decV
  split
  · exact ⟨_, _, _, _, _, rfl⟩
  · exact ⟨_, _, _, _, _, rfl⟩

end Go.Proofs.Ytiilgkloddflcaa
