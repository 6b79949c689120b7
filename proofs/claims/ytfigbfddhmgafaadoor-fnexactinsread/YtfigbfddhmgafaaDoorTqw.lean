/- What impl's wordingOf answers. -/
import Derived.Test.YtfigbfddhmgafaaDoorTq4
namespace Go.Proofs.YtfigbfddhmgafaaDoor
open Go.RowKit
set_option linter.unusedVariables false

set_option maxRecDepth 100000 in
set_option maxHeartbeats 4000000 in
theorem wordingOf_any (op : Nat) (h1 : 1 ≤ op) (h2 : op ≤ 10) (w : World) : Calls Tryd.prog 22 #[.int .i64 op] w fun e w' => e = .returned (.agg #[txt (nameT op), txt (fldT op)]) ∧ Below w.heap.size w w' := by
  obtain ⟨y0, y1, yz⟩ := (Box.new w #[.string ⟨#[]⟩, .string ⟨#[]⟩] 43).at2
  have f0 := (Box.new w #[.string ⟨#[]⟩, .string ⟨#[]⟩] 43).frozen 0
  have f1 := (Box.new w #[.string ⟨#[]⟩, .string ⟨#[]⟩] 43).frozen 1
  have z0 : ∀ a b : Value, (w.alloc (.cells #[a, b] 43)).cell? ⟨w.heap.size, 0, none⟩ = some a := fun a b => (Box.new w #[a, b] 43).at2.1
  have z1 : ∀ a b : Value, (w.alloc (.cells #[a, b] 43)).cell? ⟨w.heap.size, 1, none⟩ = some b := fun a b => (Box.new w #[a, b] 43).at2.2.1
  have HZ0 : Hid (∀ a b : Value, (w.alloc (.cells #[a, b] 43)).cell? ⟨w.heap.size, 0, none⟩ = some a) := z0
  have HZ1 : Hid (∀ a b : Value, (w.alloc (.cells #[a, b] 43)).cell? ⟨w.heap.size, 1, none⟩ = some b) := z1
  clear z0 z1
  rcases op_ten h1 h2 with rfl | rfl | rfl | rfl | rfl | rfl | rfl | rfl | rfl | rfl
  all_goals
    go_enter Tryd.func22, Tryd.ntmps22
    go_wp2
    refine bodyPost_ret (v := .agg #[_, _]) (by simp [results, Tryd.results22, go_sem, HZ0.out, HZ1.out]; first | exact ⟨rfl, rfl⟩ | rfl) rfl ⟨rfl, bel_alloc (Below.refl _ _) _⟩
end Go.Proofs.YtfigbfddhmgafaaDoor
