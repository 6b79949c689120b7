/- What impl's copyHart answers. -/
import Derived.Test.YtafikmpgmnhgcaaHs9
import Derived.Test.YtafikmpgmnhgcaaCp0
namespace Go.Proofs.Ytafikmpgmnhgcaa
open Go.RowKit
set_option linter.unusedVariables false

set_option maxRecDepth 100000 in
set_option maxHeartbeats 2000000 in
theorem copyHart_any (a : Option Addr) (c : Nat) (xs : List Int) (pc st : Int) (w : World) (hsm : xs.length ≤ 1048577) (ha : Row .i64 w a xs) :
    Calls Try.prog 39 #[.agg #[.slice a xs.length c, .int .i64 pc, .int .i64 st]] w (HartP xs pc st w) := by
  have bA := bel_alloc (bel_alloc (Below.refl w.heap.size w) (.cells #[.slice a xs.length c, .int .i64 pc, .int .i64 st] 32)) (.cells #[.slice none 0 0, .int .i64 0, .int .i64 0] 32)
  have hv := ha.below bA
  obtain ⟨X0, X1⟩ := Box.two w #[.slice a xs.length c, .int .i64 pc, .int .i64 st] #[.slice none 0 0, .int .i64 0, .int .i64 0] 32 32
  clear ha
  go_enter Try.func39, Try.ntmps39
  go_wp2_with fail
  refine (copyInts_any a c xs _ hsm hv).mono ?_
  rintro e w5 ⟨v5, rfl, o5, b5⟩
  obtain ⟨a5, c5, rfl⟩ := owns_slice o5
  replace X0 := X0.below b5
  replace X1 := X1.below b5
  have B5 : Hid (Below w.heap.size w w5) := bel_trans bA b5
  have hlt : Hid (∀ j, (Value.slice a5 xs.length c5).ownBlock = some j → w.heap.size + 2 ≤ j) := fun j h => by have := (o5.lt j h).1; simp at this; omega
  have HO : Hid (w5.ownsRow (w.heap.size + 1 + 1) 3 1 (.slice a5 xs.length c5) xs.length (xs.map (Value.int .i64))) := by
    have h := o5
    simp only [World.size_alloc] at h
    exact h
  obtain ⟨x0, x1, x2, xz⟩ := X0.at3
  have fz0 := X0.frozen 0
  obtain ⟨y0, y1, y2, yz⟩ := X1.at3
  have fy0 := X1.frozen 0
  have fy1 := X1.frozen 1
  have fy2 := X1.frozen 2
  clear X0 X1 o5 b5 bA hv
  obtain ⟨n, hn⟩ : ∃ n, xs.length = n := ⟨_, rfl⟩
  have HN : Hid (xs.length = n) := hn
  rw [hn] at x0 hsm hlt HO ⊢
  clear hn
  go_wp2
  refine bodyPost_ret (v := .agg #[.slice a5 n c5, .int .i64 pc, .int .i64 st]) (by simp [results, Try.results39, go_sem, y0, y1, y2]) rfl (hart_of HN.out ?_ ?_)
  · repeat refine owns_setCell ?_ ?_ _
    · exact owns_base HO.out (by omega)
    all_goals (intro j h; have := hlt.out j h; simp; omega)
  · repeat refine bel_setCell ?_ _ _ ?_
    · exact B5.out
    all_goals (simp; try omega)
end Go.Proofs.Ytafikmpgmnhgcaa
