/- What the specification's l10Copy does. -/
import Derived.Test.YtafikmpgmnhgcaaBk5
import Derived.Test.YtafikmpgmnhgcaaAppR
import Derived.Deep.RegionLawGrows
namespace Go.Proofs.Ytafikmpgmnhgcaa
open Go.RowKit
set_option linter.unusedVariables false

theorem ic_one {d : Nat → XD} {n : Nat} : ∀ u ∈ chunks n (fun i => ic (d i)), u.oneCell' = true := fun u hu => by
  unfold chunks at hu
  rw [List.mem_flatMap] at hu
  obtain ⟨i, _, h⟩ := hu
  simp [ic] at h
  rcases h with rfl | rfl | rfl | rfl | rfl <;> rfl
/-- A block, its places owned. -/
def CpP (st : Int) (n : Nat) (d : Nat → XD) (w : World) (e : Ending) (w' : World) : Prop := ∃ a c, e = .returned (.agg #[.int .i64 st, .slice a n c]) ∧ IOw w' w.heap.size a c n d ∧ Below w.heap.size w w'

set_option maxRecDepth 100000 in
set_option maxHeartbeats 2000000 in
theorem l10Copy_any (st : Int) (a : Option Addr) (c n : Nat) (d : Nat → XD) (w : World) (ha : IR w a n d) :
    Calls Try.prog 37 #[.agg #[.int .i64 st, .slice a n c]] w (CpP st n d w) := by
  obtain ⟨i0, hi0, hz0, hz1, hz2⟩ := info_parts info_ins2
  have hl := ha.1
  have bA := bel_alloc (bel_alloc (Below.refl w.heap.size w) (.cells #[.int .i64 st, .slice a n c] 67)) (.cells #[.int .i64 0, .slice none 0 0] 67)
  obtain ⟨X0, X1⟩ := Box.two w #[.int .i64 st, .slice a n c] #[.int .i64 0, .slice none 0 0] 67 67
  have hz : ((w.alloc (.cells #[.int .i64 st, .slice a n c] 67)).alloc (.cells #[.int .i64 0, .slice none 0 0] 67)).heap.size = w.heap.size + 2 := by simp
  obtain ⟨W0, hW0⟩ : ∃ W, (w.alloc (.cells #[.int .i64 st, .slice a n c] 67)).alloc (.cells #[.int .i64 0, .slice none 0 0] 67) = W := ⟨_, rfl⟩
  rw [hW0] at bA X0 X1 hz
  have bE : Below W0.heap.size W0 (W0.alloc (.cells #[] 79)).drew := below_drewN (bel_alloc (Below.refl _ _) _) 1
  have oE := owns_drew (own_litE W0 79 5 (w.heap.size + 2) (by omega))
  rw [hz] at oE
  have hv := (ha.below (bel_trans bA bE)).2
  have hcl : (chunks n fun i => ic (d i)).length = n * 5 := chunks_length (s := 5) n (fun i _ => rfl)
  have X0d := X0.below bE
  have X1d := X1.below bE
  have HB : Hid (Below w.heap.size w (W0.alloc (.cells #[] 79)).drew) := bel_trans bA bE
  obtain ⟨x0, x1, xz⟩ := X0.at2
  clear ha bE bA X0 X1
  go_enter Try.func37, Try.ntmps37
  go_wp2_with fail
  (try rw [hW0])
  go_region_law (first | (refine step_append_rowYtafikmpgmnhgcaa rfl (.tmp 5) (.tmp 7) 65 rfl (w.heap.size + 2) 79 i0 (.agg #[.int .i64 0, .int .i64 0, .int .i64 0, .int .i64 0, .int .i64 0]) 5 40 Try.underlying65 hi0 hz0 hz1 hz2 rfl (by decide) (.slice (some ⟨w.heap.size + 2, 0, none⟩) 0 0) 0 [] (by rfl) oE a n c (chunks n fun i => ic (d i)) (by rfl) hcl hv.2 ic_one (by unfold maxLen; omega) (by omega) (by simp; omega) ?_; intro v1 w5 o5 g5; (try simp only [Nat.zero_add, List.nil_append] at o5); obtain ⟨a5, c5, rfl⟩ := owns_slice o5; have HX1 := X1d.kept g5 (fun j hj => by simp [Value.ownBlock] at hj; omega); have HX0 := X0d.kept g5 (fun j hj => by simp [Value.ownBlock] at hj; omega); obtain ⟨y0, y1, yz⟩ := HX1.at2; have fy0 := HX1.frozen 0; have fy1 := HX1.frozen 1; obtain ⟨x0', x1', xz'⟩ := HX0.at2) | fail)
  all_goals
    have B5 : Hid (Below w.heap.size w w5) := HB.out.grown g5 HB.out.size (fun j hj => by simp [Value.ownBlock] at hj; omega)
    have hlt : Hid (∀ j, (Value.slice a5 n c5).ownBlock = some j → w.heap.size + 2 ≤ j) := fun j h => (o5.lt j h).1
    have HO : Hid (IOw w5 (w.heap.size + 2) a5 c5 n d) := o5
    clear X0d X1d HX0 HX1 g5 o5 oE hv
    go_wp2
    refine bodyPost_ret (v := .agg #[.int .i64 st, .slice a5 n c5]) (by simp [results, Try.results37, go_sem, y0, y1]) rfl ⟨a5, c5, rfl, ?_, ?_⟩
    · show World.ownsRow _ _ _ _ _ _ _
      repeat refine owns_setCell ?_ ?_ _
      · exact owns_base HO.out (by omega)
      all_goals (intro j h; have := hlt.out j h; simp; omega)
    · repeat refine bel_setCell ?_ _ _ ?_
      · exact B5.out
      all_goals (simp; try omega)
end Go.Proofs.Ytafikmpgmnhgcaa
