/- BkS and CaB: see the heads of the parts. -/
import Derived.Test.YtkamhinklhcbaaaBk5
import Derived.BigQuiet
import Derived.BigRegion
import Derived.Deep.RegionHeld3
import Derived.Test.YtkamhinklhcbaaaCa1
/- What the laws' sameIns answers of two rows alike; two places held against each other. -/
namespace Go.Proofs.Ytkamhinklhcbaaa
open Go.RowKit
set_option linter.unusedVariables false

set_option maxHeartbeats 1000000 in
theorem insv_eq (a b c d e : Int) (w : World) : (Op.equalIn 10000 38 (.agg (icells a b c d e)) (.agg (icells a b c d e))).run Try.prog w = .ok true w := by
  have u3 := Try.underlying3
  have a3 := Try.isAgg3
  have z3 := Try.sizeOf3
  rw [show (10000 : Nat) = 9999 + 1 from rfl, Op.equalIn]
  simp only [Sem.run_bind, run_underlying Try.underlying38, Result.andThen_ok]
  go_simp

set_option maxRecDepth 100000 in
set_option maxHeartbeats 1000000 in
theorem sameIns_any (a b : Option Addr) (ca cb n : Nat) (d : Nat → XD) (w : World) (ha : IR w a n d) (hb : IR w b n d) :
    Calls Try.prog 43 #[.slice a n ca, .slice b n cb] w fun e w' => e = .returned (.bool true) ∧ Below w.heap.size w w' := by
  have hl : n ≤ 1048577 := ha.1
  go_enter Try.func43, Try.ntmps43
  go_wp2
  go_loopw [5] (fun i wr => ∃ k : Nat, k ≤ n ∧ i = .int .i64 k ∧ IR wr a n d ∧ IR wr b n d ∧ Below w.heap.size w wr) (fun i _ => n - (intOf i).toNat)
  case atStart => exact ⟨0, Nat.zero_le _, rfl, ha, hb, Below.refl _ _⟩
  case round =>
    obtain ⟨k, hk, rfl, hma, hmb, hB⟩ := hrel
    by_cases hlt : k < n
    · have hi : (k : Int) < (n : Int) := by omega
      obtain ⟨ba, oa, rfl, y0, y1, y2, y3, y4⟩ := hma.at hlt
      obtain ⟨bb, ob, rfl, z0, z1, z2, z3, z4⟩ := hmb.at hlt
      have HMA : Hid (∀ q, IR (wr.drewN q) (some ⟨ba, oa, none⟩) n d ∧ IR (wr.drewN q) (some ⟨bb, ob, none⟩) n d ∧ Below w.heap.size w (wr.drewN q)) := fun q => ⟨hma.below (below_drewN (Below.refl _ _) q), hmb.below (below_drewN (Below.refl _ _) q), below_drewN hB q⟩
      clear ha hb hma hmb hB
      go_wp2_with fail
      go_quiet (fail)
      go_wp2
      go_roundw
      case rel => exact ⟨k + 1, by omega, by go_num, (HMA.out _).1, (HMA.out _).2.1, (HMA.out _).2.2⟩
      case measure => simp [intOf]; omega
    · clear ha hb hma hmb
      go_wp2
      go_ret
      exact ⟨rfl, hB⟩
end Go.Proofs.Ytkamhinklhcbaaa

/- What the laws' sameBlocks answers of two rows alike. -/
namespace Go.Proofs.Ytkamhinklhcbaaa
open Go.RowKit
set_option linter.unusedVariables false

theorem keep4c {W W' : World} (b : Below W.heap.size W W') {a0 a1 b0 b1 : Addr} {u0 u1 v0 v1 : Value} (h : W.cell? a0 = some u0 ∧ W.cell? a1 = some u1 ∧ W.cell? b0 = some v0 ∧ W.cell? b1 = some v1) : W'.cell? a0 = some u0 ∧ W'.cell? a1 = some u1 ∧ W'.cell? b0 = some v0 ∧ W'.cell? b1 = some v1 :=
  ⟨cell_later b h.1, cell_later b h.2.1, cell_later b h.2.2.1, cell_later b h.2.2.2⟩

set_option maxRecDepth 100000 in
set_option maxHeartbeats 4000000 in
theorem sameBlocks_any (a b : Option Addr) (ca cb n : Nat) (d : Nat → KD) (p p' : Nat → Pl) (w : World) (ha : KR w a n d p) (hb : KR w b n d p') :
    Calls Try.prog 11 #[.slice a n ca, .slice b n cb] w fun e w' => e = .returned (.bool true) ∧ Below w.heap.size w w' := by
  have hl : n ≤ 1048577 := ha.1
  go_enter Try.func11, Try.ntmps11
  go_wp2
  go_loopw [5] (fun i wr => ∃ k : Nat, k ≤ n ∧ i = .int .i64 k ∧ KR wr a n d p ∧ KR wr b n d p' ∧ Below w.heap.size w wr) (fun i _ => n - (intOf i).toNat)
  case atStart => exact ⟨0, Nat.zero_le _, rfl, ha, hb, Below.refl _ _⟩
  case round =>
    obtain ⟨k, hk, rfl, hma, hmb, hB⟩ := hrel
    by_cases hlt : k < n
    · have hi : (k : Int) < (n : Int) := by omega
      obtain ⟨ba, oa, rfl, y0, y1⟩ := hma.at hlt
      obtain ⟨bb, ob, rfl, z0, z1⟩ := hmb.at hlt
      have bd : Below wr.heap.size wr wr.drew := below_drewN (Below.refl _ _) 1
      have ra : IR wr.drew _ _ _ := (hma.2.2 k hlt).below bd
      have rb : IR wr.drew _ _ _ := (hmb.2.2 k hlt).below bd
      have hk0 := keep4c bd ⟨y0, y1, z0, z1⟩
      have HP : Hid (KR wr (some ⟨ba, oa, none⟩) n d p ∧ KR wr (some ⟨bb, ob, none⟩) n d p' ∧ Below w.heap.size w wr) := ⟨hma, hmb, hB⟩
      clear ha hb hma hmb hB
      go_wp2_with fail
      go_region_held3 (fun W => W.cell? ⟨ba, oa + k * 2, none⟩ = some (.int .i64 (d k).st) ∧ W.cell? ⟨ba, oa + k * 2 + 1, none⟩ = some (.slice (p k).1 (d k).n (p k).2) ∧ W.cell? ⟨bb, ob + k * 2, none⟩ = some (.int .i64 (d k).st) ∧ W.cell? ⟨bb, ob + k * 2 + 1, none⟩ = some (.slice (p' k).1 (d k).n (p' k).2))
        (first | (with_reducible exact keep4c b1 ‹_›) | exact hk0 | go_keep)
        (first | (go_at_call 43; refine (sameIns_any _ _ _ _ _ (d k).x _ ra rb).mono ?_; rintro e w1 ⟨rfl, b1⟩))
      have b1' := bel_undrew b1
      have HP1 : Hid (KR w1 (some ⟨ba, oa, none⟩) n d p ∧ KR w1 (some ⟨bb, ob, none⟩) n d p' ∧ Below w.heap.size w w1) := ⟨HP.out.1.below b1', HP.out.2.1.below b1', bel_trans HP.out.2.2 b1'⟩
      clear b1 b1' ra rb hk0 y0 y1 z0 z1 bd
      go_wp2
      go_roundw
      case rel => exact ⟨k + 1, by omega, by go_num, HP1.out⟩
      case measure => simp [intOf]; omega
    · clear ha hb hma hmb
      go_wp2
      go_ret
      exact ⟨rfl, hB⟩
end Go.Proofs.Ytkamhinklhcbaaa
