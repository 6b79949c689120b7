/- What the law's sameInts and sameHome say of two that are alike, none waiting. -/
import Derived.Test.YtliihkdocbpolaaHomT
import Derived.BigQuiet
import Derived.Deep.QuietTactic
namespace Go.Proofs.Ytliihkdocbpolaa
open Go.RowKit
set_option linter.unusedVariables false

set_option maxHeartbeats 400000 in
theorem sameIntsG_any (a b : Option Addr) (ca cb : Nat) (xs : List Int) (w : World) (ha : Row .i64 w a xs) (hb : Row .i64 w b xs) :
    Calls Try.prog 10 #[.slice a xs.length ca, .slice b xs.length cb] w fun e w' => e = .returned (.bool true) ∧ ∃ n, w' = w.drewN n := by
  obtain ⟨hl, ha⟩ := ha
  obtain ⟨_, hb⟩ := hb
  go_enter Try.func10, Try.ntmps10
  go_wp2
  go_loopw [5] (fun i wr => ∃ k n : Nat, k ≤ xs.length ∧ i = .int .i64 k ∧ wr = w.drewN n) (fun i _ => xs.length - (intOf i).toNat)
  case atStart => exact ⟨0, 0, Nat.zero_le _, rfl, rfl⟩
  case round =>
    obtain ⟨k, n, hk, rfl, rfl⟩ := hrel
    by_cases hlt : k < xs.length
    · obtain ⟨ba, oa, rfl, hca⟩ := ha k hlt
      obtain ⟨bb, ob, rfl, hcb⟩ := hb k hlt
      have hi : (k : Int) < (xs.length : Int) := by omega
      go_wp2
      go_quiet (fail)
      go_wp2
      go_roundw
      case rel => exact ⟨k + 1, n + nq, by omega, by go_num, rfl⟩
      case measure => simp [intOf]; omega
    · go_wp2
      go_ret
      exact ⟨rfl, n, rfl⟩

set_option maxRecDepth 100000 in
set_option maxHeartbeats 2000000 in
theorem sameHome_any (ow wh ak : Int) (bz wo : Bool) (al bl ar br aq bq : Option Addr) (cl dl cr dr cq dq : Nat) (xs : List Int) (bs : List Bool) (w : World)
    (hal : Row .i64 w al xs) (hbl : Row .i64 w bl xs) (har : VRow w ar (bv bs)) (hbr : VRow w br (bv bs)) (hbs : bs.length ≤ 4) :
    Calls Try.prog 9 #[.agg #[.slice al xs.length cl, .int .i64 ow, .slice ar bs.length cr, .bool bz, .int .i64 wh, .bool wo, .int .i64 ak, .slice aq 0 cq], .agg #[.slice bl xs.length dl, .int .i64 ow, .slice br bs.length dr, .bool bz, .int .i64 wh, .bool wo, .int .i64 ak, .slice bq 0 dq]] w fun e w' => e = .returned (.bool true) ∧ Below w.heap.size w w' := by
  have bA := bel_alloc (bel_alloc (Below.refl w.heap.size w) (.cells #[.slice al xs.length cl, .int .i64 ow, .slice ar bs.length cr, .bool bz, .int .i64 wh, .bool wo, .int .i64 ak, .slice aq 0 cq] 30)) (.cells #[.slice bl xs.length dl, .int .i64 ow, .slice br bs.length dr, .bool bz, .int .i64 wh, .bool wo, .int .i64 ak, .slice bq 0 dq] 30)
  replace hal := hal.below bA
  replace hbl := hbl.below bA
  replace har := (har.below bA).bool
  replace hbr := (hbr.below bA).bool
  obtain ⟨XA, XB⟩ := Box.two w #[.slice al xs.length cl, .int .i64 ow, .slice ar bs.length cr, .bool bz, .int .i64 wh, .bool wo, .int .i64 ak, .slice aq 0 cq] #[.slice bl xs.length dl, .int .i64 ow, .slice br bs.length dr, .bool bz, .int .i64 wh, .bool wo, .int .i64 ak, .slice bq 0 dq] 30 30
  have HB : Hid (Below w.heap.size w _) := bA
  go_enter Try.func9, Try.ntmps9
  obtain ⟨W0, hW0⟩ : ∃ W0, (w.alloc (.cells #[.slice al xs.length cl, .int .i64 ow, .slice ar bs.length cr, .bool bz, .int .i64 wh, .bool wo, .int .i64 ak, .slice aq 0 cq] 30)).alloc (.cells #[.slice bl xs.length dl, .int .i64 ow, .slice br bs.length dr, .bool bz, .int .i64 wh, .bool wo, .int .i64 ak, .slice bq 0 dq] 30) = W0 := ⟨_, rfl⟩
  rw [hW0] at hal hbl har hbr XA XB HB
  have XAc := XA.cell
  have XBc := XB.cell
  have x0 := XAc 0
  have x1 := XAc 1
  have x2 := XAc 2
  have x3 := XAc 3
  have x4 := XAc 4
  have x5 := XAc 5
  have x6 := XAc 6
  have x7 := XAc 7
  have y0 := XBc 0
  have y1 := XBc 1
  have y2 := XBc 2
  have y3 := XBc 3
  have y4 := XBc 4
  have y5 := XBc 5
  have y6 := XBc 6
  have y7 := XBc 7
  have zx := XA.lt
  have zy := XB.lt
  clear XAc XBc XA XB bA
  go_wp2_with fail
  refine (sameIntsG_any al bl cl dl xs _ hal hbl).mono ?_
  rintro e w1 ⟨rfl, d1, rfl⟩
  clear hal hbl
  go_wp2
  go_loopw [5] (fun i wr => ∃ k n : Nat, k ≤ bs.length ∧ i = .int .i64 k ∧ wr = W0.drewN n) (fun i _ => bs.length - (intOf i).toNat)
  case atStart => exact ⟨0, d1, Nat.zero_le _, rfl, rfl⟩
  case round =>
    obtain ⟨k, n, hk, rfl, rfl⟩ := hrel
    by_cases hlt : k < bs.length
    · obtain ⟨ba, oa, rfl, hca⟩ := har k hlt
      obtain ⟨bb, ob, rfl, hcb⟩ := hbr k hlt
      have hi : (k : Int) < (bs.length : Int) := by omega
      go_wp2
      go_quiet (fail)
      go_wp2
      go_roundw
      case rel => exact ⟨k + 1, n + nq, by omega, by go_num, rfl⟩
      case measure => simp [intOf]; omega
    · have hi : (bs.length : Int) ≤ (k : Int) := by omega
      go_wp2
      go_loopw [6] (fun i wr => i = .int .i64 0 ∧ wr = W0.drewN n) (fun _ _ => 0)
      case atStart => exact ⟨rfl, rfl⟩
      case round =>
        obtain ⟨rfl, rfl⟩ := hrel
        go_wp2
        go_ret
        exact ⟨rfl, below_drewN HB.out n⟩
end Go.Proofs.Ytliihkdocbpolaa
