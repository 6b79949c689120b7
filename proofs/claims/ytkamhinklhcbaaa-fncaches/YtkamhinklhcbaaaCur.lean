/- The drawing cursor: what l1New, l1Byte, l1Below, l1PickInt and l1Once do, as far as the laws want it. -/
import Derived.Test.YtkamhinklhcbaaaRows
import Derived.Test.YtkamhinklhcbaaaKeep
import Derived.Test.YtkamhinklhcbaaaBits
import Derived.BigQuiet
import Derived.Deep.QuietTactic
namespace Go.Proofs.Ytkamhinklhcbaaa
open Go.RowKit
set_option linter.unusedVariables false

/-- The cursor's block: some place of the code, some number. -/
def Cur (w : World) (r : Nat) (a : Option Addr) (n ca : Nat) : Prop := ∃ (i : Nat) (h : Int), i ≤ n ∧ Box w r #[.slice a n ca, .int .i64 i, .int .i64 h] 99

theorem cell_off (w : World) (m i : Nat) (u : Value) (b o : Nat) (h : m ≠ b) : (w.setCell ⟨m, i, none⟩ u).cell? ⟨b, o, none⟩ = w.cell? ⟨b, o, none⟩ :=
  World.cell?_of_block (Below.heap_setCell w ⟨m, i, none⟩ u b (fun e => h e.symm))

set_option maxRecDepth 100000 in
set_option maxHeartbeats 1000000 in
theorem l1Byte_any (r : Nat) (a : Option Addr) (ca : Nat) (bs : List Int) (w : World) (hC : Cur w r a bs.length ca) (ha : Row .u8 w a bs) (hne : 0 < bs.length → ∀ x, a = some x → x.block ≠ r) :
    Calls Try.prog 83 #[.pointer (some ⟨r, 0, none⟩)] w fun e w' => ∃ x : Int, e = .returned (.int .i64 x) ∧ 0 ≤ x ∧ x < 256 ∧ Cur w' r a bs.length ca ∧ w.grownBy w' (some r) := by
  obtain ⟨i, h, hi, hX⟩ := hC
  have hlen := ha.1
  obtain ⟨h', hh⟩ : ∃ h', wrap64 (wrap64 (h * 6364136223846793005) + 1442695040888963407) = h' := ⟨_, rfl⟩
  have c0 : w.cell? ⟨r, 0, none⟩ = some (.slice a bs.length ca) := by rw [hX.cell]; rfl
  have c2 : w.cell? ⟨r, 2, none⟩ = some (.int .i64 h) := by rw [hX.cell]; rfl
  have f2 := hX.frozen 2
  have hX1 : Box (w.setCell ⟨r, 2, none⟩ (.int .i64 h')) r #[.slice a bs.length ca, .int .i64 i, .int .i64 h'] 99 := heap_setCell_same _ _ 2 _ _ _ hX
  have g1 : w.grownBy (w.setCell ⟨r, 2, none⟩ (.int .i64 h')) (some r) := ⟨rfl, rfl, rfl, by simp, fun k _ hk => heap_setCell_other w ⟨r, 2, none⟩ k _ (fun e => hk (by simp [e]))⟩
  have hR1 : ∀ j, j < bs.length → ∃ b off, a = some ⟨b, off, none⟩ ∧ b ≠ r ∧ (w.setCell ⟨r, 2, none⟩ (.int .i64 h')).cell? ⟨b, off + j, none⟩ = some (.int .u8 (bs.getD j 0)) := fun j hj => by
    obtain ⟨b, off, e, hc⟩ := ha.2 j hj
    have hb : b ≠ r := hne (by omega) _ e
    refine ⟨b, off, e, hb, ?_⟩
    rw [cell_off _ _ _ _ _ _ (fun h5 => hb h5.symm)]
    exact hc
  obtain ⟨W1, hW1⟩ : ∃ W1, w.setCell ⟨r, 2, none⟩ (.int .i64 h') = W1 := ⟨_, rfl⟩
  rw [hW1] at hX1 g1 hR1
  have d0 : W1.cell? ⟨r, 0, none⟩ = some (.slice a bs.length ca) := by rw [hX1.cell]; rfl
  have d1 : W1.cell? ⟨r, 1, none⟩ = some (.int .i64 i) := by rw [hX1.cell]; rfl
  have d2 : W1.cell? ⟨r, 2, none⟩ = some (.int .i64 h') := by rw [hX1.cell]; rfl
  have e1 := hX1.frozen 1
  have HX1 : Hid (Box W1 r #[.slice a bs.length ca, .int .i64 i, .int .i64 h'] 99) := hX1
  clear hX hX1 ha hne
  by_cases hlt : i < bs.length
  · obtain ⟨b, off, rfl, hb, hcb⟩ := hR1 i hlt
    have hlt' : (i : Int) < (bs.length : Int) := by omega
    have hX2 : Box (W1.setCell ⟨r, 1, none⟩ (.int .i64 (i + 1))) r #[.slice (some ⟨b, off, none⟩) bs.length ca, .int .i64 (i + 1), .int .i64 h'] 99 := heap_setCell_same _ _ 1 _ _ _ HX1.out
    have g2 : W1.grownBy (W1.setCell ⟨r, 1, none⟩ (.int .i64 (i + 1))) (some r) := ⟨rfl, rfl, rfl, by simp, fun k _ hk => heap_setCell_other W1 ⟨r, 1, none⟩ k _ (fun e => hk (by simp [e]))⟩
    have HX2 : Hid (Box (W1.setCell ⟨r, 1, none⟩ (.int .i64 (i + 1))) r #[.slice (some ⟨b, off, none⟩) bs.length ca, .int .i64 (i + 1), .int .i64 h'] 99) := hX2
    clear hX2 hR1
    go_enter Try.func83, Try.ntmps83
    go_wp2
    go_quiet (fail)
    go_wp2
    go_quiet (fail)
    go_wp2
    go_quiet (fail)
    go_wp2
    go_ret
    exact ⟨_, rfl, (and255 _).1, by have := (and255 (wrap64 (bits BinOp.and IntKind.i64 (bits BinOp.xor IntKind.i64 (h' / 8589934592) (h' / 35184372088832)) 255 + wrap64 bs[i]))).2; omega, ⟨i + 1, h', by omega, HX2.out⟩, grownBy_trans g1 ⟨g2.os, g2.tape, g2.output, g2.size, g2.block⟩⟩
  · have hlt' : (bs.length : Int) ≤ (i : Int) := by omega
    clear hR1
    go_enter Try.func83, Try.ntmps83
    go_wp2
    go_quiet (fail)
    go_wp2
    go_quiet (fail)
    go_wp2
    go_ret
    exact ⟨_, rfl, (and255 _).1, by have := (and255 (bits BinOp.xor IntKind.i64 (h' / 8589934592) (h' / 35184372088832))).2; omega, ⟨i, h', hi, HX1.out⟩, ⟨g1.os, g1.tape, g1.output, g1.size, g1.block⟩⟩
end Go.Proofs.Ytkamhinklhcbaaa
