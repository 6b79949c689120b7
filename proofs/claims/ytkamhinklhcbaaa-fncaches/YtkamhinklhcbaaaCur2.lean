/- What l1Below, l1Once, l1PickInt and l1New do, as far as the laws want it. -/
import Derived.Test.YtkamhinklhcbaaaCur
import Derived.Deep.RegionWith
import Derived.BigRegion
namespace Go.Proofs.Ytkamhinklhcbaaa
open Go.RowKit
set_option linter.unusedVariables false

set_option maxRecDepth 100000 in
set_option maxHeartbeats 1000000 in
theorem l1Below_any (r : Nat) (a : Option Addr) (ca : Nat) (bs : List Int) (n : Nat) (w : World) (h0 : 0 < n) (h1 : n ≤ 256) (hC : Cur w r a bs.length ca) (ha : Row .u8 w a bs) (hne : 0 < bs.length → ∀ x, a = some x → x.block ≠ r) :
    Calls Try.prog 47 #[.pointer (some ⟨r, 0, none⟩), .int .i64 n] w fun e w' => ∃ x : Nat, e = .returned (.int .i64 x) ∧ x < n ∧ Cur w' r a bs.length ca ∧ w.grownBy w' (some r) := by
  have h0' : (0 : Int) < n := by omega
  have h1' : (n : Int) ≤ 256 := by omega
  go_enter Try.func47, Try.ntmps47
  go_wp2_with fail
  refine (l1Byte_any r a ca bs _ hC ha hne).mono ?_
  rintro e w1 ⟨x, rfl, hx0, hx1, hC1, g1⟩
  obtain ⟨y, rfl⟩ : ∃ y : Nat, x = y := ⟨x.toNat, by omega⟩
  clear hC ha hne
  go_wp2
  go_ret
  exact ⟨y % n, ret_int (Int.natCast_emod y n).symm, Nat.mod_lt _ h0, hC1, g1⟩

set_option maxRecDepth 100000 in
set_option maxHeartbeats 1000000 in
theorem l1New_any (a : Option Addr) (ca : Nat) (bs : List Int) (w : World) (ha : Row .u8 w a bs) :
    Calls Try.prog 36 #[.slice a bs.length ca] w fun e w' => e = .returned (.pointer (some ⟨w.heap.size, 0, none⟩)) ∧ Cur w' w.heap.size a bs.length ca ∧ Below w.heap.size w w' := by
  have hl := ha.1
  go_enter Try.func36, Try.ntmps36
  go_wp2
  go_loop [3, 4] (fun q i => ∃ (k : Nat) (h : Int), k ≤ bs.length ∧ i = .int .i64 k ∧ q = .int .i64 h) (fun _ i => bs.length - (intOf i).toNat)
  case atStart => exact ⟨0, _, Nat.zero_le _, rfl, rfl⟩
  case round =>
    obtain ⟨k, h, hk, rfl, rfl⟩ := hrel
    by_cases hlt : k < bs.length
    · have hi : (k : Int) < (bs.length : Int) := by omega
      by_cases h4 : (k : Int) < 4000
      · obtain ⟨b, off, rfl, hc⟩ := ha.2 k hlt
        clear ha
        go_wp2
        go_round
        case rel => exact ⟨k + 1, _, by omega, by go_num, rfl⟩
        case measure => simp [intOf]; omega
      · have h4' : (4000 : Int) ≤ k := by omega
        clear ha
        go_wp2
        go_ret
        exact ⟨rfl, ⟨0, h, Nat.zero_le _, Box.new w _ _⟩, bel_alloc (Below.refl _ _) _⟩
    · have hi : (bs.length : Int) ≤ (k : Int) := by omega
      clear ha
      go_wp2
      go_ret
      exact ⟨rfl, ⟨0, h, Nat.zero_le _, Box.new w _ _⟩, bel_alloc (Below.refl _ _) _⟩

theorem Row.kept {k : IntKind} {w w' : World} {a : Option Addr} {xs : List Int} {r : Nat} (h : Row k w a xs) (g : w.grownBy w' (some r)) (hne : ∀ x, a = some x → x.block ≠ r) : Row k w' a xs := by
  refine ⟨h.1, fun i hi => ?_⟩
  obtain ⟨b, off, e, hc⟩ := h.2 i hi
  refine ⟨b, off, e, ?_⟩
  have hb := hne _ e
  rw [World.cell?_of_block (g.block b (lt_of_cell hc) (fun e => hb (by simpa using e)))]
  exact hc

set_option maxRecDepth 100000 in
set_option maxHeartbeats 1000000 in
theorem l1Pick_any (r : Nat) (a : Option Addr) (ca : Nat) (bs : List Int) (al : Option Addr) (cl : Nat) (xs : List Int) (w : World) (h0 : 0 < xs.length) (h1 : xs.length ≤ 256) (hl : Row .i64 w al xs) (hnl : ∀ x, al = some x → x.block ≠ r) (hC : Cur w r a bs.length ca) (ha : Row .u8 w a bs) (hne : 0 < bs.length → ∀ x, a = some x → x.block ≠ r) :
    Calls Try.prog 77 #[.pointer (some ⟨r, 0, none⟩), .slice al xs.length cl] w fun e w' => ∃ x ∈ xs, e = .returned (.int .i64 x) ∧ Cur w' r a bs.length ca ∧ w.grownBy w' (some r) := by
  go_enter Try.func77, Try.ntmps77
  go_wp2_with fail
  refine (l1Below_any r a ca bs xs.length _ h0 h1 hC ha hne).mono ?_
  rintro e w1 ⟨j, rfl, hj, hC1, g1⟩
  obtain ⟨b, off, rfl, hc⟩ := (hl.kept g1 hnl).2 j hj
  have hj' : (j : Int) < (xs.length : Int) := by omega
  have hmem : xs.getD j 0 ∈ xs := by
    have e : xs.getD j 0 = xs[j] := by simp [hj]
    rw [e]
    exact List.getElem_mem hj
  have HM : Hid (xs.getD j 0 ∈ xs) := hmem
  obtain ⟨x, hx⟩ : ∃ x, xs.getD j 0 = x := ⟨_, rfl⟩
  rw [hx] at hc
  have HX : Hid (x ∈ xs) := by rw [← hx]; exact hmem
  clear hmem HM hx hC ha hne hl hnl
  go_wp2
  go_ret
  exact ⟨x, HX.out, rfl, hC1, g1⟩

set_option maxRecDepth 100000 in
set_option maxHeartbeats 1000000 in
theorem l1Once_any (r : Nat) (a : Option Addr) (ca : Nat) (bs : List Int) (n : Nat) (w : World) (h0 : 0 < n) (h1 : n ≤ 256) (hC : Cur w r a bs.length ca) (ha : Row .u8 w a bs) (hne : 0 < bs.length → ∀ x, a = some x → x.block ≠ r) :
    Calls Try.prog 102 #[.pointer (some ⟨r, 0, none⟩), .int .i64 n] w fun e w' => ∃ x : Nat, e = .returned (.bool ((x : Int) == 0)) ∧ Cur w' r a bs.length ca ∧ w.grownBy w' (some r) := by
  go_enter Try.func102, Try.ntmps102
  go_wp2_with fail
  refine (l1Below_any r a ca bs n _ h0 h1 hC ha hne).mono ?_
  rintro e w1 ⟨j, rfl, hj, hC1, g1⟩
  clear hC ha hne
  go_wp2
  go_ret
  exact ⟨j, rfl, hC1, g1⟩
end Go.Proofs.Ytkamhinklhcbaaa
