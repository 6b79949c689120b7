/- What the law's small functions over homes do: markHome and heldHome of a home for whom nobody waits, and what they call. -/
import Derived.Test.YtnhbilhkmbkibaaHom
namespace Go.Proofs.Ytnhbilhkmbkibaa
open Go.RowKit
set_option linter.unusedVariables false

/-- What is marked: so many truth values, counted on from k. -/
def mkb (k : Int) (n : Nat) : List Bool := (List.range n).map fun (i : Nat) => (k + (i : Int)) % 3 == 0
theorem mkb_length (k : Int) (n : Nat) : (mkb k n).length = n := by simp [mkb]
theorem mkb_get (k : Int) (n i : Nat) (h : i < n) : (mkb k n).getD i false = ((k + (i : Int)) % 3 == 0) := by
  simp [mkb, h]
theorem mkb_succ (k : Int) (n : Nat) : mkb k (n + 1) = mkb k n ++ [((k + (n : Int)) % 3 == 0)] := by
  simp [mkb, List.range_succ]

set_option maxHeartbeats 400000 in
theorem heldBoolS_any (a : Option Addr) (ca n : Nat) (k0 : Int) (w : World) (h0 : 0 ≤ k0) (h1 : k0 ≤ 4611686018427387904) (ha : VRow w a (bv (mkb k0 n))) :
    Calls Try.prog 42 #[.slice a n ca, .int .i64 k0] w fun e w' => e = .returned (.int .i64 (k0 + n)) ∧ ∃ d, w' = w.drewN d := by
  have hl : n ≤ 140737488351232 := by have := ha.1; rw [bv_length, mkb_length] at this; exact this
  replace ha := ha.bool
  rw [mkb_length] at ha
  go_enter Try.func42, Try.ntmps42
  go_wp2
  go_loopw [1, 5] (fun q i wr => ∃ k d : Nat, k ≤ n ∧ i = .int .i64 k ∧ q = .int .i64 (k0 + k) ∧ wr = w.drewN d) (fun _ i _ => n - (intOf i).toNat)
  case atStart => exact ⟨0, 0, Nat.zero_le _, rfl, by simp, rfl⟩
  case round =>
    obtain ⟨k, d, hk, rfl, rfl, rfl⟩ := hrel
    by_cases hlt : k < n
    · obtain ⟨ba, oa, rfl, hca⟩ := ha k hlt
      rw [mkb_get k0 n k hlt] at hca
      have hi : (k : Int) < (n : Int) := by omega
      clear ha
      go_wp2
      go_roundw
      case rel => exact ⟨k + 1, d, by omega, by go_num, by go_num, rfl⟩
      case measure => simp [intOf]; omega
    · go_wp2
      go_ret
      have : k = n := by omega
      exact ⟨ret_int (by rw [this]), d, rfl⟩

set_option maxHeartbeats 400000 in
theorem markBoolS_any (base n : Nat) (v : Value) (k0 : Int) (xs : List Value) (w : World) (h0 : 0 ≤ k0) (h1 : k0 ≤ 4611686018427387904) (hn : n ≤ 140737488351232) (hown : w.ownsRow base 4 1 v n xs) :
    Calls Try.prog 39 #[v, .int .i64 k0] w fun e w' => e = .returned (.int .i64 (k0 + n)) ∧ w'.ownsRow base 4 1 v n (bv (mkb k0 n)) ∧ w.grownBy w' v.ownBlock := by
  have hxs : Hid (xs.length = n) := by have := hown.1; rw [Nat.mul_one] at this; exact this
  obtain ⟨a, cap, rfl⟩ := owns_slice hown
  go_enter Try.func39, Try.ntmps39
  go_wp2
  go_loopw [1, 5] (fun q i wr => ∃ k : Nat, k ≤ n ∧ i = .int .i64 k ∧ q = .int .i64 (k0 + k) ∧ wr.ownsRow base 4 1 (.slice a n cap) n (bv (mkb k0 k) ++ xs.drop k) ∧ w.grownBy wr (Value.slice a n cap).ownBlock) (fun _ i _ => n - (intOf i).toNat)
  case atStart => exact ⟨0, Nat.zero_le _, rfl, by simp, by simpa [mkb, bv] using hown, World.grownBy.refl _ _⟩
  case round =>
    obtain ⟨k, hk, rfl, rfl, hr, hgr⟩ := hrel
    by_cases hlt : k < n
    · obtain ⟨g, rfl⟩ := owns_addr hr (by omega)
      have R : (wr.setCell ⟨g, k, none⟩ (.bool ((k0 + k) % 3 == 0))).ownsRow base 4 1 (.slice (some ⟨g, 0, none⟩) n cap) n (bv (mkb k0 (k + 1)) ++ xs.drop (k + 1)) ∧ w.grownBy (wr.setCell ⟨g, k, none⟩ (.bool ((k0 + k) % 3 == 0))) (Value.slice (some ⟨g, 0, none⟩) n cap).ownBlock := by
        rw [mkb_succ, bv, List.map_append]
        exact mark_step _ (by simp [mkb_length]) hxs.out hlt hr hgr
      have hfz := hr.frozenAt k
      obtain ⟨u, hcell⟩ : ∃ u, wr.cell? ⟨g, k, none⟩ = some u := by
        rw [hr.cellAt k (by omega)]
        exact ⟨_, List.getElem?_eq_getElem (by have := hr.1; omega)⟩
      have hi : (k : Int) < (n : Int) := by omega
      clear hr hgr hown
      go_wp2
      go_roundw
      case rel => exact ⟨k + 1, by omega, by go_num, by go_num, R.1, R.2⟩
      case measure => simp [intOf]; omega
    · go_wp2
      go_ret
      have : k = n := by omega
      subst this
      refine ⟨rfl, ?_, hgr⟩
      have hd : xs.drop k = [] := List.drop_eq_nil_of_le (by have := hxs.out; omega)
      rw [hd, List.append_nil] at hr
      exact hr

set_option maxHeartbeats 400000 in
theorem markWaitS_none (k0 : Int) (w : World) :
    Calls Try.prog 40 #[.slice none 0 0, .int .i64 k0] w fun e w' => e = .returned (.int .i64 k0) ∧ w' = w := by
  go_enter Try.func40, Try.ntmps40
  go_wp2
  go_loopw [1, 5] (fun q i wr => i = .int .i64 0 ∧ q = .int .i64 k0 ∧ wr = w) (fun _ i _ => 0)
  case atStart => exact ⟨rfl, rfl, rfl⟩
  case round =>
    obtain ⟨rfl, rfl, rfl⟩ := hrel
    go_wp2
    go_ret
    exact ⟨rfl, rfl⟩

set_option maxHeartbeats 400000 in
theorem heldWaitS_none (k0 : Int) (w : World) :
    Calls Try.prog 43 #[.slice none 0 0, .int .i64 k0] w fun e w' => e = .returned (.int .i64 k0) ∧ w' = w := by
  go_enter Try.func43, Try.ntmps43
  go_wp2
  go_loopw [1, 5] (fun q i wr => i = .int .i64 0 ∧ q = .int .i64 k0 ∧ wr = w) (fun _ i _ => 0)
  case atStart => exact ⟨rfl, rfl, rfl⟩
  case round =>
    obtain ⟨rfl, rfl, rfl⟩ := hrel
    go_wp2
    go_ret
    exact ⟨rfl, rfl⟩


end Go.Proofs.Ytnhbilhkmbkibaa
