/- What the law's own small functions over bytes do: eqByteS, markByteS, heldByteS. -/
import Derived.Test.YtidgiklkgmfmcaaRows
import Derived.Test.YtidgiklkgmfmcaaBase
import Derived.BigQuiet
namespace Go.Proofs.Ytidgiklkgmfmcaa
open Go.RowKit
set_option linter.unusedVariables false

set_option maxHeartbeats 400000 in
theorem eqByteS_any (a b : Option Addr) (ca cb : Nat) (xs : List Int) (w : World) (ha : Row .u8 w a xs) (hb : Row .u8 w b xs) :
    Calls Try.prog 14 #[.slice a xs.length ca, .slice b xs.length cb] w fun e w' => e = .returned (.bool true) ∧ ∃ n, w' = w.drewN n := by
  obtain ⟨hl, ha⟩ := ha
  obtain ⟨_, hb⟩ := hb
  go_enter Try.func14, Try.ntmps14
  go_wp2
  go_loopw [5] (fun i wr => ∃ k n : Nat, k ≤ xs.length ∧ i = .int .i64 k ∧ wr = w.drewN n) (fun i _ => xs.length - (intOf i).toNat)
  case atStart => exact ⟨0, 0, Nat.zero_le _, rfl, rfl⟩
  case round =>
    obtain ⟨k, n, hk, rfl, rfl⟩ := hrel
    by_cases hlt : k < xs.length
    · obtain ⟨ba, oa, rfl, hca⟩ := ha k hlt
      obtain ⟨bb, ob, rfl, hcb⟩ := hb k hlt
      have hi : (k : Int) < (xs.length : Int) := by omega
      go_wp2
      go_quiet (fail)
      go_wp2
      go_roundw
      case rel => exact ⟨k + 1, n + nq, by omega, by go_num, rfl⟩
      case measure => simp [intOf]; omega
    · go_wp2
      go_ret
      exact ⟨rfl, n, rfl⟩

/-- What is marked: so many bytes, counted on from k. -/
def mks (k : Int) (n : Nat) : List Int := (List.range n).map fun (i : Nat) => (k + (i : Int)) % 256
theorem mks_length (k : Int) (n : Nat) : (mks k n).length = n := by simp [mks]
theorem mks_get (k : Int) (n i : Nat) (h : i < n) : (mks k n).getD i 0 = (k + i) % 256 := by
  simp [mks, h]
theorem mks_succ (k : Int) (n : Nat) : mks k (n + 1) = mks k n ++ [(k + n) % 256] := by
  simp [mks, List.range_succ]

set_option maxHeartbeats 400000 in
theorem heldByteS_any (a : Option Addr) (ca n : Nat) (k0 : Int) (w : World) (h0 : 0 ≤ k0) (h1 : k0 ≤ 140737488351232) (ha : Row .u8 w a (mks k0 n)) :
    Calls Try.prog 16 #[.slice a n ca, .int .i64 k0] w fun e w' => e = .returned (.int .i64 (k0 + n)) ∧ w' = w := by
  obtain ⟨hl, ha⟩ := ha
  rw [mks_length] at hl ha
  go_enter Try.func16, Try.ntmps16
  go_wp2
  go_loop [1, 5] (fun q i => ∃ k : Nat, k ≤ n ∧ i = .int .i64 k ∧ q = .int .i64 (k0 + k)) (fun _ i => n - (intOf i).toNat)
  case atStart => exact ⟨0, Nat.zero_le _, rfl, by simp⟩
  case round =>
    obtain ⟨k, hk, rfl, rfl⟩ := hrel
    by_cases hlt : k < n
    · obtain ⟨ba, oa, rfl, hca⟩ := ha k hlt
      rw [mks_get k0 n k hlt] at hca
      have hi : (k : Int) < (n : Int) := by omega
      clear ha
      go_wp2
      go_round
      case rel => exact ⟨k + 1, by omega, by go_num, by go_num⟩
      case measure => simp [intOf]; omega
    · go_wp2
      go_ret
      have : k = n := by omega
      exact ⟨ret_int (by rw [this]), rfl⟩

set_option maxHeartbeats 400000 in
theorem markByteS_any (base n : Nat) (v : Value) (k0 : Int) (xs : List Value) (w : World) (h0 : 0 ≤ k0) (h1 : k0 ≤ 140737488351232) (hn : n ≤ 140737488351232) (hown : w.ownsRow base 5 1 v n xs) :
    Calls Try.prog 15 #[v, .int .i64 k0] w fun e w' => e = .returned (.int .i64 (k0 + n)) ∧ w'.ownsRow base 5 1 v n ((mks k0 n).map (Value.int .u8)) ∧ w.grownBy w' v.ownBlock := by
  have hxs : Hid (xs.length = n) := by have := hown.1; rw [Nat.mul_one] at this; exact this
  obtain ⟨a, cap, rfl⟩ := owns_slice hown
  go_enter Try.func15, Try.ntmps15
  go_wp2
  go_loopw [1, 5] (fun q i wr => ∃ k : Nat, k ≤ n ∧ i = .int .i64 k ∧ q = .int .i64 (k0 + k) ∧ wr.ownsRow base 5 1 (.slice a n cap) n ((mks k0 k).map (Value.int .u8) ++ xs.drop k) ∧ w.grownBy wr (Value.slice a n cap).ownBlock) (fun _ i _ => n - (intOf i).toNat)
  case atStart => exact ⟨0, Nat.zero_le _, rfl, by simp, by simpa [mks] using hown, World.grownBy.refl _ _⟩
  case round =>
    obtain ⟨k, hk, rfl, rfl, hr, hgr⟩ := hrel
    by_cases hlt : k < n
    · obtain ⟨g, rfl⟩ := owns_addr hr (by omega)
      have R : (wr.setCell ⟨g, k, none⟩ (.int .u8 ((k0 + k) % 256))).ownsRow base 5 1 (.slice (some ⟨g, 0, none⟩) n cap) n ((mks k0 (k + 1)).map (Value.int .u8) ++ xs.drop (k + 1)) ∧ w.grownBy (wr.setCell ⟨g, k, none⟩ (.int .u8 ((k0 + k) % 256))) (Value.slice (some ⟨g, 0, none⟩) n cap).ownBlock := by
        rw [mks_succ, List.map_append]
        exact mark_step _ (by simp [mks_length]) hxs.out hlt hr hgr
      have hfz := hr.frozenAt k
      obtain ⟨u, hcell⟩ : ∃ u, wr.cell? ⟨g, k, none⟩ = some u := by
        rw [hr.cellAt k (by omega)]
        exact ⟨_, List.getElem?_eq_getElem (by have := hr.1; omega)⟩
      have hi : (k : Int) < (n : Int) := by omega
      clear hr hgr hown
      go_wp2
      go_roundw
      case rel => exact ⟨k + 1, by omega, by go_num, by go_num, R.1, R.2⟩
      case measure => simp [intOf]; omega
    · go_wp2
      go_ret
      have : k = n := by omega
      subst this
      refine ⟨rfl, ?_, hgr⟩
      have hd : xs.drop k = [] := List.drop_eq_nil_of_le (by have := hxs.out; omega)
      rw [hd, List.append_nil] at hr
      exact hr
end Go.Proofs.Ytidgiklkgmfmcaa
