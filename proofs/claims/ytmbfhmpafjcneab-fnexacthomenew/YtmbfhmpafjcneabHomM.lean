/- What the law's small functions over homes do: markHome and heldHome of a home for whom nobody waits, and what they call. -/
import Derived.Test.YtmbfhmpafjcneabHom
namespace Go.Proofs.Ytmbfhmpafjcneab
open Go.RowKit
set_option linter.unusedVariables false

/-- What is marked: so many truth values, counted on from k. -/
def mkb (k : Int) (n : Nat) : List Bool := (List.range n).map fun (i : Nat) => (k + (i : Int)) % 3 == 0
theorem mkb_length (k : Int) (n : Nat) : (mkb k n).length = n := by simp [mkb]
theorem mkb_get (k : Int) (n i : Nat) (h : i < n) : (mkb k n).getD i false = ((k + (i : Int)) % 3 == 0) := by
  simp [mkb, h]
theorem mkb_succ (k : Int) (n : Nat) : mkb k (n + 1) = mkb k n ++ [((k + (n : Int)) % 3 == 0)] := by
  simp [mkb, List.range_succ]

set_option maxHeartbeats 400000 in
theorem heldBoolS_any (a : Option Addr) (ca n : Nat) (k0 : Int) (w : World) (h0 : 0 ≤ k0) (h1 : k0 ≤ 140737488351232) (ha : VRow w a (bv (mkb k0 n))) :
    Calls Try.prog 31 #[.slice a n ca, .int .i64 k0] w fun e w' => e = .returned (.int .i64 (k0 + n)) ∧ ∃ d, w' = w.drewN d := by
  have hl : n ≤ 140737488351232 := by have := ha.1; rw [bv_length, mkb_length] at this; exact this
  replace ha := ha.bool
  rw [mkb_length] at ha
  go_enter Try.func31, Try.ntmps31
  go_wp2
  go_loopw [1, 5] (fun q i wr => ∃ k d : Nat, k ≤ n ∧ i = .int .i64 k ∧ q = .int .i64 (k0 + k) ∧ wr = w.drewN d) (fun _ i _ => n - (intOf i).toNat)
  case atStart => exact ⟨0, 0, Nat.zero_le _, rfl, by simp, rfl⟩
  case round =>
    obtain ⟨k, d, hk, rfl, rfl, rfl⟩ := hrel
    by_cases hlt : k < n
    · obtain ⟨ba, oa, rfl, hca⟩ := ha k hlt
      rw [mkb_get k0 n k hlt] at hca
      have hi : (k : Int) < (n : Int) := by omega
      clear ha
      go_wp2
      go_roundw
      case rel => exact ⟨k + 1, d, by omega, by go_num, by go_num, rfl⟩
      case measure => simp [intOf]; omega
    · go_wp2
      go_ret
      have : k = n := by omega
      exact ⟨ret_int (by rw [this]), d, rfl⟩

set_option maxHeartbeats 400000 in
theorem markBoolS_any (base n : Nat) (v : Value) (k0 : Int) (xs : List Value) (w : World) (h0 : 0 ≤ k0) (h1 : k0 ≤ 140737488351232) (hn : n ≤ 140737488351232) (hown : w.ownsRow base 4 1 v n xs) :
    Calls Try.prog 28 #[v, .int .i64 k0] w fun e w' => e = .returned (.int .i64 (k0 + n)) ∧ w'.ownsRow base 4 1 v n (bv (mkb k0 n)) ∧ w.grownBy w' v.ownBlock := by
  have hxs : Hid (xs.length = n) := by have := hown.1; rw [Nat.mul_one] at this; exact this
  obtain ⟨a, cap, rfl⟩ := owns_slice hown
  go_enter Try.func28, Try.ntmps28
  go_wp2
  go_loopw [1, 5] (fun q i wr => ∃ k : Nat, k ≤ n ∧ i = .int .i64 k ∧ q = .int .i64 (k0 + k) ∧ wr.ownsRow base 4 1 (.slice a n cap) n (bv (mkb k0 k) ++ xs.drop k) ∧ w.grownBy wr (Value.slice a n cap).ownBlock) (fun _ i _ => n - (intOf i).toNat)
  case atStart => exact ⟨0, Nat.zero_le _, rfl, by simp, by simpa [mkb, bv] using hown, World.grownBy.refl _ _⟩
  case round =>
    obtain ⟨k, hk, rfl, rfl, hr, hgr⟩ := hrel
    by_cases hlt : k < n
    · obtain ⟨g, rfl⟩ := owns_addr hr (by omega)
      have R : (wr.setCell ⟨g, k, none⟩ (.bool ((k0 + k) % 3 == 0))).ownsRow base 4 1 (.slice (some ⟨g, 0, none⟩) n cap) n (bv (mkb k0 (k + 1)) ++ xs.drop (k + 1)) ∧ w.grownBy (wr.setCell ⟨g, k, none⟩ (.bool ((k0 + k) % 3 == 0))) (Value.slice (some ⟨g, 0, none⟩) n cap).ownBlock := by
        rw [mkb_succ, bv, List.map_append]
        exact mark_step _ (by simp [mkb_length]) hxs.out hlt hr hgr
      have hfz := hr.frozenAt k
      obtain ⟨u, hcell⟩ : ∃ u, wr.cell? ⟨g, k, none⟩ = some u := by
        rw [hr.cellAt k (by omega)]
        exact ⟨_, List.getElem?_eq_getElem (by have := hr.1; omega)⟩
      have hi : (k : Int) < (n : Int) := by omega
      clear hr hgr hown
      go_wp2
      go_roundw
      case rel => exact ⟨k + 1, by omega, by go_num, by go_num, R.1, R.2⟩
      case measure => simp [intOf]; omega
    · go_wp2
      go_ret
      have : k = n := by omega
      subst this
      refine ⟨rfl, ?_, hgr⟩
      have hd : xs.drop k = [] := List.drop_eq_nil_of_le (by have := hxs.out; omega)
      rw [hd, List.append_nil] at hr
      exact hr

set_option maxHeartbeats 400000 in
theorem markWaitS_none (k0 : Int) (w : World) :
    Calls Try.prog 29 #[.slice none 0 0, .int .i64 k0] w fun e w' => e = .returned (.int .i64 k0) ∧ w' = w := by
  go_enter Try.func29, Try.ntmps29
  go_wp2
  go_loopw [1, 5] (fun q i wr => i = .int .i64 0 ∧ q = .int .i64 k0 ∧ wr = w) (fun _ i _ => 0)
  case atStart => exact ⟨rfl, rfl, rfl⟩
  case round =>
    obtain ⟨rfl, rfl, rfl⟩ := hrel
    go_wp2
    go_ret
    exact ⟨rfl, rfl⟩

set_option maxHeartbeats 400000 in
theorem heldWaitS_none (k0 : Int) (w : World) :
    Calls Try.prog 32 #[.slice none 0 0, .int .i64 k0] w fun e w' => e = .returned (.int .i64 k0) ∧ w' = w := by
  go_enter Try.func32, Try.ntmps32
  go_wp2
  go_loopw [1, 5] (fun q i wr => i = .int .i64 0 ∧ q = .int .i64 k0 ∧ wr = w) (fun _ i _ => 0)
  case atStart => exact ⟨rfl, rfl, rfl⟩
  case round =>
    obtain ⟨rfl, rfl, rfl⟩ := hrel
    go_wp2
    go_ret
    exact ⟨rfl, rfl⟩

set_option maxRecDepth 100000 in
set_option maxHeartbeats 1000000 in
theorem markHome_none (ow wh ak : Int) (bz wo : Bool) (base nl nr : Nat) (al ar : Option Addr) (cl cr : Nat) (k0 : Int) (xs bs : List Value) (w : World) (h0 : 0 ≤ k0) (h1 : k0 ≤ 100000000000) (hnl : nl ≤ 1048577) (hnr : nr ≤ 1048577)
    (hl : w.ownsRow base 3 1 (.slice al nl cl) nl xs) (hr : w.ownsRow base 4 1 (.slice ar nr cr) nr bs) :
    Calls Try.prog 8 #[.agg #[.slice al nl cl, .int .i64 ow, .slice ar nr cr, .bool bz, .int .i64 wh, .bool wo, .int .i64 ak, .slice none 0 0], .int .i64 k0] w fun e w' => e = .returned (.int .i64 (k0 + nl + nr)) ∧
      w'.ownsRow base 3 1 (.slice al nl cl) nl ((mki k0 nl).map (Value.int .i64)) ∧ w'.ownsRow base 4 1 (.slice ar nr cr) nr (bv (mkb (k0 + nl) nr)) ∧
      w'.os = w.os ∧ w'.tape = w.tape ∧ w'.output = w.output ∧ w.heap.size ≤ w'.heap.size ∧ ∀ i, i < w.heap.size → (Value.slice al nl cl).ownBlock ≠ some i → (Value.slice ar nr cr).ownBlock ≠ some i → w'.heap[i]? = w.heap[i]? := by
  go_enter Try.func8, Try.ntmps8
  go_wp2_with fail
  have g0 := World.grownBy_alloc w (.cells #[.slice al nl cl, .int .i64 ow, .slice ar nr cr, .bool bz, .int .i64 wh, .bool wo, .int .i64 ak, .slice none 0 0] 28) none
  have X := Box.new w #[.slice al nl cl, .int .i64 ow, .slice ar nr cr, .bool bz, .int .i64 wh, .bool wo, .int .i64 ak, .slice none 0 0] 28
  have HL : Hid (∀ j, (Value.slice al nl cl).ownBlock = some j → j < w.heap.size) := fun j h => (hl.lt j h).2
  have HR : Hid (∀ j, (Value.slice ar nr cr).ownBlock = some j → j < w.heap.size) := fun j h => (hr.lt j h).2
  refine (markIntS_any base nl _ k0 xs _ h0 (by omega) (by omega) (hl.alloc _)).mono ?_
  rintro e w1 ⟨rfl, o1, g1⟩
  have X1 := X.kept g1 (fun j h => by have := HL.out j h; omega)
  have r1 := owns_ne (hr.alloc _) g1 (fun j h he => owns_kinds hl hr (by decide) he h)
  have K1 : w1.os = w.os ∧ w1.tape = w.tape ∧ w1.output = w.output ∧ w.heap.size ≤ w1.heap.size ∧ ∀ i, i < w.heap.size → (Value.slice al nl cl).ownBlock ≠ some i → w1.heap[i]? = w.heap[i]? := by
    refine ⟨g1.os.trans g0.os, g1.tape.trans g0.tape, g1.output.trans g0.output, Nat.le_trans g0.size g1.size, fun i hi hne => ?_⟩
    exact (g1.block i (Nat.lt_of_lt_of_le hi g0.size) (fun e => hne e.symm)).trans (g0.block i hi (by simp))
  clear g1 g0 X hl hr
  have x2 := X1.cell 2
  have x7 := X1.cell 7
  have zx := X1.lt
  go_wp2_with fail
  refine (markBoolS_any base nr _ (k0 + nl) bs _ (by omega) (by omega) (by omega) r1).mono ?_
  rintro e w2 ⟨rfl, o2, g2⟩
  have X2 := X1.kept g2 (fun j h => by have := HR.out j h; omega)
  have l2 := owns_ne o1 g2 (fun j h he => owns_kinds r1 o1 (by decide) he h)
  have K2 : w2.os = w.os ∧ w2.tape = w.tape ∧ w2.output = w.output ∧ w.heap.size ≤ w2.heap.size ∧ ∀ i, i < w.heap.size → (Value.slice al nl cl).ownBlock ≠ some i → (Value.slice ar nr cr).ownBlock ≠ some i → w2.heap[i]? = w.heap[i]? := by
    obtain ⟨k1, k2, k3, k4, k5⟩ := K1
    refine ⟨g2.os.trans k1, g2.tape.trans k2, g2.output.trans k3, Nat.le_trans k4 g2.size, fun i hi hne hne' => ?_⟩
    exact (g2.block i (Nat.lt_of_lt_of_le hi k4) (fun e => hne' e.symm)).trans (k5 i hi hne)
  clear g2 K1 X1 x2 x7 zx r1 o1
  have x7 := X2.cell 7
  have zx := X2.lt
  go_wp2_with fail
  refine (markWaitS_none (k0 + nl + nr) _).mono ?_
  rintro e w3 ⟨rfl, h⟩
  subst h
  go_wp2
  go_ret
  exact ⟨rfl, l2, o2, K2⟩

set_option maxRecDepth 100000 in
set_option maxHeartbeats 1000000 in
theorem heldHome_none (ow wh ak : Int) (bz wo : Bool) (nl nr : Nat) (al ar : Option Addr) (cl cr : Nat) (k0 : Int) (w : World) (h0 : 0 ≤ k0) (h1 : k0 ≤ 100000000000) (hnl : nl ≤ 1048577) (hnr : nr ≤ 1048577)
    (hl : Row .i64 w al (mki k0 nl)) (hr : VRow w ar (bv (mkb (k0 + nl) nr))) :
    Calls Try.prog 9 #[.agg #[.slice al nl cl, .int .i64 ow, .slice ar nr cr, .bool bz, .int .i64 wh, .bool wo, .int .i64 ak, .slice none 0 0], .int .i64 k0] w fun e w' => e = .returned (.int .i64 (k0 + nl + nr)) ∧ Below w.heap.size w w' := by
  have bA := bel_alloc (Below.refl w.heap.size w) (.cells #[.slice al nl cl, .int .i64 ow, .slice ar nr cr, .bool bz, .int .i64 wh, .bool wo, .int .i64 ak, .slice none 0 0] 28)
  replace hl := hl.below bA
  replace hr := hr.below bA
  go_enter Try.func9, Try.ntmps9
  go_wp2_with fail
  refine (heldIntS_any al cl nl k0 _ h0 (by omega) hl).mono ?_
  rintro e w1 ⟨rfl, h⟩
  subst h
  have hd : decide (k0 + (nl : Int) < 0) = false := by simp; omega
  go_wp2_with fail
  refine (heldBoolS_any ar cr nr (k0 + nl) _ (by omega) (by omega) hr).mono ?_
  rintro e w1 ⟨rfl, d, rfl⟩
  have hd2 : decide (k0 + (nl : Int) + (nr : Int) < 0) = false := by simp; omega
  go_wp2_with fail
  refine (heldWaitS_none (k0 + nl + nr) _).mono ?_
  rintro e w1 ⟨rfl, h⟩
  subst h
  go_wp2
  go_ret
  exact ⟨rfl, below_drewN bA d⟩
end Go.Proofs.Ytmbfhmpafjcneab
