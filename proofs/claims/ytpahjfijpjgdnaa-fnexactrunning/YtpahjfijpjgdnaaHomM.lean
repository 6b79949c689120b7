/- Hom and HomM: see the heads of the parts. -/
import Derived.Test.YtpahjfijpjgdnaaMsg
import Derived.Test.YtpahjfijpjgdnaaKeep
import Derived.Test.YtpahjfijpjgdnaaIn8d
import Derived.Deep.RegionWith
import Derived.BigRegion
/- Rows of truth values and of those who wait; what the law's small functions over homes do: eqHome and what it calls. -/
namespace Go.Proofs.Ytpahjfijpjgdnaa
open Go.RowKit
set_option linter.unusedVariables false

/-- WHAT A READER IS TOLD OF A ROW OF CELLS. -/
def VRow (w : World) (a : Option Addr) (vs : List Value) : Prop :=
  vs.length ≤ 140737488351232 ∧ ∀ i v, vs[i]? = some v → ∃ b off, a = some ⟨b, off, none⟩ ∧ w.cell? ⟨b, off + i, none⟩ = some v

theorem VRow.below {w w' : World} {a : Option Addr} {vs : List Value} (h : VRow w a vs) (hb : Below w.heap.size w w') : VRow w' a vs := by
  refine ⟨h.1, fun i v hi => ?_⟩
  obtain ⟨b, off, rfl, hc⟩ := h.2 i v hi
  exact ⟨b, off, rfl, (hb.cell (p := ⟨b, off + i, none⟩) (lt_of_cell hc)).trans hc⟩

theorem VRow.drewN {w : World} {a : Option Addr} {vs : List Value} (h : VRow w a vs) (m : Nat) : VRow (w.drewN m) a vs := h

theorem owns_vrow {w : World} {base e size : Nat} {v : Value} {n : Nat} {vs : List Value} (h : w.ownsRow base e size v n vs) (hl : vs.length ≤ 140737488351232) :
    ∃ a cap, v = .slice a n cap ∧ VRow w a vs := by
  rcases h.2 with ⟨hv, h0⟩ | ⟨g, cap, cur, hv, hb, hg, hnc, hcm, hcs, ht⟩
  · subst h0
    have : vs = [] := List.length_eq_zero_iff.1 (by have := h.1; omega)
    subst this
    exact ⟨none, 0, hv, by simp, by simp⟩
  · refine ⟨some ⟨g, 0, none⟩, cap, hv, hl, fun i x hi => ⟨g, 0, rfl, ?_⟩⟩
    have hlt : i < vs.length := (List.getElem?_eq_some_iff.1 hi).1
    have hc := World.ownsRow.cellAt (hv ▸ h) i (by have := h.1; omega)
    rw [Nat.zero_add, hc]
    exact hi

theorem owns_vrow' {w : World} {base e size : Nat} {a : Option Addr} {n cap : Nat} {vs : List Value} (h : w.ownsRow base e size (.slice a n cap) n vs) (hl : vs.length ≤ 140737488351232) : VRow w a vs := by
  obtain ⟨a', c', e, hr⟩ := owns_vrow h hl
  simp only [Value.slice.injEq] at e
  rw [e.1]
  exact hr

/-- Truth values as cells. -/
def bv (bs : List Bool) : List Value := bs.map Value.bool
theorem bv_length (bs : List Bool) : (bv bs).length = bs.length := by simp [bv]
theorem VRow.bool {w : World} {a : Option Addr} {bs : List Bool} (h : VRow w a (bv bs)) (k : Nat) (hk : k < bs.length) : ∃ b off, a = some ⟨b, off, none⟩ ∧ w.cell? ⟨b, off + k, none⟩ = some (.bool (bs.getD k false)) :=
  h.2 k _ (by simp [bv, hk])

/-- Those who wait as cells. -/
def wv (ws : List (Int × Bool)) : List Value := ws.flatMap fun p => [.int .i64 p.1, .bool p.2]
theorem wv_cons (p : Int × Bool) (ws : List (Int × Bool)) : wv (p :: ws) = .int .i64 p.1 :: .bool p.2 :: wv ws := rfl
theorem wv_append (xs ys : List (Int × Bool)) : wv (xs ++ ys) = wv xs ++ wv ys := by simp [wv]
theorem wv_length (ws : List (Int × Bool)) : (wv ws).length = ws.length * 2 := by
  induction ws with
  | nil => rfl
  | cons m ms ih => rw [wv_cons]; simp [ih]; omega
theorem wv_get (ws : List (Int × Bool)) (k : Nat) (hk : k < ws.length) : (wv ws)[k * 2]? = some (.int .i64 (ws.getD k (0, false)).1) ∧ (wv ws)[k * 2 + 1]? = some (.bool (ws.getD k (0, false)).2) := by
  induction ws generalizing k with
  | nil => simp at hk
  | cons p ws ih =>
    cases k with
    | zero => simp [wv_cons]
    | succ k =>
      have h := ih k (by simpa using hk)
      rw [wv_cons]
      rw [show (k + 1) * 2 = k * 2 + 1 + 1 by omega, show k * 2 + 1 + 1 + 1 = (k * 2 + 1) + 1 + 1 by omega]
      simpa using h
theorem VRow.wait {w : World} {a : Option Addr} {ws : List (Int × Bool)} (h : VRow w a (wv ws)) (k : Nat) (hk : k < ws.length) : ∃ b off, a = some ⟨b, off, none⟩ ∧ w.cell? ⟨b, off + k * 2, none⟩ = some (.int .i64 (ws.getD k (0, false)).1) ∧ w.cell? ⟨b, off + k * 2 + 1, none⟩ = some (.bool (ws.getD k (0, false)).2) := by
  obtain ⟨g0, g1⟩ := wv_get ws k hk
  obtain ⟨b, off, rfl, h0⟩ := h.2 _ _ g0
  obtain ⟨b', off', e, h1⟩ := h.2 _ _ g1
  simp only [Option.some.injEq, Addr.mk.injEq, and_true] at e
  obtain ⟨rfl, rfl⟩ := e
  exact ⟨b, off, rfl, h0, by rw [Nat.add_assoc]; exact h1⟩

set_option maxHeartbeats 400000 in
theorem eqBoolS_any (a b : Option Addr) (ca cb : Nat) (bs : List Bool) (w : World) (ha : VRow w a (bv bs)) (hb : VRow w b (bv bs)) :
    Calls Try.prog 80 #[.slice a bs.length ca, .slice b bs.length cb] w fun e w' => e = .returned (.bool true) ∧ ∃ n, w' = w.drewN n := by
  have hl : bs.length ≤ 140737488351232 := by have := ha.1; rw [bv_length] at this; exact this
  replace ha := ha.bool
  replace hb := hb.bool
  go_enter Try.func80, Try.ntmps80
  go_wp2
  go_loopw [5] (fun i wr => ∃ k n : Nat, k ≤ bs.length ∧ i = .int .i64 k ∧ wr = w.drewN n) (fun i _ => bs.length - (intOf i).toNat)
  case atStart => exact ⟨0, 0, Nat.zero_le _, rfl, rfl⟩
  case round =>
    obtain ⟨k, n, hk, rfl, rfl⟩ := hrel
    by_cases hlt : k < bs.length
    · obtain ⟨ba, oa, rfl, hca⟩ := ha k hlt
      obtain ⟨bb, ob, rfl, hcb⟩ := hb k hlt
      have hi : (k : Int) < (bs.length : Int) := by omega
      go_wp2
      go_quiet (fail)
      go_wp2
      go_roundw
      case rel => exact ⟨k + 1, n + nq, by omega, by go_num, rfl⟩
      case measure => simp [intOf]; omega
    · go_wp2
      go_ret
      exact ⟨rfl, n, rfl⟩

set_option maxHeartbeats 400000 in
theorem eqWait_any (x : Int) (o : Bool) (w : World) :
    Calls Try.prog 81 #[.agg #[.int .i64 x, .bool o], .agg #[.int .i64 x, .bool o]] w fun e w' => e = .returned (.bool true) ∧ Below w.heap.size w w' := by
  have bA := bel_alloc (bel_alloc (Below.refl w.heap.size w) (.cells #[.int .i64 x, .bool o] 142)) (.cells #[.int .i64 x, .bool o] 142)
  go_enter Try.func81, Try.ntmps81
  go_wp2
  go_ret
  exact ⟨rfl, bA⟩

set_option maxRecDepth 100000 in
set_option maxHeartbeats 1000000 in
theorem eqWaitS_any (a b : Option Addr) (ca cb : Nat) (ws : List (Int × Bool)) (w : World) (ha : VRow w a (wv ws)) (hb : VRow w b (wv ws)) :
    Calls Try.prog 82 #[.slice a ws.length ca, .slice b ws.length cb] w fun e w' => e = .returned (.bool true) ∧ Below w.heap.size w w' := by
  have hl : ws.length ≤ 140737488351232 := by have := ha.1; rw [wv_length] at this; omega
  go_enter Try.func82, Try.ntmps82
  go_wp2
  go_loopw [5] (fun i wr => ∃ k : Nat, k ≤ ws.length ∧ i = .int .i64 k ∧ VRow wr a (wv ws) ∧ VRow wr b (wv ws) ∧ Below w.heap.size w wr) (fun i _ => ws.length - (intOf i).toNat)
  case atStart => exact ⟨0, Nat.zero_le _, rfl, ha, hb, Below.refl _ _⟩
  case round =>
    obtain ⟨k, hk, rfl, hma, hmb, hB⟩ := hrel
    by_cases hlt : k < ws.length
    · have hi : (k : Int) < (ws.length : Int) := by omega
      obtain ⟨ba, oa, rfl, y0, y1⟩ := hma.wait k hlt
      obtain ⟨bb, ob, rfl, z0, z1⟩ := hmb.wait k hlt
      clear ha hb
      go_wp2_with fail
      go_region_with (go_at_call 81; refine (eqWait_any _ _ _).mono ?_; rintro e w1 ⟨rfl, b1⟩)
      all_goals
        have hma1 := hma.below (bel_undrew b1)
        have hmb1 := hmb.below (bel_undrew b1)
        have hB1 := bel_trans hB (bel_undrew b1)
        clear hma hmb hB b1 y0 y1 z0 z1
        go_wp2
        go_roundw
        case rel => exact ⟨k + 1, by omega, by go_num, hma1, hmb1, hB1⟩
        case measure => simp [intOf]; omega
    · clear ha hb hma hmb
      go_wp2
      go_ret
      exact ⟨rfl, hB⟩

set_option maxRecDepth 100000 in
set_option maxHeartbeats 1000000 in
theorem eqHome_any (ow wh ak : Int) (bz wo : Bool) (al bl ar br aq bq : Option Addr) (cl dl cr dr cq dq : Nat) (xs : List Int) (bs : List Bool) (ws : List (Int × Bool)) (w : World)
    (hal : Row .i64 w al xs) (hbl : Row .i64 w bl xs) (har : VRow w ar (bv bs)) (hbr : VRow w br (bv bs)) (haq : VRow w aq (wv ws)) (hbq : VRow w bq (wv ws)) :
    Calls Try.prog 68 #[.agg #[.slice al xs.length cl, .int .i64 ow, .slice ar bs.length cr, .bool bz, .int .i64 wh, .bool wo, .int .i64 ak, .slice aq ws.length cq], .agg #[.slice bl xs.length dl, .int .i64 ow, .slice br bs.length dr, .bool bz, .int .i64 wh, .bool wo, .int .i64 ak, .slice bq ws.length dq]] w fun e w' => e = .returned (.bool true) ∧ Below w.heap.size w w' := by
  have bA := bel_alloc (bel_alloc (Below.refl w.heap.size w) (.cells #[.slice al xs.length cl, .int .i64 ow, .slice ar bs.length cr, .bool bz, .int .i64 wh, .bool wo, .int .i64 ak, .slice aq ws.length cq] 145)) (.cells #[.slice bl xs.length dl, .int .i64 ow, .slice br bs.length dr, .bool bz, .int .i64 wh, .bool wo, .int .i64 ak, .slice bq ws.length dq] 145)
  replace hal := hal.below bA
  replace hbl := hbl.below bA
  replace har := har.below bA
  replace hbr := hbr.below bA
  replace haq := haq.below bA
  replace hbq := hbq.below bA
  obtain ⟨XA, XB⟩ := Box.two w #[.slice al xs.length cl, .int .i64 ow, .slice ar bs.length cr, .bool bz, .int .i64 wh, .bool wo, .int .i64 ak, .slice aq ws.length cq] #[.slice bl xs.length dl, .int .i64 ow, .slice br bs.length dr, .bool bz, .int .i64 wh, .bool wo, .int .i64 ak, .slice bq ws.length dq] 145 145
  go_enter Try.func68, Try.ntmps68
  go_wp2_with fail
  refine (eqIntS_any al bl cl dl xs _ hal hbl).mono ?_
  rintro e w1 ⟨rfl, d1, rfl⟩
  go_wp2_with fail
  refine (eqBoolS_any ar br cr dr bs _ (har.drewN d1) (hbr.drewN d1)).mono ?_
  rintro e w1 ⟨rfl, d2, rfl⟩
  go_wp2_with fail
  refine (eqWait_any wh wo _).mono ?_
  rintro e w3 ⟨rfl, b3⟩
  replace XA := (XA.dr (d := d1 + d2) rfl).below b3
  replace XB := (XB.dr (d := d1 + d2) rfl).below b3
  replace haq := (haq.drewN (d1 + d2)).below b3
  replace hbq := (hbq.drewN (d1 + d2)).below b3
  have B : Below w.heap.size w w3 := bel_trans (below_drewN bA (d1 + d2)) b3
  clear bA b3 hal hbl har hbr
  have x6 := XA.cell 6
  have x7 := XA.cell 7
  have y6 := XB.cell 6
  have y7 := XB.cell 7
  have zx := XA.lt
  have zy := XB.lt
  clear XA XB
  go_wp2_with fail
  refine (eqWaitS_any aq bq cq dq ws _ haq hbq).mono ?_
  rintro e w4 ⟨rfl, b4⟩
  have B4 := bel_trans B b4
  go_wp2
  go_ret
  exact ⟨rfl, B4⟩

/-- Two rows of elements of other types do not share a block. -/
theorem owns_kinds {w : World} {b1 b2 e1 e2 s1 s2 n1 n2 : Nat} {v1 v2 : Value} {x1 x2 : List Value} (h1 : w.ownsRow b1 e1 s1 v1 n1 x1) (h2 : w.ownsRow b2 e2 s2 v2 n2 x2) (he : e1 ≠ e2) {j : Nat} (hj : v1.ownBlock = some j) : v2.ownBlock ≠ some j := by
  intro hk
  rcases h1.2 with ⟨rfl, _⟩ | ⟨g, cap, cur, rfl, _, hg, _⟩
  · simp [Value.ownBlock] at hj
  · rcases h2.2 with ⟨rfl, _⟩ | ⟨g', cap', cur', rfl, _, hg', _⟩
    · simp [Value.ownBlock] at hk
    · simp [Value.ownBlock] at hj hk
      subst hj
      subst hk
      rw [hg] at hg'
      simp at hg'
      exact he hg'.2
end Go.Proofs.Ytpahjfijpjgdnaa

/- What the law's small functions over homes do: markHome and heldHome of a home for whom nobody waits, and what they call. -/
namespace Go.Proofs.Ytpahjfijpjgdnaa
open Go.RowKit
set_option linter.unusedVariables false

/-- What is marked: so many truth values, counted on from k. -/
def mkb (k : Int) (n : Nat) : List Bool := (List.range n).map fun (i : Nat) => (k + (i : Int)) % 3 == 0
theorem mkb_length (k : Int) (n : Nat) : (mkb k n).length = n := by simp [mkb]
theorem mkb_get (k : Int) (n i : Nat) (h : i < n) : (mkb k n).getD i false = ((k + (i : Int)) % 3 == 0) := by
  simp [mkb, h]
theorem mkb_succ (k : Int) (n : Nat) : mkb k (n + 1) = mkb k n ++ [((k + (n : Int)) % 3 == 0)] := by
  simp [mkb, List.range_succ]






end Go.Proofs.Ytpahjfijpjgdnaa
