/- What the regions of the law of CoreHear leave: an answered core in its box (written by mk12h.py). -/
import Derived.Deep.RegionWith
import Derived.BigRegion
import Derived.Deep.RegionHeld3
import Derived.Deep.DeepCutAuto
import Derived.Test.YtafikmpgmnhgcaaCo2
import Derived.Test.YtafikmpgmnhgcaaSpecOk
import Derived.Test.YtafikmpgmnhgcaaOpenC
import Derived.Test.YtafikmpgmnhgcaaReg
namespace Go.Proofs.Ytafikmpgmnhgcaa
open Go.ChangeShapes Go.WideShapes Go.ChangeAt Go.RowKit
set_option linter.unusedVariables false

/-- An answered core in its box. -/
def AC (w0 : World) (g : CoD) (s : Value) (wx : World) : Prop :=
  ∃ (A : Nat) (p : CoP), s = .pointer (some ⟨A, 0, none⟩) ∧ w0.heap.size ≤ A ∧ ¬ QCo g p A ∧ Box wx A (ccells g p) 35 ∧ ECo g p wx ∧ (∀ b, QCo g p b → w0.heap.size ≤ b) ∧ Below w0.heap.size w0 wx
theorem AC.set {w0 w5 : World} {A : Nat} {g : CoD} {p : CoP} (X : Box w5 A #[.slice none 0 0, .int .i64 0, .int .i64 0, .slice none 0 0] 35) (hA : w0.heap.size ≤ A) (hn : ¬ QCo g p A) (E : ECo g p w5) (l : ∀ b, QCo g p b → w0.heap.size ≤ b) (hb : Below w0.heap.size w0 w5) :
    AC w0 g (.pointer (some ⟨A, 0, none⟩)) ((((w5.setCell ⟨A, 0, none⟩ (.slice p.r.1 g.h.xs.length p.r.2)).setCell ⟨A, 1, none⟩ (.int .i64 g.h.pc)).setCell ⟨A, 2, none⟩ (.int .i64 g.h.st)).setCell ⟨A, 3, none⟩ (.slice p.c.1 g.n p.c.2)) := by
  have k : Only w5 ((((w5.setCell ⟨A, 0, none⟩ (.slice p.r.1 g.h.xs.length p.r.2)).setCell ⟨A, 1, none⟩ (.int .i64 g.h.pc)).setCell ⟨A, 2, none⟩ (.int .i64 g.h.st)).setCell ⟨A, 3, none⟩ (.slice p.c.1 g.n p.c.2)) (fun b => b = A) := ((((Only.refl w5 (fun b => b = A)).setCell _ _ rfl).setCell _ _ rfl).setCell _ _ rfl).setCell _ _ rfl
  exact ⟨_, p, rfl, hA, hn, heap_setCell_same _ _ 3 _ _ _ (heap_setCell_same _ _ 2 _ _ _ (heap_setCell_same _ _ 1 _ _ _ (heap_setCell_same _ _ 0 _ _ _ X))), E.sm (k.sm (fun b hq e => hn (e ▸ hq))), l, k.bel hb (fun i hi => by omega)⟩

set_option maxHeartbeats 400000 in
theorem szMsg_c (k p : Int) (o : Bool) (a : Option Addr) (n c : Nat) (r : Int) (w : World) (h0 : 0 ≤ r) (h1 : r ≤ 1048576) (hn : n ≤ maxLen) :
    Calls Try.prog 5 #[.agg #[.int .i64 k, .int .i64 p, .bool o, .slice a n c], .int .i64 r] w fun e w' => ∃ r2 : Int, e = .returned (.int .i64 r2) ∧ (r2 = -1 ∨ (r2 = r - n ∧ 0 ≤ r2)) ∧ Below w.heap.size w w' := by
  unfold maxLen at hn
  by_cases h : (n : Int) ≤ r
  · go_enter Try.func5, Try.ntmps5
    go_wp2
    go_ret
    exact ⟨_, rfl, .inr ⟨rfl, by omega⟩, (Below.refl _ _).alloc (Nat.le_refl _) _⟩
  · go_enter Try.func5, Try.ntmps5
    go_wp2
    go_ret
    exact ⟨_, rfl, .inl rfl, (Below.refl _ _).alloc (Nat.le_refl _) _⟩

set_option maxHeartbeats 400000 in
theorem markMsg_c (k p : Int) (o : Bool) (base n : Nat) (a : Option Addr) (c : Nat) (k0 : Int) (xs : List Value) (w : World) (h0 : 0 ≤ k0) (h1 : k0 ≤ 10000000000) (hn : n ≤ 1048576) (hown : w.ownsRow base 3 1 (.slice a n c) n xs) :
    Calls Try.prog 13 #[.agg #[.int .i64 k, .int .i64 p, .bool o, .slice a n c], .int .i64 k0] w fun e w' => e = .returned (.int .i64 (k0 + n)) ∧ w.grownBy w' (Value.slice a n c).ownBlock := by
  go_enter Try.func13, Try.ntmps13
  go_wp2_with fail
  refine (markIntS_any base n _ k0 xs _ h0 (by omega) (by omega) (hown.alloc _)).mono ?_
  rintro e w1 ⟨rfl, o1, g1⟩
  have g := grownBy_trans (World.grownBy_alloc w (.cells #[.int .i64 k, .int .i64 p, .bool o, .slice a n c] 38) (Value.slice a n c).ownBlock) g1
  clear g1
  go_wp2
  go_ret
  exact ⟨rfl, g⟩

/-- How far a core is marked that is not great. -/
theorem kCo_sm {d : CoD} (h : cZ d ≤ 1048576) (k : Int) (hk : 0 ≤ k) : k ≤ kCo k d ∧ kCo k d ≤ k + 6291456 := by
  have hs : sumN (fun i => cK (d.k i)) d.n = d.n + 5 * sumN (fun i => bkZ (d.k i)) d.n := by
    generalize d.n = m
    induction m with
    | zero => simp [sumN]
    | succ m ih =>
      have e1 : sumN (fun i => cK (d.k i)) (m + 1) = sumN (fun i => cK (d.k i)) m + cK (d.k m) := rfl
      have e2 : sumN (fun i => bkZ (d.k i)) (m + 1) = sumN (fun i => bkZ (d.k i)) m + bkZ (d.k m) := rfl
      have e3 : cK (d.k m) = 1 + 5 * bkZ (d.k m) := rfl
      omega
  unfold cZ at h
  unfold kCo kt
  rw [hs]
  omega
end Go.Proofs.Ytafikmpgmnhgcaa
