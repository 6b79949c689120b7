/- The law FnExactPageOf over any impl.PageOf that answers as it should (written by mk10.py). -/
import Derived.Test.YtfbdgcoingagcaaBk3
import Derived.Test.YtfbdgcoingagcaaOpenB
import Derived.BigRegion
import Derived.Deep.RegionHeld3
namespace Go.Proofs.Ytfbdgcoingagcaa
open Go.ChangeShapes Go.WideShapes Go.ChangeAt Go.RowKit
set_option linter.unusedVariables false

namespace LawFnExactPageOf
set_option maxRecDepth 100000 in
set_option maxHeartbeats 4000000 in
theorem walkG (HI : ∀ (st : Int) (a : Option Addr) (c n : Nat) (d : Nat → XD) (w : World), IR w a n d → Calls Try.prog 20 #[.agg #[.int .i64 st, .slice a n c]] w fun e w' => e = .returned (.int .i64 (if blockB st n d then st / 4 else -1)) ∧ Below w.heap.size w w')
    (st : Int) (a : Option Addr) (ca n : Nat) (d : Nat → XD) (w : World) (hc : IC w a n d) :
    Calls Try.prog 7 #[.agg #[.int .i64 st, .slice a n ca]] w fun e w' => e = .returned (.bool true) ∧ Below w.heap.size w w' := by
  have HI' : Hid (∀ (a : Option Addr) (c : Nat) (W : World), IR W a n d → Calls Try.prog 20 #[.agg #[.int .i64 st, .slice a n c]] W fun e w' => e = .returned (.int .i64 (if blockB st n d then st / 4 else -1)) ∧ Below W.heap.size W w') := fun a c W h => HI st a c n d W h
  have HS : Hid (∀ (a : Option Addr) (c : Nat) (W : World), IR W a n d → Calls Try.prog 21 #[.agg #[.int .i64 st, .slice a n c]] W fun e w' => e = .returned (.int .i64 (if blockB st n d then st / 4 else -1)) ∧ Below W.heap.size W w') := fun a c W h => specPageOf_any st a c n d W h
  clear HI
  obtain ⟨z, hz⟩ : ∃ z, (if blockB st n d then st / 4 else -1) = z := ⟨_, rfl⟩
  rw [hz] at HI' HS
  clear hz
  have hmax : n ≤ maxLen := hc.1
  have bA := bel_alloc (Below.refl w.heap.size w) (.cells #[.int .i64 st, .slice a n ca] 50)
  have XA := Box.new w #[.int .i64 st, .slice a n ca] 50
  by_cases hl : n ≤ 1048576
  · have hr : IR w a n d := hc.ir (by omega)
    have hr := hr.below bA
    have hd : ¬ ((1048576 : Int) - n < 0) := by omega
    clear hc
    go_enter Try.func7, Try.ntmps7
    go_wp2_with fail
    refine (szBlock_any st a n ca _ hmax).mono ?_
    rintro e w1 ⟨rfl, b1⟩
    rw [if_pos hl]
    have XA := XA.below b1
    have hr := hr.below b1
    have B := bel_trans bA b1
    clear b1 bA
    obtain ⟨m0, m1, z1⟩ := XA.at2
    go_wp2_with fail
    refine (toBlock_any st a ca n d _ hl hr).mono ?_
    rintro e w2 ⟨a2, c2, rfl, o2, b2⟩
    have q2 := o2.ir (by omega)
    have XA := XA.below b2
    have hr := hr.below b2
    have B := bel_trans B b2
    clear b2 o2 m0 m1 z1
    go_wp2_with fail
    refine (HS.out a2 c2 _ q2).mono ?_
    rintro e w3 ⟨rfl, b3⟩
    have XA := XA.below b3
    have hr := hr.below b3
    have B := bel_trans B b3
    clear b3 q2
    obtain ⟨m0, m1, z1⟩ := XA.at2
    go_wp2_with fail
    refine (toBlock_any st a ca n d _ hl hr).mono ?_
    rintro e w4 ⟨a4, c4, rfl, o4, b4⟩
    have q4 := o4.ir (by omega)
    have XA := XA.below b4
    have hr := hr.below b4
    have B := bel_trans B b4
    clear b4 o4 m0 m1 z1
    go_wp2_with fail
    have bx := bel_trans (bel_alloc (Below.refl w4.heap.size w4) (.cells #[.int .i64 st, .slice a4 n c4] 29)) (Below.refl _ _)
    have XP := Box.new w4 #[.int .i64 st, .slice a4 n c4] 29
    have XA := XA.below bx
    have hr := hr.below bx
    have B := bel_trans B bx
    have q4 := q4.below bx
    clear bx
    refine (HI'.out a4 c4 _ q4).mono ?_
    rintro e w5 ⟨rfl, b5⟩
    have XA := XA.below b5
    have XP := XP.below b5
    have hr := hr.below b5
    have B := bel_trans B b5
    have q4 := q4.below b5
    clear b5
    obtain ⟨m0, m1, z1⟩ := XA.at2
    obtain ⟨n0, n1, z2⟩ := XP.at2
    go_wp2_with fail
    go_region_with (first | (go_at_call 30; refine (toBlock_any st a ca n d _ hl ?_).mono ?_; exact hr; rintro e w6 ⟨a6, c6, rfl, o6, b6⟩; have q6 := o6.ir (by omega); have b6 := bel_undrew b6; obtain ⟨hc6, hf6⟩ := bcell b6) | (go_at_call 24; refine (eqBlock_any st a4 a6 c4 c6 n d _ ?_ ?_).mono ?_; exact q4.below b6; exact q6; rintro e w7 ⟨rfl, b7⟩))
    all_goals
      have B7 := bel_trans (bel_trans B b6) b7
      go_wp2
      go_ret
      exact ⟨rfl, B7⟩
  · clear hc XA HI' HS
    go_enter Try.func7, Try.ntmps7
    go_wp2_with fail
    refine (szBlock_any st a n ca _ hmax).mono ?_
    rintro e w1 ⟨rfl, b1⟩
    rw [if_neg hl]
    have B := bel_trans bA b1
    go_wp2
    go_ret
    exact ⟨rfl, B⟩
end LawFnExactPageOf
end Go.Proofs.Ytfbdgcoingagcaa
