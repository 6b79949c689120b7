/- The law FnExactHartOk over any impl.HartOk that answers as it should. -/
import Derived.Test.YtiilgkloddflcaaHs9
import Derived.Test.YtiilgkloddflcaaOpenHt
namespace Go.Proofs.Ytiilgkloddflcaa
open Go.ChangeShapes Go.WideShapes Go.ChangeAt Go.RowKit
set_option linter.unusedVariables false

namespace LawFnExactHartOk
set_option maxRecDepth 100000 in
set_option maxHeartbeats 4000000 in
theorem walkG (HI : ∀ (a : Option Addr) (c : Nat) (xs : List Int) (pc st : Int) (w : World), Row .i64 w a xs → xs.length ≤ 1048577 → Calls Try.prog 12 #[.agg #[.slice a xs.length c, .int .i64 pc, .int .i64 st]] w fun e w' => e = .returned (.bool (hartB xs pc st)) ∧ Below w.heap.size w w') (a : Option Addr) (ca : Nat) (xs : List Int) (pc st : Int) (w : World) (hc : Came .i64 w a ca xs) :
    Calls Try.prog 3 #[.agg #[.slice a xs.length ca, .int .i64 pc, .int .i64 st]] w fun e w' => e = .returned (.bool true) ∧ Below w.heap.size w w' := by
  have HI' : Hid _ := HI
  clear HI
  have bA := bel_alloc (Below.refl w.heap.size w) (.cells #[.slice a xs.length ca, .int .i64 pc, .int .i64 st] 24)
  have XA := Box.new w #[.slice a xs.length ca, .int .i64 pc, .int .i64 st] 24
  by_cases hl : 1048576 < xs.length
  · have hn : xs.length ≤ maxLen := Nat.le_trans hc.1 hc.2.1
    clear hc XA
    go_enter Try.func3, Try.ntmps3
    go_wp2_with fail
    refine (szHart_big pc st a _ ca _ hl hn).mono ?_
    rintro e w1 ⟨rfl, b1⟩
    have B := bel_trans bA b1
    go_wp2
    go_ret
    exact ⟨rfl, B⟩
  · have hsm : xs.length ≤ 1048576 := by omega
    have hr := (hc.row (by omega)).below bA
    clear hc hl
    go_enter Try.func3, Try.ntmps3
    go_wp2_with fail
    refine (szHart_small pc st a _ ca _ hsm).mono ?_
    rintro e w1 ⟨rfl, b1⟩
    have XA := XA.below b1
    have hr := hr.below b1
    have B := bel_trans bA b1
    clear b1 bA
    obtain ⟨m0, m1, m2, z1⟩ := XA.at3
    go_wp2_with fail
    refine (toHart_any pc st a ca xs _ hsm hr).mono ?_
    rintro e w2 ⟨v2, rfl, o2, b2⟩
    obtain ⟨a2, c2, rfl, q2, _, _⟩ := owns_row o2 (by omega)
    have XA := XA.below b2
    have hr := hr.below b2
    have B := bel_trans B b2
    clear b2 o2 m0 m1 m2 z1
    go_wp2_with fail
    refine (specHartOk_any a2 c2 xs pc st _ q2).mono ?_
    rintro e w3 ⟨rfl, b3⟩
    have XA := XA.below b3
    have hr := hr.below b3
    have B := bel_trans B b3
    clear b3 q2
    obtain ⟨m0, m1, m2, z1⟩ := XA.at3
    go_wp2_with fail
    refine (toHart_any pc st a ca xs _ hsm hr).mono ?_
    rintro e w4 ⟨v4, rfl, o4, b4⟩
    obtain ⟨a4, c4, rfl, q4, _, _⟩ := owns_row o4 (by omega)
    have XA := XA.below b4
    have hr := hr.below b4
    have B := bel_trans B b4
    clear b4 o4 m0 m1 m2 z1
    go_wp2_with fail
    have bx := bel_alloc (Below.refl w4.heap.size w4) (.cells #[.slice a4 xs.length c4, .int .i64 pc, .int .i64 st] 27)
    have XP := Box.new w4 #[.slice a4 xs.length c4, .int .i64 pc, .int .i64 st] 27
    have XA := XA.below bx
    have hr := hr.below bx
    have B := bel_trans B bx
    have q4 := q4.below bx
    clear bx
    refine (HI'.out a4 c4 xs pc st _ q4 (by omega)).mono ?_
    rintro e w5 ⟨rfl, b5⟩
    have XA := XA.below b5
    have XP := XP.below b5
    have hr := hr.below b5
    have B := bel_trans B b5
    have q4 := q4.below b5
    clear b5
    obtain ⟨m0, m1, m2, z1⟩ := XA.at3
    obtain ⟨n0, n1, n2, z2⟩ := XP.at3
    go_wp2_with fail
    go_region_with (first | (go_at_call 11; refine (toHart_any pc st a ca xs _ hsm ?_).mono ?_; exact hr; rintro e w6 ⟨v6, rfl, o6, b6⟩; obtain ⟨a6, c6, rfl, q6, _, _⟩ := owns_row o6 (by omega); have b6 := bel_undrew b6; obtain ⟨hc6, hf6⟩ := bcell b6) | (go_at_call 13; refine (eqHart_any pc st a4 a6 c4 c6 xs _ ?_ ?_).mono ?_; exact q4.below b6; exact q6; rintro e w7 ⟨rfl, b7⟩))
    all_goals
      have B7 := bel_trans (bel_trans B b6) b7
      go_wp2
      go_ret
      exact ⟨rfl, B7⟩

end LawFnExactHartOk
end Go.Proofs.Ytiilgkloddflcaa
