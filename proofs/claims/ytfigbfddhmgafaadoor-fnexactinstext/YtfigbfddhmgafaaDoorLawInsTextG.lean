/- The law FnExactInsText over any impl.InsText that answers as it should. -/
import Derived.Test.YtfigbfddhmgafaaDoorTx2
import Derived.Test.YtfigbfddhmgafaaDoorOpenI
namespace Go.Proofs.YtfigbfddhmgafaaDoor
open Go.ChangeShapes Go.WideShapes Go.ChangeAt Go.RowKit
set_option linter.unusedVariables false

namespace LawFnExactInsText
set_option maxRecDepth 100000 in
set_option maxHeartbeats 4000000 in
theorem walkG (HI : ∀ (op r a b n : Int) (w : World), Calls Tryd.prog 8 #[.agg (icells op r a b n)] w fun e w' => e = .returned (txt (insT op r a b n)) ∧ Below w.heap.size w w') (op r a b n : Int) (w : World) :
    Calls Tryd.prog 3 #[.agg (icells op r a b n)] w fun e w' => e = .returned (.bool true) ∧ Below w.heap.size w w' := by
  have HI' : Hid (∀ W, Calls Tryd.prog 8 #[.agg (icells op r a b n)] W fun e w' => e = .returned (txt (insT op r a b n)) ∧ Below W.heap.size W w') := HI op r a b n
  have HS : Hid (∀ W, Calls Tryd.prog 6 #[.agg (icells op r a b n)] W fun e w' => e = .returned (txt (insT op r a b n)) ∧ Below W.heap.size W w') := specInsText_any op r a b n
  clear HI
  generalize insT op r a b n = L at HI' HS
  have B := bel_alloc (Below.refl w.heap.size w) (.cells (icells op r a b n) 23)
  have X := Box.new w (icells op r a b n) 23
  go_enter Tryd.func3, Tryd.ntmps3
  go_wp2_with fail
  refine (toIns_any op r a b n _).mono ?_
  rintro e w1 ⟨rfl, b1⟩
  replace X := X.below b1
  replace B := bel_trans B b1
  clear b1
  go_wp2_with fail
  refine (HS.out _).mono ?_
  rintro e w2 ⟨rfl, b1⟩
  replace X := X.below b1
  replace B := bel_trans B b1
  clear b1
  obtain ⟨x0, x1, x2, x3, x4, xz⟩ := X.at5i
  go_wp2_with fail
  refine (toIns_any op r a b n _).mono ?_
  rintro e w3 ⟨rfl, b1⟩
  replace B := bel_trans B b1
  clear b1 X x0 x1 x2 x3 x4 xz
  go_wp2_with fail
  refine (HI'.out _).mono ?_
  rintro e w4 ⟨rfl, b1⟩
  replace B := bel_trans B b1
  clear b1
  go_wp2
  go_ret
  exact ⟨rfl, B⟩
end LawFnExactInsText
end Go.Proofs.YtfigbfddhmgafaaDoor
