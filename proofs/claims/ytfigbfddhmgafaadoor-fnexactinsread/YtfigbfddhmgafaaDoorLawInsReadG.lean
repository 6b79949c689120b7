/- The law FnExactInsRead over any impl.InsRead that answers as it should. -/
import Derived.Test.YtfigbfddhmgafaaDoorTx7
import Derived.Test.YtfigbfddhmgafaaDoorOpen
namespace Go.Proofs.YtfigbfddhmgafaaDoor
open Go.ChangeShapes Go.WideShapes Go.ChangeAt Go.RowKit
set_option linter.unusedVariables false

namespace LawFnExactInsRead
theorem rdV_cells (s : List UInt8) : ∃ op r a b n : Int, rdV s = icells op r a b n := by
  unfold rdV
  split
  · exact ⟨_, _, _, _, _, rfl⟩
  · exact ⟨_, _, _, _, _, rfl⟩

set_option maxRecDepth 100000 in
set_option maxHeartbeats 4000000 in
theorem walkG (HI : ∀ (s : List UInt8) (w : World), s.length ≤ 1048576 → Calls Tryd.prog 10 #[txt s] w fun e w' => e = .returned (.tuple #[.agg (rdV s), .bool (rdB s)]) ∧ Below w.heap.size w w') (s : List UInt8) (w : World) (hm : s.length ≤ maxLen) :
    Calls Tryd.prog 4 #[txt s] w fun e w' => e = .returned (.bool true) ∧ Below w.heap.size w w' := by
  have hsz : (⟨s.toArray⟩ : ByteArray).size = s.length := by simp [ByteArray.size]
  by_cases hl : 1048576 < s.length
  · have hl2 : (1048576 : Int) < s.length := by omega
    clear HI
    go_enter Tryd.func4, Tryd.ntmps4
    go_wp2
    go_ret
    exact ⟨rfl, Below.refl _ _⟩
  · have hl2 : ¬ (1048576 : Int) < s.length := by omega
    have HI' : Hid (∀ W, Calls Tryd.prog 10 #[txt s] W fun e w' => e = .returned (.tuple #[.agg (rdV s), .bool (rdB s)]) ∧ Below W.heap.size W w') := fun W => HI s W (by omega)
    have HS : Hid (∀ W, Calls Tryd.prog 9 #[txt s] W fun e w' => e = .returned (.tuple #[.agg (rdV s), .bool (rdB s)]) ∧ Below W.heap.size W w') := fun W => specInsRead_any s W (by omega)
    obtain ⟨op, r, a, b, n, hv⟩ := rdV_cells s
    obtain ⟨z, hz⟩ : ∃ z, rdB s = z := ⟨_, rfl⟩
    rw [hv, hz] at HI' HS
    clear HI hv hz
    go_enter Tryd.func4, Tryd.ntmps4
    go_wp2_with fail
    refine (HS.out _).mono ?_
    rintro e w1 ⟨rfl, B⟩
    have bx := bel_alloc (Below.refl w1.heap.size w1) (.cells (icells op r a b n) 25)
    have X := Box.new w1 (icells op r a b n) 25
    replace B := bel_trans B bx
    clear bx
    go_wp2_with fail
    refine (HI'.out _).mono ?_
    rintro e w2 ⟨rfl, b2⟩
    replace X := X.below b2
    replace B := bel_trans B b2
    have bx := bel_alloc (Below.refl w2.heap.size w2) (.cells (icells op r a b n) 25)
    have Y := Box.new w2 (icells op r a b n) 25
    replace X := X.below bx
    replace B := bel_trans B bx
    clear bx b2
    obtain ⟨x0, x1, x2, x3, x4, xz⟩ := X.at5i
    obtain ⟨y0, y1, y2, y3, y4, yz⟩ := Y.at5i
    go_wp2_with fail
    refine (eqIns_any op r a b n _).mono ?_
    rintro e w3 ⟨rfl, b3⟩
    replace B := bel_trans B b3
    clear b3 X Y x0 x1 x2 x3 x4 xz y0 y1 y2 y3 y4 yz
    go_wp2
    go_ret
    exact ⟨rfl, B⟩
end LawFnExactInsRead
end Go.Proofs.YtfigbfddhmgafaaDoor
