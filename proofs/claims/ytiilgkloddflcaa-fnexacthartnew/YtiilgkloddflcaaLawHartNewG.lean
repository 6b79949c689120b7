/- The law FnExactHartNew over any impl.HartNew that answers as it should (written by mk9.py). -/
import Derived.Test.YtiilgkloddflcaaHs9
import Derived.Test.YtiilgkloddflcaaOpen
namespace Go.Proofs.Ytiilgkloddflcaa
open Go.ChangeShapes Go.WideShapes Go.ChangeAt Go.RowKit
set_option linter.unusedVariables false

namespace LawFnExactHartNew
set_option maxRecDepth 100000 in
set_option maxHeartbeats 8000000 in
theorem walkG (HI : ∀ (pc : Int) (w : World), Calls Try.prog 15 #[.int .i64 pc] w (HartP [0, 0, 0, 0] (pc % 24) 0 w)) (pc : Int) (w : World) (hwf : (Lit.int .i64 pc).wf = true) :
    Calls Try.prog 4 #[.int .i64 pc] w fun e w' => e = .returned (.bool true) ∧ Below w.heap.size w w' := by
  have HI' : Hid (∀ W, Calls Try.prog 15 #[.int .i64 pc] W (HartP [0, 0, 0, 0] (pc % 24) 0 W)) := HI pc
  have HS : Hid (∀ W, Calls Try.prog 14 #[.int .i64 pc] W (HartP [0, 0, 0, 0] (pc % 24) 0 W)) := specHartNew_any pc
  clear HI hwf
  obtain ⟨pq, hpq⟩ : ∃ q, pc % 24 = q := ⟨_, rfl⟩
  obtain ⟨sq, hsq⟩ : ∃ q : Int, q = 0 := ⟨_, rfl⟩
  obtain ⟨L, hL⟩ : ∃ L : List Int, L = [0, 0, 0, 0] := ⟨_, rfl⟩
  rw [hpq, ← hL, ← hsq] at HI' HS
  have hL4 : L.length ≤ 4 := by rw [hL]; decide
  clear hpq hsq hL
  have B := Below.refl w.heap.size w
  go_enter Try.func4, Try.ntmps4
  go_wp2_with fail
  refine (HS.out _).mono ?_
  rintro e w1 ⟨aW, cW, rfl, OW, bw1⟩
  have lW : Hid (∀ j, (Value.slice aW L.length cW).ownBlock = some j → w.heap.size ≤ j ∧ j < w1.heap.size) := fun j h => by have h := OW.lt j h; (try simp at h); omega
  have hzw1 : w.heap.size ≤ w1.heap.size := by have h := bw1.size; (try simp at h); omega
  replace B := bel_trans B bw1
  clear bw1
  go_wp2_with fail
  have bx := bel_alloc (Below.refl w1.heap.size w1) (.cells #[.slice aW L.length cW, .int .i64 pq, .int .i64 sq] 27)
  have XW := Box.new w1 #[.slice aW L.length cW, .int .i64 pq, .int .i64 sq] 27
  replace OW := owns_below OW bx
  replace B := bel_trans B bx
  clear bx
  refine (HI'.out _).mono ?_
  rintro e w2 ⟨aG, cG, rfl, OG, bw2⟩
  have lG : Hid (∀ j, (Value.slice aG L.length cG).ownBlock = some j → w1.heap.size < j ∧ j < w2.heap.size) := fun j h => by have h := OG.lt j h; (try simp at h); omega
  have hzw2 : w1.heap.size < w2.heap.size := by have h := bw2.size; (try simp at h); omega
  replace XW := XW.below bw2
  replace OW := owns_below OW bw2
  replace B := bel_trans B bw2
  clear bw2
  obtain ⟨k0, k1, k2, kz⟩ := XW.at3
  go_wp2_with fail
  clear k0 k1 k2 kz
  have bx := bel_alloc (Below.refl w2.heap.size w2) (.cells #[.slice aG L.length cG, .int .i64 pq, .int .i64 sq] 27)
  have XG := Box.new w2 #[.slice aG L.length cG, .int .i64 pq, .int .i64 sq] 27
  replace XW := XW.below bx
  replace OW := owns_below OW bx
  replace OG := owns_below OG bx
  replace B := bel_trans B bx
  clear bx
  refine (eqHart_any pq sq aG aW cG cW L _ (owns_row' OG (by omega)) (owns_row' OW (by omega))).mono ?_
  rintro e w3 ⟨rfl, bw3⟩
  replace XW := XW.below bw3
  replace XG := XG.below bw3
  replace OW := owns_below OW bw3
  replace OG := owns_below OG bw3
  replace B := bel_trans B bw3
  clear bw3
  obtain ⟨y0, y1, y2, yz⟩ := XG.at3
  go_wp2_with fail
  refine (markHart_any pq sq _ L.length aG cG 1 _ _ (by omega) (by omega) (by omega) OG).mono ?_
  rintro e w4 ⟨rfl, OM, gw4⟩
  clear OG y0 y1 y2 yz
  replace XW := XW.kept gw4 (fun j hj => by have := lG.out j hj; omega)
  replace XG := XG.kept gw4 (fun j hj => by have := lG.out j hj; omega)
  replace OW := owns_ne OW gw4 (fun j hj hr => by have := lG.out j hr; have := lW.out j hj; omega)
  replace B := B.grown gw4 B.size (fun j hj => by have := lG.out j hj; omega)
  clear gw4
  have hd : decide ((1 : Int) + L.length < 0) = false := by simp; omega
  obtain ⟨y0, y1, y2, yz⟩ := XG.at3
  go_wp2_with fail
  refine (heldHart_any pq sq aG cG L.length 1 _ (by omega) (by omega) (by omega) (owns_row' OM (by rw [mki_length]; omega))).mono ?_
  rintro e w5 ⟨rfl, bw5⟩
  clear y0 y1 y2 yz
  replace XW := XW.below bw5
  replace XG := XG.below bw5
  replace OW := owns_below OW bw5
  replace OM := owns_below OM bw5
  replace B := bel_trans B bw5
  clear bw5
  go_wp2_with fail
  refine (HI'.out _).mono ?_
  rintro e w6 ⟨aH, cH, rfl, OH, bw6⟩
  replace XW := XW.below bw6
  replace XG := XG.below bw6
  replace OW := owns_below OW bw6
  replace OM := owns_below OM bw6
  replace B := bel_trans B bw6
  clear bw6
  obtain ⟨k0, k1, k2, kz⟩ := XW.at3
  go_wp2_with fail
  clear k0 k1 k2 kz
  have bx := bel_alloc (Below.refl w6.heap.size w6) (.cells #[.slice aH L.length cH, .int .i64 pq, .int .i64 sq] 27)
  have XH := Box.new w6 #[.slice aH L.length cH, .int .i64 pq, .int .i64 sq] 27
  replace XW := XW.below bx
  replace XG := XG.below bx
  replace OW := owns_below OW bx
  replace OM := owns_below OM bx
  replace OH := owns_below OH bx
  replace B := bel_trans B bx
  clear bx
  refine (eqHart_any pq sq aH aW cH cW L _ (owns_row' OH (by omega)) (owns_row' OW (by omega))).mono ?_
  rintro e w7 ⟨rfl, bw7⟩
  replace XW := XW.below bw7
  replace XG := XG.below bw7
  replace XH := XH.below bw7
  replace OW := owns_below OW bw7
  replace OM := owns_below OM bw7
  replace OH := owns_below OH bw7
  replace B := bel_trans B bw7
  clear bw7
  obtain ⟨y0, y1, y2, yz⟩ := XG.at3
  go_wp2_with fail
  refine (heldHart_any pq sq aG cG L.length 1 _ (by omega) (by omega) (by omega) (owns_row' OM (by rw [mki_length]; omega))).mono ?_
  rintro e w8 ⟨rfl, bw8⟩
  clear y0 y1 y2 yz
  replace XW := XW.below bw8
  replace XG := XG.below bw8
  replace XH := XH.below bw8
  replace OW := owns_below OW bw8
  replace OM := owns_below OM bw8
  replace OH := owns_below OH bw8
  replace B := bel_trans B bw8
  clear bw8
  clear OM OW OH XW XG XH
  go_wp2
  go_ret
  exact ⟨rfl, B⟩
end LawFnExactHartNew
end Go.Proofs.Ytiilgkloddflcaa
