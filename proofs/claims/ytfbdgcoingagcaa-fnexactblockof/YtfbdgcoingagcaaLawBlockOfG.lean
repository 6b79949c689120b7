/- The law FnExactBlockOf over any impl.BlockOf that answers as it should (written by mk10b.py). -/
import Derived.Test.YtfbdgcoingagcaaBk5
import Derived.Test.YtfbdgcoingagcaaOpen
namespace Go.Proofs.Ytfbdgcoingagcaa
open Go.ChangeShapes Go.WideShapes Go.ChangeAt Go.RowKit
set_option linter.unusedVariables false

namespace LawFnExactBlockOf
set_option maxRecDepth 100000 in
set_option maxHeartbeats 8000000 in
theorem walkG (HI : ∀ (p : Option Addr) (c : Nat) (xs : List Int) (st : Int) (w : World), Row .i64 w p xs → Calls Try.prog 10 #[.slice p xs.length c, .int .i64 st] w (BlkP xs st w))
    (q : Option Addr) (cq : Nat) (xs : List Int) (st : Int) (w : World) (hc : Came .i64 w q cq xs) (hwf : (Lit.int .i64 st).wf = true) :
    Calls Try.prog 4 #[.slice q xs.length cq, .int .i64 st] w fun e w' => e = .returned (.bool true) ∧ Below w.heap.size w w' := by
  by_cases hl : 1048576 < xs.length
  · have hn : xs.length ≤ maxLen := Nat.le_trans hc.1 hc.2.1
    unfold maxLen at hn
    have hl' : (1048576 : Int) < (xs.length : Int) := by omega
    clear hc HI
    go_enter Try.func4, Try.ntmps4
    go_wp2
    go_ret
    exact ⟨rfl, Below.refl _ _⟩
  · have hsm : xs.length ≤ 1048576 := by omega
    have HR : Hid (Row .i64 w q xs) := hc.row (by omega)
    have HI' : Hid (∀ (p : Option Addr) (c : Nat) (W : World), Row .i64 W p xs → Calls Try.prog 10 #[.slice p xs.length c, .int .i64 st] W (BlkP xs st W)) := fun p c W h => HI p c xs st W h
    have HS : Hid (∀ (p : Option Addr) (c : Nat) (W : World), Row .i64 W p xs → Calls Try.prog 11 #[.slice p xs.length c, .int .i64 st] W (BlkP xs st W)) := fun p c W h => specBlockOf_any p c xs st W h
    have hN := ofN_le xs st
    unfold BlkP at HI' HS
    obtain ⟨N, eN⟩ : ∃ N, ofN xs st = N := ⟨_, rfl⟩
    obtain ⟨S, eS⟩ : ∃ S, ofS xs st = S := ⟨_, rfl⟩
    obtain ⟨D, eD⟩ : ∃ D, ofD xs st = D := ⟨_, rfl⟩
    rw [eN] at hN
    rw [eN, eS, eD] at HI' HS
    clear HI hc hl eN eS eD
    have B := Below.refl w.heap.size w
    go_enter Try.func4, Try.ntmps4
    go_wp2_with fail
    refine (toIntS_any q cq xs _ hsm (HR.out.below B)).mono ?_
    rintro e w1 ⟨vw1, rfl, o1, bw1⟩
    obtain ⟨a1, c1, rfl⟩ := owns_slice o1
    have q1 := owns_row' o1 (by omega)
    replace B := bel_trans B bw1
    clear bw1
    go_wp2_with fail
    refine (HS.out a1 c1 _ q1).mono ?_
    rintro e w2 ⟨aW, cW, rfl, OW, bw2⟩
    have lW : Hid (∀ j, (Value.slice aW N cW).ownBlock = some j → j < w2.heap.size) := fun j h => (World.ownsRow.lt OW j h).2
    clear o1 q1
    replace B := bel_trans B bw2
    clear bw2
    have zw : w.heap.size ≤ w2.heap.size := B.size
    go_wp2_with fail
    have bx := bel_alloc (Below.refl w2.heap.size w2) (.cells #[.int .i64 S, .slice aW N cW] 29)
    have XW := Box.new w2 #[.int .i64 S, .slice aW N cW] 29
    replace OW := OW.below bx
    replace B := bel_trans B bx
    clear bx
    refine (toIntS_any q cq xs _ hsm (HR.out.below B)).mono ?_
    rintro e w3 ⟨vw3, rfl, OX, bw3⟩
    obtain ⟨aX, cX, rfl⟩ := owns_slice OX
    have lX : Hid (∀ j, (Value.slice aX xs.length cX).ownBlock = some j → w2.heap.size < j ∧ j < w3.heap.size) := fun j h => by have h := World.ownsRow.lt OX j h; (try simp at h); omega
    have z3 : w2.heap.size < w3.heap.size := by have h := bw3.size; (try simp at h); omega
    have hzz : True := trivial
    replace XW := XW.below bw3
    replace OW := OW.below bw3
    replace B := bel_trans B bw3
    clear bw3
    go_wp2_with fail
    have qX := owns_row' OX (by omega)
    refine (HI'.out aX cX _ qX).mono ?_
    rintro e w4 ⟨aG, cG, rfl, OG, bw4⟩
    have lG : Hid (∀ j, (Value.slice aG N cG).ownBlock = some j → w3.heap.size ≤ j ∧ j < w4.heap.size) := fun j h => World.ownsRow.lt OG j h
    have z4 : w3.heap.size ≤ w4.heap.size := bw4.size
    clear qX
    replace XW := XW.below bw4
    replace OW := OW.below bw4
    replace OX := owns_below OX bw4
    replace B := bel_trans B bw4
    clear bw4
    obtain ⟨XW_0, XW_1, XW_z⟩ := XW.at2
    go_wp2_with fail
    clear XW_0 XW_1 XW_z
    have bx := bel_alloc (Below.refl w4.heap.size w4) (.cells #[.int .i64 S, .slice aG N cG] 29)
    have XG := Box.new w4 #[.int .i64 S, .slice aG N cG] 29
    replace XW := XW.below bx
    replace OW := OW.below bx
    replace OG := OG.below bx
    replace OX := owns_below OX bx
    replace B := bel_trans B bx
    clear bx
    refine (eqBlock_any S aG aW cG cW N D _ (OG.ir (by omega)) (OW.ir (by omega))).mono ?_
    rintro e w5 ⟨rfl, bw5⟩
    replace XW := XW.below bw5
    replace XG := XG.below bw5
    replace OW := OW.below bw5
    replace OG := OG.below bw5
    replace OX := owns_below OX bw5
    replace B := bel_trans B bw5
    clear bw5
    go_wp2_with fail
    refine (toIntS_any q cq xs _ hsm (HR.out.below B)).mono ?_
    rintro e w6 ⟨vw6, rfl, o6, bw6⟩
    obtain ⟨a6, c6, rfl⟩ := owns_slice o6
    replace XW := XW.below bw6
    replace XG := XG.below bw6
    replace OW := OW.below bw6
    replace OG := OG.below bw6
    replace OX := owns_below OX bw6
    replace B := bel_trans B bw6
    clear bw6
    go_wp2_with fail
    have qX := owns_row' OX (by omega)
    have q6 := owns_row' o6 (by omega)
    refine (eqIntS_any aX a6 cX c6 xs _ qX q6).mono ?_
    rintro e w7 ⟨rfl, d7, e7⟩
    have bw7 : Below w6.heap.size w6 w7 := bel_dr e7 (Below.refl _ _)
    clear qX q6 o6 e7
    replace XW := XW.below bw7
    replace XG := XG.below bw7
    replace OW := OW.below bw7
    replace OG := OG.below bw7
    replace OX := owns_below OX bw7
    replace B := bel_trans B bw7
    clear bw7
    go_wp2_with fail
    refine (markIntS_any _ xs.length _ 1 _ _ (by omega) (by omega) (by omega) OX).mono ?_
    rintro e w8 ⟨rfl, oM, g8⟩
    clear OX oM
    replace XW := XW.kept g8 (fun j hj => by have := lX.out j hj; omega)
    replace XG := XG.kept g8 (fun j hj => by have := lX.out j hj; omega)
    replace OW : IOw _ _ aW cW N D := owns_ne OW g8 (fun j hj hr => by have := lX.out j hr; have := lW.out j hj; omega)
    replace OG : IOw _ _ aG cG N D := owns_ne OG g8 (fun j hj hr => by have := lX.out j hr; have := lG.out j hj; omega)
    replace B := B.grown g8 B.size (fun j hj => by have := lX.out j hj; omega)
    clear g8
    have hd : decide ((1 : Int) + xs.length < 0) = false := by simp; omega
    obtain ⟨XW_0, XW_1, XW_z⟩ := XW.at2
    obtain ⟨XG_0, XG_1, XG_z⟩ := XG.at2
    go_wp2_with fail
    clear XW_0 XW_1 XW_z XG_0 XG_1 XG_z
    refine (eqBlock_any S aG aW cG cW N D _ (OG.ir (by omega)) (OW.ir (by omega))).mono ?_
    rintro e w9 ⟨rfl, bw9⟩
    replace XW := XW.below bw9
    replace XG := XG.below bw9
    replace OW := OW.below bw9
    replace OG := OG.below bw9
    replace B := bel_trans B bw9
    clear bw9
    obtain ⟨XG_0, XG_1, XG_z⟩ := XG.at2
    go_wp2_with fail
    clear XG_0 XG_1 XG_z
    refine (markBlock_any S _ N aG cG D 1 _ (by omega) (by omega) (by omega) OG).mono ?_
    rintro e w10 ⟨rfl, OM, k10⟩
    clear OG
    have kG : ∀ b, blk (aG, cG) = some b → w3.heap.size ≤ b ∧ b < w4.heap.size := fun b hb => lG.out b (blk_own (p := (aG, cG)) hb)
    replace XW := XW.only k10 (fun e => by have := kG _ e; omega)
    replace XG := XG.only k10 (fun e => by have := kG _ e; omega)
    replace OW : IOw _ _ aW cW N D := owns_sm OW (k10.sm (P := fun b => (Value.slice aW N cW).ownBlock = some b) (fun b h1 h2 => by have := lW.out b h1; have := kG b h2; omega)) (fun j hj => hj)
    replace B := k10.bel B (fun b hb => by have := kG b hb; omega)
    clear k10 kG
    have hd2 : decide ((1 : Int) + 5 * (N : Int) < 0) = false := by simp; omega
    obtain ⟨XG_0, XG_1, XG_z⟩ := XG.at2
    go_wp2_with fail
    clear XG_0 XG_1 XG_z
    refine (heldBlock_any S aG cG N 1 _ (by omega) (by omega) (OM.ir (by omega))).mono ?_
    rintro e w11 ⟨rfl, bw11⟩
    replace XW := XW.below bw11
    replace XG := XG.below bw11
    replace OW := OW.below bw11
    replace OM := OM.below bw11
    replace B := bel_trans B bw11
    clear bw11
    go_wp2_with fail
    refine (toIntS_any q cq xs _ hsm (HR.out.below B)).mono ?_
    rintro e w12 ⟨vw12, rfl, o12, bw12⟩
    obtain ⟨a12, c12, rfl⟩ := owns_slice o12
    have q12 := owns_row' o12 (by omega)
    replace XW := XW.below bw12
    replace XG := XG.below bw12
    replace OW := OW.below bw12
    replace OM := OM.below bw12
    replace B := bel_trans B bw12
    clear bw12
    go_wp2_with fail
    refine (HI'.out a12 c12 _ q12).mono ?_
    rintro e w13 ⟨aH, cH, rfl, OH, bw13⟩
    clear o12 q12
    replace XW := XW.below bw13
    replace XG := XG.below bw13
    replace OW := OW.below bw13
    replace OM := OM.below bw13
    replace B := bel_trans B bw13
    clear bw13
    obtain ⟨XW_0, XW_1, XW_z⟩ := XW.at2
    go_wp2_with fail
    clear XW_0 XW_1 XW_z
    have bx := bel_alloc (Below.refl w13.heap.size w13) (.cells #[.int .i64 S, .slice aH N cH] 29)
    have XH := Box.new w13 #[.int .i64 S, .slice aH N cH] 29
    replace XW := XW.below bx
    replace XG := XG.below bx
    replace OW := OW.below bx
    replace OM := OM.below bx
    replace OH := OH.below bx
    replace B := bel_trans B bx
    clear bx
    refine (eqBlock_any S aH aW cH cW N D _ (OH.ir (by omega)) (OW.ir (by omega))).mono ?_
    rintro e w14 ⟨rfl, bw14⟩
    replace XW := XW.below bw14
    replace XG := XG.below bw14
    replace XH := XH.below bw14
    replace OW := OW.below bw14
    replace OM := OM.below bw14
    replace OH := OH.below bw14
    replace B := bel_trans B bw14
    clear bw14
    obtain ⟨XG_0, XG_1, XG_z⟩ := XG.at2
    go_wp2_with fail
    clear XG_0 XG_1 XG_z
    refine (heldBlock_any S aG cG N 1 _ (by omega) (by omega) (OM.ir (by omega))).mono ?_
    rintro e w15 ⟨rfl, bw15⟩
    replace XW := XW.below bw15
    replace XG := XG.below bw15
    replace XH := XH.below bw15
    replace OW := OW.below bw15
    replace OM := OM.below bw15
    replace OH := OH.below bw15
    replace B := bel_trans B bw15
    clear bw15
    clear OW OM OH XW XG XH
    go_wp2
    go_ret
    exact ⟨rfl, B⟩
end LawFnExactBlockOf
end Go.Proofs.Ytfbdgcoingagcaa
