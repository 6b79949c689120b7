/- The law FnExactAssemble over any impl.Assemble that answers as it should. -/
import Derived.Test.YtfigbfddhmgafaaDoorTx9
import Derived.Test.YtfigbfddhmgafaaDoorOpen
namespace Go.Proofs.YtfigbfddhmgafaaDoor
open Go.ChangeShapes Go.WideShapes Go.ChangeAt Go.RowKit
set_option linter.unusedVariables false

namespace LawFnExactAssemble
theorem bel_dr {w w' : World} (h : ∃ n, w' = w.drewN n) : Below w.heap.size w w' := by obtain ⟨n, rfl⟩ := h; exact below_drewN (Below.refl _ _) n
theorem bel_eq {w w' : World} (h : w' = w) : Below w.heap.size w w' := by rw [h]; exact Below.refl _ _

set_option maxRecDepth 100000 in
set_option maxHeartbeats 4000000 in
theorem walkG (HI : ∀ (s : List UInt8) (w : World), s.length ≤ 1048576 → Calls Tryd.prog 13 #[txt s] w (IntsB (asmL (rowsA [] s)) (asmB (rowsA [] s)) w)) (s : List UInt8) (w : World) (hm : s.length ≤ maxLen) :
    Calls Tryd.prog 5 #[txt s] w fun e w' => e = .returned (.bool true) ∧ Below w.heap.size w w' := by
  have hsz : (⟨s.toArray⟩ : ByteArray).size = s.length := by simp [ByteArray.size]
  by_cases hl : 1048576 < s.length
  · have hl2 : (1048576 : Int) < s.length := by omega
    clear HI
    go_enter Tryd.func5, Tryd.ntmps5
    go_wp2
    go_ret
    exact ⟨rfl, Below.refl _ _⟩
  · have hl2 : ¬ (1048576 : Int) < s.length := by omega
    have HI' : Hid (∀ W, Calls Tryd.prog 13 #[txt s] W (IntsB (asmL (rowsA [] s)) (asmB (rowsA [] s)) W)) := fun W => HI s W (by omega)
    have HS : Hid (∀ W, Calls Tryd.prog 12 #[txt s] W (IntsB (asmL (rowsA [] s)) (asmB (rowsA [] s)) W)) := fun W => specAssemble_any s W (by omega)
    have hL := asmL_len (rowsA [] s)
    generalize asmL (rowsA [] s) = L at HI' HS hL
    generalize asmB (rowsA [] s) = z at HI' HS
    clear HI
    go_enter Tryd.func5, Tryd.ntmps5
    go_wp2_with fail
    refine (HS.out _).mono ?_
    rintro e w1 ⟨aW, cW, rfl, OW, B⟩
    have lW : Hid (∀ b, (Value.slice aW L.length cW).ownBlock = some b → b < w1.heap.size) := fun b hb => (OW.lt b hb).2
    clear HS
    go_wp2_with fail
    refine (HI'.out _).mono ?_
    rintro e w2 ⟨aG, cG, rfl, OG, b2⟩
    have lG : Hid (∀ b, (Value.slice aG L.length cG).ownBlock = some b → w1.heap.size ≤ b) := fun b hb => (OG.lt b hb).1
    have hz1 : w.heap.size ≤ w1.heap.size := B.size
    replace OW := owns_below OW b2
    replace B := bel_trans B b2
    clear b2
    go_wp2_with fail
    refine (eqIntS_any aG aW cG cW L _ (owns_row' OG (by omega)) (owns_row' OW (by omega))).mono ?_
    rintro e w3 ⟨rfl, b3⟩
    replace b3 := bel_dr b3
    replace OW := owns_below OW b3
    replace OG := owns_below OG b3
    replace B := bel_trans B b3
    clear b3
    go_wp2_with fail
    refine (markIntS_any _ L.length _ 1 _ _ (by omega) (by omega) (by omega) OG).mono ?_
    rintro e w4 ⟨rfl, OM, g4⟩
    have k4 := (Only.refl _ (fun b => (Value.slice aG L.length cG).ownBlock = some b)).grown g4 (fun j hj => hj)
    replace OW := owns_only OW k4 (fun b h1 h2 => by have := lW.out b h1; have := lG.out b h2; omega)
    replace B := k4.bel B (fun b h2 => by have := lG.out b h2; omega)
    obtain ⟨KK, hKK⟩ : ∃ K, (1 : Int) + (L.length : Int) = K := ⟨_, rfl⟩
    have HKK : Hid ((1 : Int) + (L.length : Int) = KK) := hKK
    have hk5 : decide (KK < 0) = false := by simp; omega
    rw [hKK]
    clear hKK g4 k4 OG
    go_wp2_with fail
    refine (heldIntS_any aG cG L.length 1 _ (by omega) (by omega) (owns_row' OM (by rw [mki_length]; omega))).mono ?_
    rintro e w5 ⟨rfl, hq⟩
    rw [HKK.out]
    have bc := bel_eq hq
    clear hq
    replace OW := owns_below OW bc
    replace OM := owns_below OM bc
    replace B := bel_trans B bc
    clear bc
    go_wp2_with fail
    refine (HI'.out _).mono ?_
    rintro e w6 ⟨aH, cH, rfl, OH, b6⟩
    replace OW := owns_below OW b6
    replace OM := owns_below OM b6
    replace B := bel_trans B b6
    clear b6 HI'
    go_wp2_with fail
    refine (eqIntS_any aH aW cH cW L _ (owns_row' OH (by omega)) (owns_row' OW (by omega))).mono ?_
    rintro e w7 ⟨rfl, b7⟩
    replace b7 := bel_dr b7
    replace OM := owns_below OM b7
    replace B := bel_trans B b7
    clear b7 OH OW
    go_wp2_with fail
    refine (heldIntS_any aG cG L.length 1 _ (by omega) (by omega) (owns_row' OM (by rw [mki_length]; omega))).mono ?_
    rintro e w8 ⟨rfl, hq⟩
    rw [HKK.out]
    have bg := bel_eq hq
    clear hq
    replace B := bel_trans B bg
    clear bg OM
    go_wp2
    go_ret
    exact ⟨rfl, B⟩
end LawFnExactAssemble
end Go.Proofs.YtfigbfddhmgafaaDoor
