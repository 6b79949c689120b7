/- What impl's Assemble answers. -/
import Derived.Test.YtfigbfddhmgafaaDoorTqa
namespace Go.Proofs.YtfigbfddhmgafaaDoor
open Go.RowKit
set_option linter.unusedVariables false

/-- The words laid so far, 0 behind. -/
def asmK (R : List (List UInt8)) (k : Nat) : List Value := ((R.take k).map rowV ++ List.replicate (24 - k) 0).map (Value.int .i64)
theorem asmK_len {R : List (List UInt8)} {k : Nat} (h : k ≤ R.length) (h24 : R.length ≤ 24) : (asmK R k).length = 24 := by
  unfold asmK
  rw [List.length_map, List.length_append, List.length_map, List.length_take, List.length_replicate]
  omega
theorem asmK_set {R : List (List UInt8)} {k : Nat} (h : k < R.length) (h24 : R.length ≤ 24) : (asmK R k).set k (.int .i64 (rowV (R.getD k []))) = asmK R (k + 1) := by
  unfold asmK
  rw [List.map_append, List.map_append, List.set_append]
  have hl : (((R.take k).map rowV).map (Value.int .i64)).length = k := by rw [List.length_map, List.length_map, List.length_take]; omega
  rw [if_neg (by rw [hl]; omega), hl, Nat.sub_self, show 24 - k = (24 - (k + 1)) + 1 by omega, List.replicate_succ, List.map_cons, List.set_cons_zero]
  rw [List.take_add_one, List.getElem?_eq_getElem h, List.getD_eq_getElem?_getD, List.getElem?_eq_getElem h]
  simp only [Option.toList_some, Option.getD_some, List.map_append, List.map_cons, List.map_nil, List.append_assoc, List.cons_append, List.nil_append]

set_option maxRecDepth 100000 in
set_option maxHeartbeats 4000000 in
theorem implAssemble_any (s : List UInt8) (w : World) (hs : s.length ≤ 1048576) : Calls Tryd.prog 13 #[txt s] w (IntsB (asmL (rowsA [] s)) (asmB (rowsA [] s)) w) := by
  have hm24 : ∀ W : World, (Instr.makeSlice 32 (.int .i64 24) (.int .i64 24)).run Tryd.prog W = .ok (.slice (some ⟨W.heap.size, 0, none⟩) 24 24) (W.alloc (.cells (madeCells #[.int .i64 0] 24) 3)) := fun W => run_make_row' (P := Tryd.prog) 32 3 (.int .i64 0) 8 Tryd.underlying32 info_i64 rfl .i64 .i64 24 (by decide) (by decide) W
  have HM : Hid (∀ r ∈ rowsA [] s, r.length ≤ 1048576) := fun r hr => by have := rowsA_mem [] s r hr; simp at this; omega
  have HLN := fun V => linesOf_any s V hs
  obtain ⟨R, hR⟩ : ∃ R, rowsA [] s = R := ⟨_, rfl⟩
  rw [hR] at HM HLN ⊢
  clear hR
  have HL : Hid (∀ V, Calls Tryd.prog 34 #[txt s] V fun e w' => ∃ a c, e = .returned (.slice a R.length c) ∧ w'.ownsRow V.heap.size 9 1 (.slice a R.length c) R.length (R.map txt) ∧ Below V.heap.size V w') := HLN
  clear HLN
  by_cases h24 : R.length ≤ 24
  · have h24i : ¬ ((24 : Int) < R.length) := by omega
    go_enter Tryd.func13, Tryd.ntmps13
    go_wp2_with fail
    refine (HL.out _).mono ?_
    rintro e w1 ⟨ar, cr, rfl, OR, B1⟩
    have HOR : Hid (w1.ownsRow w.heap.size 9 1 (.slice ar R.length cr) R.length (R.map txt)) := OR
    have HB1 : Hid (Below w.heap.size w w1) := B1
    have hz1 : w.heap.size ≤ w1.heap.size := B1.size
    have hO := owns_made w1 (.int .i64 0) w1.heap.size 24 3 (Nat.le_refl _) (by decide)
    have HO : Hid ((w1.alloc (.cells (madeCells #[.int .i64 0] 24) 3)).ownsRow w1.heap.size 3 1 (.slice (some ⟨w1.heap.size, 0, none⟩) 24 24) 24 (asmK R 0)) := by
      have e : asmK R 0 = List.replicate 24 (.int .i64 0) := by unfold asmK; rw [List.take_zero]; rfl
      rw [e]
      exact hO
    have HB2 : Hid (Below w1.heap.size w1 (w1.alloc (.cells (madeCells #[.int .i64 0] 24) 3))) := bel_alloc (Below.refl _ _) _
    clear OR B1 hO
    go_wp2
    go_loopw [18] (fun i wr => ∃ k : Nat, k ≤ R.length ∧ i = .int .i64 k ∧ (∀ j, j < k → rowOk (R.getD j []) = true) ∧ wr.ownsRow w1.heap.size 3 1 (.slice (some ⟨w1.heap.size, 0, none⟩) 24 24) 24 (asmK R k) ∧ Below w1.heap.size w1 wr) (fun i _ => R.length - (intOf i).toNat)
    case atStart => exact ⟨0, Nat.zero_le _, rfl, fun j hj => absurd hj (Nat.not_lt_zero j), HO.out, HB2.out⟩
    case round =>
      obtain ⟨k, hk, rfl, hall, O, B⟩ := hrel
      have HA : Hid (∀ j, j < k → rowOk (R.getD j []) = true) := hall
      clear hall HO HB2
      by_cases hkn : k < R.length
      · have hi : (k : Int) < (R.length : Int) := by omega
        obtain ⟨g, cap, hv, hgl, hgz⟩ := HOR.out.form (by omega)
        simp only [Value.slice.injEq, true_and] at hv
        obtain ⟨rfl, rfl⟩ := hv
        obtain ⟨rk, hrk⟩ : ∃ x, R.getD k [] = x := ⟨_, rfl⟩
        have hrm : rk ∈ R := by
          rw [← hrk, List.getD_eq_getElem?_getD, List.getElem?_eq_getElem hkn]
          exact List.getElem_mem _
        have q0 : wr.cell? ⟨g, k, none⟩ = some (txt rk) := by
          rw [(owns_below HOR.out B).cellAt k (by omega), List.getElem?_map, List.getElem?_eq_getElem hkn, ← hrk]
          simp [List.getD_eq_getElem?_getD, List.getElem?_eq_getElem hkn]
        have hlr := HM.out rk hrm
        have HRK : Hid (R.getD k [] = rk) := hrk
        clear hrm hgz hrk
        cases hz : wdB rk
        · have HW : Hid (∀ V, Calls Tryd.prog 35 #[txt rk] V fun e w' => e = .returned (.tuple #[.int .i64 (wdV rk), .bool false]) ∧ Below V.heap.size V w') := fun V => by
            have h := wordRead_any rk V hlr
            rw [hz] at h
            exact h
          have HBD : Hid (asmB R = false ∧ asmL R = []) := by
            have e : asmB R = false := asm_bad hkn (.inl (by rw [HRK.out]; exact hz))
            exact ⟨e, by unfold asmL; rw [e]; rfl⟩
          clear hz O
          go_wp2_with fail
          refine (HW.out _).mono ?_
          rintro e w2 ⟨rfl, b2⟩
          replace B := bel_trans B b2
          clear b2 q0
          go_wp2
          go_ret2
          rw [HBD.out.1, HBD.out.2]
          exact ⟨none, 0, rfl, World.ownsRow_nil _ _ _ _, bel_trans HB1.out B⟩
        · obtain ⟨v, hv⟩ : ∃ x, rowV rk = x := ⟨_, rfl⟩
          have HW : Hid (∀ V, Calls Tryd.prog 35 #[txt rk] V fun e w' => e = .returned (.tuple #[.int .i64 v, .bool true]) ∧ Below V.heap.size V w') := fun V => by
            have h := wordRead_any rk V hlr
            have e : wdV rk = rowV rk := by unfold wdV; rw [hz]; rfl
            rw [e, hz, hv] at h
            exact h
          have HT : Hid (∀ j, j < k + 1 → rowOk (R.getD j []) = true) := fun j hj => by
            by_cases e : j = k
            · subst e; rw [HRK.out]; exact hz
            · exact HA.out j (by omega)
          have HSET : Hid ((asmK R k).set k (.int .i64 v) = asmK R (k + 1)) := by
            have h := asmK_set hkn h24
            rw [HRK.out, hv] at h
            exact h
          have hk24 : (k : Int) < 24 := by omega
          clear hz hv
          go_wp2_with fail
          refine (HW.out _).mono ?_
          rintro e w2 ⟨rfl, b2⟩
          replace O := owns_below O b2
          replace B := bel_trans B b2
          clear b2 q0
          have cc := O.cellAt k (by omega)
          have hlk : k < (asmK R k).length := by rw [asmK_len (by omega) h24]; omega
          rw [List.getElem?_eq_getElem hlk] at cc
          obtain ⟨v0, hv0⟩ : ∃ x, (asmK R k)[k] = x := ⟨_, rfl⟩
          rw [hv0] at cc
          have fc := O.frozenAt k
          have O2 := (O.stored k (.int .i64 v)).1
          rw [HSET.out] at O2
          have B2 := bel_setCell B ⟨w1.heap.size, k, none⟩ (.int .i64 v) (Nat.le_refl _)
          clear hlk hv0 O B
          go_wp2
          go_roundw
          case rel => exact ⟨k + 1, by omega, by go_num, HT.out, O2, B2⟩
          case measure => simp [intOf]; omega
      · have hkk : k = R.length := by omega
        have HK : Hid (asmB R = true ∧ asmL R = R.map rowV ++ List.replicate (24 - k) 0) := by
          have e : asmB R = true := asm_ok (fun j hj => HA.out j (by omega)) h24
          exact ⟨e, by unfold asmL; rw [e, hkk]; rfl⟩
        have HO3 : Hid (wr.ownsRow w.heap.size 3 1 (.slice (some ⟨w1.heap.size, 0, none⟩) 24 24) 24 ((R.map rowV ++ List.replicate (24 - k) 0).map (Value.int .i64))) := by
          have h := owns_base O hz1
          unfold asmK at h
          rw [List.take_of_length_le (by omega)] at h
          exact h
        have HLL : Hid ((R.map rowV ++ List.replicate (24 - k) (0 : Int)).length = 24) := by show _ = _; rw [List.length_append, List.length_map, List.length_replicate]; omega
        clear hkk O HA
        go_wp2
        go_ret2
        rw [HK.out.1, HK.out.2]
        refine ⟨some ⟨w1.heap.size, 0, none⟩, 24, ?_, ?_, bel_trans HB1.out B⟩
        · rw [HLL.out]; rfl
        · rw [HLL.out]; exact HO3.out
  · have h24i : (24 : Int) < R.length := by omega
    have HBD : Hid (asmB R = false ∧ asmL R = []) := by
      have e : asmB R = false := by unfold asmB; simp [h24]
      exact ⟨e, by unfold asmL; rw [e]; rfl⟩
    clear hm24
    go_enter Tryd.func13, Tryd.ntmps13
    go_wp2_with fail
    refine (HL.out _).mono ?_
    rintro e w1 ⟨ar, cr, rfl, OR, B1⟩
    clear OR
    go_wp2
    go_ret2
    rw [HBD.out.1, HBD.out.2]
    exact ⟨none, 0, rfl, World.ownsRow_nil _ _ _ _, B1⟩
end Go.Proofs.YtfigbfddhmgafaaDoor
