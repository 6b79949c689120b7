/- What the specification's Assemble answers. -/
import Derived.Test.YtfigbfddhmgafaaDoorTx6
import Derived.Test.YtfigbfddhmgafaaDoorTx7
namespace Go.Proofs.YtfigbfddhmgafaaDoor
open Go.RowKit
set_option linter.unusedVariables false

/-- The word that a line says. -/
def rowV (r : List UInt8) : Int := if rdB r then (if insB (rdO r) (rdN r 0) (rdN r 1) (rdN r 2) (rdN r 3) then codeW (rdO r) (rdN r 0) (rdN r 1) (rdN r 2) (rdN r 3) else 0) else numV r
def rowOk (r : List UInt8) : Bool := inB (rowV r) 0 65535
def asmB (R : List (List UInt8)) : Bool := R.all rowOk && decide (R.length ≤ 24)
def asmL (R : List (List UInt8)) : List Int := if asmB R then R.map rowV ++ List.replicate (24 - R.length) 0 else []
theorem rowsA_len (cur s : List UInt8) : (rowsA cur s).length ≤ s.length + 1 := by
  induction s generalizing cur with
  | nil => unfold rowsA; split <;> simp
  | cons c t ih =>
    unfold rowsA
    split
    · have := ih []; simp; omega
    · have := ih (cur ++ [c]); simp; omega
theorem rowsA_mem (cur s : List UInt8) : ∀ r ∈ rowsA cur s, r.length ≤ cur.length + s.length := by
  induction s generalizing cur with
  | nil =>
    intro r hr
    unfold rowsA at hr
    split at hr
    · simp at hr
    · simp at hr; subst hr; simp
  | cons c t ih =>
    intro r hr
    unfold rowsA at hr
    split at hr
    · rw [List.mem_cons] at hr
      rcases hr with rfl | hr
      · simp
      · have := ih [] r hr; simp at this ⊢; omega
    · have := ih (cur ++ [c]) r hr; simp at this ⊢; omega
def lenV : Value → Nat
  | .slice _ n _ => n
  | _ => 0
theorem lenV_slice (a : Option Addr) (n c : Nat) : lenV (.slice a n c) = n := rfl
theorem asm_bad {R : List (List UInt8)} {k : Nat} (hk : k < R.length) (h : rowOk (R.getD k []) = false ∨ k = 24) : asmB R = false := by
  unfold asmB
  rcases h with h | h
  · have : R.all rowOk = false := by
      rw [List.all_eq_false]
      refine ⟨R.getD k [], ?_, by rw [h]; simp⟩
      rw [List.getD_eq_getElem?_getD, List.getElem?_eq_getElem hk]
      exact List.getElem_mem _
    rw [this]; rfl
  · have : ¬ R.length ≤ 24 := by omega
    simp [this]
theorem asm_ok {R : List (List UInt8)} (h : ∀ j, j < R.length → rowOk (R.getD j []) = true) (hl : R.length ≤ 24) : asmB R = true := by
  unfold asmB
  have : R.all rowOk = true := by
    rw [List.all_eq_true]
    intro r hr
    obtain ⟨i, hi, rfl⟩ := List.getElem_of_mem hr
    have := h i hi
    simpa [List.getD_eq_getElem?_getD, List.getElem?_eq_getElem hi] using this
  rw [this]
  simpa using hl

set_option maxRecDepth 100000 in
set_option maxHeartbeats 8000000 in
theorem specAssemble_any (s : List UInt8) (w : World) (hs : s.length ≤ 1048576) : Calls Tryd.prog 12 #[txt s] w fun e w' => ∃ a c, e = .returned (.tuple #[.slice a (asmL (rowsA [] s)).length c, .bool (asmB (rowsA [] s))]) ∧ w'.ownsRow w.heap.size 3 1 (.slice a (asmL (rowsA [] s)).length c) (asmL (rowsA [] s)).length ((asmL (rowsA [] s)).map (Value.int .i64)) ∧ Below w.heap.size w w' := by
  obtain ⟨i1, hi1, hz10, hz11, hz12⟩ := info_parts info_i64
  go_enter Tryd.func12, Tryd.ntmps12
  go_wp2_with fail
  refine (l16Rows_any s _ hs).mono ?_
  rintro e w1 ⟨ar, cr, rfl, OR, B1⟩
  have HM : Hid (∀ r ∈ rowsA [] s, r.length ≤ 1048576) := fun r hr => by have := rowsA_mem [] s r hr; simp at this; omega
  have hl : (rowsA [] s).length ≤ 1048577 := by have := rowsA_len [] s; omega
  obtain ⟨R, hR⟩ : ∃ R, rowsA [] s = R := ⟨_, rfl⟩
  have HR0 : Hid (rowsA [] s = R) := hR
  rw [hR] at OR HM hl ⊢
  clear hR
  have HOR : Hid (w1.ownsRow w.heap.size 9 1 (.slice ar R.length cr) R.length (R.map txt)) := OR
  have HB1 : Hid (Below w.heap.size w w1) := B1
  have HO : Hid ((w1.alloc (.cells #[] 3)).ownsRow w1.heap.size 3 1 (.slice (some ⟨w1.heap.size, 0, none⟩) 0 0) 0 (((R.take 0).map rowV).map (Value.int .i64))) := own_litE w1 3 1 w1.heap.size (by simp)
  have HB2 : Hid (Below w1.heap.size w1 (w1.alloc (.cells #[] 3))) := bel_alloc (Below.refl _ _) _
  have hz1 : w.heap.size ≤ w1.heap.size := B1.size
  clear OR B1
  go_wp2
  go_loopw [5, 6] (fun v i wr => ∃ k : Nat, k ≤ R.length ∧ k ≤ 24 ∧ i = .int .i64 k ∧ (∀ j, j < k → rowOk (R.getD j []) = true) ∧ ∃ a c, v = .slice a k c ∧ wr.ownsRow w1.heap.size 3 1 (.slice a k c) k (((R.take k).map rowV).map (Value.int .i64)) ∧ Below w1.heap.size w1 wr) (fun _ i _ => R.length - (intOf i).toNat)
  case atStart => exact ⟨0, Nat.zero_le _, by omega, rfl, fun j hj => absurd hj (Nat.not_lt_zero j), _, _, rfl, HO.out, HB2.out⟩
  case round =>
    obtain ⟨k, hk, hk24, rfl, hall, a, c, rfl, O, B⟩ := hrel
    have HA : Hid (∀ j, j < k → rowOk (R.getD j []) = true) := hall
    obtain ⟨L, hL⟩ : ∃ L, ((R.take k).map rowV).map (Value.int .i64) = L := ⟨_, rfl⟩
    have HL : Hid (((R.take k).map rowV).map (Value.int .i64) = L) := hL
    rw [hL] at O
    clear hall HO HB2 hL
    by_cases hkn : k < R.length
    · have hi : (k : Int) < (R.length : Int) := by omega
      obtain ⟨g, cap, hv, hgl, hgz⟩ := HOR.out.form (by omega)
      simp only [Value.slice.injEq, true_and] at hv
      obtain ⟨rfl, rfl⟩ := hv
      obtain ⟨rk, hrk⟩ : ∃ x, R.getD k [] = x := ⟨_, rfl⟩
      have hrm : rk ∈ R := by
        rw [← hrk, List.getD_eq_getElem?_getD, List.getElem?_eq_getElem hkn]
        exact List.getElem_mem _
      have cr0 : ∀ W, Below w1.heap.size w1 W → W.cell? ⟨g, k, none⟩ = some (txt rk) := fun W b => by
        rw [(owns_below HOR.out b).cellAt k (by omega), List.getElem?_map, List.getElem?_eq_getElem hkn, ← hrk]
        simp [List.getD_eq_getElem?_getD, List.getElem?_eq_getElem hkn]
      have HCR : Hid (∀ W, Below w1.heap.size w1 W → W.cell? ⟨g, k, none⟩ = some (txt rk)) := cr0
      have hlr := HM.out rk hrm
      have q0 := HCR.out _ B
      clear cr0 hrm
      go_wp2_with fail
      refine (specInsRead_any rk _ hlr).mono ?_
      rintro e w2 ⟨rfl, b2⟩
      replace O := owns_below O b2
      replace B := bel_trans B b2
      clear b2 q0
      cases hz : rdB rk
      · have hvz : rdV rk = icells 0 0 0 0 0 := by unfold rdV; rw [hz]; rfl
        have hrv : rowV rk = numV rk := by unfold rowV; rw [hz]; rfl
        rw [hvz]
        have bx := bel_alloc (Below.refl w2.heap.size w2) (.cells (icells 0 0 0 0 0) 25)
        replace O := owns_below O bx
        replace B := bel_trans B bx
        have q1 := HCR.out _ B
        clear hvz bx
        go_wp2_with fail
        refine (l16Num_any rk _).mono ?_
        rintro e w3 ⟨rfl, b3⟩
        replace O := owns_below O b3
        replace B := bel_trans B b3
        clear b3 q1 hz
        obtain ⟨v, hv⟩ : ∃ x, rowV rk = x := ⟨_, rfl⟩
        have HV : Hid (rowV rk = v) := hv
        rw [← hrv, hv]
        clear hv
        cases hok : inB v 0 65535
        · have HBD : Hid (asmB R = false ∧ asmL R = []) := by
            have e : asmB R = false := asm_bad hkn (.inl (by rw [hrk]; unfold rowOk; rw [HV.out]; exact hok))
            exact ⟨e, by unfold asmL; rw [e]; rfl⟩
          go_wp2_with fail
          refine (specIn_8 v 0 65535 _).mono ?_
          rintro e w9 ⟨rfl, h9⟩
          replace h9 := h9.symm
          subst h9
          rw [hok]
          clear O
          go_wp2
          go_ret2
          rw [HR0.out, HBD.out.1, HBD.out.2]
          exact ⟨_, _, rfl, own_litE w3 3 1 w.heap.size (by have := B.size; omega), bel_alloc (bel_trans HB1.out B) _⟩
        · by_cases h24 : k = 24
          · have HBD : Hid (asmB R = false ∧ asmL R = []) := by
              have e : asmB R = false := asm_bad hkn (.inr h24)
              exact ⟨e, by unfold asmL; rw [e]; rfl⟩
            have e24 : ((k : Int) == 24) = true := by simp; omega
            go_wp2_with fail
            refine (specIn_8 v 0 65535 _).mono ?_
            rintro e w9 ⟨rfl, h9⟩
            replace h9 := h9.symm
            subst h9
            rw [hok]
            clear O
            go_wp2
            go_ret2
            rw [HR0.out, HBD.out.1, HBD.out.2]
            exact ⟨_, _, rfl, own_litE w3 3 1 w.heap.size (by have := B.size; omega), bel_alloc (bel_trans HB1.out B) _⟩
          · have e24 : ((k : Int) == 24) = false := by simp; omega
            go_wp2_with fail
            refine (specIn_8 v 0 65535 _).mono ?_
            rintro e w9 ⟨rfl, h9⟩
            replace h9 := h9.symm
            subst h9
            rw [hok]
            have XA := Box.new w3 #[.int .i64 v] 3
            have O2 := owns_below O (bel_alloc (Below.refl w3.heap.size w3) (.cells #[.int .i64 v] 3))
            have B2 := bel_alloc B (.cells #[.int .i64 v] 3)
            have hnew : Hid (∀ j x, [Value.int .i64 v][j]? = some x → ∃ b off, (some ⟨w3.heap.size, 0, none⟩ : Option Addr) = some ⟨b, off, none⟩ ∧ (w3.alloc (.cells #[.int .i64 v] 3)).cell? ⟨b, off + j, none⟩ = some x) := fun j x hx => by
              match j, hx with
              | 0, hx =>
                simp at hx
                subst hx
                exact ⟨_, _, rfl, XA.cell 0⟩
              | j + 1, hx => simp at hx
            clear XA O B
            go_wp2_with (at_builtin; refine wpList_append_rowYtfigbfddhmgafaaDoor rfl (.tmp 47) (.tmp 49) 32 rfl w1.heap.size 3 i1 (.int .i64 0) 1 8 Tryd.underlying32 hi1 hz10 hz11 hz12 rfl (by decide) (.slice a k c) k L (by rfl) O2 (some ⟨w3.heap.size, 0, none⟩) 1 1 [Value.int .i64 v] (by rfl) rfl hnew.out (by intro x hx; simp at hx; subst hx; rfl) (by unfold maxLen; omega) (by omega) B2.size ?_)
            intro v1 w5 o5 g5
            have hlt : Hid (∀ j, (Value.slice a k c).ownBlock = some j → w1.heap.size ≤ j) := fun j h => (O2.lt j h).1
            replace B2 := B2.grown g5 B2.size (fun j hj => by have := hlt.out j hj; omega)
            obtain ⟨a5, c5, rfl⟩ := owns_slice o5
            have HO5 : Hid (w5.ownsRow w1.heap.size 3 1 (.slice a5 (k + 1) c5) (k + 1) (((R.take (k + 1)).map rowV).map (Value.int .i64))) := by
              have h := o5
              rw [show L ++ [Value.int .i64 v] = ((R.take (k + 1)).map rowV).map (Value.int .i64) by
                rw [← HL.out, List.take_add_one, List.getElem?_eq_getElem hkn]
                have hg : R[k] = rk := by rw [← hrk, List.getD_eq_getElem?_getD, List.getElem?_eq_getElem hkn]; rfl
                rw [hg]
                simp [HV.out]] at h
              exact h
            have HT : Hid (∀ j, j < k + 1 → rowOk (R.getD j []) = true) := fun j hj => by
              by_cases e : j = k
              · subst e; rw [hrk]; unfold rowOk; rw [HV.out]; exact hok
              · exact HA.out j (by omega)
            clear o5 g5 O2 hlt hnew hok
            go_wp2
            go_roundw
            case rel => exact ⟨k + 1, by omega, by omega, by go_num, HT.out, a5, c5, rfl, HO5.out, B2⟩
            case measure => simp [intOf]; omega
      · have hvz : rdV rk = icells (rdO rk) (rdN rk 0) (rdN rk 1) (rdN rk 2) (rdN rk 3) := by unfold rdV; rw [hz]; rfl
        have hrv : rowV rk = if insB (rdO rk) (rdN rk 0) (rdN rk 1) (rdN rk 2) (rdN rk 3) then codeW (rdO rk) (rdN rk 0) (rdN rk 1) (rdN rk 2) (rdN rk 3) else 0 := by unfold rowV; rw [hz]; rfl
        rw [hvz]
        have bx := bel_alloc (Below.refl w2.heap.size w2) (.cells (icells (rdO rk) (rdN rk 0) (rdN rk 1) (rdN rk 2) (rdN rk 3)) 25)
        have XI := Box.new w2 (icells (rdO rk) (rdN rk 0) (rdN rk 1) (rdN rk 2) (rdN rk 3)) 25
        replace O := owns_below O bx
        replace B := bel_trans B bx
        have q1 := HCR.out _ B
        clear hvz bx
        go_wp2_with fail
        refine (l16Num_any rk _).mono ?_
        rintro e w3 ⟨rfl, b3⟩
        replace O := owns_below O b3
        replace B := bel_trans B b3
        replace XI := XI.below b3
        obtain ⟨x0, x1, x2, x3, x4, xz⟩ := XI.at5i
        clear b3 q1 hz
        go_wp2_with fail
        refine (specCode_any _ _ _ _ _ _).mono ?_
        rintro e w4 ⟨rfl, b4⟩
        replace O := owns_below O b4
        replace B := bel_trans B b4
        clear b4 x0 x1 x2 x3 x4 xz XI
        obtain ⟨v, hv⟩ : ∃ x, rowV rk = x := ⟨_, rfl⟩
        have HV : Hid (rowV rk = v) := hv
        rw [← hrv, hv]
        clear hv
        cases hok : inB v 0 65535
        · have HBD : Hid (asmB R = false ∧ asmL R = []) := by
            have e : asmB R = false := asm_bad hkn (.inl (by rw [hrk]; unfold rowOk; rw [HV.out]; exact hok))
            exact ⟨e, by unfold asmL; rw [e]; rfl⟩
          go_wp2_with fail
          refine (specIn_8 v 0 65535 _).mono ?_
          rintro e w9 ⟨rfl, h9⟩
          replace h9 := h9.symm
          subst h9
          rw [hok]
          clear O
          go_wp2
          go_ret2
          rw [HR0.out, HBD.out.1, HBD.out.2]
          exact ⟨_, _, rfl, own_litE w4 3 1 w.heap.size (by have := B.size; omega), bel_alloc (bel_trans HB1.out B) _⟩
        · by_cases h24 : k = 24
          · have HBD : Hid (asmB R = false ∧ asmL R = []) := by
              have e : asmB R = false := asm_bad hkn (.inr h24)
              exact ⟨e, by unfold asmL; rw [e]; rfl⟩
            have e24 : ((k : Int) == 24) = true := by simp; omega
            go_wp2_with fail
            refine (specIn_8 v 0 65535 _).mono ?_
            rintro e w9 ⟨rfl, h9⟩
            replace h9 := h9.symm
            subst h9
            rw [hok]
            clear O
            go_wp2
            go_ret2
            rw [HR0.out, HBD.out.1, HBD.out.2]
            exact ⟨_, _, rfl, own_litE w4 3 1 w.heap.size (by have := B.size; omega), bel_alloc (bel_trans HB1.out B) _⟩
          · have e24 : ((k : Int) == 24) = false := by simp; omega
            go_wp2_with fail
            refine (specIn_8 v 0 65535 _).mono ?_
            rintro e w9 ⟨rfl, h9⟩
            replace h9 := h9.symm
            subst h9
            rw [hok]
            have XA := Box.new w4 #[.int .i64 v] 3
            have O2 := owns_below O (bel_alloc (Below.refl w4.heap.size w4) (.cells #[.int .i64 v] 3))
            have B2 := bel_alloc B (.cells #[.int .i64 v] 3)
            have hnew : Hid (∀ j x, [Value.int .i64 v][j]? = some x → ∃ b off, (some ⟨w4.heap.size, 0, none⟩ : Option Addr) = some ⟨b, off, none⟩ ∧ (w4.alloc (.cells #[.int .i64 v] 3)).cell? ⟨b, off + j, none⟩ = some x) := fun j x hx => by
              match j, hx with
              | 0, hx =>
                simp at hx
                subst hx
                exact ⟨_, _, rfl, XA.cell 0⟩
              | j + 1, hx => simp at hx
            clear XA O B
            go_wp2_with (at_builtin; refine wpList_append_rowYtfigbfddhmgafaaDoor rfl (.tmp 47) (.tmp 49) 32 rfl w1.heap.size 3 i1 (.int .i64 0) 1 8 Tryd.underlying32 hi1 hz10 hz11 hz12 rfl (by decide) (.slice a k c) k L (by rfl) O2 (some ⟨w4.heap.size, 0, none⟩) 1 1 [Value.int .i64 v] (by rfl) rfl hnew.out (by intro x hx; simp at hx; subst hx; rfl) (by unfold maxLen; omega) (by omega) B2.size ?_)
            intro v1 w5 o5 g5
            have hlt : Hid (∀ j, (Value.slice a k c).ownBlock = some j → w1.heap.size ≤ j) := fun j h => (O2.lt j h).1
            replace B2 := B2.grown g5 B2.size (fun j hj => by have := hlt.out j hj; omega)
            obtain ⟨a5, c5, rfl⟩ := owns_slice o5
            have HO5 : Hid (w5.ownsRow w1.heap.size 3 1 (.slice a5 (k + 1) c5) (k + 1) (((R.take (k + 1)).map rowV).map (Value.int .i64))) := by
              have h := o5
              rw [show L ++ [Value.int .i64 v] = ((R.take (k + 1)).map rowV).map (Value.int .i64) by
                rw [← HL.out, List.take_add_one, List.getElem?_eq_getElem hkn]
                have hg : R[k] = rk := by rw [← hrk, List.getD_eq_getElem?_getD, List.getElem?_eq_getElem hkn]; rfl
                rw [hg]
                simp [HV.out]] at h
              exact h
            have HT : Hid (∀ j, j < k + 1 → rowOk (R.getD j []) = true) := fun j hj => by
              by_cases e : j = k
              · subst e; rw [hrk]; unfold rowOk; rw [HV.out]; exact hok
              · exact HA.out j (by omega)
            clear o5 g5 O2 hlt hnew hok
            go_wp2
            go_roundw
            case rel => exact ⟨k + 1, by omega, by omega, by go_num, HT.out, a5, c5, rfl, HO5.out, B2⟩
            case measure => simp [intOf]; omega
    · have hkk : k = R.length := by omega
      have HK : Hid (asmB R = true ∧ asmL R = R.map rowV ++ List.replicate (24 - k) 0) := by
        have e : asmB R = true := asm_ok (fun j hj => HA.out j (by omega)) (by omega)
        exact ⟨e, by unfold asmL; rw [e, hkk]; rfl⟩
      have HO0 : Hid (wr.ownsRow w1.heap.size 3 1 (.slice a k c) k ((R.map rowV ++ List.replicate (k - k) 0).map (Value.int .i64))) := by
        have h := O
        rw [← HL.out, List.take_of_length_le (by omega)] at h
        show wr.ownsRow w1.heap.size 3 1 (.slice a k c) k ((R.map rowV ++ List.replicate (k - k) 0).map (Value.int .i64))
        simpa using h
      have HLM : Hid ((R.map rowV).length = k) := by show _ = _; rw [List.length_map]; exact hkk.symm
      have HBX : Hid (Below w1.heap.size w1 wr) := B
      clear O B HA HL hkk
      go_wp2
      go_loopw [5] (fun v wr => ∃ m : Nat, k ≤ m ∧ m ≤ 24 ∧ ∃ a c, v = .slice a m c ∧ wr.ownsRow w1.heap.size 3 1 (.slice a m c) m ((R.map rowV ++ List.replicate (m - k) 0).map (Value.int .i64)) ∧ Below w1.heap.size w1 wr) (fun v _ => 24 - lenV v)
      case atStart => exact ⟨k, Nat.le_refl _, hk24, _, _, rfl, HO0.out, HBX.out⟩
      case round =>
        obtain ⟨m, hm, hm24, a2, c2, rfl, O, B⟩ := hrel
        clear HO0 HBX
        obtain ⟨L2, hL2⟩ : ∃ L, (R.map rowV ++ List.replicate (m - k) 0).map (Value.int .i64) = L := ⟨_, rfl⟩
        have HL2 : Hid ((R.map rowV ++ List.replicate (m - k) 0).map (Value.int .i64) = L2) := hL2
        rw [hL2] at O
        clear hL2
        by_cases hm4 : m < 24
        · have him : (m : Int) < 24 := by omega
          have XA := Box.new wr #[.int .i64 0] 3
          have O2 := owns_below O (bel_alloc (Below.refl wr.heap.size wr) (.cells #[.int .i64 0] 3))
          have B2 := bel_alloc B (.cells #[.int .i64 0] 3)
          have hnew : Hid (∀ j x, [Value.int .i64 0][j]? = some x → ∃ b off, (some ⟨wr.heap.size, 0, none⟩ : Option Addr) = some ⟨b, off, none⟩ ∧ (wr.alloc (.cells #[.int .i64 0] 3)).cell? ⟨b, off + j, none⟩ = some x) := fun j x hx => by
            match j, hx with
            | 0, hx =>
              simp at hx
              subst hx
              exact ⟨_, _, rfl, XA.cell 0⟩
            | j + 1, hx => simp at hx
          clear XA O B
          go_wp2_with (at_builtin; refine wpList_append_rowYtfigbfddhmgafaaDoor rfl (.tmp 54) (.tmp 55) 32 rfl w1.heap.size 3 i1 (.int .i64 0) 1 8 Tryd.underlying32 hi1 hz10 hz11 hz12 rfl (by decide) (.slice a2 m c2) m L2 (by rfl) O2 (some ⟨wr.heap.size, 0, none⟩) 1 1 [Value.int .i64 0] (by rfl) rfl hnew.out (by intro x hx; simp at hx; subst hx; rfl) (by unfold maxLen; omega) (by omega) B2.size ?_)
          intro v1 w5 o5 g5
          have hlt : Hid (∀ j, (Value.slice a2 m c2).ownBlock = some j → w1.heap.size ≤ j) := fun j h => (O2.lt j h).1
          replace B2 := B2.grown g5 B2.size (fun j hj => by have := hlt.out j hj; omega)
          obtain ⟨a5, c5, rfl⟩ := owns_slice o5
          have HO5 : Hid (w5.ownsRow w1.heap.size 3 1 (.slice a5 (m + 1) c5) (m + 1) ((R.map rowV ++ List.replicate (m + 1 - k) 0).map (Value.int .i64))) := by
            have h := o5
            rw [show L2 ++ [Value.int .i64 0] = (R.map rowV ++ List.replicate (m + 1 - k) 0).map (Value.int .i64) by
              rw [← HL2.out, show m + 1 - k = (m - k) + 1 by omega, List.replicate_succ']
              simp] at h
            exact h
          clear o5 g5 O2 hlt hnew
          go_wp2
          go_roundw
          case rel => exact ⟨m + 1, by omega, by omega, a5, c5, rfl, HO5.out, B2⟩
          case measure => simp [lenV_slice]; omega
        · have hmm : m = 24 := by omega
          subst hmm
          go_wp2
          go_ret2
          rw [HR0.out, HK.out.1, HK.out.2]
          have hl24 : (R.map rowV ++ List.replicate (24 - k) 0).length = 24 := by rw [List.length_append, HLM.out, List.length_replicate]; omega
          rw [hl24]
          refine ⟨a2, c2, rfl, ?_, bel_trans HB1.out B⟩
          rw [HL2.out]
          exact owns_base O (by omega)

/-- A row of numbers of its own, and a flag. -/
def IntsB (L : List Int) (z : Bool) (w : World) (e : Ending) (w' : World) : Prop := ∃ (a : Option Addr) (c : Nat), e = .returned (.tuple #[.slice a L.length c, .bool z]) ∧ w'.ownsRow w.heap.size 3 1 (.slice a L.length c) L.length (L.map (Value.int .i64)) ∧ Below w.heap.size w w'
theorem asmL_len (R : List (List UInt8)) : (asmL R).length ≤ 24 := by
  unfold asmL
  split
  · next h =>
    have hl : R.length ≤ 24 := by
      unfold asmB at h
      simp only [Bool.and_eq_true, decide_eq_true_eq] at h
      exact h.2
    simp
    omega
  · simp
end Go.Proofs.YtfigbfddhmgafaaDoor
