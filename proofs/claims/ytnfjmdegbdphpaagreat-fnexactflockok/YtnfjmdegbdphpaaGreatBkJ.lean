/- BkI and BkJ: see the heads of the parts. -/
import Derived.Test.YtnfjmdegbdphpaaGreatBk4
import Derived.Test.YtnfjmdegbdphpaaGreatIn8j
import Derived.Test.YtnfjmdegbdphpaaGreatIsA
/- What impl's BlockOk answers. -/
namespace Go.Proofs.YtnfjmdegbdphpaaGreat
open Go.RowKit
set_option linter.unusedVariables false

set_option maxHeartbeats 1000000 in
theorem placeIn_any (st : Int) (w : World) (s0 : 0 ≤ st) (s1 : st ≤ 23) : Calls Tryz.prog 107 #[.int .i64 st] w fun e w' => e = .returned (.int .i64 (st % 4)) ∧ w' = w := by
  have hrem : st.tmod 4 = st % 4 := Int.tmod_eq_emod_of_nonneg s0
  go_enter Tryz.func107, Tryz.ntmps107
  go_wp2
  go_ret
  exact ⟨rfl, rfl⟩

set_option maxHeartbeats 1000000 in
theorem leftIn_any (st : Int) (w : World) (s0 : 0 ≤ st) (s1 : st ≤ 23) : Calls Tryz.prog 102 #[.int .i64 st] w fun e w' => e = .returned (.int .i64 (4 - st % 4)) ∧ w' = w := by
  go_enter Tryz.func102, Tryz.ntmps102
  go_wp2_with fail
  refine (placeIn_any st _ s0 s1).mono ?_
  rintro e w1 ⟨rfl, h⟩
  replace h := h.symm
  subst h
  go_wp2
  go_ret
  exact ⟨rfl, rfl⟩

theorem badB_in {n : Nat} {d : XD} {i : Nat} (h : i + 1 < n) : badB n d i = endsB d.op d.r d.a d.b d.n := by
  unfold badB endsB
  cases insB d.op d.r d.a d.b d.n <;> simp [h]

theorem badB_last {n : Nat} {d : XD} {i : Nat} (h : i + 1 = n) : badB n d i = (!insB d.op d.r d.a d.b d.n && !zeB d) := by
  unfold badB
  have : ¬ i + 1 < n := by omega
  simp [this]

set_option maxRecDepth 100000 in
set_option maxHeartbeats 4000000 in
theorem implBlockOk_any (st : Int) (a : Option Addr) (c n : Nat) (d : Nat → XD) (w : World) (ha : IR w a n d) :
    Calls Tryz.prog 73 #[.agg #[.int .i64 st, .slice a n c]] w fun e w' => e = .returned (.bool (blockB st n d)) ∧ Below w.heap.size w w' := by
  have bA := bel_alloc (Below.refl w.heap.size w) (.cells #[.int .i64 st, .slice a n c] 119)
  have XA := Box.new w #[.int .i64 st, .slice a n c] 119
  have hl := ha.1
  have HA : Hid (IR w a n d) := ha
  cases h1 : inB st 0 23
  · have HV : Hid (blockB st n d = false) := by show _ = _; unfold blockB; rw [h1]; rfl
    have H1 : Hid (inB st 0 23 = false) := h1
    clear h1 ha XA
    go_enter Tryz.func73, Tryz.ntmps73
    go_wp2_with fail
    refine (isAddress_any st _).mono ?_
    rintro e w1 ⟨rfl, h⟩
    replace h := h.symm
    subst h
    rw [H1.out]
    go_wp2
    go_ret
    exact ⟨ret_bool HV.out.symm, bA⟩
  obtain ⟨s0, s1⟩ : 0 ≤ st ∧ st ≤ 23 := by simpa [inB] using h1
  have H1 : Hid (inB st 0 23 = true) := h1
  by_cases hn0 : n < 1
  · have HV : Hid (blockB st n d = false) := by
      show _ = _
      unfold blockB
      have : inB n 1 (4 - st % 4) = false := by simp [inB]; omega
      rw [this]; simp
    have hn1 : (n : Int) < 1 := by omega
    clear h1 ha XA
    go_enter Tryz.func73, Tryz.ntmps73
    go_wp2_with fail
    refine (isAddress_any st _).mono ?_
    rintro e w1 ⟨rfl, h⟩
    replace h := h.symm
    subst h
    rw [H1.out]
    go_wp2
    go_ret
    exact ⟨ret_bool HV.out.symm, bA⟩
  have hn1 : ¬ (n : Int) < 1 := by omega
  by_cases hn4 : (n : Int) ≤ 4 - st % 4
  case neg =>
    have HV : Hid (blockB st n d = false) := by
      show _ = _
      unfold blockB
      have : inB n 1 (4 - st % 4) = false := by simp [inB]; omega
      rw [this]; simp
    obtain ⟨t, ht⟩ : ∃ t, 4 - st % 4 = t := ⟨_, rfl⟩
    have hmin : (if t < 4 then t else 4) = t := by split <;> omega
    have hm : t < n := by omega
    have HT : Hid (4 - st % 4 = t) := ht
    clear h1 ha XA hn4 ht
    go_enter Tryz.func73, Tryz.ntmps73
    go_wp2_with fail
    refine (isAddress_any st _).mono ?_
    rintro e w1 ⟨rfl, h⟩
    replace h := h.symm
    subst h
    rw [H1.out]
    go_wp2_with fail
    refine (leftIn_any st _ s0 s1).mono ?_
    rintro e w1 ⟨rfl, h⟩
    replace h := h.symm
    subst h
    rw [HT.out]
    go_wp2
    go_ret
    exact ⟨ret_bool HV.out.symm, bA⟩
  have HV : Hid (blockB st n d = brestB n d 0) := by
    show _ = _
    unfold blockB
    have : inB n 1 (4 - st % 4) = true := by simp [inB]; omega
    rw [h1, this]; rfl
  obtain ⟨t, ht⟩ : ∃ t, 4 - st % 4 = t := ⟨_, rfl⟩
  have hmin : (if t < 4 then t else 4) = t := by split <;> omega
  have hm : ¬ t < n := by omega
  have HT : Hid (4 - st % 4 = t) := ht
  clear ht hn4
  have XB : Hid (Box _ w.heap.size #[.int .i64 st, .slice a n c] 119) := XA
  have BA : Hid (Below w.heap.size w _) := bA
  clear h1 ha XA
  go_enter Tryz.func73, Tryz.ntmps73
  go_wp2_with fail
  refine (isAddress_any st _).mono ?_
  rintro e w1 ⟨rfl, h⟩
  replace h := h.symm
  subst h
  rw [H1.out]
  go_wp2_with fail
  refine (leftIn_any st _ s0 s1).mono ?_
  rintro e w1 ⟨rfl, h⟩
  replace h := h.symm
  subst h
  rw [HT.out]
  clear bA
  go_wp2_with fail
  go_loopw [27] (fun i wr => ∃ k : Nat, k + 1 ≤ n ∧ i = .int .i64 k ∧ brestB n d 0 = brestB n d k ∧ Box wr w.heap.size #[.int .i64 st, .slice a n c] 119 ∧ Below w.heap.size w wr) (fun i _ => n - (intOf i).toNat)
  case atStart => exact ⟨0, by omega, rfl, rfl, XB.out, BA.out⟩
  case round =>
    obtain ⟨k, hk, rfl, hR, X, hB⟩ := hrel
    have HR : Hid (brestB n d 0 = brestB n d k) := hR
    have HX : Hid (Box wr w.heap.size #[.int .i64 st, .slice a n c] 119) := X
    have HB : Hid (Below w.heap.size w wr) := hB
    obtain ⟨x0, x1, xz⟩ := X.at2
    obtain ⟨b, off, rfl, y0, y1, y2, y3, y4⟩ := (HA.out.below hB).at (show k < n by omega)
    clear hR X hB BA XB
    have hkn : (k : Int) < (n : Int) := by omega
    by_cases hlt : k + 1 < n
    · have hi : (k : Int) < (n : Int) - 1 := by omega
      have HN : Hid (endsB (d k).op (d k).r (d k).a (d k).b (d k).n = false → brestB n d 0 = brestB n d (k + 1)) := fun h => by rw [HR.out, brestB_step (by omega), badB_in hlt, h]; rfl
      have HF : Hid (endsB (d k).op (d k).r (d k).a (d k).b (d k).n = true → blockB st n d = false) := fun h => by rw [HV.out, HR.out, brestB_step (by omega), badB_in hlt, h]; rfl
      go_wp2_with fail
      refine (implEnds_any (d k).op (d k).r (d k).a (d k).b (d k).n _).mono ?_
      rintro e w2 ⟨rfl, b2⟩
      have X5 : Hid _ := HX.out.below b2
      have B5 : Hid _ := bel_trans HB.out b2
      cases hE : endsB (d k).op (d k).r (d k).a (d k).b (d k).n
      · have HN2 : Hid (brestB n d 0 = brestB n d (k + 1)) := HN.out hE
        clear x0 x1 xz y0 y1 y2 y3 y4 b2 hE HN HF
        go_wp2
        go_roundw
        case rel => exact ⟨k + 1, by omega, by go_num, HN2.out, X5.out, B5.out⟩
        case measure => simp [intOf]; omega
      · have HF2 : Hid (blockB st n d = false) := HF.out hE
        clear x0 x1 xz y0 y1 y2 y3 y4 b2 hE HN HF
        go_wp2
        go_ret
        exact ⟨ret_bool HF2.out.symm, B5.out⟩
    · have hi : ¬ (k : Int) < (n : Int) - 1 := by omega
      have hk1 : (n : Int) - 1 = k := by omega
      have HE : Hid (blockB st n d = !(!insB (d k).op (d k).r (d k).a (d k).b (d k).n && !zeB (d k))) := by
        show _ = _
        rw [HV.out, HR.out, brestB_step (by omega), badB_last (by omega), brestB_end (by omega)]
        simp
      have b0 := bel_alloc (Below.refl wr.heap.size wr) (.cells (icells (d k).op (d k).r (d k).a (d k).b (d k).n) 152)
      have X4 := Box.new wr (icells (d k).op (d k).r (d k).a (d k).b (d k).n) 152
      go_wp2_with fail
      refine (implInsOk_any (d k).op (d k).r (d k).a (d k).b (d k).n _).mono ?_
      rintro e w1 ⟨rfl, b1⟩
      replace X4 := X4.below b1
      obtain ⟨m0, m1, m2, m3, m4, mz⟩ := X4.at5i
      have B1 : Hid (Below w.heap.size w w1) := bel_trans HB.out (bel_trans b0 b1)
      clear x0 x1 xz y0 y1 y2 y3 y4 X4 b0 b1
      cases hI : insB (d k).op (d k).r (d k).a (d k).b (d k).n
      · cases hZ : zeB (d k)
        · have HF2 : Hid (blockB st n d = false) := by show _ = _; rw [HE.out, hI, hZ]; rfl
          have hz : ¬ (d k).op = 0 ∨ ((d k).op = 0 ∧ ¬ (d k).r = 0) ∨ ((d k).op = 0 ∧ (d k).r = 0 ∧ ¬ (d k).a = 0) ∨ ((d k).op = 0 ∧ (d k).r = 0 ∧ (d k).a = 0 ∧ ¬ (d k).b = 0) ∨ ((d k).op = 0 ∧ (d k).r = 0 ∧ (d k).a = 0 ∧ (d k).b = 0 ∧ ¬ (d k).n = 0) := by
            by_cases e0 : (d k).op = 0
            · by_cases e1 : (d k).r = 0
              · by_cases e2 : (d k).a = 0
                · by_cases e3 : (d k).b = 0
                  · by_cases e4 : (d k).n = 0
                    · exfalso; simp [zeB, e0, e1, e2, e3, e4] at hZ
                    · exact .inr (.inr (.inr (.inr ⟨e0, e1, e2, e3, e4⟩)))
                  · exact .inr (.inr (.inr (.inl ⟨e0, e1, e2, e3⟩)))
                · exact .inr (.inr (.inl ⟨e0, e1, e2⟩))
              · exact .inr (.inl ⟨e0, e1⟩)
            · exact .inl e0
          clear hZ hI
          rcases hz with e0 | ⟨e0, e1⟩ | ⟨e0, e1, e2⟩ | ⟨e0, e1, e2, e3⟩ | ⟨e0, e1, e2, e3, e4⟩
          · go_wp2
            go_ret
            exact ⟨ret_bool HF2.out.symm, B1.out⟩
          · rw [e0] at m0
            go_wp2
            go_ret
            exact ⟨ret_bool HF2.out.symm, B1.out⟩
          · rw [e0] at m0
            rw [e1] at m1
            go_wp2
            go_ret
            exact ⟨ret_bool HF2.out.symm, B1.out⟩
          · rw [e0] at m0
            rw [e1] at m1
            rw [e2] at m2
            go_wp2
            go_ret
            exact ⟨ret_bool HF2.out.symm, B1.out⟩
          · rw [e0] at m0
            rw [e1] at m1
            rw [e2] at m2
            rw [e3] at m3
            go_wp2
            go_ret
            exact ⟨ret_bool HF2.out.symm, B1.out⟩
        · have HF2 : Hid (blockB st n d = true) := by show _ = _; rw [HE.out, hI, hZ]; rfl
          obtain ⟨e0, e1, e2, e3, e4⟩ : (d k).op = 0 ∧ (d k).r = 0 ∧ (d k).a = 0 ∧ (d k).b = 0 ∧ (d k).n = 0 := by simpa [zeB] using hZ
          rw [e0] at m0
          rw [e1] at m1
          rw [e2] at m2
          rw [e3] at m3
          rw [e4] at m4
          clear hI hZ e0 e1 e2 e3 e4
          go_wp2
          go_ret
          exact ⟨ret_bool HF2.out.symm, B1.out⟩
      · have HF2 : Hid (blockB st n d = true) := by show _ = _; rw [HE.out, hI]; rfl
        clear hI
        go_wp2
        go_ret
        exact ⟨ret_bool HF2.out.symm, B1.out⟩

end Go.Proofs.YtnfjmdegbdphpaaGreat

/- What impl's PageOf and At answer. -/
namespace Go.Proofs.YtnfjmdegbdphpaaGreat
open Go.RowKit
set_option linter.unusedVariables false

set_option maxRecDepth 100000 in
set_option maxHeartbeats 1000000 in
theorem implPageOf_any (st : Int) (a : Option Addr) (c n : Nat) (d : Nat → XD) (w : World) (ha : IR w a n d) :
    Calls Tryz.prog 76 #[.agg #[.int .i64 st, .slice a n c]] w fun e w' => e = .returned (.int .i64 (if blockB st n d then st / 4 else -1)) ∧ Below w.heap.size w w' := by
  have bA := bel_alloc (Below.refl w.heap.size w) (.cells #[.int .i64 st, .slice a n c] 119)
  have XA := Box.new w #[.int .i64 st, .slice a n c] 119
  obtain ⟨V, hV⟩ : ∃ V, (if blockB st n d then st / 4 else -1) = V := ⟨_, rfl⟩
  rw [hV]
  cases hb : blockB st n d
  · have HV : Hid (V = -1) := by show _ = _; rw [← hV, hb]; rfl
    have HQ : Hid (blockB st n d = false) := hb
    clear hb hV
    go_enter Tryz.func76, Tryz.ntmps76
    go_wp2_with fail
    refine (implBlockOk_any st a c n d _ (ha.below bA)).mono ?_
    rintro e w1 ⟨rfl, b1⟩
    obtain ⟨x0, x1, xz⟩ := (XA.below b1).at2
    have B : Hid (Below w.heap.size w w1) := bel_trans bA b1
    clear XA bA b1 ha
    rw [HQ.out]
    go_wp2
    go_ret
    exact ⟨ret_int HV.out.symm, B.out⟩
  · obtain ⟨⟨s0, s1⟩, _⟩ := blockB_st hb
    have HV : Hid (V = st / 4) := by show _ = _; rw [← hV, hb]; rfl
    have HQ : Hid (blockB st n d = true) := hb
    have hd : st.tdiv 4 = st / 4 := Int.tdiv_eq_ediv_of_nonneg s0
    clear hb hV
    go_enter Tryz.func76, Tryz.ntmps76
    go_wp2_with fail
    refine (implBlockOk_any st a c n d _ (ha.below bA)).mono ?_
    rintro e w1 ⟨rfl, b1⟩
    obtain ⟨x0, x1, xz⟩ := (XA.below b1).at2
    have B : Hid (Below w.heap.size w w1) := bel_trans bA b1
    clear XA bA b1 ha
    rw [HQ.out]
    go_wp2
    go_ret
    exact ⟨ret_int (by rw [HV.out]), B.out⟩


end Go.Proofs.YtnfjmdegbdphpaaGreat
