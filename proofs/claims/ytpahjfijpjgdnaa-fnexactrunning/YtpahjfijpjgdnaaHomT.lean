/- What the law's small functions over homes do: szHome, toHome and what they call. -/
import Derived.Test.YtpahjfijpjgdnaaHomM
namespace Go.Proofs.Ytpahjfijpjgdnaa
open Go.RowKit
set_option linter.unusedVariables false

theorem info_bool' : (Try.prog.info? 4).map (fun i => (i.zero, i.size, i.bytes)) = some (some (.bool false), 1, 1) := by kernel_rfl
theorem info_wait : (Try.prog.info? 142).map (fun i => (i.zero, i.size, i.bytes)) = some (some (.agg #[.int .i64 0, .bool false]), 2, 16) := by kernel_rfl

theorem bv_take (bs : List Bool) (k : Nat) (h : k < bs.length) : bv (bs.take (k + 1)) = bv (bs.take k) ++ [.bool (bs.getD k false)] := by
  have e : bs.getD k false = bs[k] := by simp [h]
  rw [e, List.take_succ_eq_append_getElem h, bv, bv, List.map_append]
  rfl
theorem wv_take (ws : List (Int × Bool)) (k : Nat) (h : k < ws.length) : wv (ws.take (k + 1)) = wv (ws.take k) ++ [.int .i64 (ws.getD k (0, false)).1, .bool (ws.getD k (0, false)).2] := by
  have e : ws.getD k (0, false) = ws[k] := by simp [h]
  rw [e, List.take_succ_eq_append_getElem h, wv_append]
  rfl

theorem stored2 {w : World} {base e n g cap k : Nat} {A zs : List Value} (u0 u1 : Value) (hr : w.ownsRow base e 2 (.slice (some ⟨g, 0, none⟩) n cap) n (A ++ zs.drop (k * 2))) (hA : A.length = k * 2) (hz : zs.length = n * 2) (hk : k < n) :
    ((w.setCell ⟨g, k * 2, none⟩ u0).setCell ⟨g, k * 2 + 1, none⟩ u1).ownsRow base e 2 (.slice (some ⟨g, 0, none⟩) n cap) n (A ++ [u0, u1] ++ zs.drop ((k + 1) * 2)) := by
  have h0 := (hr.stored (k * 2) u0).1
  rw [set_marks _ _ _ _ hA (by omega)] at h0
  have h1 := (h0.stored (k * 2 + 1) u1).1
  rw [set_marks _ _ _ _ (by rw [List.length_append, hA]; simp) (by omega)] at h1
  have e : A ++ [u0, u1] ++ zs.drop ((k + 1) * 2) = A ++ [u0] ++ [u1] ++ zs.drop (k * 2 + 1 + 1) := by
    rw [show (k + 1) * 2 = k * 2 + 1 + 1 by omega]
    simp
  rw [e]
  exact h1

theorem cell_rowN {w : World} {base e n g cap k size : Nat} {zs : List Value} (hr : w.ownsRow base e size (.slice (some ⟨g, 0, none⟩) n cap) n zs) (hlt : k < n * size) : ∃ u, w.cell? ⟨g, k, none⟩ = some u := by
  rw [hr.cellAt k hlt]
  exact ⟨_, List.getElem?_eq_getElem (by have := hr.1; omega)⟩

set_option maxHeartbeats 400000 in
theorem toBoolS_any (a : Option Addr) (ca : Nat) (bs : List Bool) (w : World) (hsm : bs.length ≤ 1048576) (ha : VRow w a (bv bs)) :
    Calls Try.prog 75 #[.slice a bs.length ca] w fun e w' => ∃ v, e = .returned v ∧ w'.ownsRow w.heap.size 4 1 v bs.length (bv bs) ∧ Below w.heap.size w w' := by
  obtain ⟨i0, hi, hz0, hz1, hz2⟩ := info_parts info_bool'
  replace ha := ha.bool
  obtain ⟨n, hn⟩ : ∃ n, bs.length = n := ⟨_, rfl⟩
  have HN : Hid (bs.length = n) := hn
  rw [hn] at ha hsm ⊢
  clear hn
  go_enter Try.func75, Try.ntmps75
  go_wp2_with (at_make; refine wpList_make_full _ rfl (.tmp 6) (.tmp 6) 129 rfl w.heap.size 4 i0 (.bool false) 1 Try.underlying129 hi hz0 hz1 .i64 .i64 _ _ n rfl rfl rfl rfl (by rw [hz2]; omega) (by unfold maxLen; omega) (Nat.le_refl _) ?_)
  intro w1 ho hg
  obtain ⟨zs, ho⟩ : ∃ zs, w1.ownsRow w.heap.size 4 1 (.slice (some ⟨w.heap.size, 0, none⟩) n n) n zs := ⟨_, ho⟩
  have hzl : Hid (zs.length = n) := by have := ho.1; rw [Nat.mul_one] at this; exact this
  have hb1 : Below w.heap.size w w1 := (Below.refl _ _).grown hg (Nat.le_refl _) (fun k hk => by cases hk)
  clear hg
  go_wp2
  go_loopw [4] (fun i wr => ∃ k : Nat, k ≤ n ∧ i = .int .i64 k ∧ wr.ownsRow w.heap.size 4 1 (.slice (some ⟨w.heap.size, 0, none⟩) n n) n (bv (bs.take k) ++ zs.drop k) ∧ Below w.heap.size w wr) (fun i _ => n - (intOf i).toNat)
  case atStart => exact ⟨0, Nat.zero_le _, rfl, by simpa [bv] using ho, hb1⟩
  case round =>
    obtain ⟨k, hk, rfl, hr, hbr⟩ := hrel
    by_cases hkn : k < n
    · obtain ⟨ba, oa, rfl, hca⟩ := ha k hkn
      have R : (wr.setCell ⟨w.heap.size, k, none⟩ (.bool (bs.getD k false))).ownsRow w.heap.size 4 1 (.slice (some ⟨w.heap.size, 0, none⟩) n n) n (bv (bs.take (k + 1)) ++ zs.drop (k + 1)) ∧ Below w.heap.size w (wr.setCell ⟨w.heap.size, k, none⟩ (.bool (bs.getD k false))) := by
        refine ⟨?_, hbr.setCell (Nat.le_refl _) _⟩
        have h1 := (hr.stored k (.bool (bs.getD k false))).1
        rw [set_marks _ _ _ _ (by rw [bv_length]; simp; have := HN.out; omega) (by have := hzl.out; omega)] at h1
        rw [bv_take bs k (by have := HN.out; omega)]
        exact h1
      have hcr : wr.cell? ⟨ba, oa + k, none⟩ = some (.bool (bs.getD k false)) := (hbr.cell (p := ⟨ba, oa + k, none⟩) (lt_of_cell hca)).trans hca
      have hfz := hr.frozenAt k
      obtain ⟨u, hcell⟩ := cell_row hr hkn
      have hi' : (k : Int) < (n : Int) := by omega
      clear hr hbr ha hca ho hb1
      go_wp2
      go_roundw
      case rel => exact ⟨k + 1, by omega, by go_num, R.1, R.2⟩
      case measure => simp [intOf]; omega
    · go_wp2
      go_ret
      have : k = n := by omega
      subst this
      refine ⟨_, rfl, ?_, hbr⟩
      rw [List.drop_eq_nil_of_le (by have := hzl.out; omega), List.append_nil, List.take_of_length_le (by have := HN.out; omega)] at hr
      exact hr

set_option maxHeartbeats 400000 in
theorem toWait_any (x : Int) (o : Bool) (w : World) :
    Calls Try.prog 76 #[.agg #[.int .i64 x, .bool o]] w fun e w' => e = .returned (.agg #[.int .i64 x, .bool o]) ∧ Below w.heap.size w w' := by
  go_enter Try.func76, Try.ntmps76
  go_wp2
  refine bodyPost_ret (v := .agg #[.int .i64 x, .bool o]) (by simp [results, Try.results76, go_sem]) rfl ⟨rfl, ?_⟩
  exact bel_alloc (bel_alloc (bel_alloc (Below.refl _ _) _) _) _

set_option maxRecDepth 100000 in
set_option maxHeartbeats 1000000 in
theorem toWaitS_any (a : Option Addr) (ca : Nat) (ws : List (Int × Bool)) (w : World) (hsm : ws.length ≤ 1048576) (ha : VRow w a (wv ws)) :
    Calls Try.prog 77 #[.slice a ws.length ca] w fun e w' => ∃ v, e = .returned v ∧ w'.ownsRow w.heap.size 142 2 v ws.length (wv ws) ∧ Below w.heap.size w w' := by
  obtain ⟨i0, hi, hz0, hz1, hz2⟩ := info_parts info_wait
  replace ha := ha.wait
  obtain ⟨n, hn⟩ : ∃ n, ws.length = n := ⟨_, rfl⟩
  have HN : Hid (ws.length = n) := hn
  rw [hn] at ha hsm ⊢
  clear hn
  go_enter Try.func77, Try.ntmps77
  go_wp2_with (at_make; refine wpList_make_full _ rfl (.tmp 6) (.tmp 6) 143 rfl w.heap.size 142 i0 (.agg #[.int .i64 0, .bool false]) 2 Try.underlying143 hi hz0 hz1 .i64 .i64 _ _ n rfl rfl rfl rfl (by rw [hz2]; omega) (by unfold maxLen; omega) (Nat.le_refl _) ?_)
  intro w1 ho hg
  obtain ⟨zs, ho⟩ : ∃ zs, w1.ownsRow w.heap.size 142 2 (.slice (some ⟨w.heap.size, 0, none⟩) n n) n zs := ⟨_, ho⟩
  have hzl : Hid (zs.length = n * 2) := ho.1
  have hb1 : Below w.heap.size w w1 := (Below.refl _ _).grown hg (Nat.le_refl _) (fun k hk => by cases hk)
  clear hg
  go_wp2
  go_loopw [4] (fun i wr => ∃ k : Nat, k ≤ n ∧ i = .int .i64 k ∧ wr.ownsRow w.heap.size 142 2 (.slice (some ⟨w.heap.size, 0, none⟩) n n) n (wv (ws.take k) ++ zs.drop (k * 2)) ∧ Below w.heap.size w wr) (fun i _ => n - (intOf i).toNat)
  case atStart => exact ⟨0, Nat.zero_le _, rfl, by simpa [wv] using ho, hb1⟩
  case round =>
    obtain ⟨k, hk, rfl, hr, hbr⟩ := hrel
    by_cases hkn : k < n
    · obtain ⟨ba, oa, rfl, y0, y1⟩ := ha k hkn
      have hi' : (k : Int) < (n : Int) := by omega
      have y0 := (hbr.cell (p := ⟨ba, oa + k * 2, none⟩) (lt_of_cell y0)).trans y0
      have y1 := (hbr.cell (p := ⟨ba, oa + k * 2 + 1, none⟩) (lt_of_cell y1)).trans y1
      clear ha
      go_wp2_with fail
      refine (toWait_any _ _ _).mono ?_
      rintro e w2 ⟨rfl, b2⟩
      have hr2 := owns_below hr b2
      have hB2 := bel_trans hbr b2
      have R : Hid (((w2.setCell ⟨w.heap.size, k * 2, none⟩ (.int .i64 (ws.getD k (0, false)).1)).setCell ⟨w.heap.size, k * 2 + 1, none⟩ (.bool (ws.getD k (0, false)).2)).ownsRow w.heap.size 142 2 (.slice (some ⟨w.heap.size, 0, none⟩) n n) n (wv (ws.take (k + 1)) ++ zs.drop ((k + 1) * 2)) ∧ Below w.heap.size w ((w2.setCell ⟨w.heap.size, k * 2, none⟩ (.int .i64 (ws.getD k (0, false)).1)).setCell ⟨w.heap.size, k * 2 + 1, none⟩ (.bool (ws.getD k (0, false)).2))) := by
        refine ⟨?_, bel_setCell (bel_setCell hB2 _ _ (Nat.le_refl _)) _ _ (Nat.le_refl _)⟩
        rw [wv_take ws k (by have := HN.out; omega)]
        exact stored2 _ _ hr2 (by rw [wv_length]; simp; have := HN.out; omega) hzl.out hkn
      have f0 := hr2.frozenAt (k * 2)
      have f1 := hr2.frozenAt (k * 2 + 1)
      obtain ⟨u0, g0⟩ := cell_rowN hr2 (show k * 2 < n * 2 by omega)
      obtain ⟨u1, g1⟩ := cell_rowN hr2 (show k * 2 + 1 < n * 2 by omega)
      clear hr hr2 hbr hB2 b2 ho hb1 y0 y1
      go_wp2
      go_roundw
      case rel => exact ⟨k + 1, by omega, by go_num, R.out.1, R.out.2⟩
      case measure => simp [intOf]; omega
    · go_wp2
      go_ret
      have : k = n := by omega
      subst this
      refine ⟨_, rfl, ?_, hbr⟩
      rw [List.drop_eq_nil_of_le (by have := hzl.out; omega), List.append_nil, List.take_of_length_le (by have := HN.out; omega)] at hr
      exact hr

set_option maxRecDepth 100000 in
set_option maxHeartbeats 1000000 in
theorem szHome_any (ow wh ak : Int) (bz wo : Bool) (al ar aq : Option Addr) (nl cl nr cr nq cq : Nat) (w : World) (hl : nl ≤ maxLen) (hr : nr ≤ maxLen) (hq : nq ≤ maxLen) :
    Calls Try.prog 59 #[.agg #[.slice al nl cl, .int .i64 ow, .slice ar nr cr, .bool bz, .int .i64 wh, .bool wo, .int .i64 ak, .slice aq nq cq], .int .i64 1048576] w fun e w' => ∃ r, e = .returned (.int .i64 r) ∧ (r = -1 ∨ (0 ≤ r ∧ nl ≤ 1048576 ∧ nr ≤ 1048576 ∧ nq ≤ 1048576)) ∧ Below w.heap.size w w' := by
  unfold maxLen at hl hr hq
  have bA := bel_alloc (Below.refl w.heap.size w) (.cells #[.slice al nl cl, .int .i64 ow, .slice ar nr cr, .bool bz, .int .i64 wh, .bool wo, .int .i64 ak, .slice aq nq cq] 134)
  by_cases h1 : nl ≤ 1048576
  · by_cases h2 : nl + nr ≤ 1048576
    · by_cases h3 : nl + nr + nq ≤ 1048576
      · go_enter Try.func59, Try.ntmps59
        go_wp2
        go_ret
        exact ⟨_, rfl, .inr ⟨by omega, by omega, by omega, by omega⟩, bA⟩
      · go_enter Try.func59, Try.ntmps59
        go_wp2
        go_ret
        exact ⟨_, rfl, .inl rfl, bA⟩
    · go_enter Try.func59, Try.ntmps59
      go_wp2
      go_ret
      exact ⟨_, rfl, .inl rfl, bA⟩
  · go_enter Try.func59, Try.ntmps59
    go_wp2
    go_ret
    exact ⟨_, rfl, .inl rfl, bA⟩

theorem Box.tri (w : World) (c0 c1 c2 : Array Value) (t0 t1 t2 : TypeId) : Box (((w.alloc (.cells c0 t0)).alloc (.cells c1 t1)).alloc (.cells c2 t2)) w.heap.size c0 t0 ∧ Box (((w.alloc (.cells c0 t0)).alloc (.cells c1 t1)).alloc (.cells c2 t2)) (w.heap.size + 1) c1 t1 ∧ Box (((w.alloc (.cells c0 t0)).alloc (.cells c1 t1)).alloc (.cells c2 t2)) (w.heap.size + 1 + 1) c2 t2 := by
  obtain ⟨h0, h1⟩ := Box.two w c0 c1 t0 t1
  have h2 := Box.new ((w.alloc (.cells c0 t0)).alloc (.cells c1 t1)) c2 t2
  have e : ((w.alloc (.cells c0 t0)).alloc (.cells c1 t1)).heap.size = w.heap.size + 1 + 1 := by simp
  rw [e] at h2
  exact ⟨h0.below (bel_alloc (Below.refl _ _) _), h1.below (bel_alloc (Below.refl _ _) _), h2⟩

theorem at8' {w : World} {m : Nat} {t : TypeId} {c0 c1 c2 c3 c4 c5 c6 c7 : Value} (h : Box w m #[c0, c1, c2, c3, c4, c5, c6, c7] t) :
    w.cell? ⟨m, 0, none⟩ = some c0 ∧ w.cell? ⟨m, 1, none⟩ = some c1 ∧ w.cell? ⟨m, 2, none⟩ = some c2 ∧ w.cell? ⟨m, 3, none⟩ = some c3 ∧ w.cell? ⟨m, 4, none⟩ = some c4 ∧ w.cell? ⟨m, 5, none⟩ = some c5 ∧ w.cell? ⟨m, 6, none⟩ = some c6 ∧ w.cell? ⟨m, 7, none⟩ = some c7 ∧ m < w.heap.size :=
  ⟨by rw [h.cell]; rfl, by rw [h.cell]; rfl, by rw [h.cell]; rfl, by rw [h.cell]; rfl, by rw [h.cell]; rfl, by rw [h.cell]; rfl, by rw [h.cell]; rfl, by rw [h.cell]; rfl, h.lt⟩

set_option maxRecDepth 100000 in
set_option maxHeartbeats 2000000 in
theorem toHome_any (ow wh ak : Int) (bz wo : Bool) (al ar aq : Option Addr) (cl cr cq : Nat) (xs : List Int) (bs : List Bool) (ws : List (Int × Bool)) (w : World) (hl : xs.length ≤ 1048576) (hr : bs.length ≤ 1048576) (hq : ws.length ≤ 1048576)
    (hal : Row .i64 w al xs) (har : VRow w ar (bv bs)) (haq : VRow w aq (wv ws)) :
    Calls Try.prog 63 #[.agg #[.slice al xs.length cl, .int .i64 ow, .slice ar bs.length cr, .bool bz, .int .i64 wh, .bool wo, .int .i64 ak, .slice aq ws.length cq]] w fun e w' => ∃ al1 cl1 ar1 cr1 aq1 cq1, e = .returned (.agg #[.slice al1 xs.length cl1, .int .i64 ow, .slice ar1 bs.length cr1, .bool bz, .int .i64 wh, .bool wo, .int .i64 ak, .slice aq1 ws.length cq1]) ∧ w'.ownsRow w.heap.size 3 1 (.slice al1 xs.length cl1) xs.length (xs.map (Value.int .i64)) ∧ w'.ownsRow w.heap.size 4 1 (.slice ar1 bs.length cr1) bs.length (bv bs) ∧ w'.ownsRow w.heap.size 142 2 (.slice aq1 ws.length cq1) ws.length (wv ws) ∧ Below w.heap.size w w' := by
  have bA := bel_alloc (bel_alloc (bel_alloc (Below.refl w.heap.size w) (.cells #[.slice al xs.length cl, .int .i64 ow, .slice ar bs.length cr, .bool bz, .int .i64 wh, .bool wo, .int .i64 ak, .slice aq ws.length cq] 134)) (.cells #[.slice none 0 0, .int .i64 0, .slice none 0 0, .bool false, .int .i64 0, .bool false, .int .i64 0, .slice none 0 0] 145)) (.cells #[.slice none 0 0, .int .i64 0, .slice none 0 0, .bool false, .int .i64 0, .bool false, .int .i64 0, .slice none 0 0] 145)
  obtain ⟨X1, X2, X3⟩ := Box.tri w #[.slice al xs.length cl, .int .i64 ow, .slice ar bs.length cr, .bool bz, .int .i64 wh, .bool wo, .int .i64 ak, .slice aq ws.length cq] #[.slice none 0 0, .int .i64 0, .slice none 0 0, .bool false, .int .i64 0, .bool false, .int .i64 0, .slice none 0 0] #[.slice none 0 0, .int .i64 0, .slice none 0 0, .bool false, .int .i64 0, .bool false, .int .i64 0, .slice none 0 0] 134 145 145
  go_enter Try.func63, Try.ntmps63
  go_wp2_with fail
  refine (toIntS_any al cl xs _ hl (hal.below bA)).mono ?_
  rintro e w1 ⟨v1, rfl, o1, b1⟩
  obtain ⟨al1, cl1, rfl⟩ := owns_slice o1
  have B : Below w.heap.size w w1 := bel_trans bA b1
  replace X1 := X1.below b1
  replace X2 := X2.below b1
  replace X3 := X3.below b1
  have L1 : Hid (∀ j, (Value.slice al1 xs.length cl1).ownBlock = some j → w.heap.size + 1 + 1 + 1 ≤ j) := fun j h => by have := (o1.lt j h).1; simp at this; exact this
  replace o1 := owns_base o1 (b' := w.heap.size) (by simp; omega)
  clear b1 bA hal
  obtain ⟨x0, x1, x2, x3, x4, x5, x6, x7, x8⟩ := at8' X1
  obtain ⟨y0, y1, y2, y3, y4, y5, y6, y7, y8⟩ := at8' X3
  have f0 := X3.frozen 0
  have f1 := X3.frozen 1
  have f2 := X3.frozen 2
  have f3 := X3.frozen 3
  have f4 := X3.frozen 4
  have f5 := X3.frozen 5
  have f6 := X3.frozen 6
  have f7 := X3.frozen 7
  have Z3 : Hid (Box ((w1.setCell ⟨w.heap.size + 1 + 1, 0, none⟩ (.slice al1 xs.length cl1)).setCell ⟨w.heap.size + 1 + 1, 1, none⟩ (.int .i64 ow)) (w.heap.size + 1 + 1) #[.slice al1 xs.length cl1, .int .i64 ow, .slice none 0 0, .bool false, .int .i64 0, .bool false, .int .i64 0, .slice none 0 0] 145) := (heap_setCell_same _ _ 1 _ _ _ (heap_setCell_same _ _ 0 _ _ _ X3))
  have Z1 : Hid (Box ((w1.setCell ⟨w.heap.size + 1 + 1, 0, none⟩ (.slice al1 xs.length cl1)).setCell ⟨w.heap.size + 1 + 1, 1, none⟩ (.int .i64 ow)) w.heap.size #[.slice al xs.length cl, .int .i64 ow, .slice ar bs.length cr, .bool bz, .int .i64 wh, .bool wo, .int .i64 ak, .slice aq ws.length cq] 134) := ((X1.far _ _ (by simp; omega)).far _ _ (by simp; omega))
  have Z2 : Hid (Box ((w1.setCell ⟨w.heap.size + 1 + 1, 0, none⟩ (.slice al1 xs.length cl1)).setCell ⟨w.heap.size + 1 + 1, 1, none⟩ (.int .i64 ow)) (w.heap.size + 1) #[.slice none 0 0, .int .i64 0, .slice none 0 0, .bool false, .int .i64 0, .bool false, .int .i64 0, .slice none 0 0] 145) := ((X2.far _ _ (by simp)).far _ _ (by simp))
  have ZB : Hid (Below w.heap.size w ((w1.setCell ⟨w.heap.size + 1 + 1, 0, none⟩ (.slice al1 xs.length cl1)).setCell ⟨w.heap.size + 1 + 1, 1, none⟩ (.int .i64 ow))) := (bel_setCell (bel_setCell B _ _ (by simp; omega)) _ _ (by simp; omega))
  have Zo1 := (owns_setCell (owns_setCell o1 (a := ⟨w.heap.size + 1 + 1, 0, none⟩) (fun j hj he => by have := L1.out j hj; subst he; simp at this; omega) (.slice al1 xs.length cl1)) (a := ⟨w.heap.size + 1 + 1, 1, none⟩) (fun j hj he => by have := L1.out j hj; subst he; simp at this; omega) (.int .i64 ow))
  have hzA : w.heap.size + 1 + 1 + 1 ≤ ((w1.setCell ⟨w.heap.size + 1 + 1, 0, none⟩ (.slice al1 xs.length cl1)).setCell ⟨w.heap.size + 1 + 1, 1, none⟩ (.int .i64 ow)).heap.size := by simp; omega
  clear X1 X2 X3
  go_wp2_with fail
  refine (toBoolS_any ar cr bs _ hr (har.below ZB.out)).mono ?_
  rintro e w2 ⟨v2, rfl, o2, b2⟩
  obtain ⟨ar1, cr1, rfl⟩ := owns_slice o2
  clear x0 x1 x2 x3 x4 x5 x6 x7 x8 y0 y1 y2 y3 y4 y5 y6 y7 y8 f0 f1 f2 f3 f4 f5 f6 f7
  have L2 : Hid (∀ j, (Value.slice ar1 bs.length cr1).ownBlock = some j → w.heap.size + 1 + 1 + 1 ≤ j) := fun j h => by have := (o2.lt j h).1; omega
  replace o2 := owns_base o2 (b' := w.heap.size) (by omega)
  clear hzA
  replace X1 := Z1.out.below b2
  replace X2 := Z2.out.below b2
  replace X3 := Z3.out.below b2
  replace B := bel_trans ZB.out b2
  replace o1 := owns_below Zo1 b2
  clear Zo1
  clear Z1 Z2 Z3 ZB
  clear b2 har
  obtain ⟨x0, x1, x2, x3, x4, x5, x6, x7, x8⟩ := at8' X1
  obtain ⟨y0, y1, y2, y3, y4, y5, y6, y7, y8⟩ := at8' X3
  have f0 := X3.frozen 0
  have f1 := X3.frozen 1
  have f2 := X3.frozen 2
  have f3 := X3.frozen 3
  have f4 := X3.frozen 4
  have f5 := X3.frozen 5
  have f6 := X3.frozen 6
  have f7 := X3.frozen 7
  have Z3 : Hid (Box ((w2.setCell ⟨w.heap.size + 1 + 1, 2, none⟩ (.slice ar1 bs.length cr1)).setCell ⟨w.heap.size + 1 + 1, 3, none⟩ (.bool bz)) (w.heap.size + 1 + 1) #[.slice al1 xs.length cl1, .int .i64 ow, .slice ar1 bs.length cr1, .bool bz, .int .i64 0, .bool false, .int .i64 0, .slice none 0 0] 145) := (heap_setCell_same _ _ 3 _ _ _ (heap_setCell_same _ _ 2 _ _ _ X3))
  have Z1 : Hid (Box ((w2.setCell ⟨w.heap.size + 1 + 1, 2, none⟩ (.slice ar1 bs.length cr1)).setCell ⟨w.heap.size + 1 + 1, 3, none⟩ (.bool bz)) w.heap.size #[.slice al xs.length cl, .int .i64 ow, .slice ar bs.length cr, .bool bz, .int .i64 wh, .bool wo, .int .i64 ak, .slice aq ws.length cq] 134) := ((X1.far _ _ (by simp; omega)).far _ _ (by simp; omega))
  have Z2 : Hid (Box ((w2.setCell ⟨w.heap.size + 1 + 1, 2, none⟩ (.slice ar1 bs.length cr1)).setCell ⟨w.heap.size + 1 + 1, 3, none⟩ (.bool bz)) (w.heap.size + 1) #[.slice none 0 0, .int .i64 0, .slice none 0 0, .bool false, .int .i64 0, .bool false, .int .i64 0, .slice none 0 0] 145) := ((X2.far _ _ (by simp)).far _ _ (by simp))
  have ZB : Hid (Below w.heap.size w ((w2.setCell ⟨w.heap.size + 1 + 1, 2, none⟩ (.slice ar1 bs.length cr1)).setCell ⟨w.heap.size + 1 + 1, 3, none⟩ (.bool bz))) := (bel_setCell (bel_setCell B _ _ (by simp; omega)) _ _ (by simp; omega))
  have Zo1 := (owns_setCell (owns_setCell o1 (a := ⟨w.heap.size + 1 + 1, 2, none⟩) (fun j hj he => by have := L1.out j hj; subst he; simp at this; omega) (.slice ar1 bs.length cr1)) (a := ⟨w.heap.size + 1 + 1, 3, none⟩) (fun j hj he => by have := L1.out j hj; subst he; simp at this; omega) (.bool bz))
  have Zo2 := (owns_setCell (owns_setCell o2 (a := ⟨w.heap.size + 1 + 1, 2, none⟩) (fun j hj he => by have := L2.out j hj; subst he; simp at this; omega) (.slice ar1 bs.length cr1)) (a := ⟨w.heap.size + 1 + 1, 3, none⟩) (fun j hj he => by have := L2.out j hj; subst he; simp at this; omega) (.bool bz))
  clear X1 X2 X3
  go_wp2_with fail
  refine (toWait_any wh wo _).mono ?_
  rintro e w3 ⟨rfl, b3⟩
  clear x0 x1 x2 x3 x4 x5 x6 x7 x8 y0 y1 y2 y3 y4 y5 y6 y7 y8 f0 f1 f2 f3 f4 f5 f6 f7
  replace X1 := Z1.out.below b3
  replace X2 := Z2.out.below b3
  replace X3 := Z3.out.below b3
  replace B := bel_trans ZB.out b3
  replace o1 := owns_below Zo1 b3
  clear Zo1
  replace o2 := owns_below Zo2 b3
  clear Zo2
  clear Z1 Z2 Z3 ZB
  clear b3
  obtain ⟨x0, x1, x2, x3, x4, x5, x6, x7, x8⟩ := at8' X1
  obtain ⟨y0, y1, y2, y3, y4, y5, y6, y7, y8⟩ := at8' X3
  have f0 := X3.frozen 0
  have f1 := X3.frozen 1
  have f2 := X3.frozen 2
  have f3 := X3.frozen 3
  have f4 := X3.frozen 4
  have f5 := X3.frozen 5
  have f6 := X3.frozen 6
  have f7 := X3.frozen 7
  have Z3 : Hid (Box (((w3.setCell ⟨w.heap.size + 1 + 1, 4, none⟩ (.int .i64 wh)).setCell ⟨w.heap.size + 1 + 1, 5, none⟩ (.bool wo)).setCell ⟨w.heap.size + 1 + 1, 6, none⟩ (.int .i64 ak)) (w.heap.size + 1 + 1) #[.slice al1 xs.length cl1, .int .i64 ow, .slice ar1 bs.length cr1, .bool bz, .int .i64 wh, .bool wo, .int .i64 ak, .slice none 0 0] 145) := (heap_setCell_same _ _ 6 _ _ _ (heap_setCell_same _ _ 5 _ _ _ (heap_setCell_same _ _ 4 _ _ _ X3)))
  have Z1 : Hid (Box (((w3.setCell ⟨w.heap.size + 1 + 1, 4, none⟩ (.int .i64 wh)).setCell ⟨w.heap.size + 1 + 1, 5, none⟩ (.bool wo)).setCell ⟨w.heap.size + 1 + 1, 6, none⟩ (.int .i64 ak)) w.heap.size #[.slice al xs.length cl, .int .i64 ow, .slice ar bs.length cr, .bool bz, .int .i64 wh, .bool wo, .int .i64 ak, .slice aq ws.length cq] 134) := (((X1.far _ _ (by simp; omega)).far _ _ (by simp; omega)).far _ _ (by simp; omega))
  have Z2 : Hid (Box (((w3.setCell ⟨w.heap.size + 1 + 1, 4, none⟩ (.int .i64 wh)).setCell ⟨w.heap.size + 1 + 1, 5, none⟩ (.bool wo)).setCell ⟨w.heap.size + 1 + 1, 6, none⟩ (.int .i64 ak)) (w.heap.size + 1) #[.slice none 0 0, .int .i64 0, .slice none 0 0, .bool false, .int .i64 0, .bool false, .int .i64 0, .slice none 0 0] 145) := (((X2.far _ _ (by simp)).far _ _ (by simp)).far _ _ (by simp))
  have ZB : Hid (Below w.heap.size w (((w3.setCell ⟨w.heap.size + 1 + 1, 4, none⟩ (.int .i64 wh)).setCell ⟨w.heap.size + 1 + 1, 5, none⟩ (.bool wo)).setCell ⟨w.heap.size + 1 + 1, 6, none⟩ (.int .i64 ak))) := (bel_setCell (bel_setCell (bel_setCell B _ _ (by simp; omega)) _ _ (by simp; omega)) _ _ (by simp; omega))
  have Zo1 := (owns_setCell (owns_setCell (owns_setCell o1 (a := ⟨w.heap.size + 1 + 1, 4, none⟩) (fun j hj he => by have := L1.out j hj; subst he; simp at this; omega) (.int .i64 wh)) (a := ⟨w.heap.size + 1 + 1, 5, none⟩) (fun j hj he => by have := L1.out j hj; subst he; simp at this; omega) (.bool wo)) (a := ⟨w.heap.size + 1 + 1, 6, none⟩) (fun j hj he => by have := L1.out j hj; subst he; simp at this; omega) (.int .i64 ak))
  have Zo2 := (owns_setCell (owns_setCell (owns_setCell o2 (a := ⟨w.heap.size + 1 + 1, 4, none⟩) (fun j hj he => by have := L2.out j hj; subst he; simp at this; omega) (.int .i64 wh)) (a := ⟨w.heap.size + 1 + 1, 5, none⟩) (fun j hj he => by have := L2.out j hj; subst he; simp at this; omega) (.bool wo)) (a := ⟨w.heap.size + 1 + 1, 6, none⟩) (fun j hj he => by have := L2.out j hj; subst he; simp at this; omega) (.int .i64 ak))
  have hzA : w.heap.size + 1 + 1 + 1 ≤ (((w3.setCell ⟨w.heap.size + 1 + 1, 4, none⟩ (.int .i64 wh)).setCell ⟨w.heap.size + 1 + 1, 5, none⟩ (.bool wo)).setCell ⟨w.heap.size + 1 + 1, 6, none⟩ (.int .i64 ak)).heap.size := by simp; omega
  clear X1 X2 X3
  go_wp2_with fail
  refine (toWaitS_any aq cq ws _ hq (haq.below ZB.out)).mono ?_
  rintro e w4 ⟨v4, rfl, o4, b4⟩
  obtain ⟨aq1, cq1, rfl⟩ := owns_slice o4
  clear x0 x1 x2 x3 x4 x5 x6 x7 x8 y0 y1 y2 y3 y4 y5 y6 y7 y8 f0 f1 f2 f3 f4 f5 f6 f7
  have L4 : Hid (∀ j, (Value.slice aq1 ws.length cq1).ownBlock = some j → w.heap.size + 1 + 1 + 1 ≤ j) := fun j h => by have := (o4.lt j h).1; omega
  replace o4 := owns_base o4 (b' := w.heap.size) (by omega)
  clear hzA
  replace X1 := Z1.out.below b4
  replace X2 := Z2.out.below b4
  replace X3 := Z3.out.below b4
  replace B := bel_trans ZB.out b4
  replace o1 := owns_below Zo1 b4
  clear Zo1
  replace o2 := owns_below Zo2 b4
  clear Zo2
  clear Z1 Z2 Z3 ZB
  clear b4 haq
  obtain ⟨x0, x1, x2, x3, x4, x5, x6, x7, x8⟩ := at8' X2
  obtain ⟨y0, y1, y2, y3, y4, y5, y6, y7, y8⟩ := at8' X3
  have f0 := X2.frozen 0
  have f1 := X2.frozen 1
  have f2 := X2.frozen 2
  have f3 := X2.frozen 3
  have f4 := X2.frozen 4
  have f5 := X2.frozen 5
  have f6 := X2.frozen 6
  have f7 := X2.frozen 7
  have f9 := X3.frozen 7
  clear X1 X2 X3
  go_wp2
  refine bodyPost_ret (v := .agg #[.slice al1 xs.length cl1, .int .i64 ow, .slice ar1 bs.length cr1, .bool bz, .int .i64 wh, .bool wo, .int .i64 ak, .slice aq1 ws.length cq1]) (by simp [results, Try.results63, go_sem, x0, x1, x2, x3, x4, x5, x6, x7]) rfl ⟨al1, cl1, ar1, cr1, aq1, cq1, rfl, ?_, ?_, ?_, ?_⟩
  · repeat refine owns_setCell ?_ ?_ _
    · exact o1
    all_goals (intro j h; have := L1.out j h; simp; omega)
  · repeat refine owns_setCell ?_ ?_ _
    · exact o2
    all_goals (intro j h; have := L2.out j h; simp; omega)
  · repeat refine owns_setCell ?_ ?_ _
    · exact o4
    all_goals (intro j h; have := L4.out j h; simp; omega)
  · repeat refine bel_setCell ?_ _ _ ?_
    · exact B
    all_goals (simp; try omega)
end Go.Proofs.Ytpahjfijpjgdnaa
