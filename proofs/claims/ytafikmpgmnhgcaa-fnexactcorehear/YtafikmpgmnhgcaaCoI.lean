/- What impl's copyCore and CoreHear answer. -/
import Derived.Test.YtafikmpgmnhgcaaCo2
import Derived.Test.YtafikmpgmnhgcaaHc9
import Derived.Test.YtafikmpgmnhgcaaCaI3
namespace Go.Proofs.Ytafikmpgmnhgcaa
open Go.RowKit
set_option linter.unusedVariables false

set_option maxRecDepth 100000 in
set_option maxHeartbeats 2000000 in
theorem copyCore_any (d : CoD) (p : CoP) (w : World) (ha : CoR w d p) : Calls Try.prog 23 #[.agg (ccells d p)] w (CoreP d w) := by
  have bA := bel_alloc (bel_alloc (Below.refl w.heap.size w) (.cells (ccells d p) 35)) (.cells #[.slice none 0 0, .int .i64 0, .int .i64 0, .slice none 0 0] 35)
  obtain ⟨XA, XR⟩ := Box.two w (ccells d p) #[.slice none 0 0, .int .i64 0, .int .i64 0, .slice none 0 0] 35 35
  have HA : Hid (CoR w d p) := ha
  replace ha := ha.below bA
  have hl := ha.l
  obtain ⟨x0, x1, x2, x3, xz⟩ := XA.at4
  go_enter Try.func23, Try.ntmps23
  go_wp2_with fail
  refine (copyHart_any p.r.1 p.r.2 d.h.xs d.h.pc d.h.st _ hl ha.r).mono ?_
  rintro e w1 ⟨a1, c1, rfl, o1, b1⟩
  have hz1 : w.heap.size + 2 ≤ w1.heap.size := by have := b1.size; simp at this; omega
  have O1 : Hid (w1.ownsRow (w.heap.size + 1 + 1) 3 1 (.slice a1 d.h.xs.length c1) d.h.xs.length (d.h.xs.map (Value.int .i64))) := by
    have h := o1
    simp only [World.size_alloc] at h
    exact h
  replace XA := XA.below b1
  replace XR := XR.below b1
  have B := bel_trans bA b1
  clear x0 x1 x2 x3 xz b1 bA o1 ha hl
  obtain ⟨x0, x1, x2, x3, xz⟩ := XA.at4
  have fx0 := XA.frozen 0
  have fx1 := XA.frozen 1
  have fx2 := XA.frozen 2
  have hne : w.heap.size + 1 ≠ w.heap.size := by omega
  obtain ⟨V, hV⟩ : ∃ V, ((w1.setCell ⟨w.heap.size, 0, none⟩ (.slice a1 d.h.xs.length c1)).setCell ⟨w.heap.size, 1, none⟩ (.int .i64 d.h.pc)).setCell ⟨w.heap.size, 2, none⟩ (.int .i64 d.h.st) = V := ⟨_, rfl⟩
  have k1 : Hid (Only w1 V (fun b => b = w.heap.size)) := by
    show Only _ _ _
    rw [← hV]
    refine Only.setCell ?_ _ _ (by simp)
    refine Only.setCell ?_ _ _ (by simp)
    refine Only.setCell ?_ _ _ (by simp)
    exact Only.refl _ _
  have YA : Box V w.heap.size #[.slice a1 d.h.xs.length c1, .int .i64 d.h.pc, .int .i64 d.h.st, .slice p.c.1 d.n p.c.2] 35 := by
    have h0 : Box (w1.setCell ⟨w.heap.size, 0, none⟩ (.slice a1 d.h.xs.length c1)) w.heap.size #[.slice a1 d.h.xs.length c1, .int .i64 d.h.pc, .int .i64 d.h.st, .slice p.c.1 d.n p.c.2] 35 := heap_setCell_same _ _ 0 _ _ _ XA
    have h1 : Box ((w1.setCell ⟨w.heap.size, 0, none⟩ (.slice a1 d.h.xs.length c1)).setCell ⟨w.heap.size, 1, none⟩ (.int .i64 d.h.pc)) w.heap.size #[.slice a1 d.h.xs.length c1, .int .i64 d.h.pc, .int .i64 d.h.st, .slice p.c.1 d.n p.c.2] 35 := heap_setCell_same _ _ 1 _ _ _ h0
    rw [← hV]
    exact heap_setCell_same _ _ 2 _ _ _ h1
  have YR : Box V (w.heap.size + 1) #[.slice none 0 0, .int .i64 0, .int .i64 0, .slice none 0 0] 35 := XR.only k1.out hne
  have BV : Below w.heap.size w V := k1.out.bel B (fun i hi => by omega)
  have hk := (HA.out.below BV).k
  have hzV : w1.heap.size ≤ V.heap.size := k1.out.size
  have HZ : Hid (w.heap.size + 2 ≤ w1.heap.size) := hz1
  have HV : Hid (w1.heap.size ≤ V.heap.size) := hzV
  obtain ⟨y0, y1, y2, y3, yz⟩ := YA.at4
  go_wp2_with fail
  clear hV x0 x1 x2 x3 xz y0 y1 y2 y3 yz fx0 fx1 fx2 XA XR B hne hz1 hzV
  refine (copyEachK_any p.c.1 p.c.2 d.n d.k p.q _ hk).mono ?_
  rintro e w2 ⟨a2, c2, p2, rfl, o2, l2, b2⟩
  have HL : Hid (∀ b, RS a2 c2 d.n (fun i => QK (p2 i)) b → V.heap.size ≤ b) := l2
  have HO2 : Hid (KO w2 a2 c2 d.n d.k p2) := o2
  have B2 : Hid (Below w.heap.size w w2) := bel_trans BV b2
  have h1 : Hid (∀ j, (Value.slice a1 d.h.xs.length c1).ownBlock = some j → w.heap.size + 2 ≤ j ∧ j < w1.heap.size) := fun j hj => O1.out.lt j hj
  have O2 : Hid (w2.ownsRow 0 3 1 (.slice a1 d.h.xs.length c1) d.h.xs.length (d.h.xs.map (Value.int .i64))) := owns_below (owns_only (owns_base O1.out (Nat.zero_le _)) k1.out (fun j hj e => by have := h1.out j hj; omega)) b2
  replace YA := YA.below b2
  replace YR := YR.below b2
  clear l2 o2 BV b2 hk k1 O1
  obtain ⟨x0, x1, x2, x3, xz⟩ := YA.at4
  have fx3 := YA.frozen 3
  obtain ⟨m0, m1, m2, m3, mz⟩ := YR.at4
  have fm0 := YR.frozen 0
  have fm1 := YR.frozen 1
  have fm2 := YR.frozen 2
  have fm3 := YR.frozen 3
  clear YA YR
  go_wp2
  refine bodyPost_ret (v := .agg #[.slice a1 d.h.xs.length c1, .int .i64 d.h.pc, .int .i64 d.h.st, .slice a2 d.n c2]) (by simp [results, Try.results23, go_sem, m0, m1, m2, m3]) rfl ⟨⟨(a1, c1), (a2, c2), p2⟩, rfl, ?_⟩
  have hq : ∀ b, QCo d ⟨(a1, c1), (a2, c2), p2⟩ b → w.heap.size ≤ b := fun b hb => by
    rcases hb with hb | hb
    · have := h1.out b (blk_own (p := (a1, c1)) hb); omega
    · have := HL.out b hb; have := HZ.out; have := HV.out; omega
  refine (fun (k : Only w2 _ (fun b => b = w.heap.size ∨ b = w.heap.size + 1)) => ⟨⟨owns_only O2.out k (fun j hj e => by have := h1.out j hj; omega), Rw.sm HO2.out (k.sm (fun b hb e => by have := HL.out b hb; have := HZ.out; have := HV.out; omega)), fun b hb hr => by have := h1.out b (blk_own (p := (a1, c1)) hb); have := HL.out b hr; have := HV.out; omega⟩, hq, k.bel B2.out (fun i hi => by omega)⟩) ?_
  repeat refine Only.setCell ?_ _ _ (by simp)
  exact Only.refl _ _

set_option maxRecDepth 100000 in
set_option maxHeartbeats 4000000 in
theorem implCoreHear_any (d : CoD) (p : CoP) (k pg : Int) (o : Bool) (a : Option Addr) (c : Nat) (xs : List Int) (w : World) (hs : CoS d) (ha : CoR w d p) (_ : Row .i64 w a xs) (_ : xs.length ≤ 1048577) :
    Calls Try.prog 9 #[.agg (ccells d p), .agg #[.int .i64 k, .int .i64 pg, .bool o, .slice a xs.length c]] w (CoreP (hearD k pg d) w) := by
  obtain ⟨vm, hvm⟩ : ∃ vm, Value.slice a xs.length c = vm := ⟨_, rfl⟩
  rw [hvm]
  clear hvm
  have bA := bel_alloc (bel_alloc (bel_alloc (Below.refl w.heap.size w) (.cells (ccells d p) 35)) (.cells #[.int .i64 k, .int .i64 pg, .bool o, vm] 38)) (.cells #[.slice none 0 0, .int .i64 0, .int .i64 0, .slice none 0 0] 35)
  obtain ⟨XA, XM⟩ := Box.two w (ccells d p) #[.int .i64 k, .int .i64 pg, .bool o, vm] 35 38
  replace XA := XA.below (bel_alloc (Below.refl _ _) (.cells #[.slice none 0 0, .int .i64 0, .int .i64 0, .slice none 0 0] 35))
  replace XM := XM.below (bel_alloc (Below.refl _ _) (.cells #[.slice none 0 0, .int .i64 0, .int .i64 0, .slice none 0 0] 35))
  have XR := Box.new ((w.alloc (.cells (ccells d p) 35)).alloc (.cells #[.int .i64 k, .int .i64 pg, .bool o, vm] 38)) #[.slice none 0 0, .int .i64 0, .int .i64 0, .slice none 0 0] 35
  simp only [World.size_alloc] at XR
  replace ha := ha.below bA
  obtain ⟨x0, x1, x2, x3, xz⟩ := XA.at4
  go_enter Try.func9, Try.ntmps9
  go_wp2_with fail
  refine (copyCore_any d p _ ha).mono ?_
  rintro e w1 ⟨p1, rfl, E1, l1, b1⟩
  have hz1 : w.heap.size + 3 ≤ w1.heap.size := by have := b1.size; simp at this; omega
  have L1 : Hid (∀ b, QCo d p1 b → w.heap.size + 3 ≤ b ∧ b < w1.heap.size) := fun b hb => ⟨by have := l1 b hb; simp at this; omega, E1.lt hb⟩
  replace XA := XA.below b1
  replace XM := XM.below b1
  replace XR := XR.below b1
  have B := bel_trans bA b1
  clear x0 x1 x2 x3 xz b1 l1 bA ha
  obtain ⟨x0, x1, x2, x3, xz⟩ := XA.at4
  have fx0 := XA.frozen 0
  have fx1 := XA.frozen 1
  have fx2 := XA.frozen 2
  have fx3 := XA.frozen 3
  obtain ⟨V, hV⟩ : ∃ V, (((w1.setCell ⟨w.heap.size, 0, none⟩ (.slice p1.r.1 d.h.xs.length p1.r.2)).setCell ⟨w.heap.size, 1, none⟩ (.int .i64 d.h.pc)).setCell ⟨w.heap.size, 2, none⟩ (.int .i64 d.h.st)).setCell ⟨w.heap.size, 3, none⟩ (.slice p1.c.1 d.n p1.c.2) = V := ⟨_, rfl⟩
  have k1 : Only w1 V (fun b => b = w.heap.size) := by
    rw [← hV]
    refine Only.setCell ?_ _ _ (by simp)
    refine Only.setCell ?_ _ _ (by simp)
    refine Only.setCell ?_ _ _ (by simp)
    refine Only.setCell ?_ _ _ (by simp)
    exact Only.refl _ _
  have XO : Box V w.heap.size (ccells d p1) 35 := by
    have h0 : Box (w1.setCell ⟨w.heap.size, 0, none⟩ (.slice p1.r.1 d.h.xs.length p1.r.2)) w.heap.size #[.slice p1.r.1 d.h.xs.length p1.r.2, .int .i64 d.h.pc, .int .i64 d.h.st, .slice p.c.1 d.n p.c.2] 35 := heap_setCell_same _ _ 0 _ _ _ XA
    have h1 : Box ((w1.setCell ⟨w.heap.size, 0, none⟩ (.slice p1.r.1 d.h.xs.length p1.r.2)).setCell ⟨w.heap.size, 1, none⟩ (.int .i64 d.h.pc)) w.heap.size #[.slice p1.r.1 d.h.xs.length p1.r.2, .int .i64 d.h.pc, .int .i64 d.h.st, .slice p.c.1 d.n p.c.2] 35 := heap_setCell_same _ _ 1 _ _ _ h0
    have h2 : Box (((w1.setCell ⟨w.heap.size, 0, none⟩ (.slice p1.r.1 d.h.xs.length p1.r.2)).setCell ⟨w.heap.size, 1, none⟩ (.int .i64 d.h.pc)).setCell ⟨w.heap.size, 2, none⟩ (.int .i64 d.h.st)) w.heap.size #[.slice p1.r.1 d.h.xs.length p1.r.2, .int .i64 d.h.pc, .int .i64 d.h.st, .slice p.c.1 d.n p.c.2] 35 := heap_setCell_same _ _ 2 _ _ _ h1
    rw [← hV]
    exact heap_setCell_same _ _ 3 _ _ _ h2
  replace XM := XM.only k1 (by omega)
  replace XR := XR.only k1 (by omega)
  replace B : Below w.heap.size w V := k1.bel B (fun i hi => by omega)
  replace E1 : ECo d p1 V := E1.sm (k1.sm (fun b hb e => by have := L1.out b hb; omega))
  have zV : w1.heap.size ≤ V.heap.size := k1.size
  clear XA k1
  obtain ⟨z0, z1, z2, z3, zz⟩ := XO.at4
  obtain ⟨y0, y1, y2, y3, yz⟩ := XM.at4
  have HZ : Hid (w.heap.size + 3 ≤ w1.heap.size ∧ w1.heap.size ≤ V.heap.size) := ⟨hz1, zV⟩
  by_cases hk : k = 3 ∨ k = 4 ∨ k = 6
  · have HD : Hid (hearD k pg d = ⟨d.h, (purL pg d.k d.n).length, kd (purL pg d.k d.n)⟩) := by show _ = _; unfold hearD; rw [if_pos hk]
    have hkr : KR V p1.c.1 d.n d.k p1.q := E1.k.kr (by have := hs.n; omega) (fun i hi => by have := hs.k i hi; omega)
    have HS : Hid (CoS d) := hs
    have ER : Hid (V.ownsRow 0 3 1 (.slice p1.r.1 d.h.xs.length p1.r.2) d.h.xs.length (d.h.xs.map (Value.int .i64))) := E1.r
    clear hs E1
    rcases hk with rfl | rfl | rfl
    all_goals
      go_wp2_with fail
      refine (implPurge_any p1.c.1 p1.c.2 d.n d.k p1.q pg _ hkr).mono ?_
      rintro e w2 ⟨a2, c2, p2, rfl, K2⟩
      have ZR := XR.below K2.b
      have ZO := XO.below K2.b
      have B2 : Hid (Below w.heap.size w w2) := bel_trans B K2.b
      have OR : Hid (w2.ownsRow 0 3 1 (.slice p1.r.1 d.h.xs.length p1.r.2) d.h.xs.length (d.h.xs.map (Value.int .i64))) := owns_below ER.out K2.b
      have HK2 : Hid (KL V w2 (purL pg d.k d.n) a2 c2 p2) := K2
      obtain ⟨N, hN⟩ : ∃ N, (purL pg d.k d.n).length = N := ⟨_, rfl⟩
      have HN : Hid ((purL pg d.k d.n).length = N) := hN
      rw [hN]
      clear K2 hN hkr ER x0 x1 x2 x3 xz y0 y1 y2 y3 yz z0 z1 z2 z3 zz fx0 fx1 fx2 fx3 hV XO XM XR B zV hz1
      obtain ⟨x0, x1, x2, x3, xz⟩ := ZO.at4
      obtain ⟨m0, m1, m2, m3, mz⟩ := ZR.at4
      have fx3 := ZO.frozen 3
      have fm0 := ZR.frozen 0
      have fm1 := ZR.frozen 1
      have fm2 := ZR.frozen 2
      have fm3 := ZR.frozen 3
      clear ZO ZR
      go_wp2
      refine bodyPost_ret (v := .agg #[.slice p1.r.1 d.h.xs.length p1.r.2, .int .i64 d.h.pc, .int .i64 d.h.st, .slice a2 N c2]) (by simp [results, Try.results9, go_sem, m0, m1, m2, m3]) rfl ?_
      rw [HD.out]
      have hq : ∀ b, QCo ⟨d.h, (purL pg d.k d.n).length, kd (purL pg d.k d.n)⟩ ⟨p1.r, (a2, c2), p2⟩ b → w.heap.size ≤ b := fun b hb => by
        rcases hb with hb | hb
        · have := L1.out b (.inl hb); omega
        · have := HK2.out.lo b hb; have := HZ.out; omega
      refine ⟨⟨p1.r, (a2, c2), p2⟩, by rw [← HN.out], ?_⟩
      refine (fun (k : Only w2 _ (fun b => b = w.heap.size ∨ b = w.heap.size + 1 + 1)) => ⟨⟨owns_only OR.out k (fun j hj e => by have := L1.out j (.inl (blk_eq hj)); omega), Rw.sm HK2.out.r (k.sm (fun b hb e => by have := HK2.out.lo b hb; have := HZ.out; omega)), fun b hb hr => by have := L1.out b (.inl hb); have := HK2.out.lo b hr; have := HZ.out; omega⟩, hq, k.bel B2.out (fun i hi => by omega)⟩) ?_
      repeat refine Only.setCell ?_ _ _ (by simp)
      exact Only.refl _ _
  · have HD : Hid (hearD k pg d = d) := by show _ = _; unfold hearD; rw [if_neg hk]
    have e0 : (k == 3) = false := by simp; omega
    have e1 : (k == 4) = false := by simp; omega
    have e2 : (k == 6) = false := by simp; omega
    obtain ⟨m0, m1, m2, m3, mz⟩ := XR.at4
    have fm0 := XR.frozen 0
    have fm1 := XR.frozen 1
    have fm2 := XR.frozen 2
    have fm3 := XR.frozen 3
    clear XO XM XR
    clear hk zV hz1
    go_wp2
    refine bodyPost_ret (v := .agg #[.slice p1.r.1 d.h.xs.length p1.r.2, .int .i64 d.h.pc, .int .i64 d.h.st, .slice p1.c.1 d.n p1.c.2]) (by simp [results, Try.results9, go_sem, m0, m1, m2, m3]) rfl ?_
    rw [HD.out]
    refine ⟨p1, rfl, ?_⟩
    refine (fun (k : Only V _ (fun b => b = w.heap.size + 1 + 1)) => ⟨E1.sm (k.sm (fun b hb e => by have := L1.out b hb; omega)), fun b hb => by have := L1.out b hb; omega, k.bel B (fun i hi => by omega)⟩) ?_
    repeat refine Only.setCell ?_ _ _ (by simp)
    exact Only.refl _ _
end Go.Proofs.Ytafikmpgmnhgcaa
