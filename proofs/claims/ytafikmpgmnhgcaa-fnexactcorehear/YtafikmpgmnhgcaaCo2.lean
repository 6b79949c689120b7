/- What the specification's l12Copy and CoreHear answer. -/
import Derived.Test.YtafikmpgmnhgcaaCo1
import Derived.Test.YtafikmpgmnhgcaaCa3
import Derived.Test.YtafikmpgmnhgcaaHs9
import Derived.BigRegion
import Derived.Deep.RegionHeld3
namespace Go.Proofs.Ytafikmpgmnhgcaa
open Go.RowKit
set_option linter.unusedVariables false

theorem kd_allC {d : Nat → KD} {n i : Nat} (hi : i < n) : kd (allL d n) i = d i := by
  unfold kd allL
  simp [List.getD_eq_getElem?_getD, hi]

theorem l11Copy_own (a : Option Addr) (c n : Nat) (d : Nat → KD) (p : Nat → Pl) (w : World) (ha : KR w a n d p) :
    Calls Try.prog 35 #[.slice a n c] w fun e w' => ∃ a' c' p', e = .returned (.slice a' n c') ∧ KO w' a' c' n d p' ∧ (∀ b, RS a' c' n (fun i => QK (p' i)) b → w.heap.size ≤ b) ∧ Below w.heap.size w w' := by
  refine (l11Copy_any a c n d p w ha).mono ?_
  rintro e w1 ⟨a1, c1, p1, rfl, K⟩
  have r := K.r
  have lo := K.lo
  rw [allL_length] at r lo
  refine ⟨a1, c1, p1, by rw [allL_length], ?_, lo, K.b⟩
  exact Rw.congr r (fun i hi => by rw [kd_allC hi]) (fun i hi => rfl) (fun i hi => by rw [kd_allC hi])

theorem keepC {W W' : World} (b : Below W.heap.size W W') {a0 a1 a2 a3 : Addr} {u0 u1 u2 u3 : Value} {d : CoD} {p : CoP} (h : W.cell? a0 = some u0 ∧ W.cell? a1 = some u1 ∧ W.cell? a2 = some u2 ∧ W.cell? a3 = some u3 ∧ CoR W d p) : W'.cell? a0 = some u0 ∧ W'.cell? a1 = some u1 ∧ W'.cell? a2 = some u2 ∧ W'.cell? a3 = some u3 ∧ CoR W' d p :=
  ⟨cell_later b h.1, cell_later b h.2.1, cell_later b h.2.2.1, cell_later b h.2.2.2.1, h.2.2.2.2.below b⟩
theorem gotC {W : World} {a0 a1 a2 a3 : Addr} {u0 u1 u2 u3 : Value} {d : CoD} {p : CoP} (h : W.cell? a0 = some u0 ∧ W.cell? a1 = some u1 ∧ W.cell? a2 = some u2 ∧ W.cell? a3 = some u3 ∧ CoR W d p) : CoR W d p := h.2.2.2.2

/-- A core laid of two parts, all of it new. -/
theorem core_of {d : CoD} {w0 w1 w2 W : World} {a1 : Option Addr} {c1 : Nat} {a2 : Option Addr} {c2 : Nat} {p2 : Nat → Pl} {S : Nat → Prop} (hz : w0.heap.size ≤ w1.heap.size) (o1 : w1.ownsRow w0.heap.size 3 1 (.slice a1 d.h.xs.length c1) d.h.xs.length (d.h.xs.map (Value.int .i64))) (b2 : Below w1.heap.size w1 w2) (o2 : KO w2 a2 c2 d.n d.k p2) (l2 : ∀ b, RS a2 c2 d.n (fun i => QK (p2 i)) b → w1.heap.size ≤ b)
    (k : Only w2 W S) (hS : ∀ b, S b → b < w0.heap.size) : ECo d ⟨(a1, c1), (a2, c2), p2⟩ W ∧ (∀ b, QCo d ⟨(a1, c1), (a2, c2), p2⟩ b → w0.heap.size ≤ b) := by
  have h1 : ∀ j, (Value.slice a1 d.h.xs.length c1).ownBlock = some j → w0.heap.size ≤ j ∧ j < w1.heap.size := fun j hj => o1.lt j hj
  have OR := owns_only (owns_below (owns_base o1 (Nat.zero_le _)) b2) k (fun j hj e => by have := h1 j hj; have := hS _ e; omega)
  refine ⟨⟨OR, Rw.sm o2 (k.sm (fun b hb e => by have := l2 b hb; have := hS _ e; omega)), fun b hb hr => by have := h1 b (blk_own (p := (a1, c1)) hb); have := l2 b hr; omega⟩, fun b hb => ?_⟩
  rcases hb with hb | hb
  · have := h1 b (blk_own (p := (a1, c1)) hb); omega
  · have := l2 b hb; omega

set_option maxRecDepth 100000 in
set_option maxHeartbeats 2000000 in
theorem l12Copy_any (d : CoD) (p : CoP) (w : World) (ha : CoR w d p) : Calls Try.prog 18 #[.agg (ccells d p)] w (CoreP d w) := by
  have bA := bel_alloc (bel_alloc (Below.refl w.heap.size w) (.cells (ccells d p) 35)) (.cells #[.slice none 0 0, .int .i64 0, .int .i64 0, .slice none 0 0] 35)
  obtain ⟨XA, XR⟩ := Box.two w (ccells d p) #[.slice none 0 0, .int .i64 0, .int .i64 0, .slice none 0 0] 35 35
  replace ha := ha.below bA
  have hl := ha.l
  go_enter Try.func18, Try.ntmps18
  go_wp2_with fail
  obtain ⟨V, hV⟩ : ∃ V, (w.alloc (.cells (ccells d p) 35)).alloc (.cells #[.slice none 0 0, .int .i64 0, .int .i64 0, .slice none 0 0] 35) = V := ⟨_, rfl⟩
  have zV : V.heap.size = w.heap.size + 1 + 1 := by rw [← hV]; simp
  rw [hV] at XA XR ha bA ⊢
  clear hV
  have bd : Below V.heap.size V V.drew := below_drewN (Below.refl _ _) 1
  have zD : V.drew.heap.size = w.heap.size + 1 + 1 := zV
  replace XA := XA.below bd
  replace XR := XR.below bd
  replace ha := ha.below bd
  replace bA := bel_trans bA bd
  obtain ⟨x0, x1, x2, x3, xz⟩ := XA.at4
  go_region_with (first | (go_at_call 34; refine (l9Copy_any p.r.1 p.r.2 d.h.xs d.h.pc d.h.st _ hl ha.r).mono ?_; rintro e w1 ⟨a1, c1, rfl, o1, b1⟩; have YA := XA.below b1; have YR := XR.below b1; have yk := (ha.below b1).k; clear x0 x1 x2 x3 xz; obtain ⟨y0, y1, y2, y3, yz⟩ := YA.at4) | (go_at_call 35; refine (l11Copy_own p.c.1 p.c.2 d.n d.k p.q _ yk).mono ?_; rintro e w2 ⟨a2, c2, p2, rfl, o2, l2, b2⟩; have ZR := YR.below b2; clear y0 y1 y2 y3 yz; obtain ⟨m0, m1, m2, m3, mz⟩ := ZR.at4; have fm0 := ZR.frozen 0; have fm1 := ZR.frozen 1; have fm2 := ZR.frozen 2; have fm3 := ZR.frozen 3))
  all_goals
    go_wp2
    have hz1 : V.drew.heap.size ≤ w1.heap.size := b1.size
    have EC := fun W k => core_of (d := d) (W := W) (S := fun b => b = w.heap.size + 1) hz1 o1 b2 o2 l2 k (fun b hb => by omega)
    refine bodyPost_ret (v := .agg #[.slice a1 d.h.xs.length c1, .int .i64 d.h.pc, .int .i64 d.h.st, .slice a2 d.n c2]) (by simp [results, Try.results18, go_sem, m0, m1, m2, m3]) rfl ⟨⟨(a1, c1), (a2, c2), p2⟩, rfl, ?_⟩
    refine (fun (k : Only w2 _ _) => ⟨(EC _ k).1, fun b hb => by have := (EC _ k).2 b hb; omega, k.bel (bel_trans (bel_trans bA b1) b2) (fun i hi => by omega)⟩) ?_
    repeat refine Only.setCell ?_ _ _ (by simp)
    exact Only.refl _ _

/-- What a core is behind a message. -/
def hearD (k pg : Int) (d : CoD) : CoD := if k = 3 ∨ k = 4 ∨ k = 6 then ⟨d.h, (purL pg d.k d.n).length, kd (purL pg d.k d.n)⟩ else d
theorem hearD_sm {d : CoD} (s : CoS d) (k pg : Int) : CoS (hearD k pg d) := by
  unfold hearD
  split
  · exact ⟨s.x, Nat.le_trans (purL_le pg d.k d.n) s.n, purL_n s.k⟩
  · exact s

set_option maxRecDepth 100000 in
set_option maxHeartbeats 4000000 in
theorem specCoreHear_any (d : CoD) (p : CoP) (k pg : Int) (o : Bool) (vm : Value) (w : World) (hs : CoS d) (ha : CoR w d p) :
    Calls Try.prog 6 #[.agg (ccells d p), .agg #[.int .i64 k, .int .i64 pg, .bool o, vm]] w (CoreP (hearD k pg d) w) := by
  have bA := bel_alloc (bel_alloc (bel_alloc (Below.refl w.heap.size w) (.cells (ccells d p) 35)) (.cells #[.int .i64 k, .int .i64 pg, .bool o, vm] 38)) (.cells #[.slice none 0 0, .int .i64 0, .int .i64 0, .slice none 0 0] 35)
  obtain ⟨XA, XM⟩ := Box.two w (ccells d p) #[.int .i64 k, .int .i64 pg, .bool o, vm] 35 38
  replace XA := XA.below (bel_alloc (Below.refl _ _) (.cells #[.slice none 0 0, .int .i64 0, .int .i64 0, .slice none 0 0] 35))
  replace XM := XM.below (bel_alloc (Below.refl _ _) (.cells #[.slice none 0 0, .int .i64 0, .int .i64 0, .slice none 0 0] 35))
  have XR := Box.new ((w.alloc (.cells (ccells d p) 35)).alloc (.cells #[.int .i64 k, .int .i64 pg, .bool o, vm] 38)) #[.slice none 0 0, .int .i64 0, .int .i64 0, .slice none 0 0] 35
  simp only [World.size_alloc] at XR
  replace ha := ha.below bA
  obtain ⟨x0, x1, x2, x3, xz⟩ := XA.at4
  go_enter Try.func6, Try.ntmps6
  go_wp2_with fail
  refine (l12Copy_any d p _ ha).mono ?_
  rintro e w1 ⟨p1, rfl, E1, l1, b1⟩
  have hz1 : w.heap.size + 3 ≤ w1.heap.size := by have := b1.size; simp at this; omega
  have L1 : Hid (∀ b, QCo d p1 b → w.heap.size + 3 ≤ b ∧ b < w1.heap.size) := fun b hb => ⟨by have := l1 b hb; simp at this; omega, E1.lt hb⟩
  have bx := bel_alloc (Below.refl w1.heap.size w1) (.cells (ccells d p1) 35)
  have XO := Box.new w1 (ccells d p1) 35
  replace XM := (XM.below b1).below bx
  replace XR := (XR.below b1).below bx
  have B := bel_trans (bel_trans bA b1) bx
  replace E1 := E1.below bx
  clear x0 x1 x2 x3 xz b1 l1 bA bx XA ha
  obtain ⟨V, hV⟩ : ∃ V, w1.alloc (.cells (ccells d p1) 35) = V := ⟨_, rfl⟩
  have zV : V.heap.size = w1.heap.size + 1 := by rw [← hV]; simp
  rw [hV] at XO XM XR B E1
  obtain ⟨x0, x1, x2, x3, xz⟩ := XO.at4
  obtain ⟨y0, y1, y2, y3, yz⟩ := XM.at4
  by_cases hk : k = 3 ∨ k = 4 ∨ k = 6
  · have HD : Hid (hearD k pg d = ⟨d.h, (purL pg d.k d.n).length, kd (purL pg d.k d.n)⟩) := by show _ = _; unfold hearD; rw [if_pos hk]
    have hkr : KR V p1.c.1 d.n d.k p1.q := E1.k.kr (by have := hs.n; omega) (fun i hi => by have := hs.k i hi; omega)
    have HS : Hid (CoS d) := hs
    have ER : Hid (V.ownsRow 0 3 1 (.slice p1.r.1 d.h.xs.length p1.r.2) d.h.xs.length (d.h.xs.map (Value.int .i64))) := E1.r
    clear hs E1
    rcases hk with rfl | rfl | rfl
    all_goals
      go_wp2_with fail
      refine (specPurge_any p1.c.1 p1.c.2 d.n d.k p1.q pg _ hkr).mono ?_
      rintro e w2 ⟨a2, c2, p2, rfl, K2⟩
      have hz2 : V.heap.size ≤ w2.heap.size := K2.b.size
      have ZR := XR.below K2.b
      have ZO := XO.below K2.b
      have B2 := bel_trans B K2.b
      have OR : Hid (w2.ownsRow 0 3 1 (.slice p1.r.1 d.h.xs.length p1.r.2) d.h.xs.length (d.h.xs.map (Value.int .i64))) := owns_below ER.out K2.b
      have HK2 : Hid (KL V w2 (purL pg d.k d.n) a2 c2 p2) := K2
      obtain ⟨N, hN⟩ : ∃ N, (purL pg d.k d.n).length = N := ⟨_, rfl⟩
      have HN : Hid ((purL pg d.k d.n).length = N) := hN
      rw [hN]
      clear K2 hN hkr ER x0 x1 x2 x3 xz y0 y1 y2 y3 yz hV XO XM XR B
      obtain ⟨x0, x1, x2, x3, xz⟩ := ZO.at4
      obtain ⟨m0, m1, m2, m3, mz⟩ := ZR.at4
      have fx3 := ZO.frozen 3
      have fm0 := ZR.frozen 0
      have fm1 := ZR.frozen 1
      have fm2 := ZR.frozen 2
      have fm3 := ZR.frozen 3
      clear ZO ZR
      go_wp2
      refine bodyPost_ret (v := .agg #[.slice p1.r.1 d.h.xs.length p1.r.2, .int .i64 d.h.pc, .int .i64 d.h.st, .slice a2 N c2]) (by simp [results, Try.results6, go_sem, m0, m1, m2, m3]) rfl ?_
      rw [HD.out]
      have hq : ∀ b, QCo ⟨d.h, (purL pg d.k d.n).length, kd (purL pg d.k d.n)⟩ ⟨p1.r, (a2, c2), p2⟩ b → w.heap.size ≤ b := fun b hb => by
        rcases hb with hb | hb
        · have := L1.out b (.inl hb); omega
        · have := HK2.out.lo b hb; omega
      refine ⟨⟨p1.r, (a2, c2), p2⟩, by rw [← HN.out], ?_⟩
      refine (fun (k : Only w2 _ (fun b => b = w.heap.size + 1 + 1 ∨ b = w1.heap.size)) => ⟨⟨owns_only OR.out k (fun j hj e => by have := L1.out j (.inl (blk_eq hj)); omega), Rw.sm HK2.out.r (k.sm (fun b hb e => by have := HK2.out.lo b hb; omega)), fun b hb hr => by have := L1.out b (.inl hb); have := HK2.out.lo b hr; omega⟩, hq, k.bel B2 (fun i hi => by omega)⟩) ?_
      repeat refine Only.setCell ?_ _ _ (by simp)
      exact Only.refl _ _
  · have HD : Hid (hearD k pg d = d) := by show _ = _; unfold hearD; rw [if_neg hk]
    have e0 : (k == 3) = false := by simp; omega
    have e1 : (k == 4) = false := by simp; omega
    have e2 : (k == 6) = false := by simp; omega
    obtain ⟨m0, m1, m2, m3, mz⟩ := XR.at4
    have fm0 := XR.frozen 0
    have fm1 := XR.frozen 1
    have fm2 := XR.frozen 2
    have fm3 := XR.frozen 3
    clear XO XM XR
    clear hk
    go_wp2
    refine bodyPost_ret (v := .agg #[.slice p1.r.1 d.h.xs.length p1.r.2, .int .i64 d.h.pc, .int .i64 d.h.st, .slice p1.c.1 d.n p1.c.2]) (by simp [results, Try.results6, go_sem, m0, m1, m2, m3]) rfl ?_
    rw [HD.out]
    refine ⟨p1, rfl, ?_⟩
    refine (fun (k : Only V _ (fun b => b = w.heap.size + 1 + 1)) => ⟨E1.sm (k.sm (fun b hb e => by have := L1.out b hb; omega)), fun b hb => by have := L1.out b hb; omega, k.bel B (fun i hi => by omega)⟩) ?_
    repeat refine Only.setCell ?_ _ _ (by simp)
    exact Only.refl _ _
end Go.Proofs.Ytafikmpgmnhgcaa
