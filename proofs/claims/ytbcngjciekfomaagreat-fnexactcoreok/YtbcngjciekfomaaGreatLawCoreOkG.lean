/- Co4 and LawCoreOkG: see the heads of the parts. -/
import Derived.Test.YtbcngjciekfomaaGreatOpenCo
import Derived.Test.YtbcngjciekfomaaGreatCa6
import Derived.Test.YtbcngjciekfomaaGreatHs9
import Derived.Test.YtbcngjciekfomaaGreatNdO3
import Derived.Test.YtbcngjciekfomaaGreatWzT
import Derived.Test.YtbcngjciekfomaaGreatOpenN
import Derived.Deep.RegionHeld3
/- What the specification's CoreOk answers. -/
namespace Go.Proofs.YtbcngjciekfomaaGreat
open Go.RowKit
set_option linter.unusedVariables false

def coreB (d : CoD) (n : ND) (nodes : Int) : Bool := nodeOkB n nodes && (hartB d.h.xs d.h.pc d.h.st && cacheB d.n d.k n.nf n.f)

set_option maxRecDepth 100000 in
set_option maxHeartbeats 2000000 in
theorem specCoreOk_any (d : CoD) (p : CoP) (n : ND) (q : NP) (nodes : Int) (w : World) (hbs : ∀ i, i < n.nh → (n.h i).bs.length ≤ 1048577) (ha : CoR w d p) (hR : NR w n q) :
    Calls Tryz.prog 6 #[.agg (ccells d p), .agg (ncells n q), .int .i64 nodes] w fun e w' => e = .returned (.bool (coreB d n nodes)) ∧ Below w.heap.size w w' := by
  have B := bel_alloc (bel_alloc (Below.refl w.heap.size w) (.cells (ccells d p) 40)) (.cells (ncells n q) 47)
  obtain ⟨XC, XN⟩ := Box.two w (ccells d p) (ncells n q) 40 47
  replace ha := ha.below B
  replace hR := hR.below B
  obtain ⟨y0, y1, y2, y3, y4, yz⟩ := XN.at5
  go_enter Tryz.func6, Tryz.ntmps6
  go_wp2_with fail
  refine (specNodeOk_any n q nodes _ hbs hR).mono ?_
  rintro e w1 ⟨rfl, b1⟩
  replace XC := XC.below b1
  replace XN := XN.below b1
  replace ha := ha.below b1
  replace hR := hR.below b1
  replace B := bel_trans B b1
  clear b1 y0 y1 y2 y3 y4 yz
  obtain ⟨z1, hz1⟩ : ∃ z, nodeOkB n nodes = z := ⟨_, rfl⟩
  have HZ1 : Hid (nodeOkB n nodes = z1) := hz1
  rw [hz1]
  clear hz1
  cases z1
  · clear XC XN ha hR
    go_wp2
    go_ret
    exact ⟨ret_bool (by unfold coreB; rw [HZ1.out]; rfl), B⟩
  obtain ⟨x0, x1, x2, x3, xz⟩ := XC.at4
  go_wp2_with fail
  refine (specHartOk_any p.r.1 p.r.2 d.h.xs d.h.pc d.h.st _ ha.r).mono ?_
  rintro e w2 ⟨rfl, b2⟩
  replace XC := XC.below b2
  replace XN := XN.below b2
  replace ha := ha.below b2
  replace hR := hR.below b2
  replace B := bel_trans B b2
  clear b2 x0 x1 x2 x3 xz
  obtain ⟨z2, hz2⟩ : ∃ z, hartB d.h.xs d.h.pc d.h.st = z := ⟨_, rfl⟩
  have HZ2 : Hid (hartB d.h.xs d.h.pc d.h.st = z2) := hz2
  rw [hz2]
  clear hz2
  cases z2
  · clear XC XN ha hR
    go_wp2
    go_ret
    exact ⟨ret_bool (by unfold coreB; rw [HZ1.out, HZ2.out]; rfl), B⟩
  obtain ⟨x0, x1, x2, x3, xz⟩ := XC.at4
  obtain ⟨y0, y1, y2, y3, y4, yz⟩ := XN.at5
  go_wp2_with fail
  refine (specCacheOk_any p.c.1 p.c.2 d.n d.k p.q q.f.1 q.f.2 n.nf n.f q.fp _ ha.k hR.f).mono ?_
  rintro e w3 ⟨rfl, b3⟩
  replace B := bel_trans B b3
  clear b3 x0 x1 x2 x3 xz y0 y1 y2 y3 y4 yz XC XN ha hR
  obtain ⟨z3, hz3⟩ : ∃ z, cacheB d.n d.k n.nf n.f = z := ⟨_, rfl⟩
  have HZ3 : Hid (cacheB d.n d.k n.nf n.f = z3) := hz3
  rw [hz3]
  clear hz3
  go_wp2
  go_ret
  exact ⟨ret_bool (by unfold coreB; rw [HZ1.out, HZ2.out, HZ3.out]; rfl), B⟩
end Go.Proofs.YtbcngjciekfomaaGreat

/- The law FnExactCoreOk over any impl.CoreOk that answers as it should (written by mk12o.py). -/
namespace Go.Proofs.YtbcngjciekfomaaGreat
open Go.ChangeShapes Go.WideShapes Go.ChangeAt Go.RowKit
set_option linter.unusedVariables false

namespace LawFnExactCoreOk
set_option maxRecDepth 100000 in
set_option maxHeartbeats 8000000 in
theorem walkG (HI : ∀ (d : CoD) (p : CoP) (n : ND) (q : NP) (nodes : Int) (w : World), (∀ i, i < n.nh → (n.h i).bs.length ≤ 1048577) → CoR w d p → NR w n q → Calls Tryz.prog 9 #[.agg (ccells d p), .agg (ncells n q), .int .i64 nodes] w fun e w' => e = .returned (.bool (coreB d n nodes)) ∧ Below w.heap.size w w')
    (d : CoD) (p : CoP) (n : ND) (q : NP) (nodes : Int) (w : World) (hc : CoC w d p) (hn : NC w n q) (hwf : (Lit.int .i64 nodes).wf = true) :
    Calls Tryz.prog 3 #[.agg (ccells d p), .agg (ncells n q), .int .i64 nodes] w fun e w' => e = .returned (.bool true) ∧ Below w.heap.size w w' := by
  have bA := bel_alloc (bel_alloc (Below.refl w.heap.size w) (.cells (ccells d p) 27)) (.cells (ncells n q) 33)
  obtain ⟨XA, XB⟩ := Box.two w (ccells d p) (ncells n q) 27 33
  go_enter Tryz.func3, Tryz.ntmps3
  obtain ⟨x0, x1, x2, x3, xz⟩ := XA.at4
  go_wp2_with fail
  refine (szCore_tot d p 1048576 _ (by omega) (by omega) (hc.below bA)).mono ?_
  rintro e w1 ⟨r, rfl, hr0, bw1⟩
  have B := bel_trans bA bw1
  replace XA := XA.below bw1
  replace XB := XB.below bw1
  clear bw1 bA
  clear x0 x1 x2 x3 xz
  rcases hr0 with rfl | ⟨r0, r1⟩
  · clear hc hn HI XA XB
    go_wp2
    go_ret
    exact ⟨rfl, B⟩
  have hs : CoS d := cZ_sm (by omega)
  have hr1 : r ≤ 1048576 := by omega
  have hrd : ¬ (r < 0) := by omega
  have HA : Hid (CoR w d p) := hc.cr hs
  clear hc r1
  obtain ⟨y0, y1, y2, y3, y4, yz⟩ := XB.at5
  go_wp2_with fail
  refine (szNode_tot n q r _ r0 hr1 (hn.below B)).mono ?_
  rintro e w2 ⟨s, rfl, hq0, bw2⟩
  clear y0 y1 y2 y3 y4 yz
  replace XA := XA.below bw2
  replace XB := XB.below bw2
  replace B := bel_trans B bw2
  clear bw2
  rcases hq0 with rfl | ⟨q0, q1⟩
  · clear hn HI XA XB
    go_wp2
    go_ret
    exact ⟨rfl, B⟩
  have hm : Nsm n := nZ_sm (by omega)
  have hqd : ¬ (s < 0) := by omega
  have HB : Hid (NR w n q) := hn.nr hm
  have HBS : Hid (∀ i, i < n.nh → (n.h i).bs.length ≤ 1048577) := fun i hi => by have := (hm.h.2 i hi).2.1; omega
  clear hn q1
  have HI' : Hid (∀ (p : CoP) (q : NP) (W : World), CoR W d p → NR W n q → Calls Tryz.prog 9 #[.agg (ccells d p), .agg (ncells n q), .int .i64 nodes] W fun e w' => e = .returned (.bool (coreB d n nodes)) ∧ Below W.heap.size W w') := fun p q W h1 h2 => HI d p n q nodes W HBS.out h1 h2
  have HS : Hid (∀ (p : CoP) (q : NP) (W : World), CoR W d p → NR W n q → Calls Tryz.prog 6 #[.agg (ccells d p), .agg (ncells n q), .int .i64 nodes] W fun e w' => e = .returned (.bool (coreB d n nodes)) ∧ Below W.heap.size W w') := fun p q W h1 h2 => specCoreOk_any d p n q nodes W HBS.out h1 h2
  clear HI
  generalize coreB d n nodes = z at HI' HS
  obtain ⟨x0, x1, x2, x3, xz⟩ := XA.at4
  obtain ⟨y0, y1, y2, y3, y4, yz⟩ := XB.at5
  go_wp2_with fail
  refine wp_region_held_drew (S := fun W => Below w2.heap.size w2 W) (by kernel_rfl) ?_ (fun hHeld => ?_)
  · exact below_drewN (Below.refl _ _) 1
  obtain ⟨V0, hV0⟩ : ∃ V, w2.drew = V := ⟨_, rfl⟩
  rw [hV0] at hHeld ⊢
  clear hV0
  have hs_V0 : w2.heap.size ≤ V0.heap.size := hHeld.size
  refine wpAnyH_take (i := 0) (oi := { dst := some 22, op := Op.load 27 (Operand.tmp 3), type := 27, pos := "exact.go:3532", after := #[], guard := none }) (v := .agg (ccells d p)) rfl (by kernel_rfl) (by kernel_rfl) (by kernel_rfl) (fun _ _ _ h => h) (Or.inl ⟨by rfl, ?hy1⟩) (by assumption) ?rest1
  case hy1 => intro W hS; have c0 := cell_later hS x0; have c1 := cell_later hS x1; have c2 := cell_later hS x2; have c3 := cell_later hS x3; go_simp; try (with_reducible rfl)
  simp only [Act.put, List.setIfInBounds_toArray, List.set_cons_zero, List.set_cons_succ]
  refine wpAnyH_take (i := 2) (oi := { dst := some 24, op := Op.load 33 (Operand.tmp 4), type := 33, pos := "exact.go:3532", after := #[], guard := none }) (v := .agg (ncells n q)) rfl (by kernel_rfl) (by kernel_rfl) (by kernel_rfl) (fun _ _ _ h => h) (Or.inl ⟨by rfl, ?hy2⟩) (by assumption) ?rest2
  case hy2 => intro W hS; have c0 := cell_later hS y0; have c1 := cell_later hS y1; have c2 := cell_later hS y2; have c3 := cell_later hS y3; have c4 := cell_later hS y4; go_simp; try (with_reducible rfl)
  simp only [Act.put, List.setIfInBounds_toArray, List.set_cons_zero, List.set_cons_succ]
  refine wpAnyH_take (i := 4) (oi := { dst := some 26, op := Op.move (Operand.tmp 2), type := 3, pos := "exact.go:3532", after := #[], guard := none }) (v := .int .i64 nodes) rfl (by kernel_rfl) (by kernel_rfl) (by kernel_rfl) (fun _ _ _ h => h) (Or.inl ⟨by rfl, ?hy3⟩) (by assumption) ?rest3
  case hy3 => intro W hS; go_simp; try (with_reducible rfl)
  simp only [Act.put, List.setIfInBounds_toArray, List.set_cons_zero, List.set_cons_succ]
  refine wpAnyH_ready (rs := [1]) (by kernel_rfl) (by simp) ?_
  refine AllReadyH.cons (o := { dst := some 23, op := Op.call { callee := Callee.value (Operand.func 7), args := #[Operand.tmp 22], argTypes := #[27] }, type := 40, pos := "exact.go:3532", after := #[{ on := 0, ground := Ground.data }], guard := none }) rfl (fun K2 hK2 => ?_) AllReadyH.nil
  go_simp
  refine (toCore_own d p _ hs ((HA.out.below B).below hHeld)).mono ?_
  rintro e w3 ⟨p3, rfl, E3, _, b3⟩
  have r3 := E3.cr hs
  clear E3
  go_wp2_with fail
  refine hK2.out _ _ ?_ (fun hHeld2 => ?_)
  · exact bel_trans hHeld b3
  clear hK2 K2 hHeld
  have hHeld := hHeld2
  clear hHeld2
  try simp only [Act.put, List.setIfInBounds_toArray, List.set_cons_zero, List.set_cons_succ]
  have hz3 := b3.size
  have hs_w3 : w2.heap.size ≤ w3.heap.size := hHeld.size
  clear b3
  refine wpAnyH_ready (rs := [3]) (by kernel_rfl) (by simp) ?_
  refine AllReadyH.cons (o := { dst := some 25, op := Op.call { callee := Callee.value (Operand.func 8), args := #[Operand.tmp 24], argTypes := #[33] }, type := 47, pos := "exact.go:3532", after := #[{ on := 2, ground := Ground.data }, { on := 1, ground := Ground.chain }], guard := none }) rfl (fun K2 hK2 => ?_) AllReadyH.nil
  go_simp
  refine (toNode_any n q _ hm ((HB.out.below B).below hHeld)).mono ?_
  rintro e w4 ⟨p4, rfl, r4, b4⟩
  go_wp2_with fail
  refine hK2.out _ _ ?_ (fun hHeld2 => ?_)
  · exact bel_trans hHeld b4
  clear hK2 K2 hHeld
  have hHeld := hHeld2
  clear hHeld2
  try simp only [Act.put, List.setIfInBounds_toArray, List.set_cons_zero, List.set_cons_succ]
  replace r3 := r3.below b4
  have hz4 := b4.size
  have hs_w4 : w2.heap.size ≤ w4.heap.size := hHeld.size
  clear b4
  refine wpAnyH_ready (rs := [5]) (by kernel_rfl) (by simp) ?_
  refine AllReadyH.cons (o := { dst := some 27, op := Op.call { callee := Callee.value (Operand.func 6), args := #[Operand.tmp 23, Operand.tmp 25, Operand.tmp 26], argTypes := #[40, 47, 3] }, type := 4, pos := "exact.go:3532", after := #[{ on := 1, ground := Ground.data }, { on := 3, ground := Ground.data }, { on := 4, ground := Ground.data }, { on := 3, ground := Ground.chain }], guard := none }) rfl (fun K2 hK2 => ?_) AllReadyH.nil
  go_simp
  refine (HS.out p3 p4 _ r3 r4).mono ?_
  rintro e w5 ⟨rfl, b5⟩
  go_wp2_with fail
  refine hK2.out _ _ ?_ (fun hHeld2 => ?_)
  · exact bel_trans hHeld b5
  clear hK2 K2 hHeld
  have hHeld := hHeld2
  clear hHeld2
  try simp only [Act.put, List.setIfInBounds_toArray, List.set_cons_zero, List.set_cons_succ]
  replace r3 := r3.below b5
  replace r4 := r4.below b5
  have hz5 := b5.size
  have hs_w5 : w2.heap.size ≤ w5.heap.size := hHeld.size
  clear b5
  refine wpAnyH_take (i := 6) (oi := { dst := some 8, op := Op.assign (Operand.tmp 27), type := 4, pos := "exact.go:3532", after := #[{ on := 5, ground := Ground.data }, { on := 5, ground := Ground.chain }, { on := 0, ground := Ground.phase }, { on := 1, ground := Ground.phase }, { on := 2, ground := Ground.phase }, { on := 3, ground := Ground.phase }, { on := 4, ground := Ground.phase }, { on := 5, ground := Ground.phase }], guard := none }) (v := .bool z) rfl (by kernel_rfl) (by kernel_rfl) (by kernel_rfl) (fun _ _ _ h => h) (Or.inl ⟨by rfl, ?hy4⟩) (by assumption) ?rest4
  case hy4 => intro W hS; go_simp; try (with_reducible rfl)
  simp only [Act.put, List.setIfInBounds_toArray, List.set_cons_zero, List.set_cons_succ]
  refine wpAnyH_done (by kernel_rfl) ?_ _
  have bq := hHeld
  clear hHeld hz3 hz4 hz5 hs_w3 hs_w4 hs_w5 hs_V0 r3 r4 HS
  clear x0 x1 x2 x3 xz
  clear y0 y1 y2 y3 y4 yz
  replace XA := XA.below bq
  replace XB := XB.below bq
  replace B := bel_trans B bq
  clear bq
  obtain ⟨x0, x1, x2, x3, xz⟩ := XA.at4
  go_wp2_with fail
  refine (toCore_own d p _ hs (HA.out.below B)).mono ?_
  rintro e w6 ⟨pM, rfl, EM, _, bw6⟩
  clear x0 x1 x2 x3 xz
  have rM := EM.cr hs
  clear EM
  replace XA := XA.below bw6
  replace XB := XB.below bw6
  replace B := bel_trans B bw6
  clear bw6
  have bx := bel_alloc (Below.refl w6.heap.size w6) (.cells (ccells d pM) 40)
  have XM := Box.new w6 (ccells d pM) 40
  replace XA := XA.below bx
  replace XB := XB.below bx
  replace rM := rM.below bx
  replace B := bel_trans B bx
  clear bx
  obtain ⟨y0, y1, y2, y3, y4, yz⟩ := XB.at5
  go_wp2_with fail
  refine (toNode_any n q _ hm (HB.out.below B)).mono ?_
  rintro e w7 ⟨pN, rfl, rN, bw7⟩
  clear y0 y1 y2 y3 y4 yz
  replace XA := XA.below bw7
  replace XB := XB.below bw7
  replace rM := rM.below bw7
  replace XM := XM.below bw7
  replace B := bel_trans B bw7
  clear bw7
  have bx := bel_alloc (Below.refl w7.heap.size w7) (.cells (ncells n pN) 47)
  have XN := Box.new w7 (ncells n pN) 47
  replace XA := XA.below bx
  replace XB := XB.below bx
  replace rM := rM.below bx
  replace XM := XM.below bx
  replace rN := rN.below bx
  replace B := bel_trans B bx
  clear bx
  obtain ⟨x0, x1, x2, x3, xz⟩ := XM.at4
  obtain ⟨y0, y1, y2, y3, y4, yz⟩ := XN.at5
  go_wp2_with fail
  refine (HI'.out pM pN _ rM rN).mono ?_
  rintro e w8 ⟨rfl, bw8⟩
  clear x0 x1 x2 x3 xz
  clear y0 y1 y2 y3 y4 yz
  clear HI'
  replace XA := XA.below bw8
  replace XB := XB.below bw8
  replace rM := rM.below bw8
  replace XM := XM.below bw8
  replace rN := rN.below bw8
  replace XN := XN.below bw8
  replace B := bel_trans B bw8
  clear bw8
  obtain ⟨x0, x1, x2, x3, xz⟩ := XA.at4
  obtain ⟨y0, y1, y2, y3, yz⟩ := XM.at4
  go_wp2_with fail
  refine wp_region_held_drew (S := fun W => Below w8.heap.size w8 W) (by kernel_rfl) ?_ (fun hHeld => ?_)
  · exact below_drewN (Below.refl _ _) 1
  obtain ⟨V0, hV0⟩ : ∃ V, w8.drew = V := ⟨_, rfl⟩
  rw [hV0] at hHeld ⊢
  clear hV0
  have hs_V0 : w8.heap.size ≤ V0.heap.size := hHeld.size
  refine wpAnyH_take (i := 0) (oi := { dst := some 39, op := Op.load 40 (Operand.tmp 9), type := 40, pos := "exact.go:3539", after := #[], guard := none }) (v := .agg (ccells d pM)) rfl (by kernel_rfl) (by kernel_rfl) (by kernel_rfl) (fun _ _ _ h => h) (Or.inl ⟨by rfl, ?hy5⟩) (by assumption) ?rest5
  case hy5 => intro W hS; have c0 := cell_later hS y0; have c1 := cell_later hS y1; have c2 := cell_later hS y2; have c3 := cell_later hS y3; go_simp; try (with_reducible rfl)
  simp only [Act.put, List.setIfInBounds_toArray, List.set_cons_zero, List.set_cons_succ]
  refine wpAnyH_take (i := 1) (oi := { dst := some 40, op := Op.load 27 (Operand.tmp 3), type := 27, pos := "exact.go:3539", after := #[], guard := none }) (v := .agg (ccells d p)) rfl (by kernel_rfl) (by kernel_rfl) (by kernel_rfl) (fun _ _ _ h => h) (Or.inl ⟨by rfl, ?hy6⟩) (by assumption) ?rest6
  case hy6 => intro W hS; have c0 := cell_later hS x0; have c1 := cell_later hS x1; have c2 := cell_later hS x2; have c3 := cell_later hS x3; go_simp; try (with_reducible rfl)
  simp only [Act.put, List.setIfInBounds_toArray, List.set_cons_zero, List.set_cons_succ]
  refine wpAnyH_ready (rs := [2]) (by kernel_rfl) (by simp) ?_
  refine AllReadyH.cons (o := { dst := some 41, op := Op.call { callee := Callee.value (Operand.func 7), args := #[Operand.tmp 40], argTypes := #[27] }, type := 40, pos := "exact.go:3539", after := #[{ on := 1, ground := Ground.data }], guard := none }) rfl (fun K2 hK2 => ?_) AllReadyH.nil
  go_simp
  refine (toCore_own d p _ hs ((HA.out.below B).below hHeld)).mono ?_
  rintro e w9 ⟨p9, rfl, E9, _, b9⟩
  have r9 := E9.cr hs
  clear E9
  go_wp2_with fail
  refine hK2.out _ _ ?_ (fun hHeld2 => ?_)
  · exact bel_trans hHeld b9
  clear hK2 K2 hHeld
  have hHeld := hHeld2
  clear hHeld2
  try simp only [Act.put, List.setIfInBounds_toArray, List.set_cons_zero, List.set_cons_succ]
  have hz9 := b9.size
  have hs_w9 : w8.heap.size ≤ w9.heap.size := hHeld.size
  clear b9
  refine wpAnyH_ready (rs := [3]) (by kernel_rfl) (by simp) ?_
  refine AllReadyH.cons (o := { dst := some 42, op := Op.call { callee := Callee.value (Operand.func 10), args := #[Operand.tmp 39, Operand.tmp 41], argTypes := #[40, 40] }, type := 4, pos := "exact.go:3539", after := #[{ on := 0, ground := Ground.data }, { on := 2, ground := Ground.data }, { on := 2, ground := Ground.chain }], guard := none }) rfl (fun K2 hK2 => ?_) AllReadyH.nil
  go_simp
  refine (eqCore_any d pM p9 _ (rM.below hHeld) r9).mono ?_
  rintro e w10 ⟨rfl, b10⟩
  go_wp2_with fail
  refine hK2.out _ _ ?_ (fun hHeld2 => ?_)
  · exact bel_trans hHeld b10
  clear hK2 K2 hHeld
  have hHeld := hHeld2
  clear hHeld2
  try simp only [Act.put, List.setIfInBounds_toArray, List.set_cons_zero, List.set_cons_succ]
  replace r9 := r9.below b10
  have hz10 := b10.size
  have hs_w10 : w8.heap.size ≤ w10.heap.size := hHeld.size
  clear b10
  refine wpAnyH_take (i := 4) (oi := { dst := some 43, op := Op.unOp UnOp.not 4 (Operand.tmp 42), type := 4, pos := "exact.go:3539", after := #[{ on := 3, ground := Ground.data }], guard := none }) (v := .bool false) rfl (by kernel_rfl) (by kernel_rfl) (by kernel_rfl) (fun _ _ _ h => h) (Or.inl ⟨by rfl, ?hy7⟩) (by assumption) ?rest7
  case hy7 => intro W hS; go_simp; try (with_reducible rfl)
  simp only [Act.put, List.setIfInBounds_toArray, List.set_cons_zero, List.set_cons_succ]
  refine wpAnyH_done (by kernel_rfl) ?_ _
  have bq := hHeld
  clear hHeld hz9 hz10 hs_w9 hs_w10 hs_V0 r9
  clear x0 x1 x2 x3 xz
  clear y0 y1 y2 y3 yz
  replace XA := XA.below bq
  replace XB := XB.below bq
  replace rM := rM.below bq
  replace XM := XM.below bq
  replace rN := rN.below bq
  replace XN := XN.below bq
  replace B := bel_trans B bq
  clear bq
  obtain ⟨x0, x1, x2, x3, x4, xz⟩ := XB.at5
  obtain ⟨y0, y1, y2, y3, y4, yz⟩ := XN.at5
  go_wp2_with fail
  refine wp_region_held_drew (S := fun W => Below w10.heap.size w10 W) (by kernel_rfl) ?_ (fun hHeld => ?_)
  · exact below_drewN (Below.refl _ _) 1
  obtain ⟨V0, hV0⟩ : ∃ V, w10.drew = V := ⟨_, rfl⟩
  rw [hV0] at hHeld ⊢
  clear hV0
  have hs_V0 : w10.heap.size ≤ V0.heap.size := hHeld.size
  refine wpAnyH_take (i := 0) (oi := { dst := some 44, op := Op.load 47 (Operand.tmp 10), type := 47, pos := "exact.go:3542", after := #[], guard := none }) (v := .agg (ncells n pN)) rfl (by kernel_rfl) (by kernel_rfl) (by kernel_rfl) (fun _ _ _ h => h) (Or.inl ⟨by rfl, ?hy8⟩) (by assumption) ?rest8
  case hy8 => intro W hS; have c0 := cell_later hS y0; have c1 := cell_later hS y1; have c2 := cell_later hS y2; have c3 := cell_later hS y3; have c4 := cell_later hS y4; go_simp; try (with_reducible rfl)
  simp only [Act.put, List.setIfInBounds_toArray, List.set_cons_zero, List.set_cons_succ]
  refine wpAnyH_take (i := 1) (oi := { dst := some 45, op := Op.load 33 (Operand.tmp 4), type := 33, pos := "exact.go:3542", after := #[], guard := none }) (v := .agg (ncells n q)) rfl (by kernel_rfl) (by kernel_rfl) (by kernel_rfl) (fun _ _ _ h => h) (Or.inl ⟨by rfl, ?hy9⟩) (by assumption) ?rest9
  case hy9 => intro W hS; have c0 := cell_later hS x0; have c1 := cell_later hS x1; have c2 := cell_later hS x2; have c3 := cell_later hS x3; have c4 := cell_later hS x4; go_simp; try (with_reducible rfl)
  simp only [Act.put, List.setIfInBounds_toArray, List.set_cons_zero, List.set_cons_succ]
  refine wpAnyH_ready (rs := [2]) (by kernel_rfl) (by simp) ?_
  refine AllReadyH.cons (o := { dst := some 46, op := Op.call { callee := Callee.value (Operand.func 8), args := #[Operand.tmp 45], argTypes := #[33] }, type := 47, pos := "exact.go:3542", after := #[{ on := 1, ground := Ground.data }], guard := none }) rfl (fun K2 hK2 => ?_) AllReadyH.nil
  go_simp
  refine (toNode_any n q _ hm ((HB.out.below B).below hHeld)).mono ?_
  rintro e w11 ⟨p11, rfl, r11, b11⟩
  go_wp2_with fail
  refine hK2.out _ _ ?_ (fun hHeld2 => ?_)
  · exact bel_trans hHeld b11
  clear hK2 K2 hHeld
  have hHeld := hHeld2
  clear hHeld2
  try simp only [Act.put, List.setIfInBounds_toArray, List.set_cons_zero, List.set_cons_succ]
  have hz11 := b11.size
  have hs_w11 : w10.heap.size ≤ w11.heap.size := hHeld.size
  clear b11
  refine wpAnyH_ready (rs := [3]) (by kernel_rfl) (by simp) ?_
  refine AllReadyH.cons (o := { dst := some 47, op := Op.call { callee := Callee.value (Operand.func 11), args := #[Operand.tmp 44, Operand.tmp 46], argTypes := #[47, 47] }, type := 4, pos := "exact.go:3542", after := #[{ on := 0, ground := Ground.data }, { on := 2, ground := Ground.data }, { on := 2, ground := Ground.chain }], guard := none }) rfl (fun K2 hK2 => ?_) AllReadyH.nil
  go_simp
  refine (eqNode_any n pN p11 _ (rN.below hHeld) r11).mono ?_
  rintro e w12 ⟨rfl, b12⟩
  go_wp2_with fail
  refine hK2.out _ _ ?_ (fun hHeld2 => ?_)
  · exact bel_trans hHeld b12
  clear hK2 K2 hHeld
  have hHeld := hHeld2
  clear hHeld2
  try simp only [Act.put, List.setIfInBounds_toArray, List.set_cons_zero, List.set_cons_succ]
  replace r11 := r11.below b12
  have hz12 := b12.size
  have hs_w12 : w10.heap.size ≤ w12.heap.size := hHeld.size
  clear b12
  refine wpAnyH_take (i := 4) (oi := { dst := some 48, op := Op.unOp UnOp.not 4 (Operand.tmp 47), type := 4, pos := "exact.go:3542", after := #[{ on := 3, ground := Ground.data }], guard := none }) (v := .bool false) rfl (by kernel_rfl) (by kernel_rfl) (by kernel_rfl) (fun _ _ _ h => h) (Or.inl ⟨by rfl, ?hy10⟩) (by assumption) ?rest10
  case hy10 => intro W hS; go_simp; try (with_reducible rfl)
  simp only [Act.put, List.setIfInBounds_toArray, List.set_cons_zero, List.set_cons_succ]
  refine wpAnyH_done (by kernel_rfl) ?_ _
  have bq := hHeld
  clear hHeld hz11 hz12 hs_w11 hs_w12 hs_V0 r11
  clear x0 x1 x2 x3 x4 xz
  clear y0 y1 y2 y3 y4 yz
  replace XA := XA.below bq
  replace XB := XB.below bq
  replace rM := rM.below bq
  replace XM := XM.below bq
  replace rN := rN.below bq
  replace XN := XN.below bq
  replace B := bel_trans B bq
  clear bq
  clear XA XB XM XN rM rN
  go_wp2
  go_ret
  exact ⟨rfl, B⟩
end LawFnExactCoreOk
end Go.Proofs.YtbcngjciekfomaaGreat
