/- Co4 and Fk2 and LawFlockOkG: see the heads of the parts. -/
import Derived.Test.YtnfjmdegbdphpaaGreatCs1
import Derived.Test.YtnfjmdegbdphpaaGreatCa6
import Derived.Test.YtnfjmdegbdphpaaGreatHs9
import Derived.Test.YtnfjmdegbdphpaaGreatNdO3
import Derived.Test.YtnfjmdegbdphpaaGreatFk1
import Derived.Test.YtnfjmdegbdphpaaGreatWoS
import Derived.Deep.RegionHeld3
/- What the specification's CoreOk answers. -/
namespace Go.Proofs.YtnfjmdegbdphpaaGreat
open Go.RowKit
set_option linter.unusedVariables false

def coreB (d : CoD) (n : ND) (nodes : Int) : Bool := nodeOkB n nodes && (hartB d.h.xs d.h.pc d.h.st && cacheB d.n d.k n.nf n.f)

set_option maxRecDepth 100000 in
set_option maxHeartbeats 2000000 in
theorem specCoreOk_any (d : CoD) (p : CoP) (n : ND) (q : NP) (nodes : Int) (w : World) (hbs : ∀ i, i < n.nh → (n.h i).bs.length ≤ 1048577) (ha : CoR w d p) (hR : NR w n q) :
    Calls Tryz.prog 12 #[.agg (ccells d p), .agg (ncells n q), .int .i64 nodes] w fun e w' => e = .returned (.bool (coreB d n nodes)) ∧ Below w.heap.size w w' := by
  have B := bel_alloc (bel_alloc (Below.refl w.heap.size w) (.cells (ccells d p) 50)) (.cells (ncells n q) 56)
  obtain ⟨XC, XN⟩ := Box.two w (ccells d p) (ncells n q) 50 56
  replace ha := ha.below B
  replace hR := hR.below B
  obtain ⟨y0, y1, y2, y3, y4, yz⟩ := XN.at5
  go_enter Tryz.func12, Tryz.ntmps12
  go_wp2_with fail
  refine (specNodeOk_any n q nodes _ hbs hR).mono ?_
  rintro e w1 ⟨rfl, b1⟩
  replace XC := XC.below b1
  replace XN := XN.below b1
  replace ha := ha.below b1
  replace hR := hR.below b1
  replace B := bel_trans B b1
  clear b1 y0 y1 y2 y3 y4 yz
  obtain ⟨z1, hz1⟩ : ∃ z, nodeOkB n nodes = z := ⟨_, rfl⟩
  have HZ1 : Hid (nodeOkB n nodes = z1) := hz1
  rw [hz1]
  clear hz1
  cases z1
  · clear XC XN ha hR
    go_wp2
    go_ret
    exact ⟨ret_bool (by unfold coreB; rw [HZ1.out]; rfl), B⟩
  obtain ⟨x0, x1, x2, x3, xz⟩ := XC.at4
  go_wp2_with fail
  refine (specHartOk_any p.r.1 p.r.2 d.h.xs d.h.pc d.h.st _ ha.r).mono ?_
  rintro e w2 ⟨rfl, b2⟩
  replace XC := XC.below b2
  replace XN := XN.below b2
  replace ha := ha.below b2
  replace hR := hR.below b2
  replace B := bel_trans B b2
  clear b2 x0 x1 x2 x3 xz
  obtain ⟨z2, hz2⟩ : ∃ z, hartB d.h.xs d.h.pc d.h.st = z := ⟨_, rfl⟩
  have HZ2 : Hid (hartB d.h.xs d.h.pc d.h.st = z2) := hz2
  rw [hz2]
  clear hz2
  cases z2
  · clear XC XN ha hR
    go_wp2
    go_ret
    exact ⟨ret_bool (by unfold coreB; rw [HZ1.out, HZ2.out]; rfl), B⟩
  obtain ⟨x0, x1, x2, x3, xz⟩ := XC.at4
  obtain ⟨y0, y1, y2, y3, y4, yz⟩ := XN.at5
  go_wp2_with fail
  refine (specCacheOk_any p.c.1 p.c.2 d.n d.k p.q q.f.1 q.f.2 n.nf n.f q.fp _ ha.k hR.f).mono ?_
  rintro e w3 ⟨rfl, b3⟩
  replace B := bel_trans B b3
  clear b3 x0 x1 x2 x3 xz y0 y1 y2 y3 y4 yz XC XN ha hR
  obtain ⟨z3, hz3⟩ : ∃ z, cacheB d.n d.k n.nf n.f = z := ⟨_, rfl⟩
  have HZ3 : Hid (cacheB d.n d.k n.nf n.f = z3) := hz3
  rw [hz3]
  clear hz3
  go_wp2
  go_ret
  exact ⟨ret_bool (by unfold coreB; rw [HZ1.out, HZ2.out, HZ3.out]; rfl), B⟩
end Go.Proofs.YtnfjmdegbdphpaaGreat

/- What the specification's FlockOk answers (written by mk13o.py). -/
namespace Go.Proofs.YtnfjmdegbdphpaaGreat
open Go.RowKit
set_option linter.unusedVariables false

def flockB (d : FkD) : Bool := worldB d.w && (decide ((d.n : Int) = d.w.size) && allB d.n (fun i => coreB (d.c i) (d.w.d i) d.w.size))
theorem worldB_nn {d : WoD} (h : worldB d = true) : (d.nn : Int) = d.size := by
  unfold worldB at h
  simp only [Bool.and_eq_true, decide_eq_true_eq] at h
  exact h.2.1

set_option maxRecDepth 100000 in
set_option maxHeartbeats 4000000 in
theorem specFlockOk_any (d : FkD) (p : FkP) (w : World) (hbs : ∀ i, i < d.w.nn → ∀ j, j < (d.w.d i).nh → ((d.w.d i).h j).bs.length ≤ 1048577) (hR : FkR w d p) :
    Calls Tryz.prog 5 #[.agg (fkcells d p)] w fun e w' => e = .returned (.bool (flockB d)) ∧ Below w.heap.size w w' := by
  have B := bel_alloc (Below.refl w.heap.size w) (.cells (fkcells d p) 37)
  have X := Box.new w (fkcells d p) 37
  have HR : Hid (FkR w d p) := hR
  have hn := hR.c.1
  have hR1 := hR.o.below B
  clear hR
  obtain ⟨x0, x1, x2, x3, xz⟩ := X.at4
  go_enter Tryz.func5, Tryz.ntmps5
  go_wp2_with fail
  refine (specWorldOk_any d.w p.w _ hbs hR1).mono ?_
  rintro e w1 ⟨rfl, b1⟩
  replace X := X.below b1
  replace B := bel_trans B b1
  clear b1 x0 x1 x2 x3 xz hR1
  obtain ⟨z, hz⟩ : ∃ z, worldB d.w = z := ⟨_, rfl⟩
  have HZ : Hid (worldB d.w = z) := hz
  rw [hz]
  cases z
  · clear X hz hbs
    go_wp2
    go_ret
    exact ⟨ret_bool (by unfold flockB; rw [HZ.out]; rfl), B⟩
  have hnn := worldB_nn hz
  clear hz
  obtain ⟨x0, x1, x2, x3, xz⟩ := X.at4
  by_cases hs : (d.n : Int) = d.w.size
  · have HBS : Hid (∀ i, i < d.n → ∀ j, j < (d.w.d i).nh → ((d.w.d i).h j).bs.length ≤ 1048577) := fun i hi => hbs i (by omega)
    have HS : Hid ((d.n : Int) = d.w.size ∧ (d.w.nn : Int) = d.w.size) := ⟨hs, hnn⟩
    have e1 : ((d.n : Int) != d.w.size) = false := by simpa using hs
    have hX : Hid (Box w1 w.heap.size (fkcells d p) 37) := X
    have HB : Hid (Below w.heap.size w w1) := B
    clear hbs B X hnn hs
    go_wp2
    clear x0 x1 x2 x3 xz e1
    go_loopw [3] (fun i wr => ∃ k : Nat, k ≤ d.n ∧ i = .int .i64 k ∧ (∀ i, i < k → coreB (d.c i) (d.w.d i) d.w.size = true) ∧ Box wr w.heap.size (fkcells d p) 37 ∧ Below w.heap.size w wr) (fun i _ => d.n - (intOf i).toNat)
    case atStart => exact ⟨0, Nat.zero_le _, rfl, fun i hi => absurd hi (Nat.not_lt_zero i), hX.out, HB.out⟩
    case round =>
      obtain ⟨k, hk, rfl, hall, X, B⟩ := hrel
      have HA : Hid (∀ i, i < k → coreB (d.c i) (d.w.d i) d.w.size = true) := hall
      clear hall hX HB
      obtain ⟨x0, x1, x2, x3, xz⟩ := X.at4
      by_cases hkn : k < d.n
      · have hi : (k : Int) < (d.n : Int) := by omega
        have hj : (k : Int) < (d.w.nn : Int) := by have := HS.out; omega
        have hr := HR.out.below B
        obtain ⟨ba, oa, ea, y0, y1, y2, y3⟩ := hr.c.at hkn
        obtain ⟨bb, ob, eb, z0, z1, z2, z3, z4⟩ := hr.o.n.at (i := k) (by have := HS.out; omega)
        have rc := hr.c.2.2 k hkn
        have rn := hr.o.n.2.2 k (by have := HS.out; omega)
        have hnl := hr.o.n.1
        rw [ea] at x3
        rw [eb] at x1
        clear hr ea eb
        go_wp2_with fail
        refine wp_region_held_drew (S := fun W => Below wr.heap.size wr W) (by kernel_rfl) ?_ (fun hHeld => ?_)
        · exact below_drewN (Below.refl _ _) 1
        obtain ⟨V0, hV0⟩ : ∃ V, wr.drew = V := ⟨_, rfl⟩
        rw [hV0] at hHeld ⊢
        clear hV0
        have hs_V0 : wr.heap.size ≤ V0.heap.size := hHeld.size
        refine wpAnyH_take (i := 0) (oi := { dst := some 24, op := Op.fieldAddr 37 (Operand.tmp 1) 1, type := 0, pos := "l13_flock.go:10", after := #[], guard := none }) (v := ?vv1) rfl (by kernel_rfl) (by kernel_rfl) (by kernel_rfl) (fun _ _ _ h => h) (Or.inl ⟨by rfl, ?hy1⟩) (by assumption) ?rest1
        case hy1 => intro W hS; go_simp; try (with_reducible rfl)
        simp only [Act.put, List.setIfInBounds_toArray, List.set_cons_zero, List.set_cons_succ]
        refine wpAnyH_take (i := 1) (oi := { dst := some 25, op := Op.load 35 (Operand.tmp 24), type := 35, pos := "l13_flock.go:10", after := #[{ on := 0, ground := Ground.data }], guard := none }) (v := ?vv2) rfl (by kernel_rfl) (by kernel_rfl) (by kernel_rfl) (fun _ _ _ h => h) (Or.inl ⟨by rfl, ?hy2⟩) (by assumption) ?rest2
        case hy2 => intro W hS; have c0 := cell_later hS x3; go_simp; try (with_reducible rfl)
        simp only [Act.put, List.setIfInBounds_toArray, List.set_cons_zero, List.set_cons_succ]
        refine wpAnyH_take (i := 2) (oi := { dst := some 26, op := Op.move (Operand.tmp 3), type := 3, pos := "l13_flock.go:10", after := #[], guard := none }) (v := ?vv3) rfl (by kernel_rfl) (by kernel_rfl) (by kernel_rfl) (fun _ _ _ h => h) (Or.inl ⟨by rfl, ?hy3⟩) (by assumption) ?rest3
        case hy3 => intro W hS; go_simp; try (with_reducible rfl)
        simp only [Act.put, List.setIfInBounds_toArray, List.set_cons_zero, List.set_cons_succ]
        refine wpAnyH_take (i := 3) (oi := { dst := some 27, op := Op.indexAddr 35 (Operand.tmp 25) (Operand.tmp 26), type := 0, pos := "l13_flock.go:10", after := #[{ on := 1, ground := Ground.data }, { on := 2, ground := Ground.data }], guard := none }) (v := ?vv4) rfl (by kernel_rfl) (by kernel_rfl) (by kernel_rfl) (fun _ _ _ h => h) (Or.inl ⟨by rfl, ?hy4⟩) (by assumption) ?rest4
        case hy4 => intro W hS; go_simp; try (with_reducible rfl)
        simp only [Act.put, List.setIfInBounds_toArray, List.set_cons_zero, List.set_cons_succ]
        refine wpAnyH_take (i := 4) (oi := { dst := some 28, op := Op.load 50 (Operand.tmp 27), type := 50, pos := "l13_flock.go:10", after := #[{ on := 3, ground := Ground.data }], guard := none }) (v := ?vv5) rfl (by kernel_rfl) (by kernel_rfl) (by kernel_rfl) (fun _ _ _ h => h) (Or.inl ⟨by rfl, ?hy5⟩) (by assumption) ?rest5
        case hy5 => intro W hS; have c0 := cell_later hS y0; have c1 := cell_later hS y1; have c2 := cell_later hS y2; have c3 := cell_later hS y3; go_simp; try (with_reducible rfl)
        simp only [Act.put, List.setIfInBounds_toArray, List.set_cons_zero, List.set_cons_succ]
        refine wpAnyH_take (i := 5) (oi := { dst := some 29, op := Op.fieldAddr 37 (Operand.tmp 1) 0, type := 0, pos := "l13_flock.go:10", after := #[], guard := none }) (v := ?vv6) rfl (by kernel_rfl) (by kernel_rfl) (by kernel_rfl) (fun _ _ _ h => h) (Or.inl ⟨by rfl, ?hy6⟩) (by assumption) ?rest6
        case hy6 => intro W hS; go_simp; try (with_reducible rfl)
        simp only [Act.put, List.setIfInBounds_toArray, List.set_cons_zero, List.set_cons_succ]
        refine wpAnyH_take (i := 6) (oi := { dst := some 30, op := Op.fieldAddr 34 (Operand.tmp 29) 1, type := 0, pos := "l13_flock.go:10", after := #[{ on := 5, ground := Ground.data }], guard := none }) (v := ?vv7) rfl (by kernel_rfl) (by kernel_rfl) (by kernel_rfl) (fun _ _ _ h => h) (Or.inl ⟨by rfl, ?hy7⟩) (by assumption) ?rest7
        case hy7 => intro W hS; go_simp; try (with_reducible rfl)
        simp only [Act.put, List.setIfInBounds_toArray, List.set_cons_zero, List.set_cons_succ]
        refine wpAnyH_take (i := 7) (oi := { dst := some 31, op := Op.load 31 (Operand.tmp 30), type := 31, pos := "l13_flock.go:10", after := #[{ on := 6, ground := Ground.data }], guard := none }) (v := ?vv8) rfl (by kernel_rfl) (by kernel_rfl) (by kernel_rfl) (fun _ _ _ h => h) (Or.inl ⟨by rfl, ?hy8⟩) (by assumption) ?rest8
        case hy8 => intro W hS; have c0 := cell_later hS x1; go_simp; try (with_reducible rfl)
        simp only [Act.put, List.setIfInBounds_toArray, List.set_cons_zero, List.set_cons_succ]
        refine wpAnyH_take (i := 8) (oi := { dst := some 32, op := Op.move (Operand.tmp 3), type := 3, pos := "l13_flock.go:10", after := #[], guard := none }) (v := ?vv9) rfl (by kernel_rfl) (by kernel_rfl) (by kernel_rfl) (fun _ _ _ h => h) (Or.inl ⟨by rfl, ?hy9⟩) (by assumption) ?rest9
        case hy9 => intro W hS; go_simp; try (with_reducible rfl)
        simp only [Act.put, List.setIfInBounds_toArray, List.set_cons_zero, List.set_cons_succ]
        refine wpAnyH_take (i := 9) (oi := { dst := some 33, op := Op.indexAddr 31 (Operand.tmp 31) (Operand.tmp 32), type := 0, pos := "l13_flock.go:10", after := #[{ on := 7, ground := Ground.data }, { on := 8, ground := Ground.data }], guard := none }) (v := ?vv10) rfl (by kernel_rfl) (by kernel_rfl) (by kernel_rfl) (fun _ _ _ h => h) (Or.inl ⟨by rfl, ?hy10⟩) (by assumption) ?rest10
        case hy10 => intro W hS; go_simp; try (with_reducible rfl)
        simp only [Act.put, List.setIfInBounds_toArray, List.set_cons_zero, List.set_cons_succ]
        refine wpAnyH_take (i := 10) (oi := { dst := some 34, op := Op.load 56 (Operand.tmp 33), type := 56, pos := "l13_flock.go:10", after := #[{ on := 9, ground := Ground.data }], guard := none }) (v := ?vv11) rfl (by kernel_rfl) (by kernel_rfl) (by kernel_rfl) (fun _ _ _ h => h) (Or.inl ⟨by rfl, ?hy11⟩) (by assumption) ?rest11
        case hy11 => intro W hS; have c0 := cell_later hS z0; have c1 := cell_later hS z1; have c2 := cell_later hS z2; have c3 := cell_later hS z3; have c4 := cell_later hS z4; go_simp; try (with_reducible rfl)
        simp only [Act.put, List.setIfInBounds_toArray, List.set_cons_zero, List.set_cons_succ]
        refine wpAnyH_take (i := 11) (oi := { dst := some 35, op := Op.fieldAddr 37 (Operand.tmp 1) 0, type := 0, pos := "l13_flock.go:10", after := #[], guard := none }) (v := ?vv12) rfl (by kernel_rfl) (by kernel_rfl) (by kernel_rfl) (fun _ _ _ h => h) (Or.inl ⟨by rfl, ?hy12⟩) (by assumption) ?rest12
        case hy12 => intro W hS; go_simp; try (with_reducible rfl)
        simp only [Act.put, List.setIfInBounds_toArray, List.set_cons_zero, List.set_cons_succ]
        refine wpAnyH_take (i := 12) (oi := { dst := some 36, op := Op.fieldAddr 34 (Operand.tmp 35) 0, type := 0, pos := "l13_flock.go:10", after := #[{ on := 11, ground := Ground.data }], guard := none }) (v := ?vv13) rfl (by kernel_rfl) (by kernel_rfl) (by kernel_rfl) (fun _ _ _ h => h) (Or.inl ⟨by rfl, ?hy13⟩) (by assumption) ?rest13
        case hy13 => intro W hS; go_simp; try (with_reducible rfl)
        simp only [Act.put, List.setIfInBounds_toArray, List.set_cons_zero, List.set_cons_succ]
        refine wpAnyH_take (i := 13) (oi := { dst := some 37, op := Op.load 3 (Operand.tmp 36), type := 3, pos := "l13_flock.go:10", after := #[{ on := 12, ground := Ground.data }], guard := none }) (v := ?vv14) rfl (by kernel_rfl) (by kernel_rfl) (by kernel_rfl) (fun _ _ _ h => h) (Or.inl ⟨by rfl, ?hy14⟩) (by assumption) ?rest14
        case hy14 => intro W hS; have c0 := cell_later hS x0; go_simp; try (with_reducible rfl)
        simp only [Act.put, List.setIfInBounds_toArray, List.set_cons_zero, List.set_cons_succ]
        refine wpAnyH_ready (rs := [14]) (by kernel_rfl) (by simp) ?_
        refine AllReadyH.cons (o := { dst := some 38, op := Op.call { callee := Callee.value (Operand.func 12), args := #[Operand.tmp 28, Operand.tmp 34, Operand.tmp 37], argTypes := #[50, 56, 3] }, type := 4, pos := "l13_flock.go:10", after := #[{ on := 4, ground := Ground.data }, { on := 10, ground := Ground.data }, { on := 13, ground := Ground.data }], guard := none }) rfl (fun K2 hK2 => ?_) AllReadyH.nil
        go_simp
        refine (specCoreOk_any (d.c k) (p.q k) (d.w.d k) (p.w.np k) d.w.size _ (HBS.out k hkn) (rc.below hHeld) (rn.below hHeld)).mono ?_
        rintro e w1 ⟨rfl, b1⟩
        go_wp2_with fail
        refine hK2.out _ _ ?_ (fun hHeld2 => ?_)
        · exact bel_trans hHeld b1
        clear hK2 K2 hHeld
        have hHeld := hHeld2
        clear hHeld2
        try simp only [Act.put, List.setIfInBounds_toArray, List.set_cons_zero, List.set_cons_succ]
        have hz1 := b1.size
        have hs_w1 : wr.heap.size ≤ w1.heap.size := hHeld.size
        clear b1
        refine wpAnyH_take (i := 15) (oi := { dst := some 39, op := Op.unOp UnOp.not 4 (Operand.tmp 38), type := 4, pos := "l13_flock.go:10", after := #[{ on := 14, ground := Ground.data }], guard := none }) (v := .bool (!coreB (d.c k) (d.w.d k) d.w.size)) rfl (by kernel_rfl) (by kernel_rfl) (by kernel_rfl) (fun _ _ _ h => h) (Or.inl ⟨by rfl, ?hy15⟩) (by assumption) ?rest15
        case hy15 => intro W hS; go_simp; try (with_reducible rfl)
        simp only [Act.put, List.setIfInBounds_toArray, List.set_cons_zero, List.set_cons_succ]
        refine wpAnyH_done (by kernel_rfl) ?_ _
        have bq := hHeld
        replace X := X.below bq
        replace B := bel_trans B bq
        clear bq hHeld x0 x1 x2 x3 xz y0 y1 y2 y3 z0 z1 z2 z3 z4 rc rn hz1 hs_w1 hs_V0 hnl
        cases hf : coreB (d.c k) (d.w.d k) d.w.size
        · have HF : Hid (flockB d = false) := by
            show _ = _
            unfold flockB
            rw [allB_bad hkn hf]
            simp
          clear hf
          go_wp2
          go_ret
          exact ⟨ret_bool HF.out.symm, B⟩
        · have HT : Hid (∀ i, i < k + 1 → coreB (d.c i) (d.w.d i) d.w.size = true) := fun i hi => by
            by_cases e : i = k
            · subst e; exact hf
            · exact HA.out i (by omega)
          clear hf
          go_wp2
          go_roundw
          case rel => exact ⟨k + 1, by omega, by go_num, HT.out, X, B⟩
          case measure => simp [intOf]; omega
      · have HT : Hid (flockB d = true) := by
          show _ = _
          unfold flockB
          rw [HZ.out, allB_ok (fun i hi => HA.out i (by omega))]
          simp [HS.out.1]
        clear X
        go_wp2
        go_ret
        exact ⟨ret_bool HT.out.symm, B⟩
  · have e1 : ((d.n : Int) != d.w.size) = true := by simpa using hs
    have HF : Hid (flockB d = false) := by
      show _ = _
      unfold flockB
      simp [hs]
    clear X hbs hs
    go_wp2
    go_ret
    exact ⟨ret_bool HF.out.symm, B⟩
end Go.Proofs.YtnfjmdegbdphpaaGreat

/- The law FnExactFlockOk over any impl.FlockOk that answers as it should (written by mk13o.py). -/
namespace Go.Proofs.YtnfjmdegbdphpaaGreat
open Go.ChangeShapes Go.WideShapes Go.ChangeAt Go.RowKit
set_option linter.unusedVariables false

namespace LawFnExactFlockOk
set_option maxRecDepth 100000 in
set_option maxHeartbeats 8000000 in
theorem walkG (HI : ∀ (d : FkD) (p : FkP) (w : World), (∀ i, i < d.w.nn → ∀ j, j < (d.w.d i).nh → ((d.w.d i).h j).bs.length ≤ 1048577) → FkR w d p → Calls Tryz.prog 7 #[.agg (fkcells d p)] w fun e w' => e = .returned (.bool (flockB d)) ∧ Below w.heap.size w w')
    (d : FkD) (p : FkP) (w : World) (hc : FkC w d p) :
    Calls Tryz.prog 3 #[.agg (fkcells d p)] w fun e w' => e = .returned (.bool true) ∧ Below w.heap.size w w' := by
  have bA := bel_alloc (Below.refl w.heap.size w) (.cells (fkcells d p) 28)
  have XA := Box.new w (fkcells d p) 28
  go_enter Tryz.func3, Tryz.ntmps3
  obtain ⟨x0, x1, x2, x3, xz⟩ := XA.at4
  go_wp2_with fail
  refine (szFlock_tot d p _ (hc.below bA)).mono ?_
  rintro e w1 ⟨r, rfl, hr0, bw1⟩
  have B := bel_trans bA bw1
  replace XA := XA.below bw1
  clear bw1 bA
  clear x0 x1 x2 x3 xz
  rcases hr0 with rfl | ⟨r0, r1⟩
  · clear hc HI XA
    go_wp2
    go_ret
    exact ⟨rfl, B⟩
  have hs : FkS d := fkZ_sm (by omega)
  have hrd : ¬ (r < 0) := by omega
  have HA : Hid (FkR w d p) := hc.fr hs
  have HBS : Hid (∀ i, i < d.w.nn → ∀ j, j < (d.w.d i).nh → ((d.w.d i).h j).bs.length ≤ 1048577) := fun i hi j hj => by have := (((hs.w.n.2 i hi).h).2 j hj).2.1; omega
  clear hc r1
  have HI' : Hid (∀ (p : FkP) (W : World), FkR W d p → Calls Tryz.prog 7 #[.agg (fkcells d p)] W fun e w' => e = .returned (.bool (flockB d)) ∧ Below W.heap.size W w') := fun p W h => HI d p W HBS.out h
  have HS : Hid (∀ (p : FkP) (W : World), FkR W d p → Calls Tryz.prog 5 #[.agg (fkcells d p)] W fun e w' => e = .returned (.bool (flockB d)) ∧ Below W.heap.size W w') := fun p W h => specFlockOk_any d p W HBS.out h
  clear HI
  generalize flockB d = z at HI' HS
  obtain ⟨x0, x1, x2, x3, xz⟩ := XA.at4
  go_wp2_with fail
  refine (toFlock_own d p _ hs (HA.out.below B)).mono ?_
  rintro e w2 ⟨p2, rfl, E2, _, bw2⟩
  clear x0 x1 x2 x3 xz
  have r2 := E2.fr hs
  clear E2
  replace XA := XA.below bw2
  replace B := bel_trans B bw2
  clear bw2
  go_wp2_with fail
  refine (HS.out p2 _ r2).mono ?_
  rintro e w3 ⟨rfl, bw3⟩
  clear r2 HS
  replace XA := XA.below bw3
  replace B := bel_trans B bw3
  clear bw3
  obtain ⟨x0, x1, x2, x3, xz⟩ := XA.at4
  go_wp2_with fail
  refine (toFlock_own d p _ hs (HA.out.below B)).mono ?_
  rintro e w6 ⟨pM, rfl, EM, _, bw6⟩
  clear x0 x1 x2 x3 xz
  have rM := EM.fr hs
  clear EM
  replace XA := XA.below bw6
  replace B := bel_trans B bw6
  clear bw6
  have bx := bel_alloc (Below.refl w6.heap.size w6) (.cells (fkcells d pM) 37)
  have XM := Box.new w6 (fkcells d pM) 37
  replace XA := XA.below bx
  replace rM := rM.below bx
  replace B := bel_trans B bx
  clear bx
  obtain ⟨x0, x1, x2, x3, xz⟩ := XM.at4
  go_wp2_with fail
  refine (HI'.out pM _ rM).mono ?_
  rintro e w8 ⟨rfl, bw8⟩
  clear x0 x1 x2 x3 xz
  clear HI'
  replace XA := XA.below bw8
  replace rM := rM.below bw8
  replace XM := XM.below bw8
  replace B := bel_trans B bw8
  clear bw8
  obtain ⟨x0, x1, x2, x3, xz⟩ := XA.at4
  obtain ⟨y0, y1, y2, y3, yz⟩ := XM.at4
  go_wp2_with fail
  refine wp_region_held_drew (S := fun W => Below w8.heap.size w8 W) (by kernel_rfl) ?_ (fun hHeld => ?_)
  · exact below_drewN (Below.refl _ _) 1
  obtain ⟨V0, hV0⟩ : ∃ V, w8.drew = V := ⟨_, rfl⟩
  rw [hV0] at hHeld ⊢
  clear hV0
  have hs_V0 : w8.heap.size ≤ V0.heap.size := hHeld.size
  refine wpAnyH_take (i := 0) (oi := { dst := some 22, op := Op.load 37 (Operand.tmp 5), type := 37, pos := "exact.go:3680", after := #[], guard := none }) (v := .agg (fkcells d pM)) rfl (by kernel_rfl) (by kernel_rfl) (by kernel_rfl) (fun _ _ _ h => h) (Or.inl ⟨by rfl, ?hy16⟩) (by assumption) ?rest16
  case hy16 => intro W hS; have c0 := cell_later hS y0; have c1 := cell_later hS y1; have c2 := cell_later hS y2; have c3 := cell_later hS y3; go_simp; try (with_reducible rfl)
  simp only [Act.put, List.setIfInBounds_toArray, List.set_cons_zero, List.set_cons_succ]
  refine wpAnyH_take (i := 1) (oi := { dst := some 23, op := Op.load 28 (Operand.tmp 1), type := 28, pos := "exact.go:3680", after := #[], guard := none }) (v := .agg (fkcells d p)) rfl (by kernel_rfl) (by kernel_rfl) (by kernel_rfl) (fun _ _ _ h => h) (Or.inl ⟨by rfl, ?hy17⟩) (by assumption) ?rest17
  case hy17 => intro W hS; have c0 := cell_later hS x0; have c1 := cell_later hS x1; have c2 := cell_later hS x2; have c3 := cell_later hS x3; go_simp; try (with_reducible rfl)
  simp only [Act.put, List.setIfInBounds_toArray, List.set_cons_zero, List.set_cons_succ]
  refine wpAnyH_ready (rs := [2]) (by kernel_rfl) (by simp) ?_
  refine AllReadyH.cons (o := { dst := some 24, op := Op.call { callee := Callee.value (Operand.func 6), args := #[Operand.tmp 23], argTypes := #[28] }, type := 37, pos := "exact.go:3680", after := #[{ on := 1, ground := Ground.data }], guard := none }) rfl (fun K2 hK2 => ?_) AllReadyH.nil
  go_simp
  refine (toFlock_own d p _ hs ((HA.out.below B).below hHeld)).mono ?_
  rintro e w9 ⟨p9, rfl, E9, _, b9⟩
  have r9 := E9.fr hs
  clear E9
  go_wp2_with fail
  refine hK2.out _ _ ?_ (fun hHeld2 => ?_)
  · exact bel_trans hHeld b9
  clear hK2 K2 hHeld
  have hHeld := hHeld2
  clear hHeld2
  try simp only [Act.put, List.setIfInBounds_toArray, List.set_cons_zero, List.set_cons_succ]
  have hz9 := b9.size
  have hs_w9 : w8.heap.size ≤ w9.heap.size := hHeld.size
  clear b9
  refine wpAnyH_ready (rs := [3]) (by kernel_rfl) (by simp) ?_
  refine AllReadyH.cons (o := { dst := some 25, op := Op.call { callee := Callee.value (Operand.func 8), args := #[Operand.tmp 22, Operand.tmp 24], argTypes := #[37, 37] }, type := 4, pos := "exact.go:3680", after := #[{ on := 0, ground := Ground.data }, { on := 2, ground := Ground.data }, { on := 2, ground := Ground.chain }], guard := none }) rfl (fun K2 hK2 => ?_) AllReadyH.nil
  go_simp
  refine (eqFlock_any d pM p9 _ (rM.below hHeld) r9).mono ?_
  rintro e w10 ⟨rfl, b10⟩
  go_wp2_with fail
  refine hK2.out _ _ ?_ (fun hHeld2 => ?_)
  · exact bel_trans hHeld b10
  clear hK2 K2 hHeld
  have hHeld := hHeld2
  clear hHeld2
  try simp only [Act.put, List.setIfInBounds_toArray, List.set_cons_zero, List.set_cons_succ]
  replace r9 := r9.below b10
  have hz10 := b10.size
  have hs_w10 : w8.heap.size ≤ w10.heap.size := hHeld.size
  clear b10
  refine wpAnyH_take (i := 4) (oi := { dst := some 26, op := Op.unOp UnOp.not 4 (Operand.tmp 25), type := 4, pos := "exact.go:3680", after := #[{ on := 3, ground := Ground.data }], guard := none }) (v := .bool false) rfl (by kernel_rfl) (by kernel_rfl) (by kernel_rfl) (fun _ _ _ h => h) (Or.inl ⟨by rfl, ?hy18⟩) (by assumption) ?rest18
  case hy18 => intro W hS; go_simp; try (with_reducible rfl)
  simp only [Act.put, List.setIfInBounds_toArray, List.set_cons_zero, List.set_cons_succ]
  refine wpAnyH_done (by kernel_rfl) ?_ _
  have bq := hHeld
  clear hHeld hz9 hz10 hs_w9 hs_w10 hs_V0 r9
  clear x0 x1 x2 x3 xz
  clear y0 y1 y2 y3 yz
  replace XA := XA.below bq
  replace rM := rM.below bq
  replace XM := XM.below bq
  replace B := bel_trans B bq
  clear bq
  clear XA XM rM
  go_wp2
  go_ret
  exact ⟨rfl, B⟩
end LawFnExactFlockOk
end Go.Proofs.YtnfjmdegbdphpaaGreat
