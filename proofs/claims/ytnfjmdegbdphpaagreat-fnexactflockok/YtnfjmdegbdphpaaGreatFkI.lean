/- CoO and FkI: see the heads of the parts. -/
import Derived.Test.YtnfjmdegbdphpaaGreatLawFlockOkG
import Derived.Test.YtnfjmdegbdphpaaGreatCaI6
import Derived.Test.YtnfjmdegbdphpaaGreatHi9
import Derived.Test.YtnfjmdegbdphpaaGreatNdO2
import Derived.Test.YtnfjmdegbdphpaaGreatWoI
/- What impl's CoreOk answers. -/
namespace Go.Proofs.YtnfjmdegbdphpaaGreat
open Go.RowKit
set_option linter.unusedVariables false

set_option maxRecDepth 100000 in
set_option maxHeartbeats 2000000 in
theorem implCoreOk_any (d : CoD) (p : CoP) (n : ND) (q : NP) (nodes : Int) (w : World) (hbs : ∀ i, i < n.nh → (n.h i).bs.length ≤ 1048577) (ha : CoR w d p) (hR : NR w n q) :
    Calls Tryz.prog 16 #[.agg (ccells d p), .agg (ncells n q), .int .i64 nodes] w fun e w' => e = .returned (.bool (coreB d n nodes)) ∧ Below w.heap.size w w' := by
  have B := bel_alloc (bel_alloc (Below.refl w.heap.size w) (.cells (ccells d p) 50)) (.cells (ncells n q) 56)
  obtain ⟨XC, XN⟩ := Box.two w (ccells d p) (ncells n q) 50 56
  replace ha := ha.below B
  replace hR := hR.below B
  obtain ⟨y0, y1, y2, y3, y4, yz⟩ := XN.at5
  go_enter Tryz.func16, Tryz.ntmps16
  go_wp2_with fail
  refine (implNodeOk_any n q nodes _ hbs hR).mono ?_
  rintro e w1 ⟨rfl, b1⟩
  replace XC := XC.below b1
  replace XN := XN.below b1
  replace ha := ha.below b1
  replace hR := hR.below b1
  replace B := bel_trans B b1
  clear b1 y0 y1 y2 y3 y4 yz
  obtain ⟨z1, hz1⟩ : ∃ z, nodeOkB n nodes = z := ⟨_, rfl⟩
  have HZ1 : Hid (nodeOkB n nodes = z1) := hz1
  rw [hz1]
  clear hz1
  cases z1
  · clear XC XN ha hR
    go_wp2
    go_ret
    exact ⟨ret_bool (by unfold coreB; rw [HZ1.out]; rfl), B⟩
  obtain ⟨x0, x1, x2, x3, xz⟩ := XC.at4
  go_wp2_with fail
  refine (implHartOk_any p.r.1 p.r.2 d.h.xs d.h.pc d.h.st _ ha.r ha.l).mono ?_
  rintro e w2 ⟨rfl, b2⟩
  replace XC := XC.below b2
  replace XN := XN.below b2
  replace ha := ha.below b2
  replace hR := hR.below b2
  replace B := bel_trans B b2
  clear b2 x0 x1 x2 x3 xz
  obtain ⟨z2, hz2⟩ : ∃ z, hartB d.h.xs d.h.pc d.h.st = z := ⟨_, rfl⟩
  have HZ2 : Hid (hartB d.h.xs d.h.pc d.h.st = z2) := hz2
  rw [hz2]
  clear hz2
  cases z2
  · clear XC XN ha hR
    go_wp2
    go_ret
    exact ⟨ret_bool (by unfold coreB; rw [HZ1.out, HZ2.out]; rfl), B⟩
  obtain ⟨x0, x1, x2, x3, xz⟩ := XC.at4
  obtain ⟨y0, y1, y2, y3, y4, yz⟩ := XN.at5
  go_wp2_with fail
  refine (implCacheOk_any p.c.1 p.c.2 d.n d.k p.q q.f.1 q.f.2 n.nf n.f q.fp _ ha.k hR.f).mono ?_
  rintro e w3 ⟨rfl, b3⟩
  replace B := bel_trans B b3
  clear b3 x0 x1 x2 x3 xz y0 y1 y2 y3 y4 yz XC XN ha hR
  obtain ⟨z3, hz3⟩ : ∃ z, cacheB d.n d.k n.nf n.f = z := ⟨_, rfl⟩
  have HZ3 : Hid (cacheB d.n d.k n.nf n.f = z3) := hz3
  rw [hz3]
  clear hz3
  go_wp2
  go_ret
  exact ⟨ret_bool (by unfold coreB; rw [HZ1.out, HZ2.out, HZ3.out]; rfl), B⟩
end Go.Proofs.YtnfjmdegbdphpaaGreat

/- What impl's FlockOk answers (written by mk13p.py). -/
namespace Go.Proofs.YtnfjmdegbdphpaaGreat
open Go.RowKit
set_option linter.unusedVariables false

set_option maxRecDepth 100000 in
set_option maxHeartbeats 4000000 in
theorem implFlockOk_any (d : FkD) (p : FkP) (w : World) (hbs : ∀ i, i < d.w.nn → ∀ j, j < (d.w.d i).nh → ((d.w.d i).h j).bs.length ≤ 1048577) (hR : FkR w d p) :
    Calls Tryz.prog 7 #[.agg (fkcells d p)] w fun e w' => e = .returned (.bool (flockB d)) ∧ Below w.heap.size w w' := by
  obtain ⟨pw, ⟨pc, cc⟩, q⟩ := p
  have B := bel_alloc (Below.refl w.heap.size w) (.cells (fkcells d ⟨pw, (pc, cc), q⟩) 37)
  have X := Box.new w (fkcells d ⟨pw, (pc, cc), q⟩) 37
  have HR : Hid (FkR w d ⟨pw, (pc, cc), q⟩) := hR
  have hn := hR.c.1
  have hR1 := hR.o.below B
  clear hR
  obtain ⟨x0, x1, x2, x3, xz⟩ := X.at4
  go_enter Tryz.func7, Tryz.ntmps7
  go_wp2_with fail
  refine (implWorldOk_any d.w pw _ hbs hR1).mono ?_
  rintro e w1 ⟨rfl, b1⟩
  replace X := X.below b1
  replace B := bel_trans B b1
  clear b1 x0 x1 x2 x3 xz hR1
  obtain ⟨z, hz⟩ : ∃ z, worldB d.w = z := ⟨_, rfl⟩
  have HZ : Hid (worldB d.w = z) := hz
  rw [hz]
  cases z
  · clear X hz hbs
    go_wp2
    go_ret
    exact ⟨ret_bool (by unfold flockB; rw [HZ.out]; rfl), B⟩
  have hnn := worldB_nn hz
  clear hz
  obtain ⟨x0, x1, x2, x3, xz⟩ := X.at4
  by_cases hs : (d.n : Int) = d.w.size
  · have HBS : Hid (∀ i, i < d.n → ∀ j, j < (d.w.d i).nh → ((d.w.d i).h j).bs.length ≤ 1048577) := fun i hi => hbs i (by omega)
    have HS : Hid ((d.n : Int) = d.w.size ∧ (d.w.nn : Int) = d.w.size) := ⟨hs, hnn⟩
    have e1 : ((d.n : Int) != d.w.size) = false := by simpa using hs
    have hX : Hid (Box w1 w.heap.size (fkcells d ⟨pw, (pc, cc), q⟩) 37) := X
    have HB : Hid (Below w.heap.size w w1) := B
    clear hbs B X hnn hs
    go_wp2
    clear x0 x1 x2 x3 xz e1
    go_loopw [21] (fun i wr => ∃ k : Nat, k ≤ d.n ∧ i = .int .i64 k ∧ (∀ i, i < k → coreB (d.c i) (d.w.d i) d.w.size = true) ∧ Box wr w.heap.size (fkcells d ⟨pw, (pc, cc), q⟩) 37 ∧ Below w.heap.size w wr) (fun i _ => d.n - (intOf i).toNat)
    case atStart => exact ⟨0, Nat.zero_le _, rfl, fun i hi => absurd hi (Nat.not_lt_zero i), hX.out, HB.out⟩
    case round =>
      obtain ⟨k, hk, rfl, hall, X, B⟩ := hrel
      have HA : Hid (∀ i, i < k → coreB (d.c i) (d.w.d i) d.w.size = true) := hall
      clear hall hX HB
      obtain ⟨x0, x1, x2, x3, xz⟩ := X.at4
      by_cases hkn : k < d.n
      · have hi : (k : Int) < (d.n : Int) := by omega
        have hj : (k : Int) < (d.w.nn : Int) := by have := HS.out; omega
        have hr := HR.out.below B
        obtain ⟨ba, oa, rfl, y0, y1, y2, y3⟩ := hr.c.at hkn
        obtain ⟨bb, ob, eb, z0, z1, z2, z3, z4⟩ := hr.o.n.at (i := k) (by have := HS.out; omega)
        have rc := hr.c.2.2 k hkn
        have rn := hr.o.n.2.2 k (by have := HS.out; omega)
        have hnl := hr.o.n.1
        rw [eb] at x1
        have EB : Hid (pw.n.1 = some ⟨bb, ob, none⟩) := eb
        clear hr eb
        have bx := bel_alloc (Below.refl wr.heap.size wr) (.cells (ccells (d.c k) (q k)) 50)
        have XC := Box.new wr (ccells (d.c k) (q k)) 50
        obtain ⟨W5, hW5⟩ : ∃ W5, wr.alloc (.cells (ccells (d.c k) (q k)) 50) = W5 := ⟨_, rfl⟩
        rw [hW5] at bx XC
        go_wp2_with fail
        clear x0 x1 x2 x3 xz y0 y1 y2 y3 z0 z1 z2 z3 z4 hW5
        replace X := X.below bx
        replace B := bel_trans B bx
        replace rc := rc.below bx
        replace rn := rn.below bx
        clear bx
        have hr := HR.out.below B
        obtain ⟨bb', ob', eb', z0, z1, z2, z3, z4⟩ := hr.o.n.at (i := k) (by have := HS.out; omega)
        rw [EB.out] at eb'
        simp only [Option.some.injEq, Addr.mk.injEq, and_true] at eb'
        obtain ⟨rfl, rfl⟩ := eb'
        obtain ⟨x0, x1, x2, x3, xz⟩ := X.at4
        rw [EB.out] at x1
        obtain ⟨c0, c1, c2, c3, cz⟩ := XC.at4
        clear hr
        refine wp_region_held_drew (S := fun W => Below W5.heap.size W5 W) (by kernel_rfl) ?_ (fun hHeld => ?_)
        · exact below_drewN (Below.refl _ _) 1
        obtain ⟨V0, hV0⟩ : ∃ V, W5.drew = V := ⟨_, rfl⟩
        rw [hV0] at hHeld ⊢
        clear hV0
        have hs_V0 : W5.heap.size ≤ V0.heap.size := hHeld.size
        refine wpAnyH_take (i := 0) (oi := { dst := some 26, op := Op.load 50 (Operand.tmp 4), type := 50, pos := "l13_flock.go:25", after := #[], guard := none }) (v := .agg (ccells (d.c k) (q k))) rfl (by kernel_rfl) (by kernel_rfl) (by kernel_rfl) (fun _ _ _ h => h) (Or.inl ⟨by rfl, ?hy1⟩) (by assumption) ?rest1
        case hy1 => intro W hS; have c0 := cell_later hS c0; have c1 := cell_later hS c1; have c2 := cell_later hS c2; have c3 := cell_later hS c3; go_simp; try (with_reducible rfl)
        simp only [Act.put, List.setIfInBounds_toArray, List.set_cons_zero, List.set_cons_succ]
        refine wpAnyH_take (i := 1) (oi := { dst := some 27, op := Op.fieldAddr 37 (Operand.tmp 1) 0, type := 0, pos := "l13_flock.go:25", after := #[], guard := none }) (v := ?vv2) rfl (by kernel_rfl) (by kernel_rfl) (by kernel_rfl) (fun _ _ _ h => h) (Or.inl ⟨by rfl, ?hy2⟩) (by assumption) ?rest2
        case hy2 => intro W hS; go_simp; try (with_reducible rfl)
        simp only [Act.put, List.setIfInBounds_toArray, List.set_cons_zero, List.set_cons_succ]
        refine wpAnyH_take (i := 2) (oi := { dst := some 28, op := Op.fieldAddr 34 (Operand.tmp 27) 1, type := 0, pos := "l13_flock.go:25", after := #[{ on := 1, ground := Ground.data }], guard := none }) (v := ?vv3) rfl (by kernel_rfl) (by kernel_rfl) (by kernel_rfl) (fun _ _ _ h => h) (Or.inl ⟨by rfl, ?hy3⟩) (by assumption) ?rest3
        case hy3 => intro W hS; go_simp; try (with_reducible rfl)
        simp only [Act.put, List.setIfInBounds_toArray, List.set_cons_zero, List.set_cons_succ]
        refine wpAnyH_take (i := 3) (oi := { dst := some 29, op := Op.load 31 (Operand.tmp 28), type := 31, pos := "l13_flock.go:25", after := #[{ on := 2, ground := Ground.data }], guard := none }) (v := ?vv4) rfl (by kernel_rfl) (by kernel_rfl) (by kernel_rfl) (fun _ _ _ h => h) (Or.inl ⟨by rfl, ?hy4⟩) (by assumption) ?rest4
        case hy4 => intro W hS; have c0 := cell_later hS x1; go_simp; try (with_reducible rfl)
        simp only [Act.put, List.setIfInBounds_toArray, List.set_cons_zero, List.set_cons_succ]
        refine wpAnyH_take (i := 4) (oi := { dst := some 30, op := Op.move (Operand.tmp 3), type := 3, pos := "l13_flock.go:25", after := #[], guard := none }) (v := ?vv5) rfl (by kernel_rfl) (by kernel_rfl) (by kernel_rfl) (fun _ _ _ h => h) (Or.inl ⟨by rfl, ?hy5⟩) (by assumption) ?rest5
        case hy5 => intro W hS; go_simp; try (with_reducible rfl)
        simp only [Act.put, List.setIfInBounds_toArray, List.set_cons_zero, List.set_cons_succ]
        refine wpAnyH_take (i := 5) (oi := { dst := some 31, op := Op.indexAddr 31 (Operand.tmp 29) (Operand.tmp 30), type := 0, pos := "l13_flock.go:25", after := #[{ on := 3, ground := Ground.data }, { on := 4, ground := Ground.data }], guard := none }) (v := ?vv6) rfl (by kernel_rfl) (by kernel_rfl) (by kernel_rfl) (fun _ _ _ h => h) (Or.inl ⟨by rfl, ?hy6⟩) (by assumption) ?rest6
        case hy6 => intro W hS; go_simp; try (with_reducible rfl)
        simp only [Act.put, List.setIfInBounds_toArray, List.set_cons_zero, List.set_cons_succ]
        refine wpAnyH_take (i := 6) (oi := { dst := some 32, op := Op.load 56 (Operand.tmp 31), type := 56, pos := "l13_flock.go:25", after := #[{ on := 5, ground := Ground.data }], guard := none }) (v := .agg (ncells (d.w.d k) (pw.np k))) rfl (by kernel_rfl) (by kernel_rfl) (by kernel_rfl) (fun _ _ _ h => h) (Or.inl ⟨by rfl, ?hy7⟩) (by assumption) ?rest7
        case hy7 => intro W hS; have c0 := cell_later hS z0; have c1 := cell_later hS z1; have c2 := cell_later hS z2; have c3 := cell_later hS z3; have c4 := cell_later hS z4; go_simp; try (with_reducible rfl)
        simp only [Act.put, List.setIfInBounds_toArray, List.set_cons_zero, List.set_cons_succ]
        refine wpAnyH_take (i := 7) (oi := { dst := some 33, op := Op.fieldAddr 37 (Operand.tmp 1) 0, type := 0, pos := "l13_flock.go:25", after := #[], guard := none }) (v := ?vv8) rfl (by kernel_rfl) (by kernel_rfl) (by kernel_rfl) (fun _ _ _ h => h) (Or.inl ⟨by rfl, ?hy8⟩) (by assumption) ?rest8
        case hy8 => intro W hS; go_simp; try (with_reducible rfl)
        simp only [Act.put, List.setIfInBounds_toArray, List.set_cons_zero, List.set_cons_succ]
        refine wpAnyH_take (i := 8) (oi := { dst := some 34, op := Op.fieldAddr 34 (Operand.tmp 33) 0, type := 0, pos := "l13_flock.go:25", after := #[{ on := 7, ground := Ground.data }], guard := none }) (v := ?vv9) rfl (by kernel_rfl) (by kernel_rfl) (by kernel_rfl) (fun _ _ _ h => h) (Or.inl ⟨by rfl, ?hy9⟩) (by assumption) ?rest9
        case hy9 => intro W hS; go_simp; try (with_reducible rfl)
        simp only [Act.put, List.setIfInBounds_toArray, List.set_cons_zero, List.set_cons_succ]
        refine wpAnyH_take (i := 9) (oi := { dst := some 35, op := Op.load 3 (Operand.tmp 34), type := 3, pos := "l13_flock.go:25", after := #[{ on := 8, ground := Ground.data }], guard := none }) (v := ?vv10) rfl (by kernel_rfl) (by kernel_rfl) (by kernel_rfl) (fun _ _ _ h => h) (Or.inl ⟨by rfl, ?hy10⟩) (by assumption) ?rest10
        case hy10 => intro W hS; have c0 := cell_later hS x0; go_simp; try (with_reducible rfl)
        simp only [Act.put, List.setIfInBounds_toArray, List.set_cons_zero, List.set_cons_succ]
        refine wpAnyH_ready (rs := [10]) (by kernel_rfl) (by simp) ?_
        refine AllReadyH.cons (o := { dst := some 36, op := Op.call { callee := Callee.value (Operand.func 16), args := #[Operand.tmp 26, Operand.tmp 32, Operand.tmp 35], argTypes := #[50, 56, 3] }, type := 4, pos := "l13_flock.go:25", after := #[{ on := 0, ground := Ground.data }, { on := 6, ground := Ground.data }, { on := 9, ground := Ground.data }], guard := none }) rfl (fun K2 hK2 => ?_) AllReadyH.nil
        go_simp
        refine (implCoreOk_any (d.c k) (q k) (d.w.d k) (pw.np k) d.w.size _ (HBS.out k hkn) (rc.below hHeld) (rn.below hHeld)).mono ?_
        rintro e w1 ⟨rfl, b1⟩
        go_wp2_with fail
        refine hK2.out _ _ ?_ (fun hHeld2 => ?_)
        · exact bel_trans hHeld b1
        clear hK2 K2 hHeld
        have hHeld := hHeld2
        clear hHeld2
        try simp only [Act.put, List.setIfInBounds_toArray, List.set_cons_zero, List.set_cons_succ]
        have hz1 := b1.size
        have hs_w1 : W5.heap.size ≤ w1.heap.size := hHeld.size
        clear b1
        refine wpAnyH_take (i := 11) (oi := { dst := some 37, op := Op.unOp UnOp.not 4 (Operand.tmp 36), type := 4, pos := "l13_flock.go:25", after := #[{ on := 10, ground := Ground.data }], guard := none }) (v := .bool (!coreB (d.c k) (d.w.d k) d.w.size)) rfl (by kernel_rfl) (by kernel_rfl) (by kernel_rfl) (fun _ _ _ h => h) (Or.inl ⟨by rfl, ?hy11⟩) (by assumption) ?rest11
        case hy11 => intro W hS; go_simp; try (with_reducible rfl)
        simp only [Act.put, List.setIfInBounds_toArray, List.set_cons_zero, List.set_cons_succ]
        refine wpAnyH_done (by kernel_rfl) ?_ _
        have bq := hHeld
        replace X := X.below bq
        replace B := bel_trans B bq
        clear bq hHeld x0 x1 x2 x3 xz c0 c1 c2 c3 cz XC z0 z1 z2 z3 z4 rc rn hz1 hs_w1 hs_V0 hnl
        cases hf : coreB (d.c k) (d.w.d k) d.w.size
        · have HF : Hid (flockB d = false) := by
            show _ = _
            unfold flockB
            rw [allB_bad hkn hf]
            simp
          clear hf
          go_wp2
          go_ret
          exact ⟨ret_bool HF.out.symm, B⟩
        · have HT : Hid (∀ i, i < k + 1 → coreB (d.c i) (d.w.d i) d.w.size = true) := fun i hi => by
            by_cases e : i = k
            · subst e; exact hf
            · exact HA.out i (by omega)
          clear hf
          go_wp2
          go_roundw
          case rel => exact ⟨k + 1, by omega, by go_num, HT.out, X, B⟩
          case measure => simp [intOf]; omega
      · have HT : Hid (flockB d = true) := by
          show _ = _
          unfold flockB
          rw [HZ.out, allB_ok (fun i hi => HA.out i (by omega))]
          simp [HS.out.1]
        clear X
        go_wp2
        go_ret
        exact ⟨ret_bool HT.out.symm, B⟩
  · have e1 : ((d.n : Int) != d.w.size) = true := by simpa using hs
    have HF : Hid (flockB d = false) := by
      show _ = _
      unfold flockB
      simp [hs]
    clear X hbs hs
    go_wp2
    go_ret
    exact ⟨ret_bool HF.out.symm, B⟩
end Go.Proofs.YtnfjmdegbdphpaaGreat
