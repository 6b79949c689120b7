/- What impl's stationOf, (station) node, ask and Want's deed do. -/
import Derived.Test.YtcneocbadobcfaaGreatWtW
namespace Go.Proofs.YtcneocbadobcfaaGreat
open Go.RowKit
set_option linter.unusedVariables false

set_option maxRecDepth 100000 in
set_option maxHeartbeats 4000000 in
theorem stationOf_any (d : ND) (p : NP) (w : World) (hd : Nsm d) (hR : NR w d p) :
    Calls Tryz.prog 76 #[.agg (ncells d p)] w fun e w' => ∃ p' m, e = .returned (.pointer (some ⟨m, 0, none⟩)) ∧ Box w' m (stc d p' false) 123 ∧ NOw w' d p' ∧ (∀ b, NBs d p' b → w.heap.size ≤ b ∧ b < m) ∧ w.heap.size ≤ m ∧ Below w.heap.size w w' := by
  have B := bel_alloc (Below.refl w.heap.size w) (.cells (ncells d p) 34)
  have X := Box.new w (ncells d p) 34
  go_enter Tryz.func76, Tryz.ntmps76
  go_wp2_with fail
  refine (copyNode_any d p _ hd (hR.below B)).mono ?_
  rintro e w1 ⟨q, rfl, N1, L1, b1⟩
  replace X := X.below b1
  replace B := bel_trans B b1
  obtain ⟨x0, x1, x2, x3, x4, zx⟩ := X.at5
  have f0 := X.frozen 0
  have f1 := X.frozen 1
  have f2 := X.frozen 2
  have f3 := X.frozen 3
  have f4 := X.frozen 4
  have HL : Hid (∀ b, NBs d q b → w.heap.size + 1 ≤ b ∧ b < w1.heap.size) := fun b hb => ⟨by have := L1 b hb; simpa using this, N1.lt hb⟩
  have HN : Hid (NOw w1 d q) := N1
  have HB : Hid (Below w.heap.size w w1) := B
  clear X B b1 N1 L1 hR hd
  go_wp2
  go_ret
  have hsz : (((((w1.setCell ⟨w.heap.size, 0, none⟩ (.int .i64 d.id)).setCell ⟨w.heap.size, 1, none⟩ (.slice q.f.1 d.nf q.f.2)).setCell ⟨w.heap.size, 2, none⟩ (.slice q.h.1 d.nh q.h.2)).setCell ⟨w.heap.size, 3, none⟩ (.slice q.o.1 d.no q.o.2)).setCell ⟨w.heap.size, 4, none⟩ (.slice q.i.1 d.ni q.i.2)).heap.size = w1.heap.size := by simp
  have on : Only w1 (((((w1.setCell ⟨w.heap.size, 0, none⟩ (.int .i64 d.id)).setCell ⟨w.heap.size, 1, none⟩ (.slice q.f.1 d.nf q.f.2)).setCell ⟨w.heap.size, 2, none⟩ (.slice q.h.1 d.nh q.h.2)).setCell ⟨w.heap.size, 3, none⟩ (.slice q.o.1 d.no q.o.2)).setCell ⟨w.heap.size, 4, none⟩ (.slice q.i.1 d.ni q.i.2)) (fun b => b = w.heap.size) := (((((Only.refl w1 (fun b => b = w.heap.size)).setCell ⟨w.heap.size, 0, none⟩ _ rfl).setCell ⟨w.heap.size, 1, none⟩ _ rfl).setCell ⟨w.heap.size, 2, none⟩ _ rfl).setCell ⟨w.heap.size, 3, none⟩ _ rfl).setCell ⟨w.heap.size, 4, none⟩ _ rfl
  have bb : Below w.heap.size w (((((w1.setCell ⟨w.heap.size, 0, none⟩ (.int .i64 d.id)).setCell ⟨w.heap.size, 1, none⟩ (.slice q.f.1 d.nf q.f.2)).setCell ⟨w.heap.size, 2, none⟩ (.slice q.h.1 d.nh q.h.2)).setCell ⟨w.heap.size, 3, none⟩ (.slice q.o.1 d.no q.o.2)).setCell ⟨w.heap.size, 4, none⟩ (.slice q.i.1 d.ni q.i.2)) := bel_setCell (bel_setCell (bel_setCell (bel_setCell (bel_setCell HB.out ⟨w.heap.size, 0, none⟩ _ (Nat.le_refl _)) ⟨w.heap.size, 1, none⟩ _ (Nat.le_refl _)) ⟨w.heap.size, 2, none⟩ _ (Nat.le_refl _)) ⟨w.heap.size, 3, none⟩ _ (Nat.le_refl _)) ⟨w.heap.size, 4, none⟩ _ (Nat.le_refl _)
  obtain ⟨V, hV⟩ : ∃ V, (((((w1.setCell ⟨w.heap.size, 0, none⟩ (.int .i64 d.id)).setCell ⟨w.heap.size, 1, none⟩ (.slice q.f.1 d.nf q.f.2)).setCell ⟨w.heap.size, 2, none⟩ (.slice q.h.1 d.nh q.h.2)).setCell ⟨w.heap.size, 3, none⟩ (.slice q.o.1 d.no q.o.2)).setCell ⟨w.heap.size, 4, none⟩ (.slice q.i.1 d.ni q.i.2)) = V := ⟨_, rfl⟩
  rw [hV] at hsz on bb ⊢
  clear hV
  have XN := Box.new V (stc d q false) 123
  rw [hsz] at XN
  have hz := HB.out.size
  refine ⟨q, w1.heap.size, rfl, XN, ?_, fun b hb => ?_, hz, bel_alloc bb _⟩
  · exact (HN.out.sm (on.sm (fun b hb e => by have := HL.out b hb; omega))).below (bel_alloc (Below.refl _ _) _)
  · have := HL.out b hb
    omega

set_option maxRecDepth 100000 in
set_option maxHeartbeats 4000000 in
theorem node_any (m : Nat) (d : ND) (p : NP) (j : Bool) (w : World) (X : Box w m (stc d p j) 123) :
    Calls Tryz.prog 78 #[.pointer (some ⟨m, 0, none⟩)] w fun e w' => e = .returned (.agg (ncells d p)) ∧ Below w.heap.size w w' := by
  have B := bel_alloc (Below.refl w.heap.size w) (.cells #[.int .i64 0, .slice none 0 0, .slice none 0 0, .slice none 0 0, .slice none 0 0] 34)
  have XR := Box.new w #[.int .i64 0, .slice none 0 0, .slice none 0 0, .slice none 0 0, .slice none 0 0] 34
  have hm := X.lt
  have XK := X.below (bel_drew (bel_alloc (Below.refl w.heap.size w) (.cells (ncells d p) 34)))
  replace X := X.below B
  obtain ⟨x0, x1, x2, x3, x4, x5, xz⟩ := X.at6
  obtain ⟨k0, k1, k2, k3, k4, k5, kz⟩ := XK.at6
  go_enter Tryz.func78, Tryz.ntmps78
  go_wp2_with fail
  refine wp_region_held_drew (S := (fun w' => w'.cell? ⟨m, 0, none⟩ = some (.slice p.o.1 d.no p.o.2) ∧ w'.cell? ⟨m, 1, none⟩ = some (.slice p.i.1 d.ni p.i.2) ∧ w'.cell? ⟨m, 3, none⟩ = some (.int .i64 d.id) ∧ w'.cell? ⟨m, 4, none⟩ = some (.slice p.f.1 d.nf p.f.2) ∧ w'.cell? ⟨m, 5, none⟩ = some (.slice p.h.1 d.nh p.h.2) ∧ m < w'.heap.size)) (by kernel_rfl) ?_ (fun hHeld => ?_)
  · exact ⟨x0, x1, x3, x4, x5, xz⟩
  refine wpAnyH_take (i := 0) (oi := { dst := some 3, op := Op.move (Operand.tmp 0), type := 65, pos := "l05_node.go:95", after := #[], guard := none }) (v := ?r1_v0) rfl (by kernel_rfl) (by kernel_rfl) (by kernel_rfl) (fun _ _ _ h => h) (Or.inl ⟨by rfl, ?r1_hy0⟩) (by assumption) ?r1_rest0
  case r1_hy0 => intro w hSw; obtain ⟨s0, s1, s2, s3, s4, s5⟩ := hSw; go_simp; try (with_reducible rfl)
  simp only [Act.put, List.setIfInBounds_toArray, List.set_cons_zero, List.set_cons_succ]
  refine wpAnyH_take (i := 1) (oi := { dst := some 4, op := Op.nilCheck (Operand.tmp 3), type := 0, pos := "l05_node.go:95", after := #[{ on := 0, ground := Ground.data }], guard := none }) (v := ?r1_v1) rfl (by kernel_rfl) (by kernel_rfl) (by kernel_rfl) (fun _ _ _ h => h) (Or.inl ⟨by rfl, ?r1_hy1⟩) (by assumption) ?r1_rest1
  case r1_hy1 => intro w hSw; obtain ⟨s0, s1, s2, s3, s4, s5⟩ := hSw; go_simp; try (with_reducible rfl)
  simp only [Act.put, List.setIfInBounds_toArray, List.set_cons_zero, List.set_cons_succ]
  refine wpAnyH_take (i := 2) (oi := { dst := some 5, op := Op.fieldAddr 123 (Operand.tmp 4) 1, type := 0, pos := "l05_node.go:95", after := #[{ on := 1, ground := Ground.data }], guard := none }) (v := ?r1_v2) rfl (by kernel_rfl) (by kernel_rfl) (by kernel_rfl) (fun _ _ _ h => h) (Or.inl ⟨by rfl, ?r1_hy2⟩) (by assumption) ?r1_rest2
  case r1_hy2 => intro w hSw; obtain ⟨s0, s1, s2, s3, s4, s5⟩ := hSw; go_simp; try (with_reducible rfl)
  simp only [Act.put, List.setIfInBounds_toArray, List.set_cons_zero, List.set_cons_succ]
  refine wpAnyH_take (i := 3) (oi := { dst := some 6, op := Op.load 3 (Operand.tmp 5), type := 3, pos := "l05_node.go:95", after := #[{ on := 2, ground := Ground.data }], guard := none }) (v := ?r1_v3) rfl (by kernel_rfl) (by kernel_rfl) (by kernel_rfl) (fun _ _ _ h => h) (Or.inl ⟨by rfl, ?r1_hy3⟩) (by assumption) ?r1_rest3
  case r1_hy3 => intro w hSw; obtain ⟨s0, s1, s2, s3, s4, s5⟩ := hSw; go_simp; try (with_reducible rfl)
  simp only [Act.put, List.setIfInBounds_toArray, List.set_cons_zero, List.set_cons_succ]
  refine wpAnyH_take (i := 4) (oi := { dst := some 7, op := Op.move (Operand.tmp 0), type := 65, pos := "l05_node.go:95", after := #[], guard := none }) (v := ?r1_v4) rfl (by kernel_rfl) (by kernel_rfl) (by kernel_rfl) (fun _ _ _ h => h) (Or.inl ⟨by rfl, ?r1_hy4⟩) (by assumption) ?r1_rest4
  case r1_hy4 => intro w hSw; obtain ⟨s0, s1, s2, s3, s4, s5⟩ := hSw; go_simp; try (with_reducible rfl)
  simp only [Act.put, List.setIfInBounds_toArray, List.set_cons_zero, List.set_cons_succ]
  refine wpAnyH_take (i := 5) (oi := { dst := some 8, op := Op.nilCheck (Operand.tmp 7), type := 0, pos := "l05_node.go:95", after := #[{ on := 4, ground := Ground.data }], guard := none }) (v := ?r1_v5) rfl (by kernel_rfl) (by kernel_rfl) (by kernel_rfl) (fun _ _ _ h => h) (Or.inl ⟨by rfl, ?r1_hy5⟩) (by assumption) ?r1_rest5
  case r1_hy5 => intro w hSw; obtain ⟨s0, s1, s2, s3, s4, s5⟩ := hSw; go_simp; try (with_reducible rfl)
  simp only [Act.put, List.setIfInBounds_toArray, List.set_cons_zero, List.set_cons_succ]
  refine wpAnyH_take (i := 6) (oi := { dst := some 9, op := Op.fieldAddr 123 (Operand.tmp 8) 2, type := 0, pos := "l05_node.go:95", after := #[{ on := 5, ground := Ground.data }], guard := none }) (v := ?r1_v6) rfl (by kernel_rfl) (by kernel_rfl) (by kernel_rfl) (fun _ _ _ h => h) (Or.inl ⟨by rfl, ?r1_hy6⟩) (by assumption) ?r1_rest6
  case r1_hy6 => intro w hSw; obtain ⟨s0, s1, s2, s3, s4, s5⟩ := hSw; go_simp; try (with_reducible rfl)
  simp only [Act.put, List.setIfInBounds_toArray, List.set_cons_zero, List.set_cons_succ]
  refine wpAnyH_take (i := 7) (oi := { dst := some 10, op := Op.load 29 (Operand.tmp 9), type := 29, pos := "l05_node.go:95", after := #[{ on := 6, ground := Ground.data }], guard := none }) (v := ?r1_v7) rfl (by kernel_rfl) (by kernel_rfl) (by kernel_rfl) (fun _ _ _ h => h) (Or.inl ⟨by rfl, ?r1_hy7⟩) (by assumption) ?r1_rest7
  case r1_hy7 => intro w hSw; obtain ⟨s0, s1, s2, s3, s4, s5⟩ := hSw; go_simp; try (with_reducible rfl)
  simp only [Act.put, List.setIfInBounds_toArray, List.set_cons_zero, List.set_cons_succ]
  refine wpAnyH_take (i := 8) (oi := { dst := some 11, op := Op.move (Operand.tmp 0), type := 65, pos := "l05_node.go:95", after := #[], guard := none }) (v := ?r1_v8) rfl (by kernel_rfl) (by kernel_rfl) (by kernel_rfl) (fun _ _ _ h => h) (Or.inl ⟨by rfl, ?r1_hy8⟩) (by assumption) ?r1_rest8
  case r1_hy8 => intro w hSw; obtain ⟨s0, s1, s2, s3, s4, s5⟩ := hSw; go_simp; try (with_reducible rfl)
  simp only [Act.put, List.setIfInBounds_toArray, List.set_cons_zero, List.set_cons_succ]
  refine wpAnyH_take (i := 9) (oi := { dst := some 12, op := Op.nilCheck (Operand.tmp 11), type := 0, pos := "l05_node.go:95", after := #[{ on := 8, ground := Ground.data }], guard := none }) (v := ?r1_v9) rfl (by kernel_rfl) (by kernel_rfl) (by kernel_rfl) (fun _ _ _ h => h) (Or.inl ⟨by rfl, ?r1_hy9⟩) (by assumption) ?r1_rest9
  case r1_hy9 => intro w hSw; obtain ⟨s0, s1, s2, s3, s4, s5⟩ := hSw; go_simp; try (with_reducible rfl)
  simp only [Act.put, List.setIfInBounds_toArray, List.set_cons_zero, List.set_cons_succ]
  refine wpAnyH_take (i := 10) (oi := { dst := some 13, op := Op.fieldAddr 123 (Operand.tmp 12) 3, type := 0, pos := "l05_node.go:95", after := #[{ on := 9, ground := Ground.data }], guard := none }) (v := ?r1_v10) rfl (by kernel_rfl) (by kernel_rfl) (by kernel_rfl) (fun _ _ _ h => h) (Or.inl ⟨by rfl, ?r1_hy10⟩) (by assumption) ?r1_rest10
  case r1_hy10 => intro w hSw; obtain ⟨s0, s1, s2, s3, s4, s5⟩ := hSw; go_simp; try (with_reducible rfl)
  simp only [Act.put, List.setIfInBounds_toArray, List.set_cons_zero, List.set_cons_succ]
  refine wpAnyH_take (i := 11) (oi := { dst := some 14, op := Op.load 30 (Operand.tmp 13), type := 30, pos := "l05_node.go:95", after := #[{ on := 10, ground := Ground.data }], guard := none }) (v := ?r1_v11) rfl (by kernel_rfl) (by kernel_rfl) (by kernel_rfl) (fun _ _ _ h => h) (Or.inl ⟨by rfl, ?r1_hy11⟩) (by assumption) ?r1_rest11
  case r1_hy11 => intro w hSw; obtain ⟨s0, s1, s2, s3, s4, s5⟩ := hSw; go_simp; try (with_reducible rfl)
  simp only [Act.put, List.setIfInBounds_toArray, List.set_cons_zero, List.set_cons_succ]
  refine wpAnyH_take (i := 12) (oi := { dst := some 15, op := Op.move (Operand.tmp 0), type := 65, pos := "l05_node.go:95", after := #[], guard := none }) (v := ?r1_v12) rfl (by kernel_rfl) (by kernel_rfl) (by kernel_rfl) (fun _ _ _ h => h) (Or.inl ⟨by rfl, ?r1_hy12⟩) (by assumption) ?r1_rest12
  case r1_hy12 => intro w hSw; obtain ⟨s0, s1, s2, s3, s4, s5⟩ := hSw; go_simp; try (with_reducible rfl)
  simp only [Act.put, List.setIfInBounds_toArray, List.set_cons_zero, List.set_cons_succ]
  refine wpAnyH_take (i := 13) (oi := { dst := some 16, op := Op.nilCheck (Operand.tmp 15), type := 0, pos := "l05_node.go:95", after := #[{ on := 12, ground := Ground.data }], guard := none }) (v := ?r1_v13) rfl (by kernel_rfl) (by kernel_rfl) (by kernel_rfl) (fun _ _ _ h => h) (Or.inl ⟨by rfl, ?r1_hy13⟩) (by assumption) ?r1_rest13
  case r1_hy13 => intro w hSw; obtain ⟨s0, s1, s2, s3, s4, s5⟩ := hSw; go_simp; try (with_reducible rfl)
  simp only [Act.put, List.setIfInBounds_toArray, List.set_cons_zero, List.set_cons_succ]
  refine wpAnyH_take (i := 14) (oi := { dst := some 17, op := Op.fieldAddr 123 (Operand.tmp 16) 0, type := 0, pos := "l05_node.go:95", after := #[{ on := 13, ground := Ground.data }], guard := none }) (v := ?r1_v14) rfl (by kernel_rfl) (by kernel_rfl) (by kernel_rfl) (fun _ _ _ h => h) (Or.inl ⟨by rfl, ?r1_hy14⟩) (by assumption) ?r1_rest14
  case r1_hy14 => intro w hSw; obtain ⟨s0, s1, s2, s3, s4, s5⟩ := hSw; go_simp; try (with_reducible rfl)
  simp only [Act.put, List.setIfInBounds_toArray, List.set_cons_zero, List.set_cons_succ]
  refine wpAnyH_take (i := 15) (oi := { dst := some 18, op := Op.fieldAddr 121 (Operand.tmp 17) 0, type := 0, pos := "l05_node.go:95", after := #[{ on := 14, ground := Ground.data }], guard := none }) (v := ?r1_v15) rfl (by kernel_rfl) (by kernel_rfl) (by kernel_rfl) (fun _ _ _ h => h) (Or.inl ⟨by rfl, ?r1_hy15⟩) (by assumption) ?r1_rest15
  case r1_hy15 => intro w hSw; obtain ⟨s0, s1, s2, s3, s4, s5⟩ := hSw; go_simp; try (with_reducible rfl)
  simp only [Act.put, List.setIfInBounds_toArray, List.set_cons_zero, List.set_cons_succ]
  refine wpAnyH_take (i := 16) (oi := { dst := some 19, op := Op.load 31 (Operand.tmp 18), type := 31, pos := "l05_node.go:95", after := #[{ on := 15, ground := Ground.data }], guard := none }) (v := ?r1_v16) rfl (by kernel_rfl) (by kernel_rfl) (by kernel_rfl) (fun _ _ _ h => h) (Or.inl ⟨by rfl, ?r1_hy16⟩) (by assumption) ?r1_rest16
  case r1_hy16 => intro w hSw; obtain ⟨s0, s1, s2, s3, s4, s5⟩ := hSw; go_simp; try (with_reducible rfl)
  simp only [Act.put, List.setIfInBounds_toArray, List.set_cons_zero, List.set_cons_succ]
  refine wpAnyH_take (i := 17) (oi := { dst := some 20, op := Op.move (Operand.tmp 0), type := 65, pos := "l05_node.go:95", after := #[], guard := none }) (v := ?r1_v17) rfl (by kernel_rfl) (by kernel_rfl) (by kernel_rfl) (fun _ _ _ h => h) (Or.inl ⟨by rfl, ?r1_hy17⟩) (by assumption) ?r1_rest17
  case r1_hy17 => intro w hSw; obtain ⟨s0, s1, s2, s3, s4, s5⟩ := hSw; go_simp; try (with_reducible rfl)
  simp only [Act.put, List.setIfInBounds_toArray, List.set_cons_zero, List.set_cons_succ]
  refine wpAnyH_take (i := 18) (oi := { dst := some 21, op := Op.nilCheck (Operand.tmp 20), type := 0, pos := "l05_node.go:95", after := #[{ on := 17, ground := Ground.data }], guard := none }) (v := ?r1_v18) rfl (by kernel_rfl) (by kernel_rfl) (by kernel_rfl) (fun _ _ _ h => h) (Or.inl ⟨by rfl, ?r1_hy18⟩) (by assumption) ?r1_rest18
  case r1_hy18 => intro w hSw; obtain ⟨s0, s1, s2, s3, s4, s5⟩ := hSw; go_simp; try (with_reducible rfl)
  simp only [Act.put, List.setIfInBounds_toArray, List.set_cons_zero, List.set_cons_succ]
  refine wpAnyH_take (i := 19) (oi := { dst := some 22, op := Op.fieldAddr 123 (Operand.tmp 21) 0, type := 0, pos := "l05_node.go:95", after := #[{ on := 18, ground := Ground.data }], guard := none }) (v := ?r1_v19) rfl (by kernel_rfl) (by kernel_rfl) (by kernel_rfl) (fun _ _ _ h => h) (Or.inl ⟨by rfl, ?r1_hy19⟩) (by assumption) ?r1_rest19
  case r1_hy19 => intro w hSw; obtain ⟨s0, s1, s2, s3, s4, s5⟩ := hSw; go_simp; try (with_reducible rfl)
  simp only [Act.put, List.setIfInBounds_toArray, List.set_cons_zero, List.set_cons_succ]
  refine wpAnyH_take (i := 20) (oi := { dst := some 23, op := Op.fieldAddr 121 (Operand.tmp 22) 1, type := 0, pos := "l05_node.go:95", after := #[{ on := 19, ground := Ground.data }], guard := none }) (v := ?r1_v20) rfl (by kernel_rfl) (by kernel_rfl) (by kernel_rfl) (fun _ _ _ h => h) (Or.inl ⟨by rfl, ?r1_hy20⟩) (by assumption) ?r1_rest20
  case r1_hy20 => intro w hSw; obtain ⟨s0, s1, s2, s3, s4, s5⟩ := hSw; go_simp; try (with_reducible rfl)
  simp only [Act.put, List.setIfInBounds_toArray, List.set_cons_zero, List.set_cons_succ]
  refine wpAnyH_take (i := 21) (oi := { dst := some 24, op := Op.load 32 (Operand.tmp 23), type := 32, pos := "l05_node.go:95", after := #[{ on := 20, ground := Ground.data }], guard := none }) (v := ?r1_v21) rfl (by kernel_rfl) (by kernel_rfl) (by kernel_rfl) (fun _ _ _ h => h) (Or.inl ⟨by rfl, ?r1_hy21⟩) (by assumption) ?r1_rest21
  case r1_hy21 => intro w hSw; obtain ⟨s0, s1, s2, s3, s4, s5⟩ := hSw; go_simp; try (with_reducible rfl)
  simp only [Act.put, List.setIfInBounds_toArray, List.set_cons_zero, List.set_cons_succ]
  refine wpAnyH_take (i := 22) (oi := { dst := some 25, op := Op.build 34 #[(0, Operand.tmp 6), (1, Operand.tmp 10), (2, Operand.tmp 14), (3, Operand.tmp 19), (4, Operand.tmp 24)], type := 34, pos := "l05_node.go:95", after := #[{ on := 3, ground := Ground.data }, { on := 7, ground := Ground.data }, { on := 11, ground := Ground.data }, { on := 16, ground := Ground.data }, { on := 21, ground := Ground.data }], guard := none }) (v := ?r1_v22) rfl (by kernel_rfl) (by kernel_rfl) (by kernel_rfl) (fun _ _ _ h => h) (Or.inl ⟨by rfl, ?r1_hy22⟩) (by assumption) ?r1_rest22
  case r1_hy22 => intro w hSw; obtain ⟨s0, s1, s2, s3, s4, s5⟩ := hSw; go_simp; try (with_reducible rfl)
  simp only [Act.put, List.setIfInBounds_toArray, List.set_cons_zero, List.set_cons_succ]
  obtain ⟨y0, y1, y2, y3, y4, yz⟩ := XR.at5
  have q0 := XR.frozen 0
  have q1 := XR.frozen 1
  have q2 := XR.frozen 2
  have q3 := XR.frozen 3
  have q4 := XR.frozen 4
  refine wpAnyH_ready (rs := [23]) (by kernel_rfl) (by simp) ?_
  refine AllReadyH.cons (o := { dst := none, op := Op.store 34 (Operand.tmp 2) (Operand.tmp 25), type := 0, pos := "l05_node.go:95", after := #[{ on := 22, ground := Ground.data }, { on := 0, ground := Ground.phase }, { on := 1, ground := Ground.phase }, { on := 2, ground := Ground.phase }, { on := 3, ground := Ground.phase }, { on := 4, ground := Ground.phase }, { on := 5, ground := Ground.phase }, { on := 6, ground := Ground.phase }, { on := 7, ground := Ground.phase }, { on := 8, ground := Ground.phase }, { on := 9, ground := Ground.phase }, { on := 10, ground := Ground.phase }, { on := 11, ground := Ground.phase }, { on := 12, ground := Ground.phase }, { on := 13, ground := Ground.phase }, { on := 14, ground := Ground.phase }, { on := 15, ground := Ground.phase }, { on := 16, ground := Ground.phase }, { on := 17, ground := Ground.phase }, { on := 18, ground := Ground.phase }, { on := 19, ground := Ground.phase }, { on := 20, ground := Ground.phase }, { on := 21, ground := Ground.phase }, { on := 22, ground := Ground.phase }], guard := none }) rfl (fun K2 hK2 => ?_) AllReadyH.nil
  go_simp
  refine hK2.out _ _ ?_ (fun hHeld2 => ?_)
  · exact ⟨k0, k1, k3, k4, k5, kz⟩
  clear hK2 K2 hHeld
  have hHeld := hHeld2
  clear hHeld2
  try simp only [Act.put, List.setIfInBounds_toArray, List.set_cons_zero, List.set_cons_succ]
  refine wpAnyH_done (by kernel_rfl) ?_ _
  clear hHeld
  go_wp2
  refine bodyPost_ret (v := .agg (ncells d p)) (by simp [results, Tryz.results78, go_sem]) rfl ⟨rfl, bel_drew (bel_alloc (Below.refl _ _) _)⟩
end Go.Proofs.YtcneocbadobcfaaGreat
