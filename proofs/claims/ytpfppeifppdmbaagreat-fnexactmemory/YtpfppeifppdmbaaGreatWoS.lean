/- What the specification's WorldOk answers. -/
import Derived.Test.YtpfppeifppdmbaaGreatWoR
import Derived.Test.YtpfppeifppdmbaaGreatNdO3
import Derived.Test.YtpfppeifppdmbaaGreatPacket2
namespace Go.Proofs.YtpfppeifppdmbaaGreat
open Go.RowKit
set_option linter.unusedVariables false
set_option linter.unusedSimpArgs false

def pkB (k : PkD) (nodes : Int) : Bool := packetB k.f k.t k.a k.n k.k k.p k.o k.xs nodes
/-- What WorldOk answers. -/
def worldB (d : WoD) : Bool := inB d.size 1 4 && (decide ((d.nn : Int) = d.size) && (decide (d.nk ≤ 40) && (allB d.nn (fun i => nodeOkB (d.d i) d.size && decide ((d.d i).id = (i : Int))) && allB d.nk (fun i => pkB (d.k i) d.size))))

set_option maxRecDepth 100000 in
set_option maxHeartbeats 4000000 in
theorem specWorldOk_big (size : Int) (nn nk : Nat) (D : Nat → ND) (K : Nat → PkD) (p : WoP) (w : World) (hn : nn ≤ 1048577) (hk : nk ≤ 1048577) (hb : inB size 1 4 = false ∨ (inB size 1 4 = true ∧ (¬ (nn : Int) = size ∨ ((nn : Int) = size ∧ 40 < nk)))) :
    Calls Tryz.prog 25 #[.agg (wcells ⟨size, nn, D, nk, K⟩ p)] w fun e w' => e = .returned (.bool false) ∧ Below w.heap.size w w' := by
  have B := bel_alloc (Below.refl w.heap.size w) (.cells (wcells ⟨size, nn, D, nk, K⟩ p) 32)
  rcases hb with h | ⟨h, h2 | ⟨h2, h3⟩⟩
  · have H1 : Hid (inB size 1 4 = false) := h
    clear h
    go_enter Tryz.func25, Tryz.ntmps25
    go_wp2_with fail
    refine (specIn_h size 1 4 _).mono ?_
    rintro e w1 ⟨rfl, h⟩
    subst h
    rw [H1.out]
    go_wp2
    go_ret
    exact ⟨rfl, B⟩
  · have H1 : Hid (inB size 1 4 = true) := h
    have h4 : ((nn : Int) == size) = false := by simpa using h2
    clear h
    go_enter Tryz.func25, Tryz.ntmps25
    go_wp2_with fail
    refine (specIn_h size 1 4 _).mono ?_
    rintro e w1 ⟨rfl, h⟩
    subst h
    rw [H1.out]
    go_wp2
    go_ret
    exact ⟨rfl, B⟩
  · subst h2
    have H1 : Hid (inB (nn : Int) 1 4 = true) := h
    have h4 : (40 : Int) < (nk : Int) := by omega
    clear h
    go_enter Tryz.func25, Tryz.ntmps25
    go_wp2_with fail
    refine (specIn_h (nn : Int) 1 4 _).mono ?_
    rintro e w1 ⟨rfl, h⟩
    subst h
    rw [H1.out]
    go_wp2
    go_ret
    exact ⟨rfl, B⟩

set_option maxRecDepth 100000 in
set_option maxHeartbeats 8000000 in
theorem specWorldOk_in (nn nk : Nat) (D : Nat → ND) (K : Nat → PkD) (pn pk : Option Addr) (cn ck : Nat) (P : Nat → NP) (Q : Nat → Pl) (w : World) (hbs : ∀ i, i < nn → ∀ j, j < (D i).nh → ((D i).h j).bs.length ≤ 1048577) (hN : NsR w pn nn D P) (hK : PkR w pk nk K Q) (h1 : inB (nn : Int) 1 4 = true) (h3 : nk ≤ 40) :
    Calls Tryz.prog 25 #[.agg #[.int .i64 (nn : Int), .slice pn nn cn, .slice pk nk ck]] w fun e w' => e = .returned (.bool (allB nn (fun i => nodeOkB (D i) nn && decide ((D i).id = (i : Int))) && allB nk (fun i => pkB (K i) nn))) ∧ Below w.heap.size w w' := by
  have B := bel_alloc (Below.refl w.heap.size w) (.cells #[.int .i64 (nn : Int), .slice pn nn cn, .slice pk nk ck] 32)
  have X := Box.new w #[.int .i64 (nn : Int), .slice pn nn cn, .slice pk nk ck] 32
  have HN : Hid (NsR w pn nn D P) := hN
  have HK : Hid (PkR w pk nk K Q) := hK
  have HBS : Hid (∀ i, i < nn → ∀ j, j < (D i).nh → ((D i).h j).bs.length ≤ 1048577) := hbs
  have H1 : Hid (inB (nn : Int) 1 4 = true) := h1
  have hn4 : nn ≤ 4 := by simp [inB] at h1; omega
  have hk40 : (nk : Int) ≤ 40 := by omega
  obtain ⟨W0, hW0⟩ : ∃ W0, w.alloc (.cells #[.int .i64 (nn : Int), .slice pn nn cn, .slice pk nk ck] 32) = W0 := ⟨_, rfl⟩
  rw [hW0] at B X
  have HX : Hid (Box W0 w.heap.size #[.int .i64 (nn : Int), .slice pn nn cn, .slice pk nk ck] 32) := X
  have HB : Hid (Below w.heap.size w W0) := B
  obtain ⟨x0, x1, x2, xz⟩ := X.at3
  clear hN hK hbs h1 B X
  go_enter Tryz.func25, Tryz.ntmps25
  go_wp2_with fail
  refine (specIn_h (nn : Int) 1 4 _).mono ?_
  rintro e w1 ⟨rfl, h⟩
  replace h := h.symm
  subst h
  rw [H1.out]
  go_wp2_with fail
  go_loopw [3] (fun i wr => ∃ k : Nat, k ≤ nn ∧ i = .int .i64 k ∧ (∀ j, j < k → (nodeOkB (D j) nn && decide ((D j).id = (j : Int))) = true) ∧ Below W0.heap.size W0 wr) (fun i _ => nn - (intOf i).toNat)
  case atStart => exact ⟨0, Nat.zero_le _, rfl, fun j hj => absurd hj (Nat.not_lt_zero j), Below.refl _ _⟩
  case round =>
    obtain ⟨k, hk, rfl, hdone, Bk⟩ := hrel
    have HD : Hid (∀ j, j < k → (nodeOkB (D j) nn && decide ((D j).id = (j : Int))) = true) := hdone
    clear hdone x0 x1 x2 xz
    have Xk := HX.out.below Bk
    have BW := bel_trans HB.out Bk
    obtain ⟨x0, x1, x2, xz⟩ := Xk.at3
    by_cases hkn : k < nn
    · have hi : (k : Int) < (nn : Int) := by omega
      have hNk := HN.out.below BW
      obtain ⟨b, off, rfl, y0, y1, y2, y3, y4⟩ := hNk.at hkn
      have hrow := hNk.2.2 k hkn
      have HRW : Hid (NR wr (D k) (P k)) := hrow
      have HBK : Hid (Below W0.heap.size W0 wr) := Bk
      have yb : b < wr.heap.size := lt_of_cell y0
      have KS : Hid (∀ W, Below wr.heap.size wr W → (fun w' => w'.cell? ⟨w.heap.size, 0, none⟩ = some (.int .i64 (nn : Int)) ∧ w'.cell? ⟨w.heap.size, 1, none⟩ = some (.slice (some ⟨b, off, none⟩) nn cn) ∧ w'.cell? ⟨b, off + k * 5, none⟩ = some (.int .i64 (D k).id) ∧ w'.cell? ⟨b, off + k * 5 + 1, none⟩ = some (.slice (P k).f.1 (D k).nf (P k).f.2) ∧ w'.cell? ⟨b, off + k * 5 + 2, none⟩ = some (.slice (P k).h.1 (D k).nh (P k).h.2) ∧ w'.cell? ⟨b, off + k * 5 + 3, none⟩ = some (.slice (P k).o.1 (D k).no (P k).o.2) ∧ w'.cell? ⟨b, off + k * 5 + 4, none⟩ = some (.slice (P k).i.1 (D k).ni (P k).i.2) ∧ w.heap.size < w'.heap.size ∧ b < w'.heap.size) W) := fun W bb => ⟨(bb.cell (p := ⟨w.heap.size, 0, none⟩) xz).trans x0, (bb.cell (p := ⟨w.heap.size, 1, none⟩) xz).trans x1, (bb.cell (p := ⟨b, off + k * 5, none⟩) yb).trans y0, (bb.cell (p := ⟨b, off + k * 5 + 1, none⟩) yb).trans y1, (bb.cell (p := ⟨b, off + k * 5 + 2, none⟩) yb).trans y2, (bb.cell (p := ⟨b, off + k * 5 + 3, none⟩) yb).trans y3, (bb.cell (p := ⟨b, off + k * 5 + 4, none⟩) yb).trans y4, Nat.lt_of_lt_of_le xz bb.size, Nat.lt_of_lt_of_le yb bb.size⟩
      have HBS2 := HBS.out k hkn
      clear hNk hrow Bk Xk BW
      cases hok : nodeOkB (D k) nn
      · have HOK : Hid (nodeOkB (D k) nn = false) := hok
        clear hok
        go_wp2_with fail
        refine wp_region_held_drew (S := (fun w' => w'.cell? ⟨w.heap.size, 0, none⟩ = some (.int .i64 (nn : Int)) ∧ w'.cell? ⟨w.heap.size, 1, none⟩ = some (.slice (some ⟨b, off, none⟩) nn cn) ∧ w'.cell? ⟨b, off + k * 5, none⟩ = some (.int .i64 (D k).id) ∧ w'.cell? ⟨b, off + k * 5 + 1, none⟩ = some (.slice (P k).f.1 (D k).nf (P k).f.2) ∧ w'.cell? ⟨b, off + k * 5 + 2, none⟩ = some (.slice (P k).h.1 (D k).nh (P k).h.2) ∧ w'.cell? ⟨b, off + k * 5 + 3, none⟩ = some (.slice (P k).o.1 (D k).no (P k).o.2) ∧ w'.cell? ⟨b, off + k * 5 + 4, none⟩ = some (.slice (P k).i.1 (D k).ni (P k).i.2) ∧ w.heap.size < w'.heap.size ∧ b < w'.heap.size)) (by kernel_rfl) ?_ (fun hHeld => ?_)
        · exact KS.out _ (below_drewN (Below.refl _ _) 1)
        refine wpAnyH_take (i := 0) (oi := { dst := some 29, op := Op.fieldAddr 32 (Operand.tmp 1) 1, type := 0, pos := "l06_world.go:10", after := #[], guard := none }) (v := ?r1_v0) rfl (by kernel_rfl) (by kernel_rfl) (by kernel_rfl) (fun _ _ _ h => h) (Or.inl ⟨by rfl, ?r1_hy0⟩) (by assumption) ?r1_rest0
        case r1_hy0 => intro w hSw; obtain ⟨s0, s1, s2, s3, s4, s5, s6, s7, s8⟩ := hSw; go_simp; try (with_reducible rfl)
        simp only [Act.put, List.setIfInBounds_toArray, List.set_cons_zero, List.set_cons_succ]
        refine wpAnyH_take (i := 1) (oi := { dst := some 30, op := Op.load 29 (Operand.tmp 29), type := 29, pos := "l06_world.go:10", after := #[{ on := 0, ground := Ground.data }], guard := none }) (v := ?r1_v1) rfl (by kernel_rfl) (by kernel_rfl) (by kernel_rfl) (fun _ _ _ h => h) (Or.inl ⟨by rfl, ?r1_hy1⟩) (by assumption) ?r1_rest1
        case r1_hy1 => intro w hSw; obtain ⟨s0, s1, s2, s3, s4, s5, s6, s7, s8⟩ := hSw; go_simp; try (with_reducible rfl)
        simp only [Act.put, List.setIfInBounds_toArray, List.set_cons_zero, List.set_cons_succ]
        refine wpAnyH_take (i := 2) (oi := { dst := some 31, op := Op.move (Operand.tmp 3), type := 3, pos := "l06_world.go:10", after := #[], guard := none }) (v := ?r1_v2) rfl (by kernel_rfl) (by kernel_rfl) (by kernel_rfl) (fun _ _ _ h => h) (Or.inl ⟨by rfl, ?r1_hy2⟩) (by assumption) ?r1_rest2
        case r1_hy2 => intro w hSw; obtain ⟨s0, s1, s2, s3, s4, s5, s6, s7, s8⟩ := hSw; go_simp; try (with_reducible rfl)
        simp only [Act.put, List.setIfInBounds_toArray, List.set_cons_zero, List.set_cons_succ]
        refine wpAnyH_take (i := 3) (oi := { dst := some 32, op := Op.indexAddr 29 (Operand.tmp 30) (Operand.tmp 31), type := 0, pos := "l06_world.go:10", after := #[{ on := 1, ground := Ground.data }, { on := 2, ground := Ground.data }], guard := none }) (v := ?r1_v3) rfl (by kernel_rfl) (by kernel_rfl) (by kernel_rfl) (fun _ _ _ h => h) (Or.inl ⟨by rfl, ?r1_hy3⟩) (by assumption) ?r1_rest3
        case r1_hy3 => intro w hSw; obtain ⟨s0, s1, s2, s3, s4, s5, s6, s7, s8⟩ := hSw; go_simp; try (with_reducible rfl)
        simp only [Act.put, List.setIfInBounds_toArray, List.set_cons_zero, List.set_cons_succ]
        refine wpAnyH_take (i := 4) (oi := { dst := some 33, op := Op.load 67 (Operand.tmp 32), type := 67, pos := "l06_world.go:10", after := #[{ on := 3, ground := Ground.data }], guard := none }) (v := ?r1_v4) rfl (by kernel_rfl) (by kernel_rfl) (by kernel_rfl) (fun _ _ _ h => h) (Or.inl ⟨by rfl, ?r1_hy4⟩) (by assumption) ?r1_rest4
        case r1_hy4 => intro w hSw; obtain ⟨s0, s1, s2, s3, s4, s5, s6, s7, s8⟩ := hSw; go_simp; try (with_reducible rfl)
        simp only [Act.put, List.setIfInBounds_toArray, List.set_cons_zero, List.set_cons_succ]
        refine wpAnyH_take (i := 5) (oi := { dst := some 34, op := Op.fieldAddr 32 (Operand.tmp 1) 0, type := 0, pos := "l06_world.go:10", after := #[], guard := none }) (v := ?r1_v5) rfl (by kernel_rfl) (by kernel_rfl) (by kernel_rfl) (fun _ _ _ h => h) (Or.inl ⟨by rfl, ?r1_hy5⟩) (by assumption) ?r1_rest5
        case r1_hy5 => intro w hSw; obtain ⟨s0, s1, s2, s3, s4, s5, s6, s7, s8⟩ := hSw; go_simp; try (with_reducible rfl)
        simp only [Act.put, List.setIfInBounds_toArray, List.set_cons_zero, List.set_cons_succ]
        refine wpAnyH_take (i := 6) (oi := { dst := some 35, op := Op.load 3 (Operand.tmp 34), type := 3, pos := "l06_world.go:10", after := #[{ on := 5, ground := Ground.data }], guard := none }) (v := ?r1_v6) rfl (by kernel_rfl) (by kernel_rfl) (by kernel_rfl) (fun _ _ _ h => h) (Or.inl ⟨by rfl, ?r1_hy6⟩) (by assumption) ?r1_rest6
        case r1_hy6 => intro w hSw; obtain ⟨s0, s1, s2, s3, s4, s5, s6, s7, s8⟩ := hSw; go_simp; try (with_reducible rfl)
        simp only [Act.put, List.setIfInBounds_toArray, List.set_cons_zero, List.set_cons_succ]
        refine wpAnyH_ready (rs := [7]) (by kernel_rfl) (by simp) ?_
        refine AllReadyH.cons (o := { dst := some 36, op := Op.call { callee := Callee.value (Operand.func 45), args := #[Operand.tmp 33, Operand.tmp 35], argTypes := #[67, 3] }, type := 4, pos := "l06_world.go:10", after := #[{ on := 4, ground := Ground.data }, { on := 6, ground := Ground.data }], guard := none }) rfl (fun K2 hK2 => ?_) AllReadyH.nil
        go_simp
        refine (specNodeOk_any (D k) (P k) nn _ HBS2 (HRW.out.below (below_drewN (Below.refl _ _) 1))).mono ?_
        rintro e w1 ⟨rfl, b1⟩
        replace b1 := bel_undrew b1
        rw [HOK.out]
        go_wp2_with fail
        refine hK2.out _ _ ?_ (fun hHeld2 => ?_)
        · exact KS.out _ b1
        clear hK2 K2 hHeld
        have hHeld := hHeld2
        clear hHeld2
        try simp only [Act.put, List.setIfInBounds_toArray, List.set_cons_zero, List.set_cons_succ]
        refine wpAnyH_take (i := 8) (oi := { dst := some 37, op := Op.unOp UnOp.not 4 (Operand.tmp 36), type := 4, pos := "l06_world.go:10", after := #[{ on := 7, ground := Ground.data }], guard := none }) (v := ?r1_v8) rfl (by kernel_rfl) (by kernel_rfl) (by kernel_rfl) (fun _ _ _ h => h) (Or.inl ⟨by rfl, ?r1_hy8⟩) (by assumption) ?r1_rest8
        case r1_hy8 => intro w hSw; obtain ⟨s0, s1, s2, s3, s4, s5, s6, s7, s8⟩ := hSw; go_simp; try (with_reducible rfl)
        simp only [Act.put, List.setIfInBounds_toArray, List.set_cons_zero, List.set_cons_succ]
        refine wpAnyH_take (i := 9) (oi := { dst := some 38, op := Op.move (Operand.tmp 37), type := 4, pos := "l06_world.go:10", after := #[{ on := 8, ground := Ground.data }, { on := 7, ground := Ground.chain }], guard := none }) (v := ?r1_v9) rfl (by kernel_rfl) (by kernel_rfl) (by kernel_rfl) (fun _ _ _ h => h) (Or.inl ⟨by rfl, ?r1_hy9⟩) (by assumption) ?r1_rest9
        case r1_hy9 => intro w hSw; obtain ⟨s0, s1, s2, s3, s4, s5, s6, s7, s8⟩ := hSw; go_simp; try (with_reducible rfl)
        simp only [Act.put, List.setIfInBounds_toArray, List.set_cons_zero, List.set_cons_succ]
        refine wpAnyH_take (i := 10) (oi := { dst := some 39, op := Op.fieldAddr 32 (Operand.tmp 1) 1, type := 0, pos := "l06_world.go:10", after := #[{ on := 9, ground := Ground.guard }], guard := some (9, false) }) (v := undef) rfl (by kernel_rfl) (by kernel_rfl) (by kernel_rfl) (fun _ _ _ h => h) (Or.inr ⟨by rfl, rfl⟩) (by assumption) ?_
        simp only [Act.put, List.setIfInBounds_toArray, List.set_cons_zero, List.set_cons_succ]
        refine wpAnyH_take (i := 11) (oi := { dst := some 40, op := Op.load 29 (Operand.tmp 39), type := 29, pos := "l06_world.go:10", after := #[{ on := 10, ground := Ground.data }, { on := 9, ground := Ground.guard }], guard := some (9, false) }) (v := undef) rfl (by kernel_rfl) (by kernel_rfl) (by kernel_rfl) (fun _ _ _ h => h) (Or.inr ⟨by rfl, rfl⟩) (by assumption) ?_
        simp only [Act.put, List.setIfInBounds_toArray, List.set_cons_zero, List.set_cons_succ]
        refine wpAnyH_take (i := 12) (oi := { dst := some 41, op := Op.move (Operand.tmp 3), type := 3, pos := "l06_world.go:10", after := #[{ on := 9, ground := Ground.guard }], guard := some (9, false) }) (v := undef) rfl (by kernel_rfl) (by kernel_rfl) (by kernel_rfl) (fun _ _ _ h => h) (Or.inr ⟨by rfl, rfl⟩) (by assumption) ?_
        simp only [Act.put, List.setIfInBounds_toArray, List.set_cons_zero, List.set_cons_succ]
        refine wpAnyH_take (i := 13) (oi := { dst := some 42, op := Op.indexAddr 29 (Operand.tmp 40) (Operand.tmp 41), type := 0, pos := "l06_world.go:10", after := #[{ on := 11, ground := Ground.data }, { on := 12, ground := Ground.data }, { on := 9, ground := Ground.guard }], guard := some (9, false) }) (v := undef) rfl (by kernel_rfl) (by kernel_rfl) (by kernel_rfl) (fun _ _ _ h => h) (Or.inr ⟨by rfl, rfl⟩) (by assumption) ?_
        simp only [Act.put, List.setIfInBounds_toArray, List.set_cons_zero, List.set_cons_succ]
        refine wpAnyH_take (i := 14) (oi := { dst := some 43, op := Op.fieldAddr 67 (Operand.tmp 42) 0, type := 0, pos := "l06_world.go:10", after := #[{ on := 13, ground := Ground.data }, { on := 9, ground := Ground.guard }], guard := some (9, false) }) (v := undef) rfl (by kernel_rfl) (by kernel_rfl) (by kernel_rfl) (fun _ _ _ h => h) (Or.inr ⟨by rfl, rfl⟩) (by assumption) ?_
        simp only [Act.put, List.setIfInBounds_toArray, List.set_cons_zero, List.set_cons_succ]
        refine wpAnyH_take (i := 15) (oi := { dst := some 44, op := Op.load 3 (Operand.tmp 43), type := 3, pos := "l06_world.go:10", after := #[{ on := 14, ground := Ground.data }, { on := 9, ground := Ground.guard }], guard := some (9, false) }) (v := undef) rfl (by kernel_rfl) (by kernel_rfl) (by kernel_rfl) (fun _ _ _ h => h) (Or.inr ⟨by rfl, rfl⟩) (by assumption) ?_
        simp only [Act.put, List.setIfInBounds_toArray, List.set_cons_zero, List.set_cons_succ]
        refine wpAnyH_take (i := 16) (oi := { dst := some 45, op := Op.move (Operand.tmp 3), type := 3, pos := "l06_world.go:10", after := #[{ on := 9, ground := Ground.guard }], guard := some (9, false) }) (v := undef) rfl (by kernel_rfl) (by kernel_rfl) (by kernel_rfl) (fun _ _ _ h => h) (Or.inr ⟨by rfl, rfl⟩) (by assumption) ?_
        simp only [Act.put, List.setIfInBounds_toArray, List.set_cons_zero, List.set_cons_succ]
        refine wpAnyH_take (i := 17) (oi := { dst := some 46, op := Op.binOp BinOp.neq 3 (Operand.tmp 44) (Operand.tmp 45) 3, type := 4, pos := "l06_world.go:10", after := #[{ on := 15, ground := Ground.data }, { on := 16, ground := Ground.data }, { on := 9, ground := Ground.guard }], guard := some (9, false) }) (v := undef) rfl (by kernel_rfl) (by kernel_rfl) (by kernel_rfl) (fun _ _ _ h => h) (Or.inr ⟨by rfl, rfl⟩) (by assumption) ?_
        simp only [Act.put, List.setIfInBounds_toArray, List.set_cons_zero, List.set_cons_succ]
        refine wpAnyH_take (i := 18) (oi := { dst := some 47, op := Op.pick (Operand.tmp 38) (Operand.const (Value.bool true)) (Operand.tmp 46), type := 4, pos := "l06_world.go:10", after := #[{ on := 9, ground := Ground.data }, { on := 17, ground := Ground.data }], guard := none }) (v := ?r1_v18) rfl (by kernel_rfl) (by kernel_rfl) (by kernel_rfl) (fun _ _ _ h => h) (Or.inl ⟨by rfl, ?r1_hy18⟩) (by assumption) ?r1_rest18
        case r1_hy18 => intro w hSw; obtain ⟨s0, s1, s2, s3, s4, s5, s6, s7, s8⟩ := hSw; go_simp; try (with_reducible rfl)
        simp only [Act.put, List.setIfInBounds_toArray, List.set_cons_zero, List.set_cons_succ]
        refine wpAnyH_done (by kernel_rfl) ?_ _
        have HF : Hid (Below w.heap.size w w1) := bel_trans HB.out (bel_trans HBK.out b1)
        have HV : Hid ((allB nn (fun i => nodeOkB (D i) nn && decide ((D i).id = (i : Int))) && allB nk (fun i => pkB (K i) nn)) = false) := by show _ = _; rw [allB_bad hkn (by rw [HOK.out]; rfl)]; rfl
        clear hHeld b1 KS
        go_wp2
        go_ret
        exact ⟨ret_bool HV.out.symm, HF.out⟩
      · have HOK : Hid (nodeOkB (D k) nn = true) := hok
        clear hok
        by_cases hid : (D k).id = (k : Int)
        · have HID : Hid ((D k).id = (k : Int)) := hid
          have hidb : ((D k).id == (k : Int)) = true := by simpa using hid
          clear hid
          go_wp2_with fail
          refine wp_region_held_drew (S := (fun w' => w'.cell? ⟨w.heap.size, 0, none⟩ = some (.int .i64 (nn : Int)) ∧ w'.cell? ⟨w.heap.size, 1, none⟩ = some (.slice (some ⟨b, off, none⟩) nn cn) ∧ w'.cell? ⟨b, off + k * 5, none⟩ = some (.int .i64 (D k).id) ∧ w'.cell? ⟨b, off + k * 5 + 1, none⟩ = some (.slice (P k).f.1 (D k).nf (P k).f.2) ∧ w'.cell? ⟨b, off + k * 5 + 2, none⟩ = some (.slice (P k).h.1 (D k).nh (P k).h.2) ∧ w'.cell? ⟨b, off + k * 5 + 3, none⟩ = some (.slice (P k).o.1 (D k).no (P k).o.2) ∧ w'.cell? ⟨b, off + k * 5 + 4, none⟩ = some (.slice (P k).i.1 (D k).ni (P k).i.2) ∧ w.heap.size < w'.heap.size ∧ b < w'.heap.size)) (by kernel_rfl) ?_ (fun hHeld => ?_)
          · exact KS.out _ (below_drewN (Below.refl _ _) 1)
          refine wpAnyH_take (i := 0) (oi := { dst := some 29, op := Op.fieldAddr 32 (Operand.tmp 1) 1, type := 0, pos := "l06_world.go:10", after := #[], guard := none }) (v := ?r2_v0) rfl (by kernel_rfl) (by kernel_rfl) (by kernel_rfl) (fun _ _ _ h => h) (Or.inl ⟨by rfl, ?r2_hy0⟩) (by assumption) ?r2_rest0
          case r2_hy0 => intro w hSw; obtain ⟨s0, s1, s2, s3, s4, s5, s6, s7, s8⟩ := hSw; go_simp; try (with_reducible rfl)
          simp only [Act.put, List.setIfInBounds_toArray, List.set_cons_zero, List.set_cons_succ]
          refine wpAnyH_take (i := 1) (oi := { dst := some 30, op := Op.load 29 (Operand.tmp 29), type := 29, pos := "l06_world.go:10", after := #[{ on := 0, ground := Ground.data }], guard := none }) (v := ?r2_v1) rfl (by kernel_rfl) (by kernel_rfl) (by kernel_rfl) (fun _ _ _ h => h) (Or.inl ⟨by rfl, ?r2_hy1⟩) (by assumption) ?r2_rest1
          case r2_hy1 => intro w hSw; obtain ⟨s0, s1, s2, s3, s4, s5, s6, s7, s8⟩ := hSw; go_simp; try (with_reducible rfl)
          simp only [Act.put, List.setIfInBounds_toArray, List.set_cons_zero, List.set_cons_succ]
          refine wpAnyH_take (i := 2) (oi := { dst := some 31, op := Op.move (Operand.tmp 3), type := 3, pos := "l06_world.go:10", after := #[], guard := none }) (v := ?r2_v2) rfl (by kernel_rfl) (by kernel_rfl) (by kernel_rfl) (fun _ _ _ h => h) (Or.inl ⟨by rfl, ?r2_hy2⟩) (by assumption) ?r2_rest2
          case r2_hy2 => intro w hSw; obtain ⟨s0, s1, s2, s3, s4, s5, s6, s7, s8⟩ := hSw; go_simp; try (with_reducible rfl)
          simp only [Act.put, List.setIfInBounds_toArray, List.set_cons_zero, List.set_cons_succ]
          refine wpAnyH_take (i := 3) (oi := { dst := some 32, op := Op.indexAddr 29 (Operand.tmp 30) (Operand.tmp 31), type := 0, pos := "l06_world.go:10", after := #[{ on := 1, ground := Ground.data }, { on := 2, ground := Ground.data }], guard := none }) (v := ?r2_v3) rfl (by kernel_rfl) (by kernel_rfl) (by kernel_rfl) (fun _ _ _ h => h) (Or.inl ⟨by rfl, ?r2_hy3⟩) (by assumption) ?r2_rest3
          case r2_hy3 => intro w hSw; obtain ⟨s0, s1, s2, s3, s4, s5, s6, s7, s8⟩ := hSw; go_simp; try (with_reducible rfl)
          simp only [Act.put, List.setIfInBounds_toArray, List.set_cons_zero, List.set_cons_succ]
          refine wpAnyH_take (i := 4) (oi := { dst := some 33, op := Op.load 67 (Operand.tmp 32), type := 67, pos := "l06_world.go:10", after := #[{ on := 3, ground := Ground.data }], guard := none }) (v := ?r2_v4) rfl (by kernel_rfl) (by kernel_rfl) (by kernel_rfl) (fun _ _ _ h => h) (Or.inl ⟨by rfl, ?r2_hy4⟩) (by assumption) ?r2_rest4
          case r2_hy4 => intro w hSw; obtain ⟨s0, s1, s2, s3, s4, s5, s6, s7, s8⟩ := hSw; go_simp; try (with_reducible rfl)
          simp only [Act.put, List.setIfInBounds_toArray, List.set_cons_zero, List.set_cons_succ]
          refine wpAnyH_take (i := 5) (oi := { dst := some 34, op := Op.fieldAddr 32 (Operand.tmp 1) 0, type := 0, pos := "l06_world.go:10", after := #[], guard := none }) (v := ?r2_v5) rfl (by kernel_rfl) (by kernel_rfl) (by kernel_rfl) (fun _ _ _ h => h) (Or.inl ⟨by rfl, ?r2_hy5⟩) (by assumption) ?r2_rest5
          case r2_hy5 => intro w hSw; obtain ⟨s0, s1, s2, s3, s4, s5, s6, s7, s8⟩ := hSw; go_simp; try (with_reducible rfl)
          simp only [Act.put, List.setIfInBounds_toArray, List.set_cons_zero, List.set_cons_succ]
          refine wpAnyH_take (i := 6) (oi := { dst := some 35, op := Op.load 3 (Operand.tmp 34), type := 3, pos := "l06_world.go:10", after := #[{ on := 5, ground := Ground.data }], guard := none }) (v := ?r2_v6) rfl (by kernel_rfl) (by kernel_rfl) (by kernel_rfl) (fun _ _ _ h => h) (Or.inl ⟨by rfl, ?r2_hy6⟩) (by assumption) ?r2_rest6
          case r2_hy6 => intro w hSw; obtain ⟨s0, s1, s2, s3, s4, s5, s6, s7, s8⟩ := hSw; go_simp; try (with_reducible rfl)
          simp only [Act.put, List.setIfInBounds_toArray, List.set_cons_zero, List.set_cons_succ]
          refine wpAnyH_ready (rs := [7]) (by kernel_rfl) (by simp) ?_
          refine AllReadyH.cons (o := { dst := some 36, op := Op.call { callee := Callee.value (Operand.func 45), args := #[Operand.tmp 33, Operand.tmp 35], argTypes := #[67, 3] }, type := 4, pos := "l06_world.go:10", after := #[{ on := 4, ground := Ground.data }, { on := 6, ground := Ground.data }], guard := none }) rfl (fun K2 hK2 => ?_) AllReadyH.nil
          go_simp
          refine (specNodeOk_any (D k) (P k) nn _ HBS2 (HRW.out.below (below_drewN (Below.refl _ _) 1))).mono ?_
          rintro e w1 ⟨rfl, b1⟩
          replace b1 := bel_undrew b1
          rw [HOK.out]
          go_wp2_with fail
          refine hK2.out _ _ ?_ (fun hHeld2 => ?_)
          · exact KS.out _ b1
          clear hK2 K2 hHeld
          have hHeld := hHeld2
          clear hHeld2
          try simp only [Act.put, List.setIfInBounds_toArray, List.set_cons_zero, List.set_cons_succ]
          refine wpAnyH_take (i := 8) (oi := { dst := some 37, op := Op.unOp UnOp.not 4 (Operand.tmp 36), type := 4, pos := "l06_world.go:10", after := #[{ on := 7, ground := Ground.data }], guard := none }) (v := ?r2_v8) rfl (by kernel_rfl) (by kernel_rfl) (by kernel_rfl) (fun _ _ _ h => h) (Or.inl ⟨by rfl, ?r2_hy8⟩) (by assumption) ?r2_rest8
          case r2_hy8 => intro w hSw; obtain ⟨s0, s1, s2, s3, s4, s5, s6, s7, s8⟩ := hSw; go_simp; try (with_reducible rfl)
          simp only [Act.put, List.setIfInBounds_toArray, List.set_cons_zero, List.set_cons_succ]
          refine wpAnyH_take (i := 9) (oi := { dst := some 38, op := Op.move (Operand.tmp 37), type := 4, pos := "l06_world.go:10", after := #[{ on := 8, ground := Ground.data }, { on := 7, ground := Ground.chain }], guard := none }) (v := ?r2_v9) rfl (by kernel_rfl) (by kernel_rfl) (by kernel_rfl) (fun _ _ _ h => h) (Or.inl ⟨by rfl, ?r2_hy9⟩) (by assumption) ?r2_rest9
          case r2_hy9 => intro w hSw; obtain ⟨s0, s1, s2, s3, s4, s5, s6, s7, s8⟩ := hSw; go_simp; try (with_reducible rfl)
          simp only [Act.put, List.setIfInBounds_toArray, List.set_cons_zero, List.set_cons_succ]
          refine wpAnyH_take (i := 10) (oi := { dst := some 39, op := Op.fieldAddr 32 (Operand.tmp 1) 1, type := 0, pos := "l06_world.go:10", after := #[{ on := 9, ground := Ground.guard }], guard := some (9, false) }) (v := ?r2_v10) rfl (by kernel_rfl) (by kernel_rfl) (by kernel_rfl) (fun _ _ _ h => h) (Or.inl ⟨by rfl, ?r2_hy10⟩) (by assumption) ?r2_rest10
          case r2_hy10 => intro w hSw; obtain ⟨s0, s1, s2, s3, s4, s5, s6, s7, s8⟩ := hSw; go_simp; try (with_reducible rfl)
          simp only [Act.put, List.setIfInBounds_toArray, List.set_cons_zero, List.set_cons_succ]
          refine wpAnyH_take (i := 11) (oi := { dst := some 40, op := Op.load 29 (Operand.tmp 39), type := 29, pos := "l06_world.go:10", after := #[{ on := 10, ground := Ground.data }, { on := 9, ground := Ground.guard }], guard := some (9, false) }) (v := ?r2_v11) rfl (by kernel_rfl) (by kernel_rfl) (by kernel_rfl) (fun _ _ _ h => h) (Or.inl ⟨by rfl, ?r2_hy11⟩) (by assumption) ?r2_rest11
          case r2_hy11 => intro w hSw; obtain ⟨s0, s1, s2, s3, s4, s5, s6, s7, s8⟩ := hSw; go_simp; try (with_reducible rfl)
          simp only [Act.put, List.setIfInBounds_toArray, List.set_cons_zero, List.set_cons_succ]
          refine wpAnyH_take (i := 12) (oi := { dst := some 41, op := Op.move (Operand.tmp 3), type := 3, pos := "l06_world.go:10", after := #[{ on := 9, ground := Ground.guard }], guard := some (9, false) }) (v := ?r2_v12) rfl (by kernel_rfl) (by kernel_rfl) (by kernel_rfl) (fun _ _ _ h => h) (Or.inl ⟨by rfl, ?r2_hy12⟩) (by assumption) ?r2_rest12
          case r2_hy12 => intro w hSw; obtain ⟨s0, s1, s2, s3, s4, s5, s6, s7, s8⟩ := hSw; go_simp; try (with_reducible rfl)
          simp only [Act.put, List.setIfInBounds_toArray, List.set_cons_zero, List.set_cons_succ]
          refine wpAnyH_take (i := 13) (oi := { dst := some 42, op := Op.indexAddr 29 (Operand.tmp 40) (Operand.tmp 41), type := 0, pos := "l06_world.go:10", after := #[{ on := 11, ground := Ground.data }, { on := 12, ground := Ground.data }, { on := 9, ground := Ground.guard }], guard := some (9, false) }) (v := ?r2_v13) rfl (by kernel_rfl) (by kernel_rfl) (by kernel_rfl) (fun _ _ _ h => h) (Or.inl ⟨by rfl, ?r2_hy13⟩) (by assumption) ?r2_rest13
          case r2_hy13 => intro w hSw; obtain ⟨s0, s1, s2, s3, s4, s5, s6, s7, s8⟩ := hSw; go_simp; try (with_reducible rfl)
          simp only [Act.put, List.setIfInBounds_toArray, List.set_cons_zero, List.set_cons_succ]
          refine wpAnyH_take (i := 14) (oi := { dst := some 43, op := Op.fieldAddr 67 (Operand.tmp 42) 0, type := 0, pos := "l06_world.go:10", after := #[{ on := 13, ground := Ground.data }, { on := 9, ground := Ground.guard }], guard := some (9, false) }) (v := ?r2_v14) rfl (by kernel_rfl) (by kernel_rfl) (by kernel_rfl) (fun _ _ _ h => h) (Or.inl ⟨by rfl, ?r2_hy14⟩) (by assumption) ?r2_rest14
          case r2_hy14 => intro w hSw; obtain ⟨s0, s1, s2, s3, s4, s5, s6, s7, s8⟩ := hSw; go_simp; try (with_reducible rfl)
          simp only [Act.put, List.setIfInBounds_toArray, List.set_cons_zero, List.set_cons_succ]
          refine wpAnyH_take (i := 15) (oi := { dst := some 44, op := Op.load 3 (Operand.tmp 43), type := 3, pos := "l06_world.go:10", after := #[{ on := 14, ground := Ground.data }, { on := 9, ground := Ground.guard }], guard := some (9, false) }) (v := ?r2_v15) rfl (by kernel_rfl) (by kernel_rfl) (by kernel_rfl) (fun _ _ _ h => h) (Or.inl ⟨by rfl, ?r2_hy15⟩) (by assumption) ?r2_rest15
          case r2_hy15 => intro w hSw; obtain ⟨s0, s1, s2, s3, s4, s5, s6, s7, s8⟩ := hSw; go_simp; try (with_reducible rfl)
          simp only [Act.put, List.setIfInBounds_toArray, List.set_cons_zero, List.set_cons_succ]
          refine wpAnyH_take (i := 16) (oi := { dst := some 45, op := Op.move (Operand.tmp 3), type := 3, pos := "l06_world.go:10", after := #[{ on := 9, ground := Ground.guard }], guard := some (9, false) }) (v := ?r2_v16) rfl (by kernel_rfl) (by kernel_rfl) (by kernel_rfl) (fun _ _ _ h => h) (Or.inl ⟨by rfl, ?r2_hy16⟩) (by assumption) ?r2_rest16
          case r2_hy16 => intro w hSw; obtain ⟨s0, s1, s2, s3, s4, s5, s6, s7, s8⟩ := hSw; go_simp; try (with_reducible rfl)
          simp only [Act.put, List.setIfInBounds_toArray, List.set_cons_zero, List.set_cons_succ]
          refine wpAnyH_take (i := 17) (oi := { dst := some 46, op := Op.binOp BinOp.neq 3 (Operand.tmp 44) (Operand.tmp 45) 3, type := 4, pos := "l06_world.go:10", after := #[{ on := 15, ground := Ground.data }, { on := 16, ground := Ground.data }, { on := 9, ground := Ground.guard }], guard := some (9, false) }) (v := .bool false) rfl (by kernel_rfl) (by kernel_rfl) (by kernel_rfl) (fun _ _ _ h => h) (Or.inl ⟨by rfl, ?r2_hy17⟩) (by assumption) ?r2_rest17
          case r2_hy17 => intro w hSw; obtain ⟨s0, s1, s2, s3, s4, s5, s6, s7, s8⟩ := hSw; go_simp; try (first | (simp [HID.out]; done) | (simp_all; done) | rfl)
          simp only [Act.put, List.setIfInBounds_toArray, List.set_cons_zero, List.set_cons_succ]
          refine wpAnyH_take (i := 18) (oi := { dst := some 47, op := Op.pick (Operand.tmp 38) (Operand.const (Value.bool true)) (Operand.tmp 46), type := 4, pos := "l06_world.go:10", after := #[{ on := 9, ground := Ground.data }, { on := 17, ground := Ground.data }], guard := none }) (v := ?r2_v18) rfl (by kernel_rfl) (by kernel_rfl) (by kernel_rfl) (fun _ _ _ h => h) (Or.inl ⟨by rfl, ?r2_hy18⟩) (by assumption) ?r2_rest18
          case r2_hy18 => intro w hSw; obtain ⟨s0, s1, s2, s3, s4, s5, s6, s7, s8⟩ := hSw; go_simp; try (with_reducible rfl)
          simp only [Act.put, List.setIfInBounds_toArray, List.set_cons_zero, List.set_cons_succ]
          refine wpAnyH_done (by kernel_rfl) ?_ _
          have HF : Hid (Below W0.heap.size W0 w1) := bel_trans HBK.out b1
          have HD2 : Hid (∀ j, j < k + 1 → (nodeOkB (D j) nn && decide ((D j).id = (j : Int))) = true) := fun j hj => by
            by_cases e : j = k
            · subst e; rw [HOK.out, decide_eq_true HID.out]; rfl
            · exact HD.out j (by omega)
          clear hHeld b1 KS hidb
          go_wp2
          go_roundw
          case rel => exact ⟨k + 1, by omega, by go_num, HD2.out, HF.out⟩
          case measure => simp [intOf]; omega
        · have HID : Hid (¬ (D k).id = (k : Int)) := hid
          have hidb : ((D k).id == (k : Int)) = false := by simpa using hid
          go_wp2_with fail
          refine wp_region_held_drew (S := (fun w' => w'.cell? ⟨w.heap.size, 0, none⟩ = some (.int .i64 (nn : Int)) ∧ w'.cell? ⟨w.heap.size, 1, none⟩ = some (.slice (some ⟨b, off, none⟩) nn cn) ∧ w'.cell? ⟨b, off + k * 5, none⟩ = some (.int .i64 (D k).id) ∧ w'.cell? ⟨b, off + k * 5 + 1, none⟩ = some (.slice (P k).f.1 (D k).nf (P k).f.2) ∧ w'.cell? ⟨b, off + k * 5 + 2, none⟩ = some (.slice (P k).h.1 (D k).nh (P k).h.2) ∧ w'.cell? ⟨b, off + k * 5 + 3, none⟩ = some (.slice (P k).o.1 (D k).no (P k).o.2) ∧ w'.cell? ⟨b, off + k * 5 + 4, none⟩ = some (.slice (P k).i.1 (D k).ni (P k).i.2) ∧ w.heap.size < w'.heap.size ∧ b < w'.heap.size)) (by kernel_rfl) ?_ (fun hHeld => ?_)
          · exact KS.out _ (below_drewN (Below.refl _ _) 1)
          refine wpAnyH_take (i := 0) (oi := { dst := some 29, op := Op.fieldAddr 32 (Operand.tmp 1) 1, type := 0, pos := "l06_world.go:10", after := #[], guard := none }) (v := ?r3_v0) rfl (by kernel_rfl) (by kernel_rfl) (by kernel_rfl) (fun _ _ _ h => h) (Or.inl ⟨by rfl, ?r3_hy0⟩) (by assumption) ?r3_rest0
          case r3_hy0 => intro w hSw; obtain ⟨s0, s1, s2, s3, s4, s5, s6, s7, s8⟩ := hSw; go_simp; try (with_reducible rfl)
          simp only [Act.put, List.setIfInBounds_toArray, List.set_cons_zero, List.set_cons_succ]
          refine wpAnyH_take (i := 1) (oi := { dst := some 30, op := Op.load 29 (Operand.tmp 29), type := 29, pos := "l06_world.go:10", after := #[{ on := 0, ground := Ground.data }], guard := none }) (v := ?r3_v1) rfl (by kernel_rfl) (by kernel_rfl) (by kernel_rfl) (fun _ _ _ h => h) (Or.inl ⟨by rfl, ?r3_hy1⟩) (by assumption) ?r3_rest1
          case r3_hy1 => intro w hSw; obtain ⟨s0, s1, s2, s3, s4, s5, s6, s7, s8⟩ := hSw; go_simp; try (with_reducible rfl)
          simp only [Act.put, List.setIfInBounds_toArray, List.set_cons_zero, List.set_cons_succ]
          refine wpAnyH_take (i := 2) (oi := { dst := some 31, op := Op.move (Operand.tmp 3), type := 3, pos := "l06_world.go:10", after := #[], guard := none }) (v := ?r3_v2) rfl (by kernel_rfl) (by kernel_rfl) (by kernel_rfl) (fun _ _ _ h => h) (Or.inl ⟨by rfl, ?r3_hy2⟩) (by assumption) ?r3_rest2
          case r3_hy2 => intro w hSw; obtain ⟨s0, s1, s2, s3, s4, s5, s6, s7, s8⟩ := hSw; go_simp; try (with_reducible rfl)
          simp only [Act.put, List.setIfInBounds_toArray, List.set_cons_zero, List.set_cons_succ]
          refine wpAnyH_take (i := 3) (oi := { dst := some 32, op := Op.indexAddr 29 (Operand.tmp 30) (Operand.tmp 31), type := 0, pos := "l06_world.go:10", after := #[{ on := 1, ground := Ground.data }, { on := 2, ground := Ground.data }], guard := none }) (v := ?r3_v3) rfl (by kernel_rfl) (by kernel_rfl) (by kernel_rfl) (fun _ _ _ h => h) (Or.inl ⟨by rfl, ?r3_hy3⟩) (by assumption) ?r3_rest3
          case r3_hy3 => intro w hSw; obtain ⟨s0, s1, s2, s3, s4, s5, s6, s7, s8⟩ := hSw; go_simp; try (with_reducible rfl)
          simp only [Act.put, List.setIfInBounds_toArray, List.set_cons_zero, List.set_cons_succ]
          refine wpAnyH_take (i := 4) (oi := { dst := some 33, op := Op.load 67 (Operand.tmp 32), type := 67, pos := "l06_world.go:10", after := #[{ on := 3, ground := Ground.data }], guard := none }) (v := ?r3_v4) rfl (by kernel_rfl) (by kernel_rfl) (by kernel_rfl) (fun _ _ _ h => h) (Or.inl ⟨by rfl, ?r3_hy4⟩) (by assumption) ?r3_rest4
          case r3_hy4 => intro w hSw; obtain ⟨s0, s1, s2, s3, s4, s5, s6, s7, s8⟩ := hSw; go_simp; try (with_reducible rfl)
          simp only [Act.put, List.setIfInBounds_toArray, List.set_cons_zero, List.set_cons_succ]
          refine wpAnyH_take (i := 5) (oi := { dst := some 34, op := Op.fieldAddr 32 (Operand.tmp 1) 0, type := 0, pos := "l06_world.go:10", after := #[], guard := none }) (v := ?r3_v5) rfl (by kernel_rfl) (by kernel_rfl) (by kernel_rfl) (fun _ _ _ h => h) (Or.inl ⟨by rfl, ?r3_hy5⟩) (by assumption) ?r3_rest5
          case r3_hy5 => intro w hSw; obtain ⟨s0, s1, s2, s3, s4, s5, s6, s7, s8⟩ := hSw; go_simp; try (with_reducible rfl)
          simp only [Act.put, List.setIfInBounds_toArray, List.set_cons_zero, List.set_cons_succ]
          refine wpAnyH_take (i := 6) (oi := { dst := some 35, op := Op.load 3 (Operand.tmp 34), type := 3, pos := "l06_world.go:10", after := #[{ on := 5, ground := Ground.data }], guard := none }) (v := ?r3_v6) rfl (by kernel_rfl) (by kernel_rfl) (by kernel_rfl) (fun _ _ _ h => h) (Or.inl ⟨by rfl, ?r3_hy6⟩) (by assumption) ?r3_rest6
          case r3_hy6 => intro w hSw; obtain ⟨s0, s1, s2, s3, s4, s5, s6, s7, s8⟩ := hSw; go_simp; try (with_reducible rfl)
          simp only [Act.put, List.setIfInBounds_toArray, List.set_cons_zero, List.set_cons_succ]
          refine wpAnyH_ready (rs := [7]) (by kernel_rfl) (by simp) ?_
          refine AllReadyH.cons (o := { dst := some 36, op := Op.call { callee := Callee.value (Operand.func 45), args := #[Operand.tmp 33, Operand.tmp 35], argTypes := #[67, 3] }, type := 4, pos := "l06_world.go:10", after := #[{ on := 4, ground := Ground.data }, { on := 6, ground := Ground.data }], guard := none }) rfl (fun K2 hK2 => ?_) AllReadyH.nil
          go_simp
          refine (specNodeOk_any (D k) (P k) nn _ HBS2 (HRW.out.below (below_drewN (Below.refl _ _) 1))).mono ?_
          rintro e w1 ⟨rfl, b1⟩
          replace b1 := bel_undrew b1
          rw [HOK.out]
          go_wp2_with fail
          refine hK2.out _ _ ?_ (fun hHeld2 => ?_)
          · exact KS.out _ b1
          clear hK2 K2 hHeld
          have hHeld := hHeld2
          clear hHeld2
          try simp only [Act.put, List.setIfInBounds_toArray, List.set_cons_zero, List.set_cons_succ]
          refine wpAnyH_take (i := 8) (oi := { dst := some 37, op := Op.unOp UnOp.not 4 (Operand.tmp 36), type := 4, pos := "l06_world.go:10", after := #[{ on := 7, ground := Ground.data }], guard := none }) (v := ?r3_v8) rfl (by kernel_rfl) (by kernel_rfl) (by kernel_rfl) (fun _ _ _ h => h) (Or.inl ⟨by rfl, ?r3_hy8⟩) (by assumption) ?r3_rest8
          case r3_hy8 => intro w hSw; obtain ⟨s0, s1, s2, s3, s4, s5, s6, s7, s8⟩ := hSw; go_simp; try (with_reducible rfl)
          simp only [Act.put, List.setIfInBounds_toArray, List.set_cons_zero, List.set_cons_succ]
          refine wpAnyH_take (i := 9) (oi := { dst := some 38, op := Op.move (Operand.tmp 37), type := 4, pos := "l06_world.go:10", after := #[{ on := 8, ground := Ground.data }, { on := 7, ground := Ground.chain }], guard := none }) (v := ?r3_v9) rfl (by kernel_rfl) (by kernel_rfl) (by kernel_rfl) (fun _ _ _ h => h) (Or.inl ⟨by rfl, ?r3_hy9⟩) (by assumption) ?r3_rest9
          case r3_hy9 => intro w hSw; obtain ⟨s0, s1, s2, s3, s4, s5, s6, s7, s8⟩ := hSw; go_simp; try (with_reducible rfl)
          simp only [Act.put, List.setIfInBounds_toArray, List.set_cons_zero, List.set_cons_succ]
          refine wpAnyH_take (i := 10) (oi := { dst := some 39, op := Op.fieldAddr 32 (Operand.tmp 1) 1, type := 0, pos := "l06_world.go:10", after := #[{ on := 9, ground := Ground.guard }], guard := some (9, false) }) (v := ?r3_v10) rfl (by kernel_rfl) (by kernel_rfl) (by kernel_rfl) (fun _ _ _ h => h) (Or.inl ⟨by rfl, ?r3_hy10⟩) (by assumption) ?r3_rest10
          case r3_hy10 => intro w hSw; obtain ⟨s0, s1, s2, s3, s4, s5, s6, s7, s8⟩ := hSw; go_simp; try (with_reducible rfl)
          simp only [Act.put, List.setIfInBounds_toArray, List.set_cons_zero, List.set_cons_succ]
          refine wpAnyH_take (i := 11) (oi := { dst := some 40, op := Op.load 29 (Operand.tmp 39), type := 29, pos := "l06_world.go:10", after := #[{ on := 10, ground := Ground.data }, { on := 9, ground := Ground.guard }], guard := some (9, false) }) (v := ?r3_v11) rfl (by kernel_rfl) (by kernel_rfl) (by kernel_rfl) (fun _ _ _ h => h) (Or.inl ⟨by rfl, ?r3_hy11⟩) (by assumption) ?r3_rest11
          case r3_hy11 => intro w hSw; obtain ⟨s0, s1, s2, s3, s4, s5, s6, s7, s8⟩ := hSw; go_simp; try (with_reducible rfl)
          simp only [Act.put, List.setIfInBounds_toArray, List.set_cons_zero, List.set_cons_succ]
          refine wpAnyH_take (i := 12) (oi := { dst := some 41, op := Op.move (Operand.tmp 3), type := 3, pos := "l06_world.go:10", after := #[{ on := 9, ground := Ground.guard }], guard := some (9, false) }) (v := ?r3_v12) rfl (by kernel_rfl) (by kernel_rfl) (by kernel_rfl) (fun _ _ _ h => h) (Or.inl ⟨by rfl, ?r3_hy12⟩) (by assumption) ?r3_rest12
          case r3_hy12 => intro w hSw; obtain ⟨s0, s1, s2, s3, s4, s5, s6, s7, s8⟩ := hSw; go_simp; try (with_reducible rfl)
          simp only [Act.put, List.setIfInBounds_toArray, List.set_cons_zero, List.set_cons_succ]
          refine wpAnyH_take (i := 13) (oi := { dst := some 42, op := Op.indexAddr 29 (Operand.tmp 40) (Operand.tmp 41), type := 0, pos := "l06_world.go:10", after := #[{ on := 11, ground := Ground.data }, { on := 12, ground := Ground.data }, { on := 9, ground := Ground.guard }], guard := some (9, false) }) (v := ?r3_v13) rfl (by kernel_rfl) (by kernel_rfl) (by kernel_rfl) (fun _ _ _ h => h) (Or.inl ⟨by rfl, ?r3_hy13⟩) (by assumption) ?r3_rest13
          case r3_hy13 => intro w hSw; obtain ⟨s0, s1, s2, s3, s4, s5, s6, s7, s8⟩ := hSw; go_simp; try (with_reducible rfl)
          simp only [Act.put, List.setIfInBounds_toArray, List.set_cons_zero, List.set_cons_succ]
          refine wpAnyH_take (i := 14) (oi := { dst := some 43, op := Op.fieldAddr 67 (Operand.tmp 42) 0, type := 0, pos := "l06_world.go:10", after := #[{ on := 13, ground := Ground.data }, { on := 9, ground := Ground.guard }], guard := some (9, false) }) (v := ?r3_v14) rfl (by kernel_rfl) (by kernel_rfl) (by kernel_rfl) (fun _ _ _ h => h) (Or.inl ⟨by rfl, ?r3_hy14⟩) (by assumption) ?r3_rest14
          case r3_hy14 => intro w hSw; obtain ⟨s0, s1, s2, s3, s4, s5, s6, s7, s8⟩ := hSw; go_simp; try (with_reducible rfl)
          simp only [Act.put, List.setIfInBounds_toArray, List.set_cons_zero, List.set_cons_succ]
          refine wpAnyH_take (i := 15) (oi := { dst := some 44, op := Op.load 3 (Operand.tmp 43), type := 3, pos := "l06_world.go:10", after := #[{ on := 14, ground := Ground.data }, { on := 9, ground := Ground.guard }], guard := some (9, false) }) (v := ?r3_v15) rfl (by kernel_rfl) (by kernel_rfl) (by kernel_rfl) (fun _ _ _ h => h) (Or.inl ⟨by rfl, ?r3_hy15⟩) (by assumption) ?r3_rest15
          case r3_hy15 => intro w hSw; obtain ⟨s0, s1, s2, s3, s4, s5, s6, s7, s8⟩ := hSw; go_simp; try (with_reducible rfl)
          simp only [Act.put, List.setIfInBounds_toArray, List.set_cons_zero, List.set_cons_succ]
          refine wpAnyH_take (i := 16) (oi := { dst := some 45, op := Op.move (Operand.tmp 3), type := 3, pos := "l06_world.go:10", after := #[{ on := 9, ground := Ground.guard }], guard := some (9, false) }) (v := ?r3_v16) rfl (by kernel_rfl) (by kernel_rfl) (by kernel_rfl) (fun _ _ _ h => h) (Or.inl ⟨by rfl, ?r3_hy16⟩) (by assumption) ?r3_rest16
          case r3_hy16 => intro w hSw; obtain ⟨s0, s1, s2, s3, s4, s5, s6, s7, s8⟩ := hSw; go_simp; try (with_reducible rfl)
          simp only [Act.put, List.setIfInBounds_toArray, List.set_cons_zero, List.set_cons_succ]
          refine wpAnyH_take (i := 17) (oi := { dst := some 46, op := Op.binOp BinOp.neq 3 (Operand.tmp 44) (Operand.tmp 45) 3, type := 4, pos := "l06_world.go:10", after := #[{ on := 15, ground := Ground.data }, { on := 16, ground := Ground.data }, { on := 9, ground := Ground.guard }], guard := some (9, false) }) (v := .bool true) rfl (by kernel_rfl) (by kernel_rfl) (by kernel_rfl) (fun _ _ _ h => h) (Or.inl ⟨by rfl, ?r3_hy17⟩) (by assumption) ?r3_rest17
          case r3_hy17 => intro w hSw; obtain ⟨s0, s1, s2, s3, s4, s5, s6, s7, s8⟩ := hSw; go_simp; try (first | (simp [HID.out]; done) | (simp_all; done) | rfl)
          simp only [Act.put, List.setIfInBounds_toArray, List.set_cons_zero, List.set_cons_succ]
          refine wpAnyH_take (i := 18) (oi := { dst := some 47, op := Op.pick (Operand.tmp 38) (Operand.const (Value.bool true)) (Operand.tmp 46), type := 4, pos := "l06_world.go:10", after := #[{ on := 9, ground := Ground.data }, { on := 17, ground := Ground.data }], guard := none }) (v := ?r3_v18) rfl (by kernel_rfl) (by kernel_rfl) (by kernel_rfl) (fun _ _ _ h => h) (Or.inl ⟨by rfl, ?r3_hy18⟩) (by assumption) ?r3_rest18
          case r3_hy18 => intro w hSw; obtain ⟨s0, s1, s2, s3, s4, s5, s6, s7, s8⟩ := hSw; go_simp; try (with_reducible rfl)
          simp only [Act.put, List.setIfInBounds_toArray, List.set_cons_zero, List.set_cons_succ]
          refine wpAnyH_done (by kernel_rfl) ?_ _
          have HF : Hid (Below w.heap.size w w1) := bel_trans HB.out (bel_trans HBK.out b1)
          have HV : Hid ((allB nn (fun i => nodeOkB (D i) nn && decide ((D i).id = (i : Int))) && allB nk (fun i => pkB (K i) nn)) = false) := by show _ = _; rw [allB_bad hkn (by rw [decide_eq_false HID.out, Bool.and_false])]; rfl
          clear hHeld b1 KS hidb hid
          go_wp2
          go_ret
          exact ⟨ret_bool HV.out.symm, HF.out⟩
    · have hke : (nn : Int) ≤ (k : Int) := by omega
      have HA : Hid (allB nn (fun i => nodeOkB (D i) nn && decide ((D i).id = (i : Int))) = true) := allB_ok (fun i hi => HD.out i (by omega))
      have HBK : Hid (Below W0.heap.size W0 wr) := Bk
      clear Xk BW
      go_wp2_with fail
      go_loopw [4] (fun i wz => ∃ m : Nat, m ≤ nk ∧ i = .int .i64 m ∧ (∀ j, j < m → pkB (K j) nn = true) ∧ Below W0.heap.size W0 wz) (fun i _ => nk - (intOf i).toNat)
      case atStart => exact ⟨0, Nat.zero_le _, rfl, fun j hj => absurd hj (Nat.not_lt_zero j), HBK.out⟩
      case round =>
        rename_i wz
        obtain ⟨m, hm, rfl, hdone2, Bm⟩ := hrel
        have HD2 : Hid (∀ j, j < m → pkB (K j) nn = true) := hdone2
        clear hdone2 x0 x1 x2 xz
        have Xm := HX.out.below Bm
        have BW := bel_trans HB.out Bm
        obtain ⟨x0, x1, x2, xz⟩ := Xm.at3
        by_cases hmn : m < nk
        · have hi : (m : Int) < (nk : Int) := by omega
          have hKm := HK.out.below BW
          obtain ⟨b, off, rfl, y0, y1, y2, y3, y4, y5, y6, y7⟩ := hKm.at hmn
          have hrow := hKm.2.2 m hmn
          have HBM : Hid (Below W0.heap.size W0 _) := Bm
          cases hok : pkB (K m) nn
          · have HOK : Hid (pkB (K m) nn = false) := hok
            have HV : Hid ((allB nn (fun i => nodeOkB (D i) nn && decide ((D i).id = (i : Int))) && allB nk (fun i => pkB (K i) nn)) = false) := by show _ = _; rw [allB_bad hmn hok, Bool.and_false]
            clear hok hKm Bm Xm BW
            go_wp2_with fail
            go_region_with (go_at_call 46; refine (specPacket_any (K m).f (K m).t (K m).a (K m).n (K m).k (K m).p (K m).o (Q m).1 (Q m).2 (K m).xs nn _ (row_drew hrow)).mono ?_; rintro e w2 ⟨rfl, b2⟩; rw [show packetB (K m).f (K m).t (K m).a (K m).n (K m).k (K m).p (K m).o (K m).xs nn = false from HOK.out])
            all_goals
              have HF : Hid (Below w.heap.size w _) := bel_trans HB.out (bel_trans HBM.out (bel_undrew b2))
              go_wp2
              go_ret
              exact ⟨ret_bool HV.out.symm, HF.out⟩
          · have HOK : Hid (pkB (K m) nn = true) := hok
            have HD3 : Hid (∀ j, j < m + 1 → pkB (K j) nn = true) := fun j hj => by
              by_cases e : j = m
              · subst e; exact HOK.out
              · exact HD2.out j (by omega)
            clear hok hKm Bm Xm BW
            go_wp2_with fail
            go_region_with (go_at_call 46; refine (specPacket_any (K m).f (K m).t (K m).a (K m).n (K m).k (K m).p (K m).o (Q m).1 (Q m).2 (K m).xs nn _ (row_drew hrow)).mono ?_; rintro e w2 ⟨rfl, b2⟩; rw [show packetB (K m).f (K m).t (K m).a (K m).n (K m).k (K m).p (K m).o (K m).xs nn = true from HOK.out])
            all_goals
              have HF : Hid (Below W0.heap.size W0 _) := bel_trans HBM.out (bel_undrew b2)
              clear b2 y0 y1 y2 y3 y4 y5 y6 y7 hrow
              go_wp2
              go_roundw
              case rel => exact ⟨m + 1, by omega, by go_num, HD3.out, HF.out⟩
              case measure => simp [intOf]; omega
        · have hme : (nk : Int) ≤ (m : Int) := by omega
          have HV : Hid ((allB nn (fun i => nodeOkB (D i) nn && decide ((D i).id = (i : Int))) && allB nk (fun i => pkB (K i) nn)) = true) := by show _ = _; rw [HA.out, allB_ok (fun i hi => HD2.out i (by omega))]; rfl
          have HF : Hid (Below w.heap.size w _) := BW
          clear Xm BW Bm
          go_wp2
          go_ret
          exact ⟨ret_bool HV.out.symm, HF.out⟩

theorem specWorldOk_any (d : WoD) (p : WoP) (w : World) (hbs : ∀ i, i < d.nn → ∀ j, j < (d.d i).nh → ((d.d i).h j).bs.length ≤ 1048577) (hR : WoR w d p) :
    Calls Tryz.prog 25 #[.agg (wcells d p)] w fun e w' => e = .returned (.bool (worldB d)) ∧ Below w.heap.size w w' := by
  obtain ⟨size, nn, D, nk, K⟩ := d
  have hn := hR.n.1
  have hk := hR.k.1
  unfold worldB
  cases h1 : inB size 1 4
  · exact specWorldOk_big size nn nk D K p w hn hk (.inl h1)
  · by_cases h2 : (nn : Int) = size
    · by_cases h3 : nk ≤ 40
      · subst h2
        rw [decide_eq_true rfl, decide_eq_true h3]
        exact specWorldOk_in nn nk D K p.n.1 p.k.1 p.n.2 p.k.2 p.np p.kp w hbs hR.n hR.k h1 h3
      · rw [decide_eq_true h2, decide_eq_false h3]
        exact specWorldOk_big size nn nk D K p w hn hk (.inr ⟨h1, .inr ⟨h2, by omega⟩⟩)
    · rw [decide_eq_false h2]
      exact specWorldOk_big size nn nk D K p w hn hk (.inr ⟨h1, .inl h2⟩)
end Go.Proofs.YtpfppeifppdmbaaGreat
