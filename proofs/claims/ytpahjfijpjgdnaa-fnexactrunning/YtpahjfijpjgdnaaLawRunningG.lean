/- The law FnExactRunning over any impl.Running that answers as it should (written by mk13o.py). -/
import Derived.Test.YtpahjfijpjgdnaaRuI
namespace Go.Proofs.Ytpahjfijpjgdnaa
open Go.ChangeShapes Go.WideShapes Go.ChangeAt Go.RowKit
set_option linter.unusedVariables false

namespace LawFnExactRunning
set_option maxRecDepth 100000 in
set_option maxHeartbeats 8000000 in
theorem walkG (HI : ∀ (d : FkD) (p : FkP) (w : World), FkR w d p → Calls Try.prog 7 #[.agg (fkcells d p)] w fun e w' => e = .returned (.int .i64 (runN d d.n : Nat)) ∧ Below w.heap.size w w')
    (d : FkD) (p : FkP) (w : World) (hc : FkC w d p) :
    Calls Try.prog 3 #[.agg (fkcells d p)] w fun e w' => e = .returned (.bool true) ∧ Below w.heap.size w w' := by
  have bA := bel_alloc (Below.refl w.heap.size w) (.cells (fkcells d p) 28)
  have XA := Box.new w (fkcells d p) 28
  go_enter Try.func3, Try.ntmps3
  obtain ⟨x0, x1, x2, x3, xz⟩ := XA.at4
  go_wp2_with fail
  refine (szFlock_tot d p _ (hc.below bA)).mono ?_
  rintro e w1 ⟨r, rfl, hr0, bw1⟩
  have B := bel_trans bA bw1
  replace XA := XA.below bw1
  clear bw1 bA
  clear x0 x1 x2 x3 xz
  rcases hr0 with rfl | ⟨r0, r1⟩
  · clear hc HI XA
    go_wp2
    go_ret
    exact ⟨rfl, B⟩
  have hs : FkS d := fkZ_sm (by omega)
  have hrd : ¬ (r < 0) := by omega
  have HA : Hid (FkR w d p) := hc.fr hs
  clear hc r1
  have HI' : Hid (∀ (p : FkP) (W : World), FkR W d p → Calls Try.prog 7 #[.agg (fkcells d p)] W fun e w' => e = .returned (.int .i64 (runN d d.n : Nat)) ∧ Below W.heap.size W w') := fun p W h => HI d p W h
  have HS : Hid (∀ (p : FkP) (W : World), FkR W d p → Calls Try.prog 5 #[.agg (fkcells d p)] W fun e w' => e = .returned (.int .i64 (runN d d.n : Nat)) ∧ Below W.heap.size W w') := fun p W h => specRunning_any d p W h
  clear HI
  generalize runN d d.n = z at HI' HS
  obtain ⟨x0, x1, x2, x3, xz⟩ := XA.at4
  go_wp2_with fail
  refine (toFlock_own d p _ hs (HA.out.below B)).mono ?_
  rintro e w2 ⟨p2, rfl, E2, _, bw2⟩
  clear x0 x1 x2 x3 xz
  have r2 := E2.fr hs
  clear E2
  replace XA := XA.below bw2
  replace B := bel_trans B bw2
  clear bw2
  go_wp2_with fail
  refine (HS.out p2 _ r2).mono ?_
  rintro e w3 ⟨rfl, bw3⟩
  clear r2 HS
  replace XA := XA.below bw3
  replace B := bel_trans B bw3
  clear bw3
  obtain ⟨x0, x1, x2, x3, xz⟩ := XA.at4
  go_wp2_with fail
  refine (toFlock_own d p _ hs (HA.out.below B)).mono ?_
  rintro e w6 ⟨pM, rfl, EM, _, bw6⟩
  clear x0 x1 x2 x3 xz
  have rM := EM.fr hs
  clear EM
  replace XA := XA.below bw6
  replace B := bel_trans B bw6
  clear bw6
  have bx := bel_alloc (Below.refl w6.heap.size w6) (.cells (fkcells d pM) 37)
  have XM := Box.new w6 (fkcells d pM) 37
  replace XA := XA.below bx
  replace rM := rM.below bx
  replace B := bel_trans B bx
  clear bx
  obtain ⟨x0, x1, x2, x3, xz⟩ := XM.at4
  go_wp2_with fail
  refine (HI'.out pM _ rM).mono ?_
  rintro e w8 ⟨rfl, bw8⟩
  clear x0 x1 x2 x3 xz
  clear HI'
  replace XA := XA.below bw8
  replace rM := rM.below bw8
  replace XM := XM.below bw8
  replace B := bel_trans B bw8
  clear bw8
  obtain ⟨x0, x1, x2, x3, xz⟩ := XA.at4
  obtain ⟨y0, y1, y2, y3, yz⟩ := XM.at4
  go_wp2_with fail
  refine wp_region_held_drew (S := fun W => Below w8.heap.size w8 W) (by kernel_rfl) ?_ (fun hHeld => ?_)
  · exact below_drewN (Below.refl _ _) 1
  obtain ⟨V0, hV0⟩ : ∃ V, w8.drew = V := ⟨_, rfl⟩
  rw [hV0] at hHeld ⊢
  clear hV0
  have hs_V0 : w8.heap.size ≤ V0.heap.size := hHeld.size
  refine wpAnyH_take (i := 0) (oi := { dst := some 22, op := Op.load 37 (Operand.tmp 5), type := 37, pos := "exact.go:4077", after := #[], guard := none }) (v := .agg (fkcells d pM)) rfl (by kernel_rfl) (by kernel_rfl) (by kernel_rfl) (fun _ _ _ h => h) (Or.inl ⟨by rfl, ?hy16⟩) (by assumption) ?rest16
  case hy16 => intro W hS; have c0 := cell_later hS y0; have c1 := cell_later hS y1; have c2 := cell_later hS y2; have c3 := cell_later hS y3; go_simp; try (with_reducible rfl)
  simp only [Act.put, List.setIfInBounds_toArray, List.set_cons_zero, List.set_cons_succ]
  refine wpAnyH_take (i := 1) (oi := { dst := some 23, op := Op.load 28 (Operand.tmp 1), type := 28, pos := "exact.go:4077", after := #[], guard := none }) (v := .agg (fkcells d p)) rfl (by kernel_rfl) (by kernel_rfl) (by kernel_rfl) (fun _ _ _ h => h) (Or.inl ⟨by rfl, ?hy17⟩) (by assumption) ?rest17
  case hy17 => intro W hS; have c0 := cell_later hS x0; have c1 := cell_later hS x1; have c2 := cell_later hS x2; have c3 := cell_later hS x3; go_simp; try (with_reducible rfl)
  simp only [Act.put, List.setIfInBounds_toArray, List.set_cons_zero, List.set_cons_succ]
  refine wpAnyH_ready (rs := [2]) (by kernel_rfl) (by simp) ?_
  refine AllReadyH.cons (o := { dst := some 24, op := Op.call { callee := Callee.value (Operand.func 6), args := #[Operand.tmp 23], argTypes := #[28] }, type := 37, pos := "exact.go:4077", after := #[{ on := 1, ground := Ground.data }], guard := none }) rfl (fun K2 hK2 => ?_) AllReadyH.nil
  go_simp
  refine (toFlock_own d p _ hs ((HA.out.below B).below hHeld)).mono ?_
  rintro e w9 ⟨p9, rfl, E9, _, b9⟩
  have r9 := E9.fr hs
  clear E9
  go_wp2_with fail
  refine hK2.out _ _ ?_ (fun hHeld2 => ?_)
  · exact bel_trans hHeld b9
  clear hK2 K2 hHeld
  have hHeld := hHeld2
  clear hHeld2
  try simp only [Act.put, List.setIfInBounds_toArray, List.set_cons_zero, List.set_cons_succ]
  have hz9 := b9.size
  have hs_w9 : w8.heap.size ≤ w9.heap.size := hHeld.size
  clear b9
  refine wpAnyH_ready (rs := [3]) (by kernel_rfl) (by simp) ?_
  refine AllReadyH.cons (o := { dst := some 25, op := Op.call { callee := Callee.value (Operand.func 8), args := #[Operand.tmp 22, Operand.tmp 24], argTypes := #[37, 37] }, type := 4, pos := "exact.go:4077", after := #[{ on := 0, ground := Ground.data }, { on := 2, ground := Ground.data }, { on := 2, ground := Ground.chain }], guard := none }) rfl (fun K2 hK2 => ?_) AllReadyH.nil
  go_simp
  refine (eqFlock_any d pM p9 _ (rM.below hHeld) r9).mono ?_
  rintro e w10 ⟨rfl, b10⟩
  go_wp2_with fail
  refine hK2.out _ _ ?_ (fun hHeld2 => ?_)
  · exact bel_trans hHeld b10
  clear hK2 K2 hHeld
  have hHeld := hHeld2
  clear hHeld2
  try simp only [Act.put, List.setIfInBounds_toArray, List.set_cons_zero, List.set_cons_succ]
  replace r9 := r9.below b10
  have hz10 := b10.size
  have hs_w10 : w8.heap.size ≤ w10.heap.size := hHeld.size
  clear b10
  refine wpAnyH_take (i := 4) (oi := { dst := some 26, op := Op.unOp UnOp.not 4 (Operand.tmp 25), type := 4, pos := "exact.go:4077", after := #[{ on := 3, ground := Ground.data }], guard := none }) (v := .bool false) rfl (by kernel_rfl) (by kernel_rfl) (by kernel_rfl) (fun _ _ _ h => h) (Or.inl ⟨by rfl, ?hy18⟩) (by assumption) ?rest18
  case hy18 => intro W hS; go_simp; try (with_reducible rfl)
  simp only [Act.put, List.setIfInBounds_toArray, List.set_cons_zero, List.set_cons_succ]
  refine wpAnyH_done (by kernel_rfl) ?_ _
  have bq := hHeld
  clear hHeld hz9 hz10 hs_w9 hs_w10 hs_V0 r9
  clear x0 x1 x2 x3 xz
  clear y0 y1 y2 y3 yz
  replace XA := XA.below bq
  replace rM := rM.below bq
  replace XM := XM.below bq
  replace B := bel_trans B bq
  clear bq
  clear XA XM rM
  go_wp2
  go_ret
  exact ⟨rfl, B⟩
end LawFnExactRunning
end Go.Proofs.Ytpahjfijpjgdnaa
