/- The law FnExactSameHart over any impl.SameHart that answers as it should (written by mk14s.py). -/
import Derived.Test.YtllbpkimeadbmaaSa1
import Derived.Test.YtllbpkimeadbmaaHtZ
import Derived.Test.YtllbpkimeadbmaaOpenHt
import Derived.BigRegion
import Derived.Deep.RegionHeld3
namespace Go.Proofs.Ytllbpkimeadbmaa
open Go.ChangeShapes Go.WideShapes Go.ChangeAt Go.RowKit
set_option linter.unusedVariables false

theorem keep6s {W W' : World} (b : Below W.heap.size W W') {a0 a1 a2 a3 a4 a5 : Addr} {u0 u1 u2 u3 u4 u5 : Value}
    (h : W.cell? a0 = some u0 ∧ W.cell? a1 = some u1 ∧ W.cell? a2 = some u2 ∧ W.cell? a3 = some u3 ∧ W.cell? a4 = some u4 ∧ W.cell? a5 = some u5) :
    W'.cell? a0 = some u0 ∧ W'.cell? a1 = some u1 ∧ W'.cell? a2 = some u2 ∧ W'.cell? a3 = some u3 ∧ W'.cell? a4 = some u4 ∧ W'.cell? a5 = some u5 :=
  ⟨cell_later b h.1, cell_later b h.2.1, cell_later b h.2.2.1, cell_later b h.2.2.2.1, cell_later b h.2.2.2.2.1, cell_later b h.2.2.2.2.2⟩

namespace LawFnExactSameHart
set_option maxRecDepth 100000 in
set_option maxHeartbeats 8000000 in
theorem walkG (HI : ∀ (a b : Option Addr) (ca cb : Nat) (xs ys : List Int) (pc st pd su : Int) (w : World), xs.length ≤ 1048577 → ys.length ≤ 1048577 → Row .i64 w a xs → Row .i64 w b ys → Calls Try.prog 7 #[.agg #[.slice a xs.length ca, .int .i64 pc, .int .i64 st], .agg #[.slice b ys.length cb, .int .i64 pd, .int .i64 su]] w fun e w' => e = .returned (.bool (sameHB xs pc st ys pd su)) ∧ Below w.heap.size w w')
    (a : Option Addr) (ca : Nat) (xs : List Int) (pc st : Int) (b : Option Addr) (cb : Nat) (ys : List Int) (pd su : Int) (w : World) (hc : Came .i64 w a ca xs) (hd : Came .i64 w b cb ys) :
    Calls Try.prog 3 #[.agg #[.slice a xs.length ca, .int .i64 pc, .int .i64 st], .agg #[.slice b ys.length cb, .int .i64 pd, .int .i64 su]] w fun e w' => e = .returned (.bool true) ∧ Below w.heap.size w w' := by
  have bA := bel_alloc (bel_alloc (Below.refl w.heap.size w) (.cells #[.slice a xs.length ca, .int .i64 pc, .int .i64 st] 24)) (.cells #[.slice b ys.length cb, .int .i64 pd, .int .i64 su] 24)
  obtain ⟨XA, XB⟩ := Box.two w #[.slice a xs.length ca, .int .i64 pc, .int .i64 st] #[.slice b ys.length cb, .int .i64 pd, .int .i64 su] 24 24
  have hna : xs.length ≤ maxLen := Nat.le_trans hc.1 hc.2.1
  have hnb : ys.length ≤ maxLen := Nat.le_trans hd.1 hd.2.1
  go_enter Try.func3, Try.ntmps3
  obtain ⟨x0, x1, x2, xz⟩ := XA.at3
  go_wp2_with fail
  refine (szHart_tot pc st a xs.length ca 1048576 _ (by omega) (by omega) hna).mono ?_
  rintro e w1 ⟨r, rfl, hr0, bw1⟩
  have B := bel_trans bA bw1
  replace XA := XA.below bw1
  replace XB := XB.below bw1
  clear bw1 bA
  clear x0 x1 x2 xz
  rcases hr0 with rfl | ⟨r0, r1⟩
  · clear hc hd HI XA XB
    go_wp2
    go_ret
    exact ⟨rfl, B⟩
  have hxs : xs.length ≤ 1048576 := by omega
  have hr1 : r ≤ 1048576 := by omega
  have hrd : ¬ (r < 0) := by omega
  have HA : Hid (Row .i64 w a xs) := hc.row (by omega)
  clear hc r1
  obtain ⟨y0, y1, y2, yz⟩ := XB.at3
  go_wp2_with fail
  refine (szHart_tot pd su b ys.length cb r _ r0 hr1 hnb).mono ?_
  rintro e w2 ⟨q, rfl, hq0, bw2⟩
  clear y0 y1 y2 yz
  replace XA := XA.below bw2
  replace XB := XB.below bw2
  replace B := bel_trans B bw2
  clear bw2
  rcases hq0 with rfl | ⟨q0, q1⟩
  · clear hd HI XA XB
    go_wp2
    go_ret
    exact ⟨rfl, B⟩
  have hys : ys.length ≤ 1048576 := by omega
  have hqd : ¬ (q < 0) := by omega
  have HB : Hid (Row .i64 w b ys) := hd.row (by omega)
  clear hd q1 hna hnb
  have HI' : Hid (∀ (a b : Option Addr) (ca cb : Nat) (W : World), Row .i64 W a xs → Row .i64 W b ys → Calls Try.prog 7 #[.agg #[.slice a xs.length ca, .int .i64 pc, .int .i64 st], .agg #[.slice b ys.length cb, .int .i64 pd, .int .i64 su]] W fun e w' => e = .returned (.bool (sameHB xs pc st ys pd su)) ∧ Below W.heap.size W w') := fun a b ca cb W h1 h2 => HI a b ca cb xs ys pc st pd su W (by omega) (by omega) h1 h2
  have HS : Hid (∀ (a b : Option Addr) (ca cb : Nat) (W : World), Row .i64 W a xs → Row .i64 W b ys → Calls Try.prog 5 #[.agg #[.slice a xs.length ca, .int .i64 pc, .int .i64 st], .agg #[.slice b ys.length cb, .int .i64 pd, .int .i64 su]] W fun e w' => e = .returned (.bool (sameHB xs pc st ys pd su)) ∧ Below W.heap.size W w') := fun a b ca cb W h1 h2 => specSameHart_any a b ca cb xs ys pc st pd su W (by omega) (by omega) h1 h2
  clear HI
  generalize sameHB xs pc st ys pd su = z at HI' HS
  obtain ⟨x0, x1, x2, xz⟩ := XA.at3
  obtain ⟨y0, y1, y2, yz⟩ := XB.at3
  go_wp2_with fail
  refine wp_region_held_drew (S := fun W => Below w2.heap.size w2 W) (by kernel_rfl) ?_ (fun hHeld => ?_)
  · exact below_drewN (Below.refl _ _) 1
  obtain ⟨V0, hV0⟩ : ∃ V, w2.drew = V := ⟨_, rfl⟩
  rw [hV0] at hHeld ⊢
  clear hV0
  have hs_V0 : w2.heap.size ≤ V0.heap.size := hHeld.size
  refine wpAnyH_take (i := 0) (oi := { dst := some 20, op := Op.load 24 (Operand.tmp 2), type := 24, pos := "exact.go:3914", after := #[], guard := none }) (v := .agg #[.slice a xs.length ca, .int .i64 pc, .int .i64 st]) rfl (by kernel_rfl) (by kernel_rfl) (by kernel_rfl) (fun _ _ _ h => h) (Or.inl ⟨by rfl, ?hy1⟩) (by assumption) ?rest1
  case hy1 => intro W hS; have c0 := cell_later hS x0; have c1 := cell_later hS x1; have c2 := cell_later hS x2; go_simp; try (with_reducible rfl)
  simp only [Act.put, List.setIfInBounds_toArray, List.set_cons_zero, List.set_cons_succ]
  refine wpAnyH_take (i := 2) (oi := { dst := some 22, op := Op.load 24 (Operand.tmp 3), type := 24, pos := "exact.go:3914", after := #[], guard := none }) (v := .agg #[.slice b ys.length cb, .int .i64 pd, .int .i64 su]) rfl (by kernel_rfl) (by kernel_rfl) (by kernel_rfl) (fun _ _ _ h => h) (Or.inl ⟨by rfl, ?hy2⟩) (by assumption) ?rest2
  case hy2 => intro W hS; have c0 := cell_later hS y0; have c1 := cell_later hS y1; have c2 := cell_later hS y2; go_simp; try (with_reducible rfl)
  simp only [Act.put, List.setIfInBounds_toArray, List.set_cons_zero, List.set_cons_succ]
  refine wpAnyH_ready (rs := [1]) (by kernel_rfl) (by simp) ?_
  refine AllReadyH.cons (o := { dst := some 21, op := Op.call { callee := Callee.value (Operand.func 6), args := #[Operand.tmp 20], argTypes := #[24] }, type := 27, pos := "exact.go:3914", after := #[{ on := 0, ground := Ground.data }], guard := none }) rfl (fun K2 hK2 => ?_) AllReadyH.nil
  go_simp
  refine (toHart_any pc st a ca xs _ hxs ((HA.out.below B).below hHeld)).mono ?_
  rintro e w3 ⟨v3, rfl, o3, b3⟩
  obtain ⟨a3, c3, rfl⟩ := owns_slice o3
  have r3 := owns_row' o3 (by omega)
  clear o3
  go_wp2_with fail
  refine hK2.out _ _ ?_ (fun hHeld2 => ?_)
  · exact bel_trans hHeld b3
  clear hK2 K2 hHeld
  have hHeld := hHeld2
  clear hHeld2
  try simp only [Act.put, List.setIfInBounds_toArray, List.set_cons_zero, List.set_cons_succ]
  have hz3 := b3.size
  have hs_w3 : w2.heap.size ≤ w3.heap.size := hHeld.size
  clear b3
  refine wpAnyH_ready (rs := [3]) (by kernel_rfl) (by simp) ?_
  refine AllReadyH.cons (o := { dst := some 23, op := Op.call { callee := Callee.value (Operand.func 6), args := #[Operand.tmp 22], argTypes := #[24] }, type := 27, pos := "exact.go:3914", after := #[{ on := 2, ground := Ground.data }, { on := 1, ground := Ground.chain }], guard := none }) rfl (fun K2 hK2 => ?_) AllReadyH.nil
  go_simp
  refine (toHart_any pd su b cb ys _ hys ((HB.out.below B).below hHeld)).mono ?_
  rintro e w4 ⟨v4, rfl, o4, b4⟩
  obtain ⟨a4, c4, rfl⟩ := owns_slice o4
  have r4 := owns_row' o4 (by omega)
  clear o4
  go_wp2_with fail
  refine hK2.out _ _ ?_ (fun hHeld2 => ?_)
  · exact bel_trans hHeld b4
  clear hK2 K2 hHeld
  have hHeld := hHeld2
  clear hHeld2
  try simp only [Act.put, List.setIfInBounds_toArray, List.set_cons_zero, List.set_cons_succ]
  replace r3 := r3.below b4
  have hz4 := b4.size
  have hs_w4 : w2.heap.size ≤ w4.heap.size := hHeld.size
  clear b4
  refine wpAnyH_ready (rs := [4]) (by kernel_rfl) (by simp) ?_
  refine AllReadyH.cons (o := { dst := some 24, op := Op.call { callee := Callee.value (Operand.func 5), args := #[Operand.tmp 21, Operand.tmp 23], argTypes := #[27, 27] }, type := 4, pos := "exact.go:3914", after := #[{ on := 1, ground := Ground.data }, { on := 3, ground := Ground.data }, { on := 3, ground := Ground.chain }], guard := none }) rfl (fun K2 hK2 => ?_) AllReadyH.nil
  go_simp
  refine (HS.out a3 a4 c3 c4 _ r3 r4).mono ?_
  rintro e w5 ⟨rfl, b5⟩
  go_wp2_with fail
  refine hK2.out _ _ ?_ (fun hHeld2 => ?_)
  · exact bel_trans hHeld b5
  clear hK2 K2 hHeld
  have hHeld := hHeld2
  clear hHeld2
  try simp only [Act.put, List.setIfInBounds_toArray, List.set_cons_zero, List.set_cons_succ]
  replace r3 := r3.below b5
  replace r4 := r4.below b5
  have hz5 := b5.size
  have hs_w5 : w2.heap.size ≤ w5.heap.size := hHeld.size
  clear b5
  refine wpAnyH_take (i := 5) (oi := { dst := some 6, op := Op.assign (Operand.tmp 24), type := 4, pos := "exact.go:3914", after := #[{ on := 4, ground := Ground.data }, { on := 4, ground := Ground.chain }, { on := 0, ground := Ground.phase }, { on := 1, ground := Ground.phase }, { on := 2, ground := Ground.phase }, { on := 3, ground := Ground.phase }, { on := 4, ground := Ground.phase }], guard := none }) (v := .bool z) rfl (by kernel_rfl) (by kernel_rfl) (by kernel_rfl) (fun _ _ _ h => h) (Or.inl ⟨by rfl, ?hy3⟩) (by assumption) ?rest3
  case hy3 => intro W hS; go_simp; try (with_reducible rfl)
  simp only [Act.put, List.setIfInBounds_toArray, List.set_cons_zero, List.set_cons_succ]
  refine wpAnyH_done (by kernel_rfl) ?_ _
  have bq := hHeld
  clear hHeld hz3 hz4 hz5 hs_w3 hs_w4 hs_w5 hs_V0 r3 r4 HS
  clear x0 x1 x2 xz
  clear y0 y1 y2 yz
  replace XA := XA.below bq
  replace XB := XB.below bq
  replace B := bel_trans B bq
  clear bq
  obtain ⟨x0, x1, x2, xz⟩ := XA.at3
  go_wp2_with fail
  refine (toHart_any pc st a ca xs _ hxs (HA.out.below B)).mono ?_
  rintro e w6 ⟨vM, rfl, oM, bw6⟩
  clear x0 x1 x2 xz
  obtain ⟨aM, cM, rfl⟩ := owns_slice oM
  have qM := owns_row' oM (by omega)
  clear oM
  replace XA := XA.below bw6
  replace XB := XB.below bw6
  replace B := bel_trans B bw6
  clear bw6
  have bx := bel_alloc (Below.refl w6.heap.size w6) (.cells #[.slice aM xs.length cM, .int .i64 pc, .int .i64 st] 27)
  have XM := Box.new w6 #[.slice aM xs.length cM, .int .i64 pc, .int .i64 st] 27
  replace XA := XA.below bx
  replace XB := XB.below bx
  replace qM := qM.below bx
  replace B := bel_trans B bx
  clear bx
  obtain ⟨x0, x1, x2, xz⟩ := XB.at3
  go_wp2_with fail
  refine (toHart_any pd su b cb ys _ hys (HB.out.below B)).mono ?_
  rintro e w7 ⟨vN, rfl, oN, bw7⟩
  clear x0 x1 x2 xz
  obtain ⟨aN, cN, rfl⟩ := owns_slice oN
  have qN := owns_row' oN (by omega)
  clear oN
  replace XA := XA.below bw7
  replace XB := XB.below bw7
  replace qM := qM.below bw7
  replace XM := XM.below bw7
  replace B := bel_trans B bw7
  clear bw7
  have bx := bel_alloc (Below.refl w7.heap.size w7) (.cells #[.slice aN ys.length cN, .int .i64 pd, .int .i64 su] 27)
  have XN := Box.new w7 #[.slice aN ys.length cN, .int .i64 pd, .int .i64 su] 27
  replace XA := XA.below bx
  replace XB := XB.below bx
  replace qM := qM.below bx
  replace XM := XM.below bx
  replace qN := qN.below bx
  replace B := bel_trans B bx
  clear bx
  obtain ⟨x0, x1, x2, xz⟩ := XM.at3
  obtain ⟨y0, y1, y2, yz⟩ := XN.at3
  go_wp2_with fail
  refine (HI'.out aM aN cM cN _ qM qN).mono ?_
  rintro e w8 ⟨rfl, bw8⟩
  clear x0 x1 x2 xz
  clear y0 y1 y2 yz
  clear HI'
  replace XA := XA.below bw8
  replace XB := XB.below bw8
  replace qM := qM.below bw8
  replace XM := XM.below bw8
  replace qN := qN.below bw8
  replace XN := XN.below bw8
  replace B := bel_trans B bw8
  clear bw8
  obtain ⟨x0, x1, x2, xz⟩ := XA.at3
  obtain ⟨y0, y1, y2, yz⟩ := XM.at3
  go_wp2_with fail
  have bd : Below w8.heap.size w8 w8.drew := below_drewN (Below.refl _ _) 1
  have hR := (HA.out.below B).below bd
  have hQ := qM.below bd
  go_region_held3 (fun W => W.cell? ⟨w.heap.size, 0, none⟩ = some (.slice a xs.length ca) ∧ W.cell? ⟨w.heap.size, 1, none⟩ = some (.int .i64 pc) ∧ W.cell? ⟨w.heap.size, 2, none⟩ = some (.int .i64 st) ∧ W.cell? ⟨w6.heap.size, 0, none⟩ = some (.slice aM xs.length cM) ∧ W.cell? ⟨w6.heap.size, 1, none⟩ = some (.int .i64 pc) ∧ W.cell? ⟨w6.heap.size, 2, none⟩ = some (.int .i64 st))
    (first | (with_reducible exact keep6s b10 ‹_›) | (with_reducible exact keep6s b9 ‹_›) | go_keep)
    (first | (go_at_call 6; refine (toHart_any pc st a ca xs _ hxs hR).mono ?_; rintro e w9 ⟨v9, rfl, o9, b9⟩; obtain ⟨a9, c9, rfl⟩ := owns_slice o9) | (go_at_call 8; refine (eqHart_any pc st aM a9 cM c9 xs _ (hQ.below b9) (owns_row' o9 (by omega))).mono ?_; rintro e w11 ⟨rfl, b10⟩))
  have bq := bel_trans (bel_undrew b9) b10
  clear b9 b10 o9 hR hQ bd
  clear x0 x1 x2 xz
  clear y0 y1 y2 yz
  replace XA := XA.below bq
  replace XB := XB.below bq
  replace qM := qM.below bq
  replace XM := XM.below bq
  replace qN := qN.below bq
  replace XN := XN.below bq
  replace B := bel_trans B bq
  clear bq
  obtain ⟨x0, x1, x2, xz⟩ := XB.at3
  obtain ⟨y0, y1, y2, yz⟩ := XN.at3
  go_wp2_with fail
  have bd : Below w11.heap.size w11 w11.drew := below_drewN (Below.refl _ _) 1
  have hR := (HB.out.below B).below bd
  have hQ := qN.below bd
  go_region_held3 (fun W => W.cell? ⟨w.heap.size + 1, 0, none⟩ = some (.slice b ys.length cb) ∧ W.cell? ⟨w.heap.size + 1, 1, none⟩ = some (.int .i64 pd) ∧ W.cell? ⟨w.heap.size + 1, 2, none⟩ = some (.int .i64 su) ∧ W.cell? ⟨w7.heap.size, 0, none⟩ = some (.slice aN ys.length cN) ∧ W.cell? ⟨w7.heap.size, 1, none⟩ = some (.int .i64 pd) ∧ W.cell? ⟨w7.heap.size, 2, none⟩ = some (.int .i64 su))
    (first | (with_reducible exact keep6s b10 ‹_›) | (with_reducible exact keep6s b9 ‹_›) | go_keep)
    (first | (go_at_call 6; refine (toHart_any pd su b cb ys _ hys hR).mono ?_; rintro e w9 ⟨v9, rfl, o9, b9⟩; obtain ⟨a9, c9, rfl⟩ := owns_slice o9) | (go_at_call 8; refine (eqHart_any pd su aN a9 cN c9 ys _ (hQ.below b9) (owns_row' o9 (by omega))).mono ?_; rintro e w12 ⟨rfl, b10⟩))
  have bq := bel_trans (bel_undrew b9) b10
  clear b9 b10 o9 hR hQ bd
  clear x0 x1 x2 xz
  clear y0 y1 y2 yz
  replace XA := XA.below bq
  replace XB := XB.below bq
  replace qM := qM.below bq
  replace XM := XM.below bq
  replace qN := qN.below bq
  replace XN := XN.below bq
  replace B := bel_trans B bq
  clear bq
  clear XA XB XM XN qM qN
  go_wp2
  go_ret
  exact ⟨rfl, B⟩
end LawFnExactSameHart
end Go.Proofs.Ytllbpkimeadbmaa
