/- The law FnExactPurge over any impl.Purge that answers as it should (written by mk11.py). -/
import Derived.Test.YtkamhinklhcbaaaCa3
import Derived.Test.YtkamhinklhcbaaaCaO
import Derived.Test.YtkamhinklhcbaaaBkZ
import Derived.Test.YtkamhinklhcbaaaBkM
namespace Go.Proofs.Ytkamhinklhcbaaa
open Go.ChangeShapes Go.WideShapes Go.ChangeAt Go.RowKit
set_option linter.unusedVariables false

namespace LawFnExactPurge
set_option maxRecDepth 100000 in
set_option maxHeartbeats 8000000 in
theorem walkG (HI : ∀ (a : Option Addr) (c n : Nat) (d : Nat → KD) (p : Nat → Pl) (page : Int) (w : World), KR w a n d p → Calls Try.prog 18 #[.slice a n c, .int .i64 page] w (RowP (purL page d n) w))
    (a : Option Addr) (ca n : Nat) (d : Nat → KD) (p : Nat → Pl) (page : Int) (w : World) (hc : KC w a n d p) (hwf : (Lit.int .i64 page).wf = true) :
    Calls Try.prog 7 #[.slice a n ca, .int .i64 page] w fun e w' => e = .returned (.bool true) ∧ Below w.heap.size w w' := by
  have HI' : Hid (∀ (a : Option Addr) (c : Nat) (p : Nat → Pl) (W : World), KR W a n d p → Calls Try.prog 18 #[.slice a n c, .int .i64 page] W (RowP (purL page d n) W)) := fun a c p W h => HI a c n d p page W h
  have HS : Hid (∀ (a : Option Addr) (c : Nat) (p : Nat → Pl) (W : World), KR W a n d p → Calls Try.prog 21 #[.slice a n c, .int .i64 page] W (RowP (purL page d n) W)) := fun a c p W h => specPurge_any a c n d p page W h
  clear HI
  go_enter Try.func7, Try.ntmps7
  go_wp2_with fail
  refine (szBlockS_tot a ca n d p 1048576 _ (by omega) (by omega) hc).mono ?_
  rintro e w1 ⟨r, rfl, hr0, B⟩
  rcases hr0 with rfl | ⟨r0, r1⟩
  · clear hc HI' HS
    go_wp2
    go_ret
    exact ⟨rfl, B⟩
  obtain ⟨hn, hx⟩ := bkZ_le (n := n) (d := d) (Z := 1048576) (by omega)
  have hd : ¬ (r < 0) := by omega
  have HR : Hid (KR w a n d p) := hc.kr (by omega) (fun i hi => by have := hx i hi; omega)
  clear hc r1
  have hLn := purL_le page d n
  have hLx := purL_n (page := page) hx
  obtain ⟨L, eL⟩ : ∃ L, purL page d n = L := ⟨_, rfl⟩
  rw [eL] at hLn hLx HI' HS
  obtain ⟨m, em⟩ : ∃ m, L.length = m := ⟨_, rfl⟩
  have HM : Hid (L.length = m) := em
  unfold RowP at HI' HS
  rw [em] at hLn hLx HI' HS
  have HLx : Hid (∀ i, i < m → (kd L i).n ≤ 1048576) := hLx
  clear eL em hLx
  have zw := B.size
  go_wp2_with fail
  refine (toBlockS_own a ca n d p _ hn hx (HR.out.below B)).mono ?_
  rintro e w2 ⟨aS, cS, pS, rfl, OS, lS0, bw2⟩
  have KS := KO.kr OS (by omega) (fun i hi => by have := hx i hi; omega)
  clear OS lS0
  replace B := bel_trans B bw2
  clear bw2
  go_wp2_with fail
  refine (HS.out aS cS pS _ KS).mono ?_
  rintro e w3 ⟨aW, cW, pW, rfl, OW, lW0, bw3⟩
  rw [HM.out] at OW lW0
  clear KS
  have lW : Hid (∀ b, RS aW cW m (fun i => QK (pW i)) b → b < w3.heap.size) := fun b hb => Rw.slt OW hb
  clear lW0
  replace B := bel_trans B bw3
  clear bw3
  have z3 := B.size
  go_wp2_with fail
  refine (toBlockS_own a ca n d p _ hn hx (HR.out.below B)).mono ?_
  rintro e w4 ⟨aX, cX, pX, rfl, OX, lX0, bw4⟩
  have lX : Hid (∀ b, RS aX cX n (fun i => QK (pX i)) b → w3.heap.size ≤ b ∧ b < w4.heap.size) := fun b hb => ⟨lX0 b hb, Rw.slt OX hb⟩
  have z34 := bw4.size
  clear lX0
  replace OW := OW.below bw4
  replace B := bel_trans B bw4
  clear bw4
  go_wp2_with fail
  refine (HI'.out aX cX pX _ (KO.kr OX (by omega) (fun i hi => by have := hx i hi; omega))).mono ?_
  rintro e w5 ⟨aG, cG, pG, rfl, OG, lG0, bw5⟩
  rw [HM.out] at OG lG0
  have lG : Hid (∀ b, RS aG cG m (fun i => QK (pG i)) b → w4.heap.size ≤ b ∧ b < w5.heap.size) := fun b hb => ⟨lG0 b hb, Rw.slt OG hb⟩
  have z45 := bw5.size
  clear lG0
  replace OW := OW.below bw5
  replace OX := OX.below bw5
  replace B := bel_trans B bw5
  clear bw5
  go_wp2_with fail
  refine (eqBlockS_any aG aW cG cW m (kd L) pG pW _ (KO.kr OG (by omega) (fun i hi => by have := HLx.out i hi; omega)) (KO.kr OW (by omega) (fun i hi => by have := HLx.out i hi; omega))).mono ?_
  rintro e w6 ⟨rfl, bw6⟩
  replace OW := OW.below bw6
  replace OX := OX.below bw6
  replace OG := OG.below bw6
  replace B := bel_trans B bw6
  clear bw6
  go_wp2_with fail
  refine (toBlockS_own a ca n d p _ hn hx (HR.out.below B)).mono ?_
  rintro e w7 ⟨aE, cE, pE, rfl, OE, lE0, bw7⟩
  clear lE0
  replace OW := OW.below bw7
  replace OX := OX.below bw7
  replace OG := OG.below bw7
  replace B := bel_trans B bw7
  clear bw7
  go_wp2_with fail
  refine (eqBlockS_any aX aE cX cE n d pX pE _ (KO.kr OX (by omega) (fun i hi => by have := hx i hi; omega)) (KO.kr OE (by omega) (fun i hi => by have := hx i hi; omega))).mono ?_
  rintro e w8 ⟨rfl, bw8⟩
  clear OE
  replace OW := OW.below bw8
  replace OX := OX.below bw8
  replace OG := OG.below bw8
  replace B := bel_trans B bw8
  clear bw8
  go_wp2_with fail
  refine (markBlockS_all (fun b => RS aX cX n (fun i => QK (pX i)) b) n aX cX d pX 1 _ (by omega) (by omega) hn hx OX (fun b hb => hb)).mono ?_
  rintro e w9 ⟨rfl, _, k9⟩
  clear OX
  replace OW := Rw.sm OW (k9.sm (fun b hb he => by have := lW.out b hb; have := lX.out b he; omega))
  replace OG := Rw.sm OG (k9.sm (fun b hb he => by have := lG.out b hb; have := lX.out b he; omega))
  replace B := k9.bel B (fun b hb => by have := lX.out b hb; omega)
  clear k9
  have hk1 : decide (kt 1 (fun i => cK (d i)) n < 0) = false := by have h := (kt_le (k0 := 1) (c := fun i => cK (d i)) (C := 5242881) (Nat.le_refl n) (fun i hi => by have := hx i hi; unfold cK; omega)).1; simp; omega
  generalize kt 1 (fun i => cK (d i)) n = kx at hk1 ⊢
  go_wp2_with fail
  refine (eqBlockS_any aG aW cG cW m (kd L) pG pW _ (KO.kr OG (by omega) (fun i hi => by have := HLx.out i hi; omega)) (KO.kr OW (by omega) (fun i hi => by have := HLx.out i hi; omega))).mono ?_
  rintro e w10 ⟨rfl, bw10⟩
  replace OW := OW.below bw10
  replace OG := OG.below bw10
  replace B := bel_trans B bw10
  clear bw10
  go_wp2_with fail
  have HK2 : Hid (1 ≤ kt 1 (fun i => cK (kd L i)) m) := (kt_le (k0 := 1) (c := fun i => cK (kd L i)) (C := 5242881) (Nat.le_refl m) (fun i hi => by have := HLx.out i hi; unfold cK; omega)).1
  refine (markBlockS_all (fun b => RS aG cG m (fun i => QK (pG i)) b) m aG cG (kd L) pG 1 _ (by omega) (by omega) (by omega) HLx.out OG (fun b hb => hb)).mono ?_
  rintro e w11 ⟨rfl, OM, k11⟩
  clear OG
  replace OW := Rw.sm OW (k11.sm (fun b hb he => by have := lW.out b hb; have := lG.out b he; omega))
  replace B := k11.bel B (fun b hb => by have := lG.out b hb; omega)
  clear k11
  have HH : Hid (∀ W, KO W aG cG m (fun i => mK (kt 1 (fun i => cK (kd L i)) i) (kd L i)) pG → Calls Try.prog 35 #[.slice aG m cG, .int .i64 1] W fun e w' => e = .returned (.int .i64 (kt 1 (fun i => cK (kd L i)) m)) ∧ Below W.heap.size W w') := fun W h => heldBlockS_all m aG cG (kd L) pG 1 W (by omega) (by omega) (by omega) HLx.out h
  obtain ⟨kg, hkg⟩ : ∃ q, kt 1 (fun i => cK (kd L i)) m = q := ⟨_, rfl⟩
  rw [hkg] at HH HK2 ⊢
  have hk2 : decide (kg < 0) = false := by have := HK2.out; simp; omega
  clear hkg
  go_wp2_with fail
  refine (HH.out _ OM).mono ?_
  rintro e w12 ⟨rfl, bw12⟩
  replace OW := OW.below bw12
  replace OM := OM.below bw12
  replace B := bel_trans B bw12
  clear bw12
  go_wp2_with fail
  refine (toBlockS_own a ca n d p _ hn hx (HR.out.below B)).mono ?_
  rintro e w13 ⟨aJ, cJ, pJ, rfl, OJ, lJ0, bw13⟩
  have KJ := KO.kr OJ (by omega) (fun i hi => by have := hx i hi; omega)
  clear OJ lJ0
  replace OW := OW.below bw13
  replace OM := OM.below bw13
  replace B := bel_trans B bw13
  clear bw13
  go_wp2_with fail
  refine (HI'.out aJ cJ pJ _ KJ).mono ?_
  rintro e w14 ⟨aH, cH, pH, rfl, OH, _, bw14⟩
  rw [HM.out] at OH
  clear KJ
  replace OW := OW.below bw14
  replace OM := OM.below bw14
  replace B := bel_trans B bw14
  clear bw14
  go_wp2_with fail
  refine (eqBlockS_any aH aW cH cW m (kd L) pH pW _ (KO.kr OH (by omega) (fun i hi => by have := HLx.out i hi; omega)) (KO.kr OW (by omega) (fun i hi => by have := HLx.out i hi; omega))).mono ?_
  rintro e w15 ⟨rfl, bw15⟩
  replace OW := OW.below bw15
  replace OM := OM.below bw15
  replace OH := OH.below bw15
  replace B := bel_trans B bw15
  clear bw15
  go_wp2_with fail
  refine (HH.out _ OM).mono ?_
  rintro e w16 ⟨rfl, bw16⟩
  replace OW := OW.below bw16
  replace OM := OM.below bw16
  replace OH := OH.below bw16
  replace B := bel_trans B bw16
  clear bw16
  clear OW OM OH
  go_wp2
  go_ret
  exact ⟨rfl, B⟩
end LawFnExactPurge
end Go.Proofs.Ytkamhinklhcbaaa
