/- The law FnExactCacheOk over any impl.CacheOk that answers as it should (written by mk11.py). -/
import Derived.Test.YtkamhinklhcbaaaCa6
import Derived.Test.YtkamhinklhcbaaaBkZ
namespace Go.Proofs.Ytkamhinklhcbaaa
open Go.ChangeShapes Go.WideShapes Go.ChangeAt Go.RowKit
set_option linter.unusedVariables false

namespace LawFnExactCacheOk
set_option maxRecDepth 100000 in
set_option maxHeartbeats 8000000 in
theorem walkG (HI : ∀ (a : Option Addr) (c n : Nat) (d : Nat → KD) (p : Nat → Pl) (f : Option Addr) (cf nf : Nat) (F : Nat → FD) (pf : Nat → Pl) (w : World), KR w a n d p → FR w f nf F pf → Calls Try.prog 19 #[.slice a n c, .slice f nf cf] w fun e w' => e = .returned (.bool (cacheB n d nf F)) ∧ Below w.heap.size w w')
    (a : Option Addr) (ca n : Nat) (d : Nat → KD) (p : Nat → Pl) (f : Option Addr) (cf nf : Nat) (F : Nat → FD) (pf : Nat → Pl) (w : World) (hc : KC w a n d p) (hcf : FC w f nf F pf) :
    Calls Try.prog 4 #[.slice a n ca, .slice f nf cf] w fun e w' => e = .returned (.bool true) ∧ Below w.heap.size w w' := by
  have HI' : Hid (∀ (a : Option Addr) (c : Nat) (p : Nat → Pl) (f : Option Addr) (cf : Nat) (pf : Nat → Pl) (W : World), KR W a n d p → FR W f nf F pf → Calls Try.prog 19 #[.slice a n c, .slice f nf cf] W fun e w' => e = .returned (.bool (cacheB n d nf F)) ∧ Below W.heap.size W w') := fun a c p f cf pf W h1 h2 => HI a c n d p f cf nf F pf W h1 h2
  have HS : Hid (∀ (a : Option Addr) (c : Nat) (p : Nat → Pl) (f : Option Addr) (cf : Nat) (pf : Nat → Pl) (W : World), KR W a n d p → FR W f nf F pf → Calls Try.prog 20 #[.slice a n c, .slice f nf cf] W fun e w' => e = .returned (.bool (cacheB n d nf F)) ∧ Below W.heap.size W w') := fun a c p f cf pf W h1 h2 => specCacheOk_any a c n d p f cf nf F pf W h1 h2
  clear HI
  obtain ⟨z, hz⟩ : ∃ z, cacheB n d nf F = z := ⟨_, rfl⟩
  rw [hz] at HI' HS
  clear hz
  go_enter Try.func4, Try.ntmps4
  go_wp2_with fail
  refine (szBlockS_tot a ca n d p 1048576 _ (by omega) (by omega) hc).mono ?_
  rintro e w1 ⟨r, rfl, hr0, B⟩
  rcases hr0 with rfl | ⟨r0, r1⟩
  · clear hc hcf HI' HS
    go_wp2
    go_ret
    exact ⟨rfl, B⟩
  obtain ⟨hn, hx⟩ := bkZ_le (n := n) (d := d) (Z := 1048576) (by omega)
  have hd : ¬ (r < 0) := by omega
  have hr1 : r ≤ 1048576 := by omega
  have hr := (hc.kr (by omega) (fun i hi => by have := hx i hi; omega)).below B
  replace hcf := hcf.below B
  clear hc r1
  go_wp2_with fail
  refine (szFrameS_tot f cf nf F pf r _ r0 hr1 hcf).mono ?_
  rintro e w2 ⟨q, rfl, hq0, bw2⟩
  replace hr := hr.below bw2
  replace hcf := hcf.below bw2
  replace B := bel_trans B bw2
  clear bw2
  rcases hq0 with rfl | ⟨q0, q1⟩
  · clear hr hcf HI' HS
    go_wp2
    go_ret
    exact ⟨rfl, B⟩
  obtain ⟨hnf, hxf⟩ : nf ≤ 1048576 ∧ ∀ i, i < nf → (F i).xs.length ≤ 1048576 := ⟨by omega, fun i hi => by have := le_sumN (c := fun i => fZ (F i)) hi; simp only [fZ] at this q1; omega⟩
  have hd2 : ¬ (q < 0) := by omega
  have hrf := hcf.fr (by omega) hxf
  clear hcf q1
  go_wp2_with fail
  refine (toBlockS_own a ca n d p _ hn hx hr).mono ?_
  rintro e w3 ⟨aS, cS, pS, rfl, OS, _, bw3⟩
  have RS := OS.kr (by omega) (fun i hi => by have := hx i hi; omega)
  clear OS
  replace hr := hr.below bw3
  replace hrf := hrf.below bw3
  replace B := bel_trans B bw3
  clear bw3
  go_wp2_with fail
  refine (toFrameS_own f cf nf F pf _ hnf hxf hrf).mono ?_
  rintro e w4 ⟨aT, cT, pT, rfl, OT, _, bw4⟩
  have RT := OT.fr (by omega) (fun i hi => by have := hxf i hi; omega)
  clear OT
  replace hr := hr.below bw4
  replace hrf := hrf.below bw4
  replace RS := RS.below bw4
  replace B := bel_trans B bw4
  clear bw4
  go_wp2_with fail
  refine (HS.out aS cS pS aT cT pT _ RS RT).mono ?_
  rintro e w5 ⟨rfl, bw5⟩
  clear RS RT
  replace hr := hr.below bw5
  replace hrf := hrf.below bw5
  replace B := bel_trans B bw5
  clear bw5
  go_wp2_with fail
  refine (toBlockS_own a ca n d p _ hn hx hr).mono ?_
  rintro e w6 ⟨aX, cX, pX, rfl, OX, _, bw6⟩
  have RX := OX.kr (by omega) (fun i hi => by have := hx i hi; omega)
  clear OX
  replace hr := hr.below bw6
  replace hrf := hrf.below bw6
  replace B := bel_trans B bw6
  clear bw6
  go_wp2_with fail
  refine (toFrameS_own f cf nf F pf _ hnf hxf hrf).mono ?_
  rintro e w7 ⟨aY, cY, pY, rfl, OY, _, bw7⟩
  have RY := OY.fr (by omega) (fun i hi => by have := hxf i hi; omega)
  clear OY
  replace hr := hr.below bw7
  replace hrf := hrf.below bw7
  replace RX := RX.below bw7
  replace B := bel_trans B bw7
  clear bw7
  go_wp2_with fail
  refine (HI'.out aX cX pX aY cY pY _ RX RY).mono ?_
  rintro e w8 ⟨rfl, bw8⟩
  replace hr := hr.below bw8
  replace hrf := hrf.below bw8
  replace RX := RX.below bw8
  replace RY := RY.below bw8
  replace B := bel_trans B bw8
  clear bw8
  go_wp2_with fail
  refine (toBlockS_own a ca n d p _ hn hx hr).mono ?_
  rintro e w9 ⟨aE, cE, pE, rfl, OE, _, bw9⟩
  have RE := OE.kr (by omega) (fun i hi => by have := hx i hi; omega)
  clear OE
  replace hr := hr.below bw9
  replace hrf := hrf.below bw9
  replace RX := RX.below bw9
  replace RY := RY.below bw9
  replace B := bel_trans B bw9
  clear bw9
  go_wp2_with fail
  refine (eqBlockS_any aX aE cX cE n d pX pE _ RX RE).mono ?_
  rintro e w10 ⟨rfl, bw10⟩
  clear RX RE
  replace hr := hr.below bw10
  replace hrf := hrf.below bw10
  replace RY := RY.below bw10
  replace B := bel_trans B bw10
  clear bw10
  go_wp2_with fail
  refine (toFrameS_own f cf nf F pf _ hnf hxf hrf).mono ?_
  rintro e w11 ⟨aG, cG, pG, rfl, OG, _, bw11⟩
  have RG := OG.fr (by omega) (fun i hi => by have := hxf i hi; omega)
  clear OG
  replace hr := hr.below bw11
  replace hrf := hrf.below bw11
  replace RY := RY.below bw11
  replace B := bel_trans B bw11
  clear bw11
  go_wp2_with fail
  refine (eqFrameS_any aY aG cY cG nf F pY pG _ RY RG).mono ?_
  rintro e w12 ⟨rfl, bw12⟩
  clear RY RG hr hrf
  replace B := bel_trans B bw12
  clear bw12
  go_wp2
  go_ret
  exact ⟨rfl, B⟩
end LawFnExactCacheOk
end Go.Proofs.Ytkamhinklhcbaaa
