/- The law FnExactCacheFind over any impl.CacheFind that answers as it should (written by mk11.py). -/
import Derived.Test.YtkamhinklhcbaaaCa1
import Derived.Test.YtkamhinklhcbaaaBkZ
import Derived.Test.YtkamhinklhcbaaaIn8L
namespace Go.Proofs.Ytkamhinklhcbaaa
open Go.ChangeShapes Go.WideShapes Go.ChangeAt Go.RowKit
set_option linter.unusedVariables false

namespace LawFnExactCacheFind
set_option maxRecDepth 100000 in
set_option maxHeartbeats 8000000 in
theorem walkG (HI : ∀ (a : Option Addr) (c n : Nat) (d : Nat → KD) (p : Nat → Pl) (pc : Int) (w : World), KR w a n d p → Calls Try.prog 15 #[.slice a n c, .int .i64 pc] w (FndP d pc n w))
    (a : Option Addr) (ca n : Nat) (d : Nat → KD) (p : Nat → Pl) (pc : Int) (w : World) (hc : KC w a n d p) (hwf : (Lit.int .i64 pc).wf = true) :
    Calls Try.prog 5 #[.slice a n ca, .int .i64 pc] w fun e w' => e = .returned (.bool true) ∧ Below w.heap.size w w' := by
  have HI' : Hid (∀ (a : Option Addr) (c : Nat) (p : Nat → Pl) (W : World), KR W a n d p → Calls Try.prog 15 #[.slice a n c, .int .i64 pc] W (FndP d pc n W)) := fun a c p W h => HI a c n d p pc W h
  have HS : Hid (∀ (a : Option Addr) (c : Nat) (p : Nat → Pl) (W : World), KR W a n d p → Calls Try.prog 16 #[.slice a n c, .int .i64 pc] W (FndP d pc n W)) := fun a c p W h => specCacheFind_any a c n d p pc W h
  clear HI
  unfold FndP at HI' HS
  obtain ⟨y, hy⟩ : ∃ y, fndX d pc (fnd d pc n) = y := ⟨_, rfl⟩
  obtain ⟨z, hz⟩ : ∃ z, (fnd d pc n).isSome = z := ⟨_, rfl⟩
  rw [hy, hz] at HI' HS
  clear hy hz
  obtain ⟨yo, yr, ya, yb, yn⟩ := y
  go_enter Try.func5, Try.ntmps5
  go_wp2_with fail
  refine (szBlockS_tot a ca n d p 1048576 _ (by omega) (by omega) hc).mono ?_
  rintro e w1 ⟨r, rfl, hr0, B⟩
  rcases hr0 with rfl | ⟨r0, r1⟩
  · clear hc HI' HS
    go_wp2
    go_ret
    exact ⟨rfl, B⟩
  obtain ⟨hn, hx⟩ := bkZ_le (n := n) (d := d) (Z := 1048576) (by omega)
  have hd : ¬ (r < 0) := by omega
  have hr := (hc.kr (by omega) (fun i hi => by have := hx i hi; omega)).below B
  clear hc r1
  go_wp2_with fail
  refine (toBlockS_own a ca n d p _ hn hx hr).mono ?_
  rintro e w2 ⟨aS, cS, pS, rfl, OS, _, bw2⟩
  have RS := OS.kr (by omega) (fun i hi => by have := hx i hi; omega)
  clear OS
  replace hr := hr.below bw2
  replace B := bel_trans B bw2
  clear bw2
  go_wp2_with fail
  refine (HS.out aS cS pS _ RS).mono ?_
  rintro e w3 ⟨rfl, bw3⟩
  clear RS
  replace hr := hr.below bw3
  replace B := bel_trans B bw3
  clear bw3
  go_wp2_with fail
  have bx := bel_alloc (Below.refl w3.heap.size w3) (.cells (icells yo yr ya yb yn) 38)
  have XY := Box.new w3 (icells yo yr ya yb yn) 38
  replace hr := hr.below bx
  replace B := bel_trans B bx
  clear bx
  refine (toBlockS_own a ca n d p _ hn hx hr).mono ?_
  rintro e w4 ⟨aX, cX, pX, rfl, OX, _, bw4⟩
  have RX := OX.kr (by omega) (fun i hi => by have := hx i hi; omega)
  clear OX
  replace hr := hr.below bw4
  replace XY := XY.below bw4
  replace B := bel_trans B bw4
  clear bw4
  go_wp2_with fail
  refine (HI'.out aX cX pX _ RX).mono ?_
  rintro e w5 ⟨rfl, bw5⟩
  replace hr := hr.below bw5
  replace XY := XY.below bw5
  replace RX := RX.below bw5
  replace B := bel_trans B bw5
  clear bw5
  obtain ⟨y0, y1, y2, y3, y4, yz⟩ := XY.at5i
  go_wp2_with fail
  have bx := bel_alloc (Below.refl w5.heap.size w5) (.cells (icells yo yr ya yb yn) 38)
  clear y0 y1 y2 y3 y4 yz XY
  replace hr := hr.below bx
  replace RX := RX.below bx
  replace B := bel_trans B bx
  clear bx
  refine (eqIns_any yo yr ya yb yn _).mono ?_
  rintro e w6 ⟨rfl, bw6⟩
  replace hr := hr.below bw6
  replace RX := RX.below bw6
  replace B := bel_trans B bw6
  clear bw6
  go_wp2_with fail
  refine (toBlockS_own a ca n d p _ hn hx hr).mono ?_
  rintro e w7 ⟨aE, cE, pE, rfl, OE, _, bw7⟩
  have RE := OE.kr (by omega) (fun i hi => by have := hx i hi; omega)
  clear OE
  replace hr := hr.below bw7
  replace RX := RX.below bw7
  replace B := bel_trans B bw7
  clear bw7
  go_wp2_with fail
  refine (eqBlockS_any aX aE cX cE n d pX pE _ RX RE).mono ?_
  rintro e w8 ⟨rfl, bw8⟩
  clear RX RE hr
  replace B := bel_trans B bw8
  clear bw8
  go_wp2
  go_ret
  exact ⟨rfl, B⟩
end LawFnExactCacheFind
end Go.Proofs.Ytkamhinklhcbaaa
