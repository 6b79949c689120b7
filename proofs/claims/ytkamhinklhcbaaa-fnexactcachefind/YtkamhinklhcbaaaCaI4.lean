/- What impl's CacheFind answers. -/
import Derived.Test.YtkamhinklhcbaaaCa1
import Derived.Test.YtkamhinklhcbaaaBkJ
namespace Go.Proofs.Ytkamhinklhcbaaa
open Go.RowKit
set_option linter.unusedVariables false

set_option maxRecDepth 100000 in
set_option maxHeartbeats 1000000 in
theorem tellerOf_any (st : Int) (a : Option Addr) (c n : Nat) (w : World) :
    Calls Try.prog 48 #[.agg #[.int .i64 st, .slice a n c]] w fun e w' => ∃ nb, e = .returned (.func (.func 84) #[] #[.pointer (some ⟨nb, 0, none⟩)]) ∧ Box w' nb #[.int .i64 st, .slice a n c] 27 ∧ Below w.heap.size w w' := by
  have bA := bel_alloc (Below.refl w.heap.size w) (.cells #[.int .i64 st, .slice a n c] 27)
  have XA := Box.new w #[.int .i64 st, .slice a n c] 27
  go_enter Try.func48, Try.ntmps48
  go_wp2
  go_ret
  exact ⟨_, rfl, XA, bA⟩

set_option maxRecDepth 100000 in
set_option maxHeartbeats 1000000 in
theorem teller_any (st : Int) (a : Option Addr) (c n nb : Nat) (d : Nat → XD) (pc : Int) (w : World) (hX : Box w nb #[.int .i64 st, .slice a n c] 27) (ha : IR w a n d) :
    Calls Try.prog 84 #[.int .i64 pc, .pointer (some ⟨nb, 0, none⟩)] w (AtP st n d pc w) := by
  obtain ⟨z, hz⟩ : ∃ z, atB st n d pc = z := ⟨_, rfl⟩
  obtain ⟨y, hy⟩ : ∃ y, atX st n d pc = y := ⟨_, rfl⟩
  have HA : Hid (∀ W, IR W a n d → Calls Try.prog 85 #[.agg #[.int .i64 st, .slice a n c], .int .i64 pc] W fun e w' => e = .returned (.tuple #[.agg (icells y.op y.r y.a y.b y.n), .bool z]) ∧ Below W.heap.size W w') := fun W h => by
    have h1 := implAt_any st a c n d pc W h
    unfold AtP at h1
    rw [hy, hz] at h1
    exact h1
  have HG : Hid (∀ w', Below w.heap.size w w' → AtP st n d pc w (.returned (.tuple #[.agg (icells y.op y.r y.a y.b y.n), .bool z])) w') := fun w' b => by
    unfold AtP
    rw [hy, hz]
    exact ⟨rfl, b⟩
  have bA := bel_alloc (Below.refl w.heap.size w) (.cells (icells 0 0 0 0 0) 38)
  have XR := Box.new w (icells 0 0 0 0 0) 38
  have hX1 := hX.below bA
  have hra := ha.below bA
  obtain ⟨x0, x1, xz⟩ := hX1.at2
  clear hy hz hX ha
  go_enter Try.func84, Try.ntmps84
  go_wp2_with fail
  refine (HA.out _ hra).mono ?_
  rintro e w1 ⟨rfl, b1⟩
  obtain ⟨m0, m1, m2, m3, m4, mz⟩ := (XR.below b1).at5i
  have f0 := (XR.below b1).frozen 0
  have f1 := (XR.below b1).frozen 1
  have f2 := (XR.below b1).frozen 2
  have f3 := (XR.below b1).frozen 3
  have f4 := (XR.below b1).frozen 4
  have B : Hid (Below w.heap.size w w1) := bel_trans bA b1
  clear XR bA b1 hra x0 x1 xz hX1
  go_wp2
  refine bodyPost_ret (v := .tuple #[.agg (icells y.op y.r y.a y.b y.n), .bool z]) (by simp [results, Try.results84, go_sem, m0, m1, m2, m3, m4]) rfl (HG.out _ ?_)
  repeat refine bel_setCell ?_ _ _ ?_
  · exact B.out
  all_goals (simp; try omega)

set_option maxRecDepth 100000 in
set_option maxHeartbeats 4000000 in
theorem implCacheFind_any (a : Option Addr) (c n : Nat) (d : Nat → KD) (p : Nat → Pl) (pc : Int) (w : World) (ha : KR w a n d p) :
    Calls Try.prog 15 #[.slice a n c, .int .i64 pc] w (FndP d pc n w) := by
  have hl : n ≤ 1048577 := ha.1
  have bA := bel_alloc (Below.refl w.heap.size w) (.cells (icells 0 0 0 0 0) 38)
  have XR := Box.new w (icells 0 0 0 0 0) 38
  have HK : Hid (KR w a n d p) := ha
  have H0 : Hid (Below w.heap.size w _ ∧ Box _ w.heap.size (icells 0 0 0 0 0) 38) := ⟨bA, XR⟩
  clear ha bA XR
  go_enter Try.func15, Try.ntmps15
  go_wp2_with fail
  go_loopw [13] (fun i wr => ∃ k : Nat, k ≤ n ∧ i = .int .i64 k ∧ (∀ i, i < k → atK d pc i = false) ∧ Below w.heap.size w wr ∧ Box wr w.heap.size (icells 0 0 0 0 0) 38) (fun i _ => n - (intOf i).toNat)
  case atStart => exact ⟨0, Nat.zero_le _, rfl, fun i hi => absurd hi (Nat.not_lt_zero i), H0.out.1, H0.out.2⟩
  case round =>
    obtain ⟨k, hk, rfl, hE, hB, hX⟩ := hrel
    clear H0
    have HE : Hid (∀ i, i < k → atK d pc i = false) := hE
    have HB : Hid (Below w.heap.size w wr) := hB
    have HX : Hid (Box wr w.heap.size (icells 0 0 0 0 0) 38) := hX
    clear hE
    by_cases hlt : k < n
    · have hi : (k : Int) < (n : Int) := by omega
      have har := HK.out.below hB
      obtain ⟨b, off, rfl, y0, y1⟩ := har.at hlt
      have hrow := har.2.2 k hlt
      obtain ⟨z, hz⟩ : ∃ z, atB (d k).st (d k).n (d k).x pc = z := ⟨_, rfl⟩
      obtain ⟨y, hy⟩ : ∃ y, atX (d k).st (d k).n (d k).x pc = y := ⟨_, rfl⟩
      have HY : Hid (atX (d k).st (d k).n (d k).x pc = y) := hy
      have HZ : Hid (atK d pc k = z) := hz
      have HA : Hid (∀ nb W, Box W nb #[.int .i64 (d k).st, .slice (p k).1 (d k).n (p k).2] 27 → IR W (p k).1 (d k).n (d k).x → Calls Try.prog 84 #[.int .i64 pc, .pointer (some ⟨nb, 0, none⟩)] W fun e w' => e = .returned (.tuple #[.agg (icells y.op y.r y.a y.b y.n), .bool z]) ∧ Below W.heap.size W w') := fun nb W h0 h => by
        have h1 := teller_any (d k).st (p k).1 (p k).2 (d k).n nb (d k).x pc W h0 h
        unfold AtP at h1
        rw [hy, hz] at h1
        exact h1
      have be := bel_alloc (Below.refl wr.heap.size wr) (.cells #[.int .i64 (d k).st, .slice (p k).1 (d k).n (p k).2] 27)
      clear har hB hX hy hz
      go_wp2_with fail
      refine (tellerOf_any (d k).st (p k).1 (p k).2 (d k).n _).mono ?_
      rintro e w0 ⟨nb, rfl, X0, b0⟩
      have B0 := bel_trans be b0
      clear y0 y1
      go_wp2_with fail
      refine (HA.out _ _ X0 (hrow.below B0)).mono ?_
      rintro e w1 ⟨rfl, b1⟩
      replace b1 := bel_trans B0 b1
      have bx := bel_alloc (Below.refl w1.heap.size w1) (.cells (icells y.op y.r y.a y.b y.n) 38)
      have HB2 : Hid (Below w.heap.size w _) := bel_trans (bel_trans HB.out b1) bx
      have HX2 : Hid (Box _ w.heap.size (icells 0 0 0 0 0) 38) := (HX.out.below b1).below bx
      clear X0 b0 B0 be
      cases z
      · have HE2 : Hid (∀ i, i < k + 1 → atK d pc i = false) := fun i hi => by
          by_cases e : i = k
          · subst e; exact HZ.out
          · exact HE.out i (by omega)
        clear b1 bx hrow
        go_wp2
        go_roundw
        case rel => exact ⟨k + 1, by omega, by go_num, HE2.out, HB2.out, HX2.out⟩
        case measure => simp [intOf]; omega
      · have HF : Hid (fnd d pc n = some k) := fnd_some hlt HE.out HZ.out
        obtain ⟨m0, m1, m2, m3, m4, mz⟩ := (HX.out.below b1).at5i
        have f0 := (HX.out.below b1).frozen 0
        have f1 := (HX.out.below b1).frozen 1
        have f2 := (HX.out.below b1).frozen 2
        have f3 := (HX.out.below b1).frozen 3
        have f4 := (HX.out.below b1).frozen 4
        have HB1 : Hid (Below w.heap.size w w1) := bel_trans HB.out b1
        clear b1 bx hrow
        go_wp2
        refine bodyPost_ret (v := .tuple #[.agg (icells y.op y.r y.a y.b y.n), .bool true]) (by simp [results, Try.results15, go_sem, m0, m1, m2, m3, m4, mz]) rfl (fnd_yes HF.out HY.out ?_)
        refine bel_alloc ?_ _
        repeat refine bel_setCell ?_ _ _ ?_
        · exact HB1.out
        all_goals simp
    · have : k = n := by omega
      subst this
      have HF : Hid (fnd d pc k = none) := fnd_none HE.out
      obtain ⟨m0, m1, m2, m3, m4, mz⟩ := hX.at5i
      have f0 := hX.frozen 0
      have f1 := hX.frozen 1
      have f2 := hX.frozen 2
      have f3 := hX.frozen 3
      have f4 := hX.frozen 4
      clear hB hX
      go_wp2
      refine bodyPost_ret (v := .tuple #[.agg (icells 0 0 0 0 0), .bool false]) (by simp [results, Try.results15, go_sem, m0, m1, m2, m3, m4]) rfl (fnd_no HF.out ?_)
      repeat refine bel_setCell ?_ _ _ ?_
      · exact HB.out
      all_goals simp
end Go.Proofs.Ytkamhinklhcbaaa
