/- What the specification's CacheFind answers. -/
import Derived.Test.YtkamhinklhcbaaaBkR
import Derived.Test.YtkamhinklhcbaaaBk4
namespace Go.Proofs.Ytkamhinklhcbaaa
open Go.RowKit
set_option linter.unusedVariables false

def atK (d : Nat → KD) (pc : Int) (i : Nat) : Bool := atB (d i).st (d i).n (d i).x pc
def fnd (d : Nat → KD) (pc : Int) (n : Nat) : Option Nat := (List.range n).find? (atK d pc)
def fndX (d : Nat → KD) (pc : Int) (o : Option Nat) : XD := match o with | some i => atX (d i).st (d i).n (d i).x pc | none => ⟨0, 0, 0, 0, 0⟩
theorem fnd_some {d : Nat → KD} {pc : Int} {n k : Nat} (hk : k < n) (h : ∀ i, i < k → atK d pc i = false) (hy : atK d pc k = true) : fnd d pc n = some k := by
  unfold fnd
  rw [List.find?_range_eq_some]
  exact ⟨hy, by simpa using hk, fun j hj => by rw [h j hj]; rfl⟩
theorem fnd_none {d : Nat → KD} {pc : Int} {n : Nat} (h : ∀ i, i < n → atK d pc i = false) : fnd d pc n = none := by
  unfold fnd
  rw [List.find?_eq_none]
  intro x hx
  rw [h x (by simpa using hx)]
  simp
/-- What CacheFind answers. -/
def FndP (d : Nat → KD) (pc : Int) (n : Nat) (w : World) (e : Ending) (w' : World) : Prop :=
  e = .returned (.tuple #[.agg (icells (fndX d pc (fnd d pc n)).op (fndX d pc (fnd d pc n)).r (fndX d pc (fnd d pc n)).a (fndX d pc (fnd d pc n)).b (fndX d pc (fnd d pc n)).n), .bool (fnd d pc n).isSome]) ∧ Below w.heap.size w w'
theorem fnd_yes {d : Nat → KD} {pc : Int} {n k : Nat} (hf : fnd d pc n = some k) {y : XD} (hy : atX (d k).st (d k).n (d k).x pc = y) {w w' : World} (b : Below w.heap.size w w') : FndP d pc n w (.returned (.tuple #[.agg (icells y.op y.r y.a y.b y.n), .bool true])) w' := by
  subst hy
  unfold FndP fndX
  rw [hf]
  exact ⟨rfl, b⟩
theorem fnd_no {d : Nat → KD} {pc : Int} {n : Nat} (hf : fnd d pc n = none) {w w' : World} (b : Below w.heap.size w w') : FndP d pc n w (.returned (.tuple #[.agg (icells 0 0 0 0 0), .bool false])) w' := by
  unfold FndP fndX
  rw [hf]
  exact ⟨rfl, b⟩

set_option maxRecDepth 100000 in
set_option maxHeartbeats 4000000 in
theorem specCacheFind_any (a : Option Addr) (c n : Nat) (d : Nat → KD) (p : Nat → Pl) (pc : Int) (w : World) (ha : KR w a n d p) :
    Calls Try.prog 16 #[.slice a n c, .int .i64 pc] w (FndP d pc n w) := by
  have hl : n ≤ 1048577 := ha.1
  have bA := bel_alloc (Below.refl w.heap.size w) (.cells (icells 0 0 0 0 0) 38)
  have XR := Box.new w (icells 0 0 0 0 0) 38
  have HK : Hid (KR w a n d p) := ha
  have H0 : Hid (Below w.heap.size w _ ∧ Box _ w.heap.size (icells 0 0 0 0 0) 38) := ⟨bA, XR⟩
  clear ha bA XR
  go_enter Try.func16, Try.ntmps16
  go_wp2_with fail
  go_loopw [6] (fun i wr => ∃ k : Nat, k ≤ n ∧ i = .int .i64 k ∧ (∀ i, i < k → atK d pc i = false) ∧ Below w.heap.size w wr ∧ Box wr w.heap.size (icells 0 0 0 0 0) 38) (fun i _ => n - (intOf i).toNat)
  case atStart => exact ⟨0, Nat.zero_le _, rfl, fun i hi => absurd hi (Nat.not_lt_zero i), H0.out.1, H0.out.2⟩
  case round =>
    obtain ⟨k, hk, rfl, hE, hB, hX⟩ := hrel
    clear H0
    have HE : Hid (∀ i, i < k → atK d pc i = false) := hE
    have HB : Hid (Below w.heap.size w wr) := hB
    have HX : Hid (Box wr w.heap.size (icells 0 0 0 0 0) 38) := hX
    clear hE
    by_cases hlt : k < n
    · have hi : (k : Int) < (n : Int) := by omega
      have har := HK.out.below hB
      obtain ⟨b, off, rfl, y0, y1⟩ := har.at hlt
      have hrow := har.2.2 k hlt
      obtain ⟨z, hz⟩ : ∃ z, atB (d k).st (d k).n (d k).x pc = z := ⟨_, rfl⟩
      obtain ⟨y, hy⟩ : ∃ y, atX (d k).st (d k).n (d k).x pc = y := ⟨_, rfl⟩
      have HY : Hid (atX (d k).st (d k).n (d k).x pc = y) := hy
      have HZ : Hid (atK d pc k = z) := hz
      have HA : Hid (∀ W, IR W (p k).1 (d k).n (d k).x → Calls Try.prog 49 #[.agg #[.int .i64 (d k).st, .slice (p k).1 (d k).n (p k).2], .int .i64 pc] W fun e w' => e = .returned (.tuple #[.agg (icells y.op y.r y.a y.b y.n), .bool z]) ∧ Below W.heap.size W w') := fun W h => by
        have h1 := specAt_any (d k).st (p k).1 (p k).2 (d k).n (d k).x pc W h
        unfold AtP at h1
        rw [hy, hz] at h1
        exact h1
      clear har hB hX hy hz
      go_wp2_with fail
      refine (HA.out _ hrow).mono ?_
      rintro e w1 ⟨rfl, b1⟩
      have bx := bel_alloc (Below.refl w1.heap.size w1) (.cells (icells y.op y.r y.a y.b y.n) 38)
      have HB2 : Hid (Below w.heap.size w _) := bel_trans (bel_trans HB.out b1) bx
      have HX2 : Hid (Box _ w.heap.size (icells 0 0 0 0 0) 38) := (HX.out.below b1).below bx
      cases z
      · have HE2 : Hid (∀ i, i < k + 1 → atK d pc i = false) := fun i hi => by
          by_cases e : i = k
          · subst e; exact HZ.out
          · exact HE.out i (by omega)
        clear b1 bx hrow y0 y1
        go_wp2
        go_roundw
        case rel => exact ⟨k + 1, by omega, by go_num, HE2.out, HB2.out, HX2.out⟩
        case measure => simp [intOf]; omega
      · have HF : Hid (fnd d pc n = some k) := fnd_some hlt HE.out HZ.out
        obtain ⟨m0, m1, m2, m3, m4, mz⟩ := (HX.out.below b1).at5i
        have f0 := (HX.out.below b1).frozen 0
        have f1 := (HX.out.below b1).frozen 1
        have f2 := (HX.out.below b1).frozen 2
        have f3 := (HX.out.below b1).frozen 3
        have f4 := (HX.out.below b1).frozen 4
        have HB1 : Hid (Below w.heap.size w w1) := bel_trans HB.out b1
        clear b1 bx hrow y0 y1
        go_wp2
        refine bodyPost_ret (v := .tuple #[.agg (icells y.op y.r y.a y.b y.n), .bool true]) (by simp [results, Try.results16, go_sem, m0, m1, m2, m3, m4, mz]) rfl (fnd_yes HF.out HY.out ?_)
        refine bel_alloc ?_ _
        repeat refine bel_setCell ?_ _ _ ?_
        · exact HB1.out
        all_goals simp
    · have : k = n := by omega
      subst this
      have HF : Hid (fnd d pc k = none) := fnd_none HE.out
      obtain ⟨m0, m1, m2, m3, m4, mz⟩ := hX.at5i
      have f0 := hX.frozen 0
      have f1 := hX.frozen 1
      have f2 := hX.frozen 2
      have f3 := hX.frozen 3
      have f4 := hX.frozen 4
      clear hB hX
      go_wp2
      refine bodyPost_ret (v := .tuple #[.agg (icells 0 0 0 0 0), .bool false]) (by simp [results, Try.results16, go_sem, m0, m1, m2, m3, m4]) rfl (fnd_no HF.out ?_)
      repeat refine bel_setCell ?_ _ _ ?_
      · exact HB.out
      all_goals simp
end Go.Proofs.Ytkamhinklhcbaaa
