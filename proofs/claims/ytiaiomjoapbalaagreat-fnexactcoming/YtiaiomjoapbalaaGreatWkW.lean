/- What the law's markWorld does at any owned world that is not too great. -/
import Derived.Test.YtiaiomjoapbalaaGreatWkM
import Derived.Test.YtiaiomjoapbalaaGreatWzT
namespace Go.Proofs.YtiaiomjoapbalaaGreat
open Go.RowKit
set_option linter.unusedVariables false

theorem sumN_le8 {c c' : Nat → Nat} : ∀ {n : Nat}, (∀ i, i < n → c i ≤ 8 + 8 * c' i) → sumN c n ≤ 8 * n + 8 * sumN c' n
  | 0, _ => by simp [sumN]
  | n + 1, h => by
    have h1 := sumN_le8 (c := c) (c' := c') (n := n) (fun i hi => h i (by omega))
    have h2 := h n (by omega)
    simp only [sumN]
    omega
theorem mlen_eq (ms : List M) : mlen ms = 3 * ms.length + ySum (ms.map M.say) := by
  induction ms with
  | nil => simp [mlen, ySum]
  | cons m ms ih =>
    simp only [mlen, List.length_cons, List.map_cons, ySum, List.sum_cons, M.say] at ih ⊢
    omega
theorem cNd_le8 {d : ND} {p : NP} (he : ∀ i, i < d.no → (p.ms i).map M.say = d.y i) : cNd d p ≤ 8 + 8 * nZ d := by
  have h1 := sumN_le8 (c := fun i => cF (d.f i)) (c' := fun i => fZ (d.f i)) (n := d.nf) (fun i hi => by simp only [cF, fZ]; omega)
  have h2 := sumN_le8 (c := fun i => cH (d.h i)) (c' := fun i => hZ (d.h i)) (n := d.nh) (fun i hi => by simp only [cH, hZ]; omega)
  have h3 := sumN_le8 (c := fun i => cS (p.ms i)) (c' := fun i => sZ (d.y i)) (n := d.no) (fun i hi => by
    have h4 := mlen_eq (p.ms i)
    have h5 := congrArg List.length (he i hi)
    rw [List.length_map] at h5
    rw [he i hi] at h4
    simp only [cS, sZ]
    omega)
  unfold cNd nZ
  omega

set_option maxRecDepth 100000 in
set_option maxHeartbeats 2000000 in
theorem markWorld_gen (d : WoD) (p : WoP) (w : World) (hz : wZ d ≤ 1048576) (hO : WoO w d p) :
    Calls Tryz.prog 11 #[.agg (wcells d p), .int .i64 1] w fun e w' => ∃ K, e = .returned (.int .i64 K) ∧ 0 ≤ K ∧ Only w w' (WBs d p) := by
  have bA := bel_alloc (Below.refl w.heap.size w) (.cells (wcells d p) 32)
  have X := Box.new w (wcells d p) 32
  have HL : Hid (∀ b, WBs d p b → b < w.heap.size) := fun b hb => hO.lt hb
  have s := wZ_sm hz
  have HS : Hid (Wsm d) := s
  have c1 := sumN_le8 (c := fun i => cNd (d.d i) (p.np i)) (c' := fun i => nZ (d.d i)) (n := d.nn) (fun i hi => cNd_le8 (hO.n.el i hi).e)
  have c2 := sumN_le8 (c := fun i => cPk (d.k i)) (c' := fun i => kZ (d.k i)) (n := d.nk) (fun i hi => by simp only [cPk, kZ]; omega)
  have HC : Hid (sumN (fun i => cNd (d.d i) (p.np i)) d.nn + sumN (fun i => cPk (d.k i)) d.nk ≤ 8388608) := by
    show _ ≤ _
    unfold wZ at hz
    omega
  have HM : Hid (∀ i, i < d.nn → Nmk (d.d i) (p.np i)) := fun i hi => ⟨s.n.2 i hi, (hO.n.el i hi).msm (s.n.2 i hi)⟩
  have HNK : Hid _ := hO.nk
  have hO1 := hO.below bA
  clear c1 c2 s hO hz
  have hn := HS.out.n.1
  have hk := HS.out.k.1
  go_enter Tryz.func11, Tryz.ntmps11
  go_wp2_with fail
  refine (markNodeS_gen d.nn p.n.1 p.n.2 d.d p.np 1 _ (by omega) (by have := HC.out; omega) hn HM.out hO1.n).mono ?_
  rintro e w1 ⟨rfl, q1, k1⟩
  have X1 := X.only k1 (fun hb => by have := HL.out _ (.inl hb); omega)
  have qk := Rw.sm hO1.k (k1.sm (fun b hb hs => HNK.out b hs hb))
  obtain ⟨x0, x1, x2, xz⟩ := X1.at3
  obtain ⟨K, hKe⟩ : ∃ K, kt 1 (fun i => cNd (d.d i) (p.np i)) d.nn = K := ⟨_, rfl⟩
  have HK : Hid (1 ≤ K ∧ K + (sumN (fun i => cPk (d.k i)) d.nk : Nat) ≤ 1000000000000000) := by
    have h1 := HC.out
    have h2 : kt 1 (fun i => cNd (d.d i) (p.np i)) d.nn = 1 + (sumN (fun i => cNd (d.d i) (p.np i)) d.nn : Nat) := rfl
    rw [hKe] at h2
    show _ ∧ _
    omega
  rw [hKe]
  have G1 : Hid (Only w w1 (WBs d p)) := Only.of bA (k1.more (fun b hb => .inl hb))
  clear hKe q1 k1 X X1 bA hO1
  go_wp2_with fail
  refine (markPacketS_gen d.nk p.k.1 p.k.2 d.k p.kp K _ (by have := HK.out; omega) HK.out.2 HS.out.k.2 hk qk).mono ?_
  rintro e w2 ⟨rfl, q2, k2⟩
  have G2 : Hid (Only w w2 (WBs d p)) := G1.out.trans (k2.more (fun b hb => .inr hb))
  have HK2 : Hid (0 ≤ kt K (fun i => cPk (d.k i)) d.nk) := by
    have h1 := HK.out
    show _ ≤ _
    unfold kt
    omega
  obtain ⟨K2, hK2⟩ : ∃ K2, kt K (fun i => cPk (d.k i)) d.nk = K2 := ⟨_, rfl⟩
  rw [hK2]
  rw [hK2] at HK2
  clear hK2 q2 k2 qk x0 x1 x2 xz
  go_wp2
  go_ret
  exact ⟨_, rfl, HK2.out, G2.out⟩
end Go.Proofs.YtiaiomjoapbalaaGreat
