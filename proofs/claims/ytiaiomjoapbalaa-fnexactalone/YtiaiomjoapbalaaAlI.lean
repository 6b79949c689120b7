/- What impl.Alone answers. -/
import Derived.Test.YtiaiomjoapbalaaTrA
import Derived.Test.YtiaiomjoapbalaaPgI
import Derived.Test.YtiaiomjoapbalaaWoI
namespace Go.Proofs.Ytiaiomjoapbalaa
open Go.RowKit
set_option linter.unusedVariables false

theorem state_of {d : FD} (h : frB d = true) : d.s = 0 ∨ d.s = 1 ∨ d.s = 2 := by
  unfold frB frameOkB at h
  by_cases e : d.s = 0
  · exact .inl e
  · have e2 : (d.s == 0) = false := by simpa using e
    rw [e2] at h
    simp only [Bool.false_eq_true, if_false, Bool.and_eq_true, decide_eq_true_eq] at h
    omega

theorem writeN_le (d : WoD) (pg k : Nat) : writeN d pg k ≤ haveN d pg k := by
  unfold writeN haveN
  induction k with
  | zero => exact Nat.le_refl _
  | succ k ih =>
    simp only [sumN]
    refine Nat.add_le_add ih ?_
    by_cases h : ((d.d k).f pg).s = 2
    · simp [h, bit]
    · simp [h, bit]

set_option maxRecDepth 100000 in
set_option maxHeartbeats 4000000 in
theorem isAlone_in (d : WoD) (p : WoP) (pg : Nat) (w : World) (hR : WoR w d p) (hok : WOk d) (hp : pg < 6) :
    Calls Try.prog 18 #[.agg (wcells d p), .int .i64 (pg : Int)] w fun e w' => e = .returned (.bool (aloneB d pg)) ∧ Below w.heap.size w w' := by
  obtain ⟨size, nn, D, nk, K⟩ := d
  obtain ⟨⟨pn, cn⟩, np, ⟨pk, ck⟩, kp⟩ := p
  have hsz : size = (nn : Int) := hok.n.1
  have hn4 : nn ≤ 4 := hok.n.2.2
  subst hsz
  have HOK : Hid (WOk ⟨nn, nn, D, nk, K⟩) := hok
  have B := bel_alloc (Below.refl w.heap.size w) (.cells #[.int .i64 (nn : Int), .slice pn nn cn, .slice pk nk ck] 31)
  have X := Box.new w #[.int .i64 (nn : Int), .slice pn nn cn, .slice pk nk ck] 31
  have hN : NsR _ pn nn D np := (hR.below B).n
  obtain ⟨W0, hW0⟩ : ∃ W0, w.alloc (.cells #[.int .i64 (nn : Int), .slice pn nn cn, .slice pk nk ck] 31) = W0 := ⟨_, rfl⟩
  rw [hW0] at B X hN
  have HN : Hid (NsR W0 pn nn D np) := hN
  have HB : Hid (Below w.heap.size w W0) := B
  have hp6 : (pg : Int) < 6 := by omega
  obtain ⟨x0, x1, x2, xz⟩ := X.at3
  clear hok hR hN X B
  go_enter Try.func18, Try.ntmps18
  go_wp2_with fail
  go_loopw [5, 6, 12] (fun a b i wr => ∃ k hv wv : Nat, k ≤ nn ∧ i = .int .i64 k ∧ a = .int .i64 hv ∧ b = .int .i64 wv ∧ haveN ⟨nn, nn, D, nk, K⟩ pg k = hv ∧ writeN ⟨nn, nn, D, nk, K⟩ pg k = wv ∧ Below W0.heap.size W0 wr) (fun _ _ i _ => nn - (intOf i).toNat)
  case atStart => exact ⟨0, 0, 0, Nat.zero_le _, rfl, rfl, rfl, rfl, rfl, by first | exact Below.refl _ _ | (rw [hW0]; exact Below.refl _ _)⟩
  case round =>
    obtain ⟨k, hv, wv, hk, rfl, rfl, rfl, eh, ew, hBr⟩ := hrel
    have hle := haveN_le ⟨nn, nn, D, nk, K⟩ pg k
    rw [eh, ew] at hle
    obtain ⟨hle1, hle2⟩ := hle
    have EH : Hid (haveN ⟨nn, nn, D, nk, K⟩ pg k = hv ∧ writeN ⟨nn, nn, D, nk, K⟩ pg k = wv) := ⟨eh, ew⟩
    clear eh ew
    by_cases hkn : k < nn
    · have hi : (k : Int) < (nn : Int) := by omega
      have hNr := HN.out.below hBr
      obtain ⟨bn, on1, ea, y0, y1, y2, y3, y4⟩ := hNr.at hkn
      subst ea
      have hc := HOK.out.c k hkn
      simp only at hc
      have hrf := (hNr.2.2 k hkn).f
      obtain ⟨bf, of, ef, f0, f1, f2⟩ := hrf.at (i := pg) (by omega)
      rw [ef, hc.1] at y1
      obtain ⟨s, hs⟩ : ∃ s, ((D k).f pg).s = s := ⟨_, rfl⟩
      have HS : Hid (((D k).f pg).s = s) := hs
      have hst := state_of (HOK.out.f k hkn pg hp)
      rw [hs] at f0 hst
      have zb := lt_of_cell y0
      have zf := lt_of_cell f0
      obtain ⟨vid, evid⟩ : ∃ v, (D k).id = v := ⟨_, rfl⟩
      rw [evid] at y0
      obtain ⟨nh, enh⟩ : ∃ v, (D k).nh = v := ⟨_, rfl⟩
      rw [enh] at y2
      obtain ⟨no, eno⟩ : ∃ v, (D k).no = v := ⟨_, rfl⟩
      rw [eno] at y3
      obtain ⟨ni, eni⟩ : ∃ v, (D k).ni = v := ⟨_, rfl⟩
      rw [eni] at y4
      have HBA : Hid (Below W0.heap.size W0 _) := bel_trans hBr (bel_alloc (Below.refl wr.heap.size wr) (.cells #[.int .i64 vid, .slice (some ⟨bf, of, none⟩) 6 (np k).f.2, .slice (np k).h.1 nh (np k).h.2, .slice (np k).o.1 no (np k).o.2, .slice (np k).i.1 ni (np k).i.2] 48))
      clear hrf ef hc hs f1 f2 evid enh eno eni hNr hBr x0 x1 x2 xz
      rcases hst with rfl | rfl | rfl
      · have E2 : Hid (haveN ⟨nn, nn, D, nk, K⟩ pg (k + 1) = hv ∧ writeN ⟨nn, nn, D, nk, K⟩ pg (k + 1) = wv) := ⟨by rw [haveN_succ HS.out, EH.out.1]; rfl, by rw [writeN_succ HS.out, EH.out.2]; rfl⟩
        go_wp2
        go_roundw
        case rel => exact ⟨k + 1, hv, wv, by omega, by go_num, rfl, rfl, E2.out.1, E2.out.2, HBA.out⟩
        case measure => simp [intOf]; omega
      · have E2 : Hid (haveN ⟨nn, nn, D, nk, K⟩ pg (k + 1) = hv + 1 ∧ writeN ⟨nn, nn, D, nk, K⟩ pg (k + 1) = wv) := ⟨by rw [haveN_succ HS.out, EH.out.1]; rfl, by rw [writeN_succ HS.out, EH.out.2]; rfl⟩
        go_wp2
        go_roundw
        case rel => exact ⟨k + 1, hv + 1, wv, by omega, by go_num, by go_num, rfl, E2.out.1, E2.out.2, HBA.out⟩
        case measure => simp [intOf]; omega
      · have E2 : Hid (haveN ⟨nn, nn, D, nk, K⟩ pg (k + 1) = hv + 1 ∧ writeN ⟨nn, nn, D, nk, K⟩ pg (k + 1) = wv + 1) := ⟨by rw [haveN_succ HS.out, EH.out.1]; rfl, by rw [writeN_succ HS.out, EH.out.2]; rfl⟩
        go_wp2
        go_roundw
        case rel => exact ⟨k + 1, hv + 1, wv + 1, by omega, by go_num, by go_num, by go_num, E2.out.1, E2.out.2, HBA.out⟩
        case measure => simp [intOf]; omega
    · have : k = nn := by omega
      subst this
      have HWH : Hid (wv ≤ hv) := by show _ ≤ _; rw [← EH.out.1, ← EH.out.2]; exact writeN_le ⟨k, k, D, nk, K⟩ pg k
      have HV : Hid (aloneB ⟨k, k, D, nk, K⟩ pg = (wv == 0 || (wv == 1 && hv == 1))) := by show _ = _; unfold aloneB; simp only [EH.out.1, EH.out.2]
      have HF : Hid (Below w.heap.size w wr) := bel_trans HB.out hBr
      clear x0 x1 x2 xz hBr
      by_cases h0 : wv = 0
      · subst h0
        go_wp2
        go_ret
        exact ⟨ret_bool (by rw [HV.out]; rfl), HF.out⟩
      · have e0 : ((wv : Int) == 0) = false := by simp; omega
        by_cases h3 : hv = 1
        · subst h3
          obtain rfl : wv = 1 := by have := HWH.out; omega
          go_wp2
          go_ret
          exact ⟨ret_bool (by rw [HV.out]; rfl), HF.out⟩
        · have e3 : ((hv : Int) == 1) = false := by simp; omega
          go_wp2
          go_ret
          exact ⟨ret_bool (by rw [HV.out]; simp [h0, h3]), HF.out⟩

set_option maxRecDepth 100000 in
set_option maxHeartbeats 4000000 in
theorem implAlone_any (d : WoD) (p : WoP) (page : Int) (w : World) (hbs : ∀ i, i < d.nn → ∀ j, j < (d.d i).nh → ((d.d i).h j).bs.length ≤ 1048577) (hR : WoR w d p) :
    Calls Try.prog 7 #[.agg (wcells d p), .int .i64 page] w fun e w' => e = .returned (.bool (worldB d && (inB page 0 5 && aloneB d page.toNat))) ∧ Below w.heap.size w w' := by
  have B := bel_alloc (Below.refl w.heap.size w) (.cells (wcells d p) 31)
  have X := Box.new w (wcells d p) 31
  have HR : Hid (WoR w d p) := hR
  have hR1 := hR.below B
  clear hR
  cases hw : worldB d
  · have HW : Hid (worldB d = false) := hw
    clear hw
    go_enter Try.func7, Try.ntmps7
    go_wp2_with fail
    refine (implWorldOk_any d p _ hbs hR1).mono ?_
    rintro e w1 ⟨rfl, b1⟩
    rw [HW.out]
    have HF : Hid (Below w.heap.size w w1) := bel_trans B b1
    clear b1 hR1 B X
    go_wp2
    go_ret
    exact ⟨rfl, HF.out⟩
  · have HW : Hid (worldB d = true) := hw
    cases hp : inB page 0 5
    · have HP : Hid (inB page 0 5 = false) := hp
      clear hw hp
      go_enter Try.func7, Try.ntmps7
      go_wp2_with fail
      refine (implWorldOk_any d p _ hbs hR1).mono ?_
      rintro e w1 ⟨rfl, b1⟩
      rw [HW.out]
      have HF : Hid (Below w.heap.size w w1) := bel_trans B b1
      clear b1 hR1 B X
      go_wp2_with fail
      refine (isPage_v page _).mono ?_
      rintro e w2 ⟨rfl, h⟩
      replace h := h.symm
      subst h
      rw [HP.out]
      go_wp2
      go_ret
      exact ⟨rfl, HF.out⟩
    · obtain ⟨h0, h5⟩ : 0 ≤ page ∧ page ≤ 5 := by simpa [inB] using hp
      obtain ⟨pg, rfl⟩ : ∃ pg : Nat, page = (pg : Int) := ⟨page.toNat, by omega⟩
      have HP : Hid (inB (pg : Int) 0 5 = true) := hp
      have HOK : Hid (WOk d) := WOk.of hw
      clear hw hp
      go_enter Try.func7, Try.ntmps7
      go_wp2_with fail
      refine (implWorldOk_any d p _ hbs hR1).mono ?_
      rintro e w1 ⟨rfl, b1⟩
      rw [HW.out]
      replace X := X.below b1
      replace B := bel_trans B b1
      clear b1 hR1
      go_wp2_with fail
      refine (isPage_v (pg : Int) _).mono ?_
      rintro e w2 ⟨rfl, h⟩
      replace h := h.symm
      subst h
      rw [HP.out]
      obtain ⟨x0, x1, x2, xz⟩ := X.at3
      go_wp2_with fail
      refine (isAlone_in d p pg _ (HR.out.below B) HOK.out (by omega)).mono ?_
      rintro e w3 ⟨rfl, b3⟩
      have HF : Hid (Below w.heap.size w w3) := bel_trans B b3
      clear x0 x1 x2 xz b3 B X
      obtain ⟨ok, hok⟩ : ∃ ok, aloneB d pg = ok := ⟨_, rfl⟩
      have HE : Hid (aloneB d pg = ok) := hok
      rw [hok]
      clear hok
      go_wp2
      go_ret
      exact ⟨ret_bool (by simp [HE.out]), HF.out⟩
end Go.Proofs.Ytiaiomjoapbalaa
