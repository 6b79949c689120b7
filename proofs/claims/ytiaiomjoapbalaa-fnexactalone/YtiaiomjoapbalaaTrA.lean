/- What the specification's Alone answers. -/
import Derived.Test.YtiaiomjoapbalaaPgI
namespace Go.Proofs.Ytiaiomjoapbalaa
open Go.RowKit
set_option linter.unusedVariables false

theorem haveN_succ {d : WoD} {pg k : Nat} {s : Int} (h : ((d.d k).f pg).s = s) : haveN d pg (k + 1) = haveN d pg k + bit (s != 0) := by simp only [haveN, sumN, h]
theorem writeN_succ {d : WoD} {pg k : Nat} {s : Int} (h : ((d.d k).f pg).s = s) : writeN d pg (k + 1) = writeN d pg k + bit (s == 2) := by simp only [writeN, sumN, h]

set_option maxRecDepth 100000 in
set_option maxHeartbeats 4000000 in
theorem specAlone_in (d : WoD) (p : WoP) (pg : Nat) (w : World) (hbs : ∀ i, i < d.nn → ∀ j, j < (d.d i).nh → ((d.d i).h j).bs.length ≤ 1048577) (hR : WoR w d p) (hw : worldB d = true) (hp : pg < 6) :
    Calls Try.prog 5 #[.agg (wcells d p), .int .i64 (pg : Int)] w fun e w' => e = .returned (.bool (aloneB d pg)) ∧ Below w.heap.size w w' := by
  have hok := WOk.of hw
  obtain ⟨size, nn, D, nk, K⟩ := d
  obtain ⟨⟨pn, cn⟩, np, ⟨pk, ck⟩, kp⟩ := p
  have hsz : size = (nn : Int) := hok.n.1
  have hn4 : nn ≤ 4 := hok.n.2.2
  subst hsz
  have HW : Hid (worldB ⟨nn, nn, D, nk, K⟩ = true) := hw
  have HOK : Hid (WOk ⟨nn, nn, D, nk, K⟩) := hok
  have B := bel_alloc (Below.refl w.heap.size w) (.cells #[.int .i64 (nn : Int), .slice pn nn cn, .slice pk nk ck] 31)
  have X := Box.new w #[.int .i64 (nn : Int), .slice pn nn cn, .slice pk nk ck] 31
  have hR1 := hR.below B
  have HI : Hid (inB (pg : Int) 0 5 = true) := by show _ = _; simp [inB]; omega
  have hp6 : (pg : Int) < 6 := by omega
  clear hw hok hR
  go_enter Try.func5, Try.ntmps5
  go_wp2_with fail
  refine (specWorldOk_any ⟨nn, nn, D, nk, K⟩ ⟨(pn, cn), np, (pk, ck), kp⟩ _ hbs hR1).mono ?_
  rintro e w1 ⟨rfl, b1⟩
  rw [HW.out]
  replace X := X.below b1
  replace B := bel_trans B b1
  have hN := (hR1.below b1).n
  have HN : Hid (NsR w1 pn nn D np) := hN
  have HX : Hid (Box w1 w.heap.size #[.int .i64 (nn : Int), .slice pn nn cn, .slice pk nk ck] 31) := X
  have HB : Hid (Below w.heap.size w w1) := B
  obtain ⟨x0, x1, x2, xz⟩ := X.at3
  clear hR1 b1 hN X B hbs
  go_wp2_with fail
  refine (specIn_h (pg : Int) 0 5 _).mono ?_
  rintro e w2 ⟨rfl, h⟩
  replace h := h.symm
  subst h
  rw [HI.out]
  go_wp2_with fail
  go_loopw [5, 6, 7] (fun a b i wr => ∃ k hv wv : Nat, k ≤ nn ∧ i = .int .i64 k ∧ a = .int .i64 hv ∧ b = .int .i64 wv ∧ haveN ⟨nn, nn, D, nk, K⟩ pg k = hv ∧ writeN ⟨nn, nn, D, nk, K⟩ pg k = wv ∧ wr = w1) (fun _ _ i _ => nn - (intOf i).toNat)
  case atStart => exact ⟨0, 0, 0, Nat.zero_le _, rfl, rfl, rfl, rfl, rfl, rfl⟩
  case round =>
    obtain ⟨k, hv, wv, hk, rfl, rfl, rfl, eh, ew, rfl⟩ := hrel
    have hle := haveN_le ⟨nn, nn, D, nk, K⟩ pg k
    rw [eh, ew] at hle
    obtain ⟨hle1, hle2⟩ := hle
    have EH : Hid (haveN ⟨nn, nn, D, nk, K⟩ pg k = hv ∧ writeN ⟨nn, nn, D, nk, K⟩ pg k = wv) := ⟨eh, ew⟩
    clear eh ew
    by_cases hkn : k < nn
    · have hi : (k : Int) < (nn : Int) := by omega
      obtain ⟨bn, on1, ea, y0, y1, y2, y3, y4⟩ := HN.out.at hkn
      subst ea
      have hc := HOK.out.c k hkn
      simp only at hc
      have hrf := (HN.out.2.2 k hkn).f
      obtain ⟨bf, of, ef, f0, f1, f2⟩ := hrf.at (i := pg) (by omega)
      rw [ef, hc.1] at y1
      obtain ⟨s, hs⟩ : ∃ s, ((D k).f pg).s = s := ⟨_, rfl⟩
      have HS : Hid (((D k).f pg).s = s) := hs
      rw [hs] at f0
      have zb := lt_of_cell y0
      have zf := lt_of_cell f0
      clear hrf ef hc hs y0 y2 y3 y4 f1 f2
      by_cases h0 : s = 0
      · subst h0
        go_wp2_with fail
        refine (l1Bit_any _ _).mono ?_
        rintro e w2 ⟨rfl, h⟩
        replace h := h.symm
        subst h
        go_wp2_with fail
        refine (l1Bit_any _ _).mono ?_
        rintro e w2 ⟨rfl, h⟩
        replace h := h.symm
        subst h
        have E2 : Hid (haveN ⟨nn, nn, D, nk, K⟩ pg (k + 1) = hv ∧ writeN ⟨nn, nn, D, nk, K⟩ pg (k + 1) = wv) := ⟨by rw [haveN_succ HS.out, EH.out.1]; rfl, by rw [writeN_succ HS.out, EH.out.2]; rfl⟩
        clear f0 y1 zb zf
        simp only [bit, Bool.false_eq_true, if_false]
        go_wp2
        go_roundw
        case rel => exact ⟨k + 1, hv, wv, by omega, by go_num, (by refine congrArg (Value.int .i64) ?_; first | rfl | (unfold wrap64; omega)), (by refine congrArg (Value.int .i64) ?_; first | rfl | (unfold wrap64; omega)), E2.out.1, E2.out.2, by trivial⟩
        case measure => simp [intOf]; omega
      · by_cases h2 : s = 2
        · subst h2
          go_wp2_with fail
          refine (l1Bit_any _ _).mono ?_
          rintro e w2 ⟨rfl, h⟩
          replace h := h.symm
          subst h
          go_wp2_with fail
          refine (l1Bit_any _ _).mono ?_
          rintro e w2 ⟨rfl, h⟩
          replace h := h.symm
          subst h
          have E2 : Hid (haveN ⟨nn, nn, D, nk, K⟩ pg (k + 1) = hv + 1 ∧ writeN ⟨nn, nn, D, nk, K⟩ pg (k + 1) = wv + 1) := ⟨by rw [haveN_succ HS.out, EH.out.1]; rfl, by rw [writeN_succ HS.out, EH.out.2]; rfl⟩
          clear f0 y1 zb zf
          simp only [bit, if_true]
          go_wp2
          go_roundw
          case rel => exact ⟨k + 1, hv + 1, wv + 1, by omega, by go_num, (by refine congrArg (Value.int .i64) ?_; first | rfl | (unfold wrap64; omega)), (by refine congrArg (Value.int .i64) ?_; first | rfl | (unfold wrap64; omega)), E2.out.1, E2.out.2, by trivial⟩
          case measure => simp [intOf]; omega
        · have e0 : (s == 0) = false := by simpa using h0
          have e0n : (s != 0) = true := by simpa using h0
          have e2 : (s == 2) = false := by simpa using h2
          go_wp2_with fail
          refine (l1Bit_any _ _).mono ?_
          rintro e w2 ⟨rfl, h⟩
          replace h := h.symm
          subst h
          go_wp2_with fail
          refine (l1Bit_any _ _).mono ?_
          rintro e w2 ⟨rfl, h⟩
          replace h := h.symm
          subst h
          have E2 : Hid (haveN ⟨nn, nn, D, nk, K⟩ pg (k + 1) = hv + 1 ∧ writeN ⟨nn, nn, D, nk, K⟩ pg (k + 1) = wv) := ⟨by rw [haveN_succ HS.out, EH.out.1]; simp [bit, h0], by rw [writeN_succ HS.out, EH.out.2]; simp [bit, h2]⟩
          clear f0 y1 zb zf
          simp only [bit, Bool.false_eq_true, if_true, if_false]
          go_wp2
          go_roundw
          case rel => exact ⟨k + 1, hv + 1, wv, by omega, by go_num, (by refine congrArg (Value.int .i64) ?_; first | rfl | (unfold wrap64; omega)), (by refine congrArg (Value.int .i64) ?_; first | rfl | (unfold wrap64; omega)), E2.out.1, E2.out.2, by trivial⟩
          case measure => simp [intOf]; omega
    · have : k = nn := by omega
      subst this
      have HV : Hid (aloneB ⟨k, k, D, nk, K⟩ pg = (wv == 0 || (wv == 1 && hv == 1))) := by show _ = _; unfold aloneB; simp only [EH.out.1, EH.out.2]
      have HF : Hid (Below w.heap.size w wr) := HB.out
      by_cases h0 : wv = 0
      · subst h0
        go_wp2
        go_ret
        exact ⟨ret_bool (by rw [HV.out]; rfl), HF.out⟩
      · have e0 : ((wv : Int) == 0) = false := by simp; omega
        by_cases h1 : wv = 1
        · subst h1
          by_cases h3 : hv = 1
          · subst h3
            go_wp2
            go_ret
            exact ⟨ret_bool (by rw [HV.out]; rfl), HF.out⟩
          · have e3 : ((hv : Int) == 1) = false := by simp; omega
            go_wp2
            go_ret
            exact ⟨ret_bool (by rw [HV.out]; simp [h3]), HF.out⟩
        · have e1 : ((wv : Int) == 1) = false := by simp; omega
          go_wp2
          go_ret
          exact ⟨ret_bool (by rw [HV.out]; simp [h0, h1]), HF.out⟩

set_option maxRecDepth 100000 in
set_option maxHeartbeats 4000000 in
theorem specAlone_out (d : WoD) (p : WoP) (page : Int) (w : World) (hbs : ∀ i, i < d.nn → ∀ j, j < (d.d i).nh → ((d.d i).h j).bs.length ≤ 1048577) (hR : WoR w d p) (hw : worldB d = false ∨ (worldB d = true ∧ inB page 0 5 = false)) :
    Calls Try.prog 5 #[.agg (wcells d p), .int .i64 page] w fun e w' => e = .returned (.bool false) ∧ Below w.heap.size w w' := by
  have B := bel_alloc (Below.refl w.heap.size w) (.cells (wcells d p) 31)
  have hR1 := hR.below B
  clear hR
  rcases hw with hw | ⟨hw, hp⟩
  · have HW : Hid (worldB d = false) := hw
    clear hw
    go_enter Try.func5, Try.ntmps5
    go_wp2_with fail
    refine (specWorldOk_any d p _ hbs hR1).mono ?_
    rintro e w1 ⟨rfl, b1⟩
    rw [HW.out]
    have HF : Hid (Below w.heap.size w w1) := bel_trans B b1
    clear b1 hR1 B
    go_wp2
    go_ret
    exact ⟨rfl, HF.out⟩
  · have HW : Hid (worldB d = true) := hw
    have HI : Hid (inB page 0 5 = false) := hp
    clear hw hp
    go_enter Try.func5, Try.ntmps5
    go_wp2_with fail
    refine (specWorldOk_any d p _ hbs hR1).mono ?_
    rintro e w1 ⟨rfl, b1⟩
    rw [HW.out]
    have HF : Hid (Below w.heap.size w w1) := bel_trans B b1
    clear b1 hR1 B
    go_wp2_with fail
    refine (specIn_h page 0 5 _).mono ?_
    rintro e w2 ⟨rfl, h⟩
    replace h := h.symm
    subst h
    rw [HI.out]
    go_wp2
    go_ret
    exact ⟨rfl, HF.out⟩

theorem specAlone_any (d : WoD) (p : WoP) (page : Int) (w : World) (hbs : ∀ i, i < d.nn → ∀ j, j < (d.d i).nh → ((d.d i).h j).bs.length ≤ 1048577) (hR : WoR w d p) :
    Calls Try.prog 5 #[.agg (wcells d p), .int .i64 page] w fun e w' => e = .returned (.bool (worldB d && (inB page 0 5 && aloneB d page.toNat))) ∧ Below w.heap.size w w' := by
  cases hw : worldB d
  · exact specAlone_out d p page w hbs hR (.inl hw)
  · cases hp : inB page 0 5
    · exact specAlone_out d p page w hbs hR (.inr ⟨hw, hp⟩)
    · obtain ⟨h0, h5⟩ : 0 ≤ page ∧ page ≤ 5 := by simpa [inB] using hp
      obtain ⟨pg, rfl⟩ : ∃ pg : Nat, page = (pg : Int) := ⟨page.toNat, by omega⟩
      exact specAlone_in d p pg w hbs hR hw (by omega)
end Go.Proofs.Ytiaiomjoapbalaa
