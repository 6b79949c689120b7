/- What the specification's FlockNew answers, walked. -/
import Derived.Test.YtfeabhknkoifeaaFw4
namespace Go.Proofs.Ytfeabhknkoifeaa
open Go.RowKit
set_option linter.unusedVariables false

theorem rem_nat {P n i : Nat} (h : P % n = i) : (P : Int).tmod (n : Int) = (i : Int) := by
  rw [← h, Int.tmod_eq_emod_of_nonneg (by omega)]
  omega

set_option maxRecDepth 100000 in
set_option maxHeartbeats 4000000 in
theorem specFlockNew_ok (n : Nat) (am at0 : Option Addr) (cm cs : Nat) (mem starts : List Int) (w : World) (hb : inB (n : Int) 1 4 = true) (hw : wordsB mem 24 = true) (hm : Row .i64 w am mem) (hc : mem.length ≤ cm) (hcx : cm ≤ maxLen) (hs : Row .i64 w at0 starts) (hsl : starts.length ≤ 1048577) :
    Calls Try.prog 4 #[.int .i64 n, .slice am mem.length cm, .slice at0 starts.length cs] w (FNewP n mem starts w) := by
  obtain ⟨h1, h4⟩ : 1 ≤ (n : Int) ∧ (n : Int) ≤ 4 := by simpa [inB] using hb
  have h24 : mem.length = 24 := by
    have h := hw
    simp [wordsB] at h
    omega
  obtain ⟨mb, mo, rfl⟩ : ∃ mb mo, am = some ⟨mb, mo, none⟩ := by
    obtain ⟨b, o, e, _⟩ := hm.2 0 (by omega)
    exact ⟨b, o, e⟩
  obtain ⟨k0, hk0, hkz0, hkz1, hkz2⟩ := info_parts info_core
  have HI : Hid (inB (n : Int) 1 4 = true) := hb
  have HW : Hid (wordsB mem 24 = true) := hw
  have HF : Hid (flkB (n : Int) mem = true) := by show _ = _; unfold flkB; rw [hb, hw]; rfl
  have HM : Hid (Row .i64 w (some ⟨mb, mo, none⟩) mem) := hm
  have HS : Hid (Row .i64 w at0 starts) := hs
  have H24 : Hid (mem.length = 24) := h24
  have HCX : Hid (cm ≤ maxLen) := hcx
  have HWD : Hid (∀ W, Row .i64 W (some ⟨mb, mo, none⟩) mem → Calls Try.prog 13 #[.slice (some ⟨mb, mo, none⟩) 24 cm, .int .i64 24] W fun e w' => e = .returned (.bool true) ∧ w' = W) := fun W h => by
    have := specWords_any (some ⟨mb, mo, none⟩) cm mem 24 W h
    rw [h24, hw] at this
    exact this
  rw [h24] at hc ⊢
  have B0 := bel_alloc (Below.refl w.heap.size w) (.cells #[.int .i64 0, .slice none 0 0, .slice none 0 0, .slice none 0 0] 29)
  have X0 := Box.new w #[.int .i64 0, .slice none 0 0, .slice none 0 0, .slice none 0 0] 29
  obtain ⟨L, hL⟩ : ∃ L, starts.length = L := ⟨_, rfl⟩
  have HL : Hid (starts.length = L) := hL
  rw [hL] at hsl ⊢
  clear hm hs hb hw h24 hcx hL
  go_enter Try.func4, Try.ntmps4
  go_wp2_with fail
  refine (specWorldNew_any (n : Int) _).mono ?_
  intro e w1 hp
  obtain ⟨a, c, p, rfl, r1, l1, b1⟩ : ∃ (a : Option Addr) (c : Nat) (p : Nat → NP), e = .returned (.tuple #[.agg #[.int .i64 (n : Int), .slice a n c, .slice none 0 0], .bool true]) ∧ NsO w1 a c n (fun i : Nat => newND i n) p ∧ (∀ b, RS a c n (fun i => NBs (newND i n) (p i)) b → w.heap.size + 1 ≤ b) ∧ Below (w.heap.size + 1) (w.alloc (.cells #[.int .i64 0, .slice none 0 0, .slice none 0 0, .slice none 0 0] 29)) w1 := by
    unfold WNewP theWD at hp
    rw [HI.out] at hp
    obtain ⟨a, c, p, e1, r, _, l, _, b⟩ := hp
    exact ⟨a, c, p, e1, r, fun b hb => by have := l b hb; simpa using this, by simpa using b⟩
  clear hp
  have B1 : Below w.heap.size w w1 := bel_trans B0 (by simpa using b1)
  replace X0 := X0.below (by simpa using b1)
  have hz1 : w.heap.size + 1 ≤ w1.heap.size := by have := b1.size; simpa using this
  have HR1 : Hid (NsO w1 a c n (fun i : Nat => newND i n) p ∧ (∀ b, RS a c n (fun i => NBs (newND i n) (p i)) b → w.heap.size + 1 ≤ b) ∧ Below w.heap.size w w1) := ⟨r1, l1, B1⟩
  clear r1 l1 B1 b1 B0
  have bW := bel_alloc (Below.refl w1.heap.size w1) (.cells #[.int .i64 (n : Int), .slice a n c, .slice none 0 0] 26)
  have XW := Box.new w1 #[.int .i64 (n : Int), .slice a n c, .slice none 0 0] 26
  go_wp2_with fail
  refine (HWD.out _ (HM.out.below (bel_trans HR1.out.2.2 bW))).mono ?_
  rintro e w2 ⟨rfl, h⟩
  subst h
  obtain ⟨x0, x1, x2, xz⟩ := XW.at3
  have B2 := bel_trans bW (bel_alloc (Below.refl _ _) (.cells #[.int .i64 (n : Int), .slice a n c, .slice none 0 0, .slice none 0 0] 29))
  have XF := Box.new (w1.alloc (.cells #[.int .i64 (n : Int), .slice a n c, .slice none 0 0] 26)) #[.int .i64 (n : Int), .slice a n c, .slice none 0 0, .slice none 0 0] 29
  simp only [World.size_alloc] at XF
  have F0 : Hid (FN1 w ((w1.alloc (.cells #[.int .i64 (n : Int), .slice a n c, .slice none 0 0] 26)).alloc (.cells #[.int .i64 (n : Int), .slice a n c, .slice none 0 0, .slice none 0 0] 29)) (w1.heap.size + 1) mem n 0 a c p) := by
    refine ⟨?_, fun b hb => ?_, by omega, XF, X0.below B2, bel_trans HR1.out.2.2 B2⟩
    · rw [flND_zero]
      exact Rw.below HR1.out.1 B2
    · rw [flND_zero] at hb
      have h1 := HR1.out.2.1 b hb
      have h2 := Rw.slt HR1.out.1 hb
      omega
  clear XF X0 bW B2 XW
  go_wp2_with fail
  clear x0 x1 x2 xz
  go_loopw [11] (fun i wr => ∃ P : Nat, P ≤ 6 ∧ i = .int .i64 P ∧ ∃ p', FN1 w wr (w1.heap.size + 1) mem n P a c p') (fun i _ => 6 - (intOf i).toNat)
  case atStart => exact ⟨0, Nat.zero_le _, rfl, _, F0.out⟩
  case round =>
    obtain ⟨P, hP, rfl, p', hN⟩ := hrel
    clear F0
    have HN : Hid (FN1 w wr (w1.heap.size + 1) mem n P a c p') := hN
    by_cases hlt : P < 6
    · have hi6 : (P : Int) < 6 := by omega
      obtain ⟨G, rfl⟩ := owns_addr hN.r.row (by omega)
      obtain ⟨i, hi⟩ : ∃ i, P % n = i := ⟨_, rfl⟩
      have hin : i < n := by rw [← hi]; exact Nat.mod_lt _ (by omega)
      have hE := (hN.r.el i hin).h
      obtain ⟨g, hgp⟩ := owns_addr hE.row (by show 0 < 6; omega)
      have hp : (p' i).h = (some ⟨g, 0, none⟩, (p' i).h.2) := Prod.ext hgp rfl
      obtain ⟨c1, hc1⟩ : ∃ c1, (p' i).h.2 = c1 := ⟨_, rfl⟩
      rw [hc1] at hp
      have hgb : NBs (flND mem n P i) (p' i) g := .inr (.inl (.inl (by rw [hp]; rfl)))
      obtain ⟨g1, g2⟩ := hN.lo g (.inr ⟨i, hin, hgb⟩)
      have hGg : G ≠ g := fun e => hN.r.out i hin G rfl (by rw [e]; exact hgb)
      have hgl : g < wr.heap.size := (hN.r.el i hin).lt hgb
      have y2 : wr.cell? ⟨G, i * 5 + 2, none⟩ = some (.slice (some ⟨g, 0, none⟩) 6 c1) := by
        have := owns_chunk hN.r.row (fun i _ => rfl) hin (j := 2) (by decide)
        simpa [nlist, hp, flND] using this
      rw [hp] at hE
      have fg := hE.row.frozenAt (P * 8)
      obtain ⟨vg, cg⟩ := cellN hE.row (k := P) hlt (t := 0) (by decide)
      rw [Nat.add_zero] at cg
      obtain ⟨x0, x1, x2, x3, xz⟩ := hN.X.at4
      have HMr := HM.out.below hN.b
      have HP : Hid ((p' i).h = (some ⟨g, 0, none⟩, c1)) := hp
      have HIr : Hid (P % n = i) := hi
      clear hE hgp hc1 hp hN hgb
      go_wp2_with fail
      refine fnreg_8 (fun _ _ d _ _ h => by cases d <;> exact h) (by omega) hin hlt H24.out hc HCX.out (rem_nat HIr.out) HMr x1 y2 (fun e => g2 e.symm) hGg hgl fg vg cg ?_
      intro v33 v34 v35 v36 v37 v38 v39 v40 v41 v42 v43 v44 v45 v46 v47 v48 v49 v50 v51 v52 v53 a2 c2 w5 b5 o5
      have ST : Hid _ := HN.out.step H24.out hlt HIr.out hin HP.out b5 o5
      clear x0 x1 x2 x3 xz y2 fg cg b5 o5 HMr
      go_wp2
      go_roundw
      case rel => exact ⟨P + 1, by omega, by go_num, _, ST.out⟩
      case measure => simp [intOf]; omega
    · have : P = 6 := by omega
      subst this
      have G0 : Hid _ := hN.two starts
      clear hN HN
      rw [show ((6 : Nat) : Int) = 6 from rfl]
      go_wp2_with fail
      go_loopw [12] (fun i wr => ∃ j : Nat, j ≤ n ∧ i = .int .i64 j ∧ ∃ a2 c2 q, FN2 w wr (w1.heap.size + 1) mem starts n j a c p' a2 c2 q) (fun i _ => n - (intOf i).toNat)
      case atStart => exact ⟨0, Nat.zero_le _, rfl, _, _, _, G0.out⟩
      case round =>
        obtain ⟨j, hj, rfl, a2, c2, q, hN⟩ := hrel
        clear G0
        have HN : Hid (FN2 w wr (w1.heap.size + 1) mem starts n j a c p' a2 c2 q) := hN
        obtain ⟨x0, x1, x2, x3, xz⟩ := hN.X.at4
        by_cases hlt : j < n
        · have hjn : (j : Int) < (n : Int) := by omega
          have hr2 := hN.k.row
          by_cases hjL : j < L
          · have hjL2 : (j : Int) < (L : Int) := by omega
            have hrow := HS.out.below hN.b
            obtain ⟨bs, os, rfl, cj⟩ := hrow.2 j (by rw [HL.out]; exact hjL)
            obtain ⟨s, hs⟩ : ∃ s, starts.getD j 0 = s := ⟨_, rfl⟩
            have HSJ : Hid (s = starts.getD j 0) := hs.symm
            rw [hs] at cj
            clear hN hs hrow
            go_wp2_with fail
            refine fnreg_15 (fun _ _ d _ _ h => by cases d <;> exact h) (by omega) HN.out.X HN.out.k.row (fun e => (HN.out.lk _ (.inl (blk_eq e))).2 rfl) ?_
            intro v67 v68 v69 v70 v71 v72 v73 v74 ah ch g cap w2 V w5 o1 b1 b2 o5 g5 at5
            have ST : Hid _ := HN.out.step HSJ.out o1 b1 b2 o5 g5 at5
            clear x0 x1 x2 x3 xz o1 b1 b2 o5 g5 at5 hr2
            go_wp2
            go_roundw
            case rel => exact ⟨j + 1, by omega, by go_num, _, _, _, ST.out⟩
            case measure => simp [intOf]; omega
          · have hjL2 : ¬ ((j : Int) < (L : Int)) := by omega
            have HSJ : Hid ((0 : Int) = starts.getD j 0) := by
              show _ = _
              rw [List.getD_eq_getElem?_getD, List.getElem?_eq_none (by rw [HL.out]; omega)]
              rfl
            clear hN
            go_wp2_with fail
            refine fnreg_15 (fun _ _ d _ _ h => by cases d <;> exact h) (by omega) HN.out.X HN.out.k.row (fun e => (HN.out.lk _ (.inl (blk_eq e))).2 rfl) ?_
            intro v67 v68 v69 v70 v71 v72 v73 v74 ah ch g cap w2 V w5 o1 b1 b2 o5 g5 at5
            have ST : Hid _ := HN.out.step HSJ.out o1 b1 b2 o5 g5 at5
            clear x0 x1 x2 x3 xz o1 b1 b2 o5 g5 at5 hr2
            go_wp2
            go_roundw
            case rel => exact ⟨j + 1, by omega, by go_num, _, _, _, ST.out⟩
            case measure => simp [intOf]; omega
        · have hjn : j = n := by omega
          subst hjn
          obtain ⟨y0, y1, y2, y3, yz⟩ := hN.X0.at4
          have f0 := hN.X0.frozen 0
          have f1 := hN.X0.frozen 1
          have f2 := hN.X0.frozen 2
          have f3 := hN.X0.frozen 3
          clear hN
          go_wp2
          refine bodyPost_ret (v := .tuple #[.agg #[.int .i64 (j : Int), .slice a j c, .slice none 0 0, .slice a2 j c2], .bool true]) (by simp [results, Try.results4, go_sem, y0, y1, y2, y3]) rfl (fnew_ok HF.out ?_ ?_ HN.out.ap (fun b hb => by have := (HN.out.lo b hb).1; omega) (fun b hb => by have := (HN.out.lk b hb).1; omega) ?_)
          · refine Rw.sm HN.out.r ((((((Only.refl wr (fun b => b = w.heap.size)).setCell _ _ rfl).setCell _ _ rfl).setCell _ _ rfl).setCell _ _ rfl).sm (fun b hb e => ?_))
            have := (HN.out.lo b hb).1
            omega
          · refine Rw.sm HN.out.k ((((((Only.refl wr (fun b => b = w.heap.size)).setCell _ _ rfl).setCell _ _ rfl).setCell _ _ rfl).setCell _ _ rfl).sm (fun b hb e => ?_))
            have := (HN.out.lk b hb).1
            omega
          · exact bel_setCell (bel_setCell (bel_setCell (bel_setCell HN.out.b _ _ (Nat.le_refl _)) _ _ (Nat.le_refl _)) _ _ (Nat.le_refl _)) _ _ (Nat.le_refl _)

set_option maxRecDepth 100000 in
set_option maxHeartbeats 4000000 in
theorem specFlockNew_no1 (size : Int) (am at0 : Option Addr) (cm cs : Nat) (mem starts : List Int) (w : World) (hb : inB size 1 4 = false) (hm : Row .i64 w am mem) :
    Calls Try.prog 4 #[.int .i64 size, .slice am mem.length cm, .slice at0 starts.length cs] w (FNewP size mem starts w) := by
  have HF : Hid (flkB size mem = false) := by show _ = _; unfold flkB; rw [hb]; rfl
  have HI : Hid (inB size 1 4 = false) := hb
  have B0 := bel_alloc (Below.refl w.heap.size w) (.cells #[.int .i64 0, .slice none 0 0, .slice none 0 0, .slice none 0 0] 29)
  have X0 := Box.new w #[.int .i64 0, .slice none 0 0, .slice none 0 0, .slice none 0 0] 29
  clear hb hm
  go_enter Try.func4, Try.ntmps4
  go_wp2_with fail
  refine (specWorldNew_any size _).mono ?_
  intro e w1 hp
  obtain ⟨a, c, rfl, b1⟩ : ∃ (a : Option Addr) (c : Nat), e = .returned (.tuple #[.agg #[.int .i64 0, .slice a 0 c, .slice none 0 0], .bool false]) ∧ Below (w.alloc (.cells #[.int .i64 0, .slice none 0 0, .slice none 0 0, .slice none 0 0] 29)).heap.size (w.alloc (.cells #[.int .i64 0, .slice none 0 0, .slice none 0 0, .slice none 0 0] 29)) w1 := by
    unfold WNewP theWD at hp
    rw [HI.out] at hp
    obtain ⟨a, c, p, e1, r, _, l, _, b⟩ := hp
    exact ⟨a, c, e1, b⟩
  have bW := bel_alloc (Below.refl w1.heap.size w1) (.cells #[.int .i64 0, .slice a 0 c, .slice none 0 0] 26)
  replace X0 := (X0.below b1).below bW
  have B1 := bel_trans (bel_trans B0 b1) bW
  obtain ⟨y0, y1, y2, y3, yz⟩ := X0.at4
  have f0 := X0.frozen 0
  have f1 := X0.frozen 1
  have f2 := X0.frozen 2
  have f3 := X0.frozen 3
  clear X0 bW b1 B0
  go_wp2
  refine bodyPost_ret (v := .tuple #[.agg #[.int .i64 0, .slice none 0 0, .slice none 0 0, .slice none 0 0], .bool false]) (by simp [results, Try.results4, go_sem, y0, y1, y2, y3]) rfl (fnew_bad HF.out ?_)
  exact bel_setCell (bel_setCell (bel_setCell (bel_setCell B1 _ _ (Nat.le_refl _)) _ _ (Nat.le_refl _)) _ _ (Nat.le_refl _)) _ _ (Nat.le_refl _)

set_option maxRecDepth 100000 in
set_option maxHeartbeats 4000000 in
theorem specFlockNew_no2 (n : Nat) (am at0 : Option Addr) (cm cs : Nat) (mem starts : List Int) (w : World) (hb : inB (n : Int) 1 4 = true) (hw : wordsB mem 24 = false) (hm : Row .i64 w am mem) :
    Calls Try.prog 4 #[.int .i64 n, .slice am mem.length cm, .slice at0 starts.length cs] w (FNewP n mem starts w) := by
  have HF : Hid (flkB (n : Int) mem = false) := by show _ = _; unfold flkB; rw [hb, hw]; rfl
  have HI : Hid (inB (n : Int) 1 4 = true) := hb
  have HW : Hid (wordsB mem 24 = false) := hw
  have HM : Hid (Row .i64 w am mem) := hm
  have B0 := bel_alloc (Below.refl w.heap.size w) (.cells #[.int .i64 0, .slice none 0 0, .slice none 0 0, .slice none 0 0] 29)
  have X0 := Box.new w #[.int .i64 0, .slice none 0 0, .slice none 0 0, .slice none 0 0] 29
  clear hb hm hw
  go_enter Try.func4, Try.ntmps4
  go_wp2_with fail
  refine (specWorldNew_any (n : Int) _).mono ?_
  intro e w1 hp
  obtain ⟨a, c, rfl, b1⟩ : ∃ (a : Option Addr) (c : Nat), e = .returned (.tuple #[.agg #[.int .i64 (n : Int), .slice a n c, .slice none 0 0], .bool true]) ∧ Below (w.alloc (.cells #[.int .i64 0, .slice none 0 0, .slice none 0 0, .slice none 0 0] 29)).heap.size (w.alloc (.cells #[.int .i64 0, .slice none 0 0, .slice none 0 0, .slice none 0 0] 29)) w1 := by
    unfold WNewP theWD at hp
    rw [HI.out] at hp
    obtain ⟨a, c, p, e1, r, _, l, _, b⟩ := hp
    exact ⟨a, c, e1, b⟩
  have bW := bel_alloc (Below.refl w1.heap.size w1) (.cells #[.int .i64 (n : Int), .slice a n c, .slice none 0 0] 26)
  replace X0 := (X0.below b1).below bW
  have B1 := bel_trans (bel_trans B0 b1) bW
  obtain ⟨y0, y1, y2, y3, yz⟩ := X0.at4
  have f0 := X0.frozen 0
  have f1 := X0.frozen 1
  have f2 := X0.frozen 2
  have f3 := X0.frozen 3
  have hmr := HM.out.below B1
  clear X0 bW b1 B0
  go_wp2_with fail
  refine (specWords_any am cm mem 24 _ hmr).mono ?_
  rintro e w2 ⟨rfl, h⟩
  subst h
  rw [HW.out]
  go_wp2
  refine bodyPost_ret (v := .tuple #[.agg #[.int .i64 0, .slice none 0 0, .slice none 0 0, .slice none 0 0], .bool false]) (by simp [results, Try.results4, go_sem, y0, y1, y2, y3]) rfl (fnew_bad HF.out ?_)
  exact bel_setCell (bel_setCell (bel_setCell (bel_setCell B1 _ _ (Nat.le_refl _)) _ _ (Nat.le_refl _)) _ _ (Nat.le_refl _)) _ _ (Nat.le_refl _)

theorem specFlockNew_any (size : Int) (am at0 : Option Addr) (cm cs : Nat) (mem starts : List Int) (w : World) (hm : Row .i64 w am mem) (hc : mem.length ≤ cm) (hcx : cm ≤ maxLen) (hs : Row .i64 w at0 starts) (hsl : starts.length ≤ 1048577) :
    Calls Try.prog 4 #[.int .i64 size, .slice am mem.length cm, .slice at0 starts.length cs] w (FNewP size mem starts w) := by
  cases hb : inB size 1 4
  · exact specFlockNew_no1 size am at0 cm cs mem starts w hb hm
  · obtain ⟨n, rfl⟩ : ∃ n : Nat, size = (n : Int) := ⟨size.toNat, by simp [inB] at hb; omega⟩
    cases hw : wordsB mem 24
    · exact specFlockNew_no2 n am at0 cm cs mem starts w hb hw hm
    · exact specFlockNew_ok n am at0 cm cs mem starts w hb hw hm hc hcx hs hsl
end Go.Proofs.Ytfeabhknkoifeaa
