/- What the program's FlockNew answers (written by mk13k.py). -/
import Derived.Test.YtfeabhknkoifeaaFwJ
namespace Go.Proofs.Ytfeabhknkoifeaa
open Go.RowKit
set_option linter.unusedVariables false

set_option maxRecDepth 100000 in
set_option maxHeartbeats 1000000 in
theorem isMemory_any (a : Option Addr) (c : Nat) (xs : List Int) (w : World) (h : Row .i64 w a xs) :
    Calls Try.prog 16 #[.slice a xs.length c] w fun e w' => e = .returned (.bool (wordsB xs 24)) ∧ Below w.heap.size w w' := by
  by_cases hl : xs.length = 24
  · have HA : Hid (∀ W, Row .i64 W a xs → Calls Try.prog 29 #[.slice a 24 c, .func (.func 30) #[] #[]] W fun e w' => e = .returned (.bool (xs.all wordB)) ∧ Below W.heap.size W w') := fun W hW => by
      have := allOkI_any a c xs W hW (by omega)
      rw [hl] at this
      exact this
    have HV : Hid (wordsB xs 24 = xs.all wordB) := by
      show _ = _
      unfold wordsB
      simp [hl]
    rw [hl, HV.out]
    obtain ⟨z, hz⟩ : ∃ z, xs.all wordB = z := ⟨_, rfl⟩
    rw [hz] at HA ⊢
    clear HV hl hz
    go_enter Try.func16, Try.ntmps16
    go_wp2_with fail
    refine (HA.out _ h).mono ?_
    rintro e w1 ⟨rfl, b1⟩
    clear HA h
    go_wp2
    go_ret
    exact ⟨rfl, b1⟩
  · have HV : Hid (wordsB xs 24 = false) := by
      show _ = _
      unfold wordsB
      have : ¬ ((xs.length : Int) = 24) := by omega
      simp [this]
    have h2 : ((xs.length : Int) == 24) = false := by simpa using (show ¬ ((xs.length : Int) = 24) by omega)
    rw [HV.out]
    obtain ⟨n, hn⟩ : ∃ n, xs.length = n := ⟨_, rfl⟩
    rw [hn] at h2 ⊢
    clear HV hl h hn
    go_enter Try.func16, Try.ntmps16
    go_wp2
    go_ret
    exact ⟨rfl, Below.refl _ _⟩

set_option maxRecDepth 100000 in
set_option maxHeartbeats 4000000 in
theorem implFlockNew_ok (n : Nat) (am at0 : Option Addr) (cm cs : Nat) (mem starts : List Int) (w : World) (hb : inB (n : Int) 1 4 = true) (hw : wordsB mem 24 = true) (hm : Row .i64 w am mem) (hc : mem.length ≤ cm) (hcx : cm ≤ maxLen) (hs : Row .i64 w at0 starts) (hsl : starts.length ≤ 1048577) :
    Calls Try.prog 6 #[.int .i64 n, .slice am mem.length cm, .slice at0 starts.length cs] w (FNewP n mem starts w) := by
  obtain ⟨h1, h4⟩ : 1 ≤ (n : Int) ∧ (n : Int) ≤ 4 := by simpa [inB] using hb
  have h24 : mem.length = 24 := by
    have h := hw
    simp [wordsB] at h
    omega
  obtain ⟨mb, mo, rfl⟩ : ∃ mb mo, am = some ⟨mb, mo, none⟩ := by
    obtain ⟨b, o, e, _⟩ := hm.2 0 (by omega)
    exact ⟨b, o, e⟩
  obtain ⟨k0, hk0, hkz0, hkz1, hkz2⟩ := info_parts info_core
  have HI : Hid (inB (n : Int) 1 4 = true) := hb
  have HW : Hid (wordsB mem 24 = true) := hw
  have HF : Hid (flkB (n : Int) mem = true) := by show _ = _; unfold flkB; rw [hb, hw]; rfl
  have HM : Hid (Row .i64 w (some ⟨mb, mo, none⟩) mem) := hm
  have HS : Hid (Row .i64 w at0 starts) := hs
  have H24 : Hid (mem.length = 24) := h24
  have HCX : Hid (cm ≤ maxLen) := hcx
  have HWD : Hid (∀ W, Row .i64 W (some ⟨mb, mo, none⟩) mem → Calls Try.prog 16 #[.slice (some ⟨mb, mo, none⟩) 24 cm] W fun e w' => e = .returned (.bool true) ∧ Below W.heap.size W w') := fun W h => by
    have := isMemory_any (some ⟨mb, mo, none⟩) cm mem W h
    rw [h24, hw] at this
    exact this
  rw [h24] at hc ⊢
  have B0 := bel_alloc (Below.refl w.heap.size w) (.cells #[.int .i64 0, .slice none 0 0, .slice none 0 0, .slice none 0 0] 29)
  have X0 := Box.new w #[.int .i64 0, .slice none 0 0, .slice none 0 0, .slice none 0 0] 29
  obtain ⟨L, hL⟩ : ∃ L, starts.length = L := ⟨_, rfl⟩
  have HL : Hid (starts.length = L) := hL
  rw [hL] at hsl ⊢
  clear hm hs hb hw h24 hcx hL
  go_enter Try.func6, Try.ntmps6
  go_wp2_with fail
  refine (implWorldNew_any (n : Int) _).mono ?_
  intro e w1 hp
  obtain ⟨a, c, p, rfl, r1, l1, b1⟩ : ∃ (a : Option Addr) (c : Nat) (p : Nat → NP), e = .returned (.tuple #[.agg #[.int .i64 (n : Int), .slice a n c, .slice none 0 0], .bool true]) ∧ NsO w1 a c n (fun i : Nat => newND i n) p ∧ (∀ b, RS a c n (fun i => NBs (newND i n) (p i)) b → w.heap.size + 1 ≤ b) ∧ Below (w.heap.size + 1) (w.alloc (.cells #[.int .i64 0, .slice none 0 0, .slice none 0 0, .slice none 0 0] 29)) w1 := by
    unfold WNewP theWD at hp
    rw [HI.out] at hp
    obtain ⟨a, c, p, e1, r, _, l, _, b⟩ := hp
    exact ⟨a, c, p, e1, r, fun b hb => by have := l b hb; simpa using this, by simpa using b⟩
  clear hp
  have B1 : Below w.heap.size w w1 := bel_trans B0 (by simpa using b1)
  replace X0 := X0.below (by simpa using b1)
  have hz1 : w.heap.size + 1 ≤ w1.heap.size := by have := b1.size; simpa using this
  have HR1 : Hid (NsO w1 a c n (fun i : Nat => newND i n) p ∧ (∀ b, RS a c n (fun i => NBs (newND i n) (p i)) b → w.heap.size + 1 ≤ b) ∧ Below w.heap.size w w1) := ⟨r1, l1, B1⟩
  clear r1 l1 B1 b1 B0
  have bW := bel_alloc (Below.refl w1.heap.size w1) (.cells #[.int .i64 (n : Int), .slice a n c, .slice none 0 0] 26)
  have XW := Box.new w1 #[.int .i64 (n : Int), .slice a n c, .slice none 0 0] 26
  go_wp2_with fail
  refine (HWD.out _ (HM.out.below (bel_trans HR1.out.2.2 bW))).mono ?_
  rintro e w2 ⟨rfl, b2⟩
  have B2 := bel_trans bW b2
  replace XW := XW.below b2
  have F0 : Hid (FI1 w w2 w1.heap.size mem n 0 a c p) := by
    refine ⟨?_, fun b hb => ?_, by omega, XW, X0.below B2, bel_trans HR1.out.2.2 B2⟩
    · rw [flND_zero]
      exact Rw.below HR1.out.1 B2
    · rw [flND_zero] at hb
      have h1 := HR1.out.2.1 b hb
      have h2 := Rw.slt HR1.out.1 hb
      omega
  clear X0 bW B2 XW b2
  go_wp2_with fail
  go_loopw [27] (fun i wr => ∃ P : Nat, P ≤ 6 ∧ i = .int .i64 P ∧ FI1 w wr w1.heap.size mem n P a c p) (fun i _ => 6 - (intOf i).toNat)
  case atStart => exact ⟨0, Nat.zero_le _, rfl, F0.out⟩
  case round =>
    obtain ⟨P, hP, rfl, hN⟩ := hrel
    clear F0
    have HN : Hid (FI1 w wr w1.heap.size mem n P a c p) := hN
    by_cases hlt : P < 6
    · have hi6 : (P : Int) < 6 := by omega
      obtain ⟨G, rfl⟩ := owns_addr hN.r.row (by omega)
      obtain ⟨i, hi⟩ : ∃ i, P % n = i := ⟨_, rfl⟩
      have hin : i < n := by rw [← hi]; exact Nat.mod_lt _ (by omega)
      have hE := (hN.r.el i hin).h
      obtain ⟨g, hgp⟩ := owns_addr hE.row (by show 0 < 6; omega)
      have hp : (p i).h = (some ⟨g, 0, none⟩, (p i).h.2) := Prod.ext hgp rfl
      obtain ⟨c1, hc1⟩ : ∃ c1, (p i).h.2 = c1 := ⟨_, rfl⟩
      rw [hc1] at hp
      rw [hp] at hE
      have ol := (hE.el P hlt).1
      have hx4 : ((flND mem n P i).h P).xs.length = 4 := by simp [flND, newHD]
      rw [hx4] at ol
      obtain ⟨gl, hgl⟩ := owns_addr ol (by omega)
      have hl : ((p i).hp P).l = (some ⟨gl, 0, none⟩, ((p i).hp P).l.2) := Prod.ext hgl rfl
      obtain ⟨cl, hcl⟩ : ∃ cl, ((p i).hp P).l.2 = cl := ⟨_, rfl⟩
      rw [hcl] at hl
      rw [hgl, hcl] at ol
      have hqb : QH ((p i).hp P) gl := .inl (by rw [hl]; rfl)
      have hgb : NBs (flND mem n P i) (p i) gl := .inr (.inl (.inr ⟨P, hlt, hqb⟩))
      obtain ⟨g1, g2⟩ := hN.lo gl (.inr ⟨i, hin, hgb⟩)
      have hGg : G ≠ gl := fun e => hN.r.out i hin G rfl (by rw [e]; exact hgb)
      have hgg : g ≠ gl := fun e => hE.out P hlt g rfl (by rw [e]; exact hqb)
      have y2 : wr.cell? ⟨G, i * 5 + 2, none⟩ = some (.slice (some ⟨g, 0, none⟩) 6 c1) := by
        have := owns_chunk hN.r.row (fun i _ => rfl) hin (j := 2) (by decide)
        simpa [nlist, hp, flND] using this
      have l2 : wr.cell? ⟨g, P * 8, none⟩ = some (.slice (some ⟨gl, 0, none⟩) 4 cl) := by
        have := owns_chunk hE.row (fun i _ => rfl) hlt (j := 0) (by decide)
        rw [Nat.add_zero] at this
        simpa [hcells, hl, hx4] using this
      obtain ⟨x0, x1, x2, xz⟩ := hN.X.at3
      have HMr := HM.out.below hN.b
      have HP : Hid ((p i).h = (some ⟨g, 0, none⟩, c1)) := hp
      have HL4 : Hid (((p i).hp P).l = (some ⟨gl, 0, none⟩, cl)) := hl
      have HIr : Hid (P % n = i) := hi
      clear hE hgp hc1 hp hN hgb hqb hl hcl hgl hx4
      go_wp2_with fail
      refine fireg_7 (fun _ _ d _ _ h => by cases d <;> exact h) (by omega) hin hlt H24.out hc HCX.out (rem_nat HIr.out) HMr x1 y2 l2 (fun e => g2 e.symm) hGg hgg ol ?_
      intro v30 v31 v32 v33 v34 v35 v36 v37 v38 v39 v40 v41 v42 v43 v44 v45 v46 w5 k5 o5
      have ST : Hid _ := HN.out.step H24.out hlt HIr.out hin HP.out HL4.out k5 o5
      clear x0 x1 x2 xz y2 l2 ol k5 o5 HMr
      go_wp2
      go_roundw
      case rel => exact ⟨P + 1, by omega, by go_num, ST.out⟩
      case measure => simp [intOf]; omega
    · have : P = 6 := by omega
      subst this
      obtain ⟨x0, x1, x2, xz⟩ := hN.X.at3
      have hXX := hN.X
      clear hN
      rw [show ((6 : Nat) : Int) = 6 from rfl]
      go_wp2_with fail
      refine fireg_9 (fun _ _ d _ _ h => by cases d <;> exact h) (by omega) hXX ?_
      intro v48 v49 v50 v51 C g2 W9 b9 og XF hC hg hne hz9
      have G0 : Hid (FI2 w W9 wr.heap.size C g2 mem starts n 0 a c p (fun _ => ⟨(none, 0), (none, 0), fun _ => (none, 0)⟩)) := by
        have hlB := HN.out.lB
        have hXl := hXX.lt
        exact ⟨Rw.below HN.out.r b9, fun b hb => ⟨(HN.out.lo b hb).1, Rw.slt HN.out.r hb⟩, Tw.start og, by omega, hC, hg, hne, hz9, XF, HN.out.X0.below b9, bel_trans HN.out.b b9⟩
      obtain ⟨m, hm⟩ : ∃ m, wr.heap.size = m := ⟨_, rfl⟩
      rw [hm] at G0
      obtain ⟨z0, z1, z2, z3, zz⟩ := XF.at4
      have HCg : Hid (C ≠ g2) := hne
      clear x0 x1 x2 xz hXX HN b9 og hz9 hC hg hne XF hm
      go_wp2_with fail
      clear z0 z1 z2 z3 zz
      go_loopw [55] (fun i W => ∃ j : Nat, j ≤ n ∧ i = .int .i64 j ∧ ∃ q, FI2 w W m C g2 mem starts n j a c p q) (fun i _ => n - (intOf i).toNat)
      case atStart => exact ⟨0, Nat.zero_le _, rfl, _, G0.out⟩
      case round =>
        obtain ⟨j, hj, rfl, q, hN⟩ := hrel
        clear G0
        have HN : Hid (FI2 w wr m C g2 mem starts n j a c p q) := hN
        obtain ⟨x0, x1, x2, x3, xz⟩ := hN.X.at4
        by_cases hlt : j < n
        · have hjn : (j : Int) < (n : Int) := by omega
          by_cases hjL : j < L
          · have hjL2 : (j : Int) < (L : Int) := by omega
            have hrow := HS.out.below hN.b
            obtain ⟨bs, os, rfl, cj⟩ := hrow.2 j (by rw [HL.out]; exact hjL)
            obtain ⟨s, hs⟩ : ∃ s, starts.getD j 0 = s := ⟨_, rfl⟩
            have HSJ : Hid (s = starts.getD j 0) := hs.symm
            rw [hs] at cj
            clear hN hs hrow
            go_wp2_with fail
            refine fireg_16 (fun _ _ d _ _ h => by cases d <;> exact h) (by omega) hlt HN.out.X HN.out.k.r.row HCg.out ?_
            intro v66 v67 v68 v69 v70 v71 v72 ah ch w3 o1 b1
            have ST : Hid _ := HN.out.step hlt HSJ.out o1 b1
            clear x0 x1 x2 x3 xz o1 b1
            go_wp2
            go_roundw
            case rel => exact ⟨j + 1, by omega, by go_num, _, ST.out⟩
            case measure => simp [intOf]; omega
          · have hjL2 : ¬ ((j : Int) < (L : Int)) := by omega
            have HSJ : Hid ((0 : Int) = starts.getD j 0) := by
              show _ = _
              rw [List.getD_eq_getElem?_getD, List.getElem?_eq_none (by rw [HL.out]; omega)]
              rfl
            clear hN
            go_wp2_with fail
            refine fireg_16 (fun _ _ d _ _ h => by cases d <;> exact h) (by omega) hlt HN.out.X HN.out.k.r.row HCg.out ?_
            intro v66 v67 v68 v69 v70 v71 v72 ah ch w3 o1 b1
            have ST : Hid _ := HN.out.step hlt HSJ.out o1 b1
            clear x0 x1 x2 x3 xz o1 b1
            go_wp2
            go_roundw
            case rel => exact ⟨j + 1, by omega, by go_num, _, ST.out⟩
            case measure => simp [intOf]; omega
        · have hjn : j = n := by omega
          subst hjn
          obtain ⟨y0, y1, y2, y3, yz⟩ := hN.X0.at4
          have f0 := hN.X0.frozen 0
          have f1 := hN.X0.frozen 1
          have f2 := hN.X0.frozen 2
          have f3 := hN.X0.frozen 3
          clear hN
          go_wp2
          have on := ((((Only.refl wr (fun b => b = w.heap.size)).setCell ⟨w.heap.size, 0, none⟩ (.int .i64 (j : Int)) rfl).setCell ⟨w.heap.size, 1, none⟩ (.slice a j c) rfl).setCell ⟨w.heap.size, 2, none⟩ (.slice none 0 0) rfl).setCell ⟨w.heap.size, 3, none⟩ (.slice (some ⟨g2, 0, none⟩) j j) rfl
          have hmm := HN.out.hm
          have lk : ∀ x, RS (some ⟨g2, 0, none⟩) j j (fun i => QCo (newCo (starts.getD i 0)) (q i)) x → m ≤ x := fun x hx => by
            rcases hx with hx | ⟨i, hi, hx⟩
            · simp [blk] at hx
              have := HN.out.hg
              omega
            · have := HN.out.k.lo i hi x hx
              omega
          refine bodyPost_ret (v := .tuple #[.agg #[.int .i64 (j : Int), .slice a j c, .slice none 0 0, .slice (some ⟨g2, 0, none⟩) j j], .bool true]) (by simp [results, Try.results6, go_sem, y0, y1, y2, y3]) rfl (fnew_ok HF.out (Rw.sm HN.out.r (on.sm (fun b hb e => ?_))) (Rw.sm HN.out.k.all (on.sm (fun b hb e => ?_))) (fun b hb hd => ?_) (fun b hb => by have := (HN.out.lo b hb).1; omega) (fun b hb => ?_) ?_)
          · have := (HN.out.lo b hb).1
            omega
          · have := lk b hb
            omega
          · have := (HN.out.lo b hb).2
            have := lk b hd
            omega
          · have := lk b hb
            omega
          · exact bel_setCell (bel_setCell (bel_setCell (bel_setCell HN.out.b _ _ (Nat.le_refl _)) _ _ (Nat.le_refl _)) _ _ (Nat.le_refl _)) _ _ (Nat.le_refl _)

set_option maxRecDepth 100000 in
set_option maxHeartbeats 4000000 in
theorem implFlockNew_no1 (size : Int) (am at0 : Option Addr) (cm cs : Nat) (mem starts : List Int) (w : World) (hb : inB size 1 4 = false) (hm : Row .i64 w am mem) :
    Calls Try.prog 6 #[.int .i64 size, .slice am mem.length cm, .slice at0 starts.length cs] w (FNewP size mem starts w) := by
  have HF : Hid (flkB size mem = false) := by show _ = _; unfold flkB; rw [hb]; rfl
  have HI : Hid (inB size 1 4 = false) := hb
  have B0 := bel_alloc (Below.refl w.heap.size w) (.cells #[.int .i64 0, .slice none 0 0, .slice none 0 0, .slice none 0 0] 29)
  have X0 := Box.new w #[.int .i64 0, .slice none 0 0, .slice none 0 0, .slice none 0 0] 29
  clear hb hm
  go_enter Try.func6, Try.ntmps6
  go_wp2_with fail
  refine (implWorldNew_any size _).mono ?_
  intro e w1 hp
  obtain ⟨a, c, rfl, b1⟩ : ∃ (a : Option Addr) (c : Nat), e = .returned (.tuple #[.agg #[.int .i64 0, .slice a 0 c, .slice none 0 0], .bool false]) ∧ Below (w.alloc (.cells #[.int .i64 0, .slice none 0 0, .slice none 0 0, .slice none 0 0] 29)).heap.size (w.alloc (.cells #[.int .i64 0, .slice none 0 0, .slice none 0 0, .slice none 0 0] 29)) w1 := by
    unfold WNewP theWD at hp
    rw [HI.out] at hp
    obtain ⟨a, c, p, e1, r, _, l, _, b⟩ := hp
    exact ⟨a, c, e1, b⟩
  have bW := bel_alloc (Below.refl w1.heap.size w1) (.cells #[.int .i64 0, .slice a 0 c, .slice none 0 0] 26)
  replace X0 := (X0.below b1).below bW
  have B1 := bel_trans (bel_trans B0 b1) bW
  obtain ⟨y0, y1, y2, y3, yz⟩ := X0.at4
  have f0 := X0.frozen 0
  have f1 := X0.frozen 1
  have f2 := X0.frozen 2
  have f3 := X0.frozen 3
  clear X0 bW b1 B0
  go_wp2
  refine bodyPost_ret (v := .tuple #[.agg #[.int .i64 0, .slice none 0 0, .slice none 0 0, .slice none 0 0], .bool false]) (by simp [results, Try.results6, go_sem, y0, y1, y2, y3]) rfl (fnew_bad HF.out ?_)
  exact bel_setCell (bel_setCell (bel_setCell (bel_setCell B1 _ _ (Nat.le_refl _)) _ _ (Nat.le_refl _)) _ _ (Nat.le_refl _)) _ _ (Nat.le_refl _)

set_option maxRecDepth 100000 in
set_option maxHeartbeats 4000000 in
theorem implFlockNew_no2 (n : Nat) (am at0 : Option Addr) (cm cs : Nat) (mem starts : List Int) (w : World) (hb : inB (n : Int) 1 4 = true) (hw : wordsB mem 24 = false) (hm : Row .i64 w am mem) :
    Calls Try.prog 6 #[.int .i64 n, .slice am mem.length cm, .slice at0 starts.length cs] w (FNewP n mem starts w) := by
  have HF : Hid (flkB (n : Int) mem = false) := by show _ = _; unfold flkB; rw [hb, hw]; rfl
  have HI : Hid (inB (n : Int) 1 4 = true) := hb
  have HW : Hid (wordsB mem 24 = false) := hw
  have HM : Hid (Row .i64 w am mem) := hm
  have B0 := bel_alloc (Below.refl w.heap.size w) (.cells #[.int .i64 0, .slice none 0 0, .slice none 0 0, .slice none 0 0] 29)
  have X0 := Box.new w #[.int .i64 0, .slice none 0 0, .slice none 0 0, .slice none 0 0] 29
  clear hb hm hw
  go_enter Try.func6, Try.ntmps6
  go_wp2_with fail
  refine (implWorldNew_any (n : Int) _).mono ?_
  intro e w1 hp
  obtain ⟨a, c, rfl, b1⟩ : ∃ (a : Option Addr) (c : Nat), e = .returned (.tuple #[.agg #[.int .i64 (n : Int), .slice a n c, .slice none 0 0], .bool true]) ∧ Below (w.alloc (.cells #[.int .i64 0, .slice none 0 0, .slice none 0 0, .slice none 0 0] 29)).heap.size (w.alloc (.cells #[.int .i64 0, .slice none 0 0, .slice none 0 0, .slice none 0 0] 29)) w1 := by
    unfold WNewP theWD at hp
    rw [HI.out] at hp
    obtain ⟨a, c, p, e1, r, _, l, _, b⟩ := hp
    exact ⟨a, c, e1, b⟩
  have bW := bel_alloc (Below.refl w1.heap.size w1) (.cells #[.int .i64 (n : Int), .slice a n c, .slice none 0 0] 26)
  replace X0 := (X0.below b1).below bW
  have B1 := bel_trans (bel_trans B0 b1) bW
  have hmr := HM.out.below B1
  clear bW b1 B0
  go_wp2_with fail
  refine (isMemory_any am cm mem _ hmr).mono ?_
  rintro e w2 ⟨rfl, b2⟩
  rw [HW.out]
  replace B1 := bel_trans B1 b2
  replace X0 := X0.below b2
  obtain ⟨y0, y1, y2, y3, yz⟩ := X0.at4
  have f0 := X0.frozen 0
  have f1 := X0.frozen 1
  have f2 := X0.frozen 2
  have f3 := X0.frozen 3
  clear b2 X0
  go_wp2
  refine bodyPost_ret (v := .tuple #[.agg #[.int .i64 0, .slice none 0 0, .slice none 0 0, .slice none 0 0], .bool false]) (by simp [results, Try.results6, go_sem, y0, y1, y2, y3]) rfl (fnew_bad HF.out ?_)
  exact bel_setCell (bel_setCell (bel_setCell (bel_setCell B1 _ _ (Nat.le_refl _)) _ _ (Nat.le_refl _)) _ _ (Nat.le_refl _)) _ _ (Nat.le_refl _)

theorem implFlockNew_any (size : Int) (am at0 : Option Addr) (cm cs : Nat) (mem starts : List Int) (w : World) (hm : Row .i64 w am mem) (hc : mem.length ≤ cm) (hcx : cm ≤ maxLen) (hs : Row .i64 w at0 starts) (hsl : starts.length ≤ 1048577) :
    Calls Try.prog 6 #[.int .i64 size, .slice am mem.length cm, .slice at0 starts.length cs] w (FNewP size mem starts w) := by
  cases hb : inB size 1 4
  · exact implFlockNew_no1 size am at0 cm cs mem starts w hb hm
  · obtain ⟨n, rfl⟩ : ∃ n : Nat, size = (n : Int) := ⟨size.toNat, by simp [inB] at hb; omega⟩
    cases hw : wordsB mem 24
    · exact implFlockNew_no2 n am at0 cm cs mem starts w hb hw hm
    · exact implFlockNew_ok n am at0 cm cs mem starts w hb hw hm hc hcx hs hsl
end Go.Proofs.Ytfeabhknkoifeaa
