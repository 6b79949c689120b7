/- What the specification's Work answers of a right hart that runs. -/
import Derived.BigRegion
import Derived.Test.YtiilgkloddflcaaHw9
namespace Go.Proofs.Ytiilgkloddflcaa
open Go.RowKit
set_option linter.unusedVariables false

set_option maxRecDepth 100000 in
set_option maxHeartbeats 4000000 in
theorem specWork_yes (p : Option Addr) (c : Nat) (xs : List Int) (pc op r a b n got : Int) (w : World) (ha : Row .i64 w p xs) (hsm : xs.length ≤ 1048577) (h1 : hartB xs pc 0 = true) (h2 : inB got 0 65535 = true) :
    Calls Try.prog 23 #[.agg #[.slice p xs.length c, .int .i64 pc, .int .i64 0], .agg (icells op r a b n), .int .i64 got] w (WorkP (workR xs pc 0 op r a b n got) w) := by
  obtain ⟨hl4, ⟨hp0, hp1⟩, _, hwd⟩ := hart_parts h1
  have HW : Hid (∀ i, i < 4 → 0 ≤ xs.getD i 0 ∧ xs.getD i 0 ≤ 65535) := hwd
  have H1 : Hid (hartB xs pc 0 = true) := h1
  have H2 : Hid (inB got 0 65535 = true) := h2
  obtain ⟨hg0, hg1⟩ : 0 ≤ got ∧ got ≤ 65535 := by simpa [inB] using h2
  have HR : Hid (workR xs pc 0 op r a b n got = if insB op r a b n then opR xs pc op r n got (xs.getD a.toNat 0) (xs.getD b.toNat 0) else (xs, pc, 2, -1)) := by show _ = _; unfold workR; rw [h1, h2]; rfl
  have HL4 : Hid (xs.length = 4) := hl4
  clear h1 h2 hwd hl4
  have bA := bel_alloc (bel_alloc (bel_alloc (Below.refl w.heap.size w) (.cells #[.slice p xs.length c, .int .i64 pc, .int .i64 0] 27)) (.cells (icells op r a b n) 37)) (.cells #[.slice none 0 0, .int .i64 0, .int .i64 0] 27)
  have X3 := (Box.two w #[.slice p xs.length c, .int .i64 pc, .int .i64 0] (icells op r a b n) 27 37).1.below (bel_alloc (Below.refl _ _) (.cells #[.slice none 0 0, .int .i64 0, .int .i64 0] 27))
  have X4 := (Box.two w #[.slice p xs.length c, .int .i64 pc, .int .i64 0] (icells op r a b n) 27 37).2.below (bel_alloc (Below.refl _ _) (.cells #[.slice none 0 0, .int .i64 0, .int .i64 0] 27))
  have X6 := Box.new ((w.alloc (.cells #[.slice p xs.length c, .int .i64 pc, .int .i64 0] 27)).alloc (.cells (icells op r a b n) 37)) #[.slice none 0 0, .int .i64 0, .int .i64 0] 27
  simp only [World.size_alloc] at X6
  have HA : Hid (Row .i64 w p xs) := ha
  have hra := ha.below bA
  clear ha
  go_enter Try.func23, Try.ntmps23
  go_wp2_with fail
  refine (l9Copy_any p c xs pc 0 _ hsm hra).mono ?_
  rintro e w1 ⟨aC, cC, rfl, oC, b1⟩
  have hz1 := b1.size
  simp only [World.size_alloc] at hz1
  have bx := bel_alloc (Below.refl w1.heap.size w1) (.cells #[.slice aC xs.length cC, .int .i64 pc, .int .i64 0] 27)
  have X8 := Box.new w1 #[.slice aC xs.length cC, .int .i64 pc, .int .i64 0] 27
  replace X3 := (X3.below b1).below bx
  replace X4 := (X4.below b1).below bx
  replace X6 := (X6.below b1).below bx
  have hlC : Hid (∀ j, (Value.slice aC xs.length cC).ownBlock = some j → w.heap.size + 3 ≤ j) := fun j h => by have := (oC.lt j h).1; simp at this; omega
  have HG8 : Hid (∀ j, (Value.slice aC xs.length cC).ownBlock = some j → j < w1.heap.size) := fun j h => (oC.lt j h).2
  replace oC := owns_below oC bx
  have B1 := bel_trans (bel_trans bA b1) bx
  have hr1 := HA.out.below B1
  clear bA b1 bx hra
  obtain ⟨x0, x1, x2, xz⟩ := X3.at3
  go_wp2_with fail
  refine (specHartOk_any p c xs pc 0 _ hr1).mono ?_
  rintro e w2 ⟨rfl, b2⟩
  rw [H1.out]
  replace X3 := X3.below b2
  replace X4 := X4.below b2
  replace X6 := X6.below b2
  replace X8 := X8.below b2
  replace oC := owns_below oC b2
  have HB : Hid (Below w.heap.size w w2) := bel_trans B1 b2
  clear x0 x1 x2 xz b2 B1 hr1
  rw [HL4.out] at X3 X8 oC hlC HG8 ⊢
  have hsz2 : Hid (w1.heap.size < w2.heap.size) := X8.lt
  obtain ⟨g, cap, hv, hgl, hgz⟩ := oC.form (by decide)
  simp only [Value.slice.injEq, true_and] at hv
  obtain ⟨rfl, rfl⟩ := hv
  have hg3 := hlC.out g rfl
  have hg8 : g < w1.heap.size := HG8.out g rfl
  obtain ⟨x0, x1, x2, xz⟩ := X3.at3
  obtain ⟨k0, k1, k2, kz⟩ := X8.at3
  have fk1 := X8.frozen 1
  have HX3 : Hid (Box w2 w.heap.size #[.slice p 4 c, .int .i64 pc, .int .i64 0] 27) := X3
  have HX4 : Hid (Box w2 (w.heap.size + 1) (icells op r a b n) 37) := X4
  have HX6 : Hid (Box w2 (w.heap.size + 1 + 1) #[.slice none 0 0, .int .i64 0, .int .i64 0] 27) := X6
  have HX8 : Hid (Box w2 w1.heap.size #[.slice (some ⟨g, 0, none⟩) 4 cC, .int .i64 pc, .int .i64 0] 27) := X8
  have HO : Hid (w2.ownsRow w.heap.size 3 1 (.slice (some ⟨g, 0, none⟩) 4 cC) 4 (xs.map (Value.int .i64))) := owns_base oC (by simp; omega)
  clear X3 X4 X6 X8 oC hgl hgz hsm
  go_wp2_with fail
  refine (specIn_8 got 0 65535 _).mono ?_
  rintro e w3 ⟨rfl, h⟩
  replace h := h.symm
  subst h
  rw [H2.out]
  go_wp2_with fail
  refine (l9Address_any _ _).mono ?_
  rintro e w3 ⟨rfl, h⟩
  replace h := h.symm
  subst h
  obtain ⟨q, hq⟩ : ∃ q, (pc + 1) % 24 = q := ⟨_, rfl⟩
  have HQ : Hid ((pc + 1) % 24 = q) := hq
  rw [hq]
  clear hq
  -- the next address is laid
  have X8 : Hid (Box (w2.setCell ⟨w1.heap.size, 1, none⟩ (.int .i64 q)) w1.heap.size #[.slice (some ⟨g, 0, none⟩) 4 cC, .int .i64 q, .int .i64 0] 27) := heap_setCell_same w2 w1.heap.size 1 _ _ _ HX8.out
  have X3 : Hid (Box (w2.setCell ⟨w1.heap.size, 1, none⟩ (.int .i64 q)) w.heap.size #[.slice p 4 c, .int .i64 pc, .int .i64 0] 27) := HX3.out.far _ _ (by simp; omega)
  have X4 : Hid (Box (w2.setCell ⟨w1.heap.size, 1, none⟩ (.int .i64 q)) (w.heap.size + 1) (icells op r a b n) 37) := HX4.out.far _ _ (by simp; omega)
  have X6 : Hid (Box (w2.setCell ⟨w1.heap.size, 1, none⟩ (.int .i64 q)) (w.heap.size + 1 + 1) #[.slice none 0 0, .int .i64 0, .int .i64 0] 27) := HX6.out.far _ _ (by simp; omega)
  have O : Hid ((w2.setCell ⟨w1.heap.size, 1, none⟩ (.int .i64 q)).ownsRow w.heap.size 3 1 (.slice (some ⟨g, 0, none⟩) 4 cC) 4 (xs.map (Value.int .i64))) := owns_setCell HO.out (fun j hj => by simp [Value.ownBlock] at hj; subst hj; simp; omega) _
  have B : Hid (Below w.heap.size w (w2.setCell ⟨w1.heap.size, 1, none⟩ (.int .i64 q))) := bel_setCell HB.out _ _ (by simp; omega)
  obtain ⟨i0, i1, i2, i3, i4, iz⟩ := HX4.out.at5i
  clear HX3 HX4 HX6 HX8 HO HB x0 x1 x2 xz
  go_wp2_with fail
  refine (specInsOk_any op r a b n _).mono ?_
  rintro e w4 ⟨rfl, b4⟩
  have Y3 : Hid (Box w4 w.heap.size #[.slice p 4 c, .int .i64 pc, .int .i64 0] 27) := X3.out.below b4
  have Y4 : Hid (Box w4 (w.heap.size + 1) (icells op r a b n) 37) := X4.out.below b4
  have Y6 : Hid (Box w4 (w.heap.size + 1 + 1) #[.slice none 0 0, .int .i64 0, .int .i64 0] 27) := X6.out.below b4
  have Y8 : Hid (Box w4 w1.heap.size #[.slice (some ⟨g, 0, none⟩) 4 cC, .int .i64 q, .int .i64 0] 27) := X8.out.below b4
  have YO : Hid (w4.ownsRow w.heap.size 3 1 (.slice (some ⟨g, 0, none⟩) 4 cC) 4 (xs.map (Value.int .i64))) := owns_below O.out b4
  have YB : Hid (Below w.heap.size w w4) := bel_trans B.out b4
  clear X3 X4 X6 X8 O B b4 i0 i1 i2 i3 i4 iz k0 k1 k2 kz fk1
  obtain ⟨x0, x1, x2, xz⟩ := Y3.out.at3
  obtain ⟨k0, k1, k2, kz⟩ := Y8.out.at3
  obtain ⟨m0, m1, m2, mz⟩ := Y6.out.at3
  have fk1 := Y8.out.frozen 1
  have fk2 := Y8.out.frozen 2
  have fm0 := Y6.out.frozen 0
  have fm1 := Y6.out.frozen 1
  have fm2 := Y6.out.frozen 2
  have hne1 : w1.heap.size ≠ g := by omega
  cases hi : insB op r a b n
  · rw [hi] at HR
    have HR2 : Hid (workR xs pc 0 op r a b n got = (xs, pc, 2, -1)) := by show _ = _; rw [HR.out]; rfl
    clear hi HR
    go_wp2
    refine bodyPost_ret (v := .tuple #[.agg #[.slice (some ⟨g, 0, none⟩) 4 cC, .int .i64 pc, .int .i64 2], .int .i64 (-1)]) (by simp [results, Try.results23, go_sem, m0, m1, m2]) rfl ?_
    refine work_end HR2.out HL4.out (owns_setCell (owns_setCell YO.out (fun j hj => ?_) _) (fun j hj => ?_) _) (Nat.le_refl _) (bel_setCell (bel_setCell YB.out _ _ ?_) _ _ ?_) (by omega) (fun j hj => by simp [Value.ownBlock] at hj; omega) _ _ _
    · simp [Value.ownBlock] at hj; subst hj; exact hne1
    · simp [Value.ownBlock] at hj; subst hj; exact hne1
    · show _ ≤ _; simp; omega
    · show _ ≤ _; simp; omega
  · rw [hi] at HR
    obtain ⟨p1, ⟨r0, r1⟩, ⟨a0, a1⟩, ⟨b0, b1⟩, ⟨n0, n1⟩⟩ := ins_parts hi
    obtain ⟨kr, rfl⟩ : ∃ k : Nat, r = (k : Int) := ⟨r.toNat, by omega⟩
    obtain ⟨ka, rfl⟩ : ∃ k : Nat, a = (k : Int) := ⟨a.toNat, by omega⟩
    obtain ⟨kb, rfl⟩ : ∃ k : Nat, b = (k : Int) := ⟨b.toNat, by omega⟩
    have HOP : Hid (op = 1 ∨ op = 2 ∨ op = 3 ∨ op = 4 ∨ op = 5 ∨ op = 6 ∨ op = 7 ∨ op = 8 ∨ op = 9 ∨ op = 10) := by show _ ∨ _; omega
    obtain ⟨va, hva⟩ : ∃ v, xs.getD ka 0 = v := ⟨_, rfl⟩
    obtain ⟨vb, hvb⟩ : ∃ v, xs.getD kb 0 = v := ⟨_, rfl⟩
    have hwa := HW.out ka (by omega)
    have hwb := HW.out kb (by omega)
    rw [hva] at hwa
    rw [hvb] at hwb
    obtain ⟨va0, va1⟩ := hwa
    obtain ⟨vb0, vb1⟩ := hwb
    have HR2 : Hid (workR xs pc 0 op kr ka kb n got = opR xs pc op kr n got va vb) := by
      show _ = _
      rw [HR.out, ← hva, ← hvb]
      rfl
    have hrow := HA.out.below YB.out
    obtain ⟨pb, po, rfl, ca⟩ := hrow.2 ka (by rw [HL4.out]; omega)
    obtain ⟨pb2, po2, ep, cb⟩ := hrow.2 kb (by rw [HL4.out]; omega)
    simp only [Option.some.injEq, Addr.mk.injEq, and_true] at ep
    obtain ⟨e1, e2⟩ := ep
    subst e1 e2
    rw [hva] at ca
    rw [hvb] at cb
    obtain ⟨i0, i1, i2, i3, i4, iz⟩ := Y4.out.at5i
    have hka : (ka : Int) < 4 := by omega
    have hkb : (kb : Int) < 4 := by omega
    have hkr : (kr : Int) < 4 := by omega
    clear hi HR hrow hva hvb p1 a0 a1 b0 b1 r0 r1 hp0 hp1
    go_wp2
    go_region
    obtain ⟨V, hV⟩ : ∃ V, w4.drew = V := ⟨_, rfl⟩
    have bV : Below w4.heap.size w4 V := by rw [← hV]; exact below_drewN (Below.refl _ _) 1
    rw [hV]
    have Z4 := Y4.out.below bV
    have Z6 := Y6.out.below bV
    have Z8 := Y8.out.below bV
    have Z3 := Y3.out.below bV
    have ZO := owns_below YO.out bV
    have ZB := bel_trans YB.out bV
    clear Y3 Y4 Y6 Y8 YO YB x0 x1 x2 xz k0 k1 k2 kz m0 m1 m2 mz fk1 fk2 fm0 fm1 fm2 i0 i1 i2 i3 i4 iz ca cb bV hV
    have OS : Hid (∀ v : Int, (V.setCell ⟨g, kr, none⟩ (.int .i64 v)).ownsRow w.heap.size 3 1 (.slice (some ⟨g, 0, none⟩) 4 cC) 4 ((xs.set kr v).map (Value.int .i64)) ∧ Below w.heap.size w (V.setCell ⟨g, kr, none⟩ (.int .i64 v))) := fun v => by
      have h := (ZO.stored kr (.int .i64 v)).1
      rw [← List.map_set] at h
      exact ⟨h, bel_setCell ZB _ _ (by simp; omega)⟩
    have OS2 : Hid (∀ v : Int, (V.setCell ⟨g, kr, none⟩ (.int .i64 v)).drew.ownsRow w.heap.size 3 1 (.slice (some ⟨g, 0, none⟩) 4 cC) 4 ((xs.set kr v).map (Value.int .i64)) ∧ Below w.heap.size w (V.setCell ⟨g, kr, none⟩ (.int .i64 v)).drew) := fun v => ⟨owns_drew (OS.out v).1, below_drewN (OS.out v).2 1⟩
    have OP : Hid (∀ v : Value, (V.setCell ⟨w1.heap.size, 1, none⟩ v).ownsRow w.heap.size 3 1 (.slice (some ⟨g, 0, none⟩) 4 cC) 4 (xs.map (Value.int .i64)) ∧ Below w.heap.size w (V.setCell ⟨w1.heap.size, 1, none⟩ v)) := fun v => ⟨owns_setCell ZO (fun j hj => by simp [Value.ownBlock] at hj; subst hj; exact hne1) _, bel_setCell ZB _ _ (by simp; omega)⟩
    have OH : Hid (∀ v u : Value, ((V.setCell ⟨w1.heap.size, 1, none⟩ v).setCell ⟨w1.heap.size, 2, none⟩ u).ownsRow w.heap.size 3 1 (.slice (some ⟨g, 0, none⟩) 4 cC) 4 (xs.map (Value.int .i64)) ∧ Below w.heap.size w ((V.setCell ⟨w1.heap.size, 1, none⟩ v).setCell ⟨w1.heap.size, 2, none⟩ u)) := fun v u => ⟨owns_setCell (OP.out v).1 (fun j hj => by simp [Value.ownBlock] at hj; subst hj; exact hne1) _, bel_setCell (OP.out v).2 _ _ (by simp; omega)⟩
    have OZ : Hid (V.ownsRow w.heap.size 3 1 (.slice (some ⟨g, 0, none⟩) 4 cC) 4 (xs.map (Value.int .i64)) ∧ Below w.heap.size w V) := ⟨ZO, ZB⟩
    have gc : V.cell? ⟨g, kr, none⟩ = some (.int .i64 (xs.getD kr 0)) := by
      have h4 := HL4.out
      rw [ZO.cellAt kr (by omega), List.getElem?_map, List.getElem?_eq_getElem (by omega)]
      simp [show kr < xs.length by omega]
    have gf := ZO.frozenAt kr
    obtain ⟨ov, hov⟩ : ∃ v, xs.getD kr 0 = v := ⟨_, rfl⟩
    rw [hov] at gc
    have gz := lt_of_cell gc
    obtain ⟨x0, x1, x2, xz⟩ := Z3.at3
    obtain ⟨k0, k1, k2, kz⟩ := Z8.at3
    obtain ⟨m0, m1, m2, mz⟩ := Z6.at3
    obtain ⟨i0, i1, i2, i3, i4, iz⟩ := Z4.at5i
    have fk1 := Z8.frozen 1
    have fk2 := Z8.frozen 2
    have fm0 := Z6.frozen 0
    have fm1 := Z6.frozen 1
    have fm2 := Z6.frozen 2
    have hm6 : Hid (∀ j, (Value.slice (some ⟨g, 0, none⟩) 4 cC).ownBlock = some j → w.heap.size + 1 + 1 ≠ j) := fun j hj => by simp [Value.ownBlock] at hj; omega
    have hset : Hid (∀ v, (xs.set kr v).length = 4) := fun v => by rw [List.length_set]; exact HL4.out
    clear Z3 Z4 Z6 Z8 ZO ZB hov
    have hop := HOP.out
    clear HOP H1
    rcases hop with rfl | rfl | rfl | rfl | rfl | rfl | rfl | rfl | rfl | rfl
    · -- InSet
      go_wp2
      refine bodyPost_ret (v := .tuple #[.agg #[.slice (some ⟨g, 0, none⟩) 4 cC, .int .i64 q, .int .i64 0], .int .i64 (-1)]) (by simp [results, Try.results23, go_sem, m0, m1, m2]) rfl ?_
      exact work_end (HR2.out.trans (by rw [← HQ.out]; rfl)) (hset.out n) (OS.out n).1 (Nat.le_refl _) (OS.out n).2 (by omega) hm6.out _ _ _
    · -- InAdd
      have hwr : IntKind.i64.wrap (va + vb) = va + vb := by rw [IntKind.wrap_i64]; omega
      go_wp2
      have ne1 : g ≠ w1.heap.size := by omega
      have ne2 : g ≠ w.heap.size + 1 := by omega
      go_region_held3 (fun w' => w'.cell? ⟨w1.heap.size, 0, none⟩ = some (.slice (some ⟨g, 0, none⟩) 4 cC) ∧ w'.cell? ⟨w.heap.size + 1, 1, none⟩ = some (.int .i64 (kr : Int)) ∧ w'.cell? ⟨w.heap.size + 1, 4, none⟩ = some (.int .i64 n))
        (go_keep) ((go_at_call 48; refine (l9Word_any _ _).mono ?_; rintro e w5 ⟨rfl, rfl⟩))
      all_goals
        go_wp2
        refine bodyPost_ret (v := .tuple #[.agg #[.slice (some ⟨g, 0, none⟩) 4 cC, .int .i64 q, .int .i64 0], .int .i64 (-1)]) (by simp [results, Try.results23, go_sem, m0, m1, m2]) rfl ?_
        exact work_end (HR2.out.trans (by rw [← HQ.out]; rfl)) (hset.out _) (OS2.out ((va + vb) % 65536)).1 (Nat.le_refl _) (OS2.out ((va + vb) % 65536)).2 (by omega) hm6.out _ _ _
    · -- InMore
      have hwr : IntKind.i64.wrap (va + n) = va + n := by rw [IntKind.wrap_i64]; omega
      go_wp2
      have ne1 : g ≠ w1.heap.size := by omega
      have ne2 : g ≠ w.heap.size + 1 := by omega
      go_region_held3 (fun w' => w'.cell? ⟨w1.heap.size, 0, none⟩ = some (.slice (some ⟨g, 0, none⟩) 4 cC) ∧ w'.cell? ⟨w.heap.size + 1, 1, none⟩ = some (.int .i64 (kr : Int)) ∧ w'.cell? ⟨w.heap.size + 1, 4, none⟩ = some (.int .i64 n))
        (go_keep) ((go_at_call 48; refine (l9Word_any _ _).mono ?_; rintro e w5 ⟨rfl, rfl⟩))
      all_goals
        go_wp2
        refine bodyPost_ret (v := .tuple #[.agg #[.slice (some ⟨g, 0, none⟩) 4 cC, .int .i64 q, .int .i64 0], .int .i64 (-1)]) (by simp [results, Try.results23, go_sem, m0, m1, m2]) rfl ?_
        exact work_end (HR2.out.trans (by rw [← HQ.out]; rfl)) (hset.out _) (OS2.out ((va + n) % 65536)).1 (Nat.le_refl _) (OS2.out ((va + n) % 65536)).2 (by omega) hm6.out _ _ _
    · -- InLoad
      go_wp2
      refine bodyPost_ret (v := .tuple #[.agg #[.slice (some ⟨g, 0, none⟩) 4 cC, .int .i64 q, .int .i64 0], .int .i64 (-1)]) (by simp [results, Try.results23, go_sem, m0, m1, m2]) rfl ?_
      exact work_end (HR2.out.trans (by rw [← HQ.out]; rfl)) (hset.out got) (OS.out got).1 (Nat.le_refl _) (OS.out got).2 (by omega) hm6.out _ _ _
    · -- InStore
      go_wp2
      refine bodyPost_ret (v := .tuple #[.agg #[.slice (some ⟨g, 0, none⟩) 4 cC, .int .i64 q, .int .i64 0], .int .i64 vb]) (by simp [results, Try.results23, go_sem, m0, m1, m2]) rfl ?_
      exact work_end (HR2.out.trans (by rw [← HQ.out]; rfl)) HL4.out OZ.out.1 (Nat.le_refl _) OZ.out.2 (by omega) hm6.out _ _ _
    · -- InSwap
      go_wp2_with fail
      refine (l9Word_any _ _).mono ?_
      rintro e w5 ⟨rfl, h⟩
      subst h
      obtain ⟨u, hu⟩ : ∃ u, (got + vb) % 65536 = u := ⟨_, rfl⟩
      have HU : Hid ((got + vb) % 65536 = u) := hu
      rw [hu]
      clear hu
      go_wp2
      refine bodyPost_ret (v := .tuple #[.agg #[.slice (some ⟨g, 0, none⟩) 4 cC, .int .i64 q, .int .i64 0], .int .i64 u]) (by simp [results, Try.results23, go_sem, m0, m1, m2]) rfl ?_
      exact work_end (HR2.out.trans (by rw [← HQ.out, ← HU.out]; rfl)) (hset.out got) (OS.out got).1 (Nat.le_refl _) (OS.out got).2 (by omega) hm6.out _ _ _
    · -- InZero
      by_cases hz : va = 0
      · subst hz
        go_wp2_with fail
        refine (l9Address_any _ _).mono ?_
        rintro e w5 ⟨rfl, h⟩
        subst h
        obtain ⟨u, hu⟩ : ∃ u, n % 24 = u := ⟨_, rfl⟩
        have HU : Hid (n % 24 = u) := hu
        rw [hu]
        clear hu
        go_wp2
        refine bodyPost_ret (v := .tuple #[.agg #[.slice (some ⟨g, 0, none⟩) 4 cC, .int .i64 u, .int .i64 0], .int .i64 (-1)]) (by simp [results, Try.results23, go_sem, m0, m1, m2]) rfl ?_
        exact work_end (HR2.out.trans (by rw [← HU.out]; rfl)) HL4.out (OP.out _).1 (Nat.le_refl _) (OP.out _).2 (by omega) hm6.out _ _ _
      · have ez : (va == 0) = false := by simpa using hz
        have HZ : Hid (¬ va = 0) := hz
        go_wp2
        refine bodyPost_ret (v := .tuple #[.agg #[.slice (some ⟨g, 0, none⟩) 4 cC, .int .i64 q, .int .i64 0], .int .i64 (-1)]) (by simp [results, Try.results23, go_sem, m0, m1, m2]) rfl ?_
        exact work_end (HR2.out.trans (by rw [← HQ.out]; unfold opR; simp [HZ.out])) HL4.out OZ.out.1 (Nat.le_refl _) OZ.out.2 (by omega) hm6.out _ _ _
    · -- InJump
      go_wp2_with fail
      refine (l9Address_any _ _).mono ?_
      rintro e w5 ⟨rfl, h⟩
      subst h
      obtain ⟨u, hu⟩ : ∃ u, n % 24 = u := ⟨_, rfl⟩
      have HU : Hid (n % 24 = u) := hu
      rw [hu]
      clear hu
      go_wp2
      refine bodyPost_ret (v := .tuple #[.agg #[.slice (some ⟨g, 0, none⟩) 4 cC, .int .i64 u, .int .i64 0], .int .i64 (-1)]) (by simp [results, Try.results23, go_sem, m0, m1, m2]) rfl ?_
      exact work_end (HR2.out.trans (by rw [← HU.out]; rfl)) HL4.out (OP.out _).1 (Nat.le_refl _) (OP.out _).2 (by omega) hm6.out _ _ _
    · -- InHalt
      go_wp2
      refine bodyPost_ret (v := .tuple #[.agg #[.slice (some ⟨g, 0, none⟩) 4 cC, .int .i64 pc, .int .i64 1], .int .i64 (-1)]) (by simp [results, Try.results23, go_sem, m0, m1, m2]) rfl ?_
      exact work_end (HR2.out.trans rfl) HL4.out (OH.out _ _).1 (Nat.le_refl _) (OH.out _ _).2 (by omega) hm6.out _ _ _
    · -- InSub
      have hwr : IntKind.i64.wrap (va - vb) = va - vb := by rw [IntKind.wrap_i64]; omega
      go_wp2
      have ne1 : g ≠ w1.heap.size := by omega
      have ne2 : g ≠ w.heap.size + 1 := by omega
      go_region_held3 (fun w' => w'.cell? ⟨w1.heap.size, 0, none⟩ = some (.slice (some ⟨g, 0, none⟩) 4 cC) ∧ w'.cell? ⟨w.heap.size + 1, 1, none⟩ = some (.int .i64 (kr : Int)) ∧ w'.cell? ⟨w.heap.size + 1, 4, none⟩ = some (.int .i64 n))
        (go_keep) ((go_at_call 48; refine (l9Word_any _ _).mono ?_; rintro e w5 ⟨rfl, rfl⟩))
      all_goals
        go_wp2
        refine bodyPost_ret (v := .tuple #[.agg #[.slice (some ⟨g, 0, none⟩) 4 cC, .int .i64 q, .int .i64 0], .int .i64 (-1)]) (by simp [results, Try.results23, go_sem, m0, m1, m2]) rfl ?_
        exact work_end (HR2.out.trans (by rw [← HQ.out]; rfl)) (hset.out _) (OS2.out ((va - vb) % 65536)).1 (Nat.le_refl _) (OS2.out ((va - vb) % 65536)).2 (by omega) hm6.out _ _ _

theorem specWork_any (p : Option Addr) (c : Nat) (xs : List Int) (pc st op r a b n got : Int) (w : World) (ha : Row .i64 w p xs) (hsm : xs.length ≤ 1048577) :
    Calls Try.prog 23 #[.agg #[.slice p xs.length c, .int .i64 pc, .int .i64 st], .agg (icells op r a b n), .int .i64 got] w (WorkP (workR xs pc st op r a b n got) w) := by
  cases h : (hartB xs pc st && (st == 0 && inB got 0 65535))
  · exact specWork_no p c xs pc st op r a b n got w ha hsm h
  · simp only [Bool.and_eq_true, beq_iff_eq] at h
    obtain ⟨h1, rfl, h2⟩ := h
    exact specWork_yes p c xs pc op r a b n got w ha hsm h1 h2
end Go.Proofs.Ytiilgkloddflcaa
