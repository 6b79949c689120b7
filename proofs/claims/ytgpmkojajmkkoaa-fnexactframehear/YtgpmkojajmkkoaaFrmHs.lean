/- What the specification's FrameHear does. -/
import Derived.Test.YtgpmkojajmkkoaaFrmHi
import Derived.Deep.AppendLies
import Derived.Deep.RegionLaw
namespace Go.Proofs.Ytgpmkojajmkkoaa
open Go.RowKit
set_option linter.unusedVariables false

theorem bitTrue_any (w : World) : Calls Try.prog 20 #[.bool true] w fun e w' => e = .returned (.int .i64 1) ∧ w' = w := by
  go_enter Try.func20, Try.ntmps20
  go_wp2
  go_ret
  exact ⟨rfl, rfl⟩
theorem bitFalse_any (w : World) : Calls Try.prog 20 #[.bool false] w fun e w' => e = .returned (.int .i64 0) ∧ w' = w := by
  go_enter Try.func20, Try.ntmps20
  go_wp2
  go_ret
  exact ⟨rfl, rfl⟩

theorem bel_dw {w W : World} (h : Below w.heap.size w W) : Below w.heap.size w W.drew := below_drewN h 1
theorem own_dw {W : World} {base e size n : Nat} {v : Value} {xs : List Value} (h : W.ownsRow base e size v n xs) : W.drew.ownsRow base e size v n xs := h

theorem gr_un {a b : World} {row : Option Nat} (h : a.drew.grownBy b row) : a.grownBy b row := ⟨h.os, h.tape, h.output, h.size, h.block⟩

theorem row_src2 {k : IntKind} {w : World} {b off : Nat} {xs : List Int} (h : Row k w (some ⟨b, off, none⟩) xs) : ∀ j v, (xs.map (Value.int k))[j]? = some v → w.cell? ((⟨b, off, none⟩ : Addr).add j) = some v := fun j v hv => by
  have h0 : 0 < xs.length := by
    have := (List.getElem?_eq_some_iff.1 hv).1
    simp at this
    omega
  obtain ⟨b', off', e, hs⟩ := row_src h h0
  simp at e
  obtain ⟨rfl, rfl⟩ := e
  exact hs j v hv

theorem keep2g {W W' : World} {row : Option Nat} (g : W.grownBy W' row) {a0 a1 : Addr} {u0 u1 : Value} (h : W.cell? a0 = some u0 ∧ W.cell? a1 = some u1) (hne : row ≠ some a0.block ∧ row ≠ some a1.block) : W'.cell? a0 = some u0 ∧ W'.cell? a1 = some u1 := by
  have far : ∀ y : Addr, ∀ v, row ≠ some y.block → W.cell? y = some v → W'.cell? y = some v := fun y v hy hv => by
    obtain ⟨yb, yo, ys⟩ := y
    have hs := World.cell?_spot hv
    simp at hs
    subst hs
    rw [World.cell?_of_block (g.block yb (lt_of_cell hv) (fun e => hy e.symm))]
    exact hv
  exact ⟨far _ _ hne.1 h.1, far _ _ hne.2 h.2⟩

theorem keep2n {W : World} {x : Addr} {u : Value} {a0 a1 : Addr} {u0 u1 : Value} (h : W.cell? a0 = some u0 ∧ W.cell? a1 = some u1) (k : a0.block ≠ x.block ∧ a1.block ≠ x.block) : (W.setCell x u).cell? a0 = some u0 ∧ (W.setCell x u).cell? a1 = some u1 := by
  have far : ∀ y : Addr, ∀ v, y.block ≠ x.block → W.cell? y = some v → (W.setCell x u).cell? y = some v := fun y v hy hv => by
    rw [World.cell?_setCell_other _ _ _ _ (fun e => by subst e; exact hy rfl)]
    exact hv
  exact ⟨far _ _ k.1 h.1, far _ _ k.2 h.2⟩

theorem keep5n {W : World} {x : Addr} {u : Value} {a0 a1 a2 a3 a4 : Addr} {u0 u1 u2 u3 u4 : Value}
    (h : W.cell? a0 = some u0 ∧ W.cell? a1 = some u1 ∧ W.cell? a2 = some u2 ∧ W.cell? a3 = some u3 ∧ W.cell? a4 = some u4)
    (k : a0.block ≠ x.block ∧ a1.block ≠ x.block ∧ a2.block ≠ x.block ∧ a3.block ≠ x.block ∧ a4.block ≠ x.block) :
    (W.setCell x u).cell? a0 = some u0 ∧ (W.setCell x u).cell? a1 = some u1 ∧ (W.setCell x u).cell? a2 = some u2 ∧ (W.setCell x u).cell? a3 = some u3 ∧ (W.setCell x u).cell? a4 = some u4 := by
  have far : ∀ y : Addr, ∀ v, y.block ≠ x.block → W.cell? y = some v → (W.setCell x u).cell? y = some v := fun y v hy hv => by
    rw [World.cell?_setCell_other _ _ _ _ (fun e => by subst e; exact hy rfl)]
    exact hv
  exact ⟨far _ _ k.1 h.1, far _ _ k.2.1 h.2.1, far _ _ k.2.2.1 h.2.2.1, far _ _ k.2.2.2.1 h.2.2.2.1, far _ _ k.2.2.2.2 h.2.2.2.2⟩

theorem keep2d {W : World} {a0 a1 : Addr} {u0 u1 : Value} (h : W.cell? a0 = some u0 ∧ W.cell? a1 = some u1) : W.drew.cell? a0 = some u0 ∧ W.drew.cell? a1 = some u1 := h
theorem keep5d {W : World} {a0 a1 a2 a3 a4 : Addr} {u0 u1 u2 u3 u4 : Value} (h : W.cell? a0 = some u0 ∧ W.cell? a1 = some u1 ∧ W.cell? a2 = some u2 ∧ W.cell? a3 = some u3 ∧ W.cell? a4 = some u4) : W.drew.cell? a0 = some u0 ∧ W.drew.cell? a1 = some u1 ∧ W.drew.cell? a2 = some u2 ∧ W.drew.cell? a3 = some u3 ∧ W.drew.cell? a4 = some u4 := h
theorem keep7d {W : World} {a0 a1 a2 a3 a4 a5 a6 : Addr} {u0 u1 u2 u3 u4 u5 u6 : Value} (h : W.cell? a0 = some u0 ∧ W.cell? a1 = some u1 ∧ W.cell? a2 = some u2 ∧ W.cell? a3 = some u3 ∧ W.cell? a4 = some u4 ∧ W.cell? a5 = some u5 ∧ W.cell? a6 = some u6) : W.drew.cell? a0 = some u0 ∧ W.drew.cell? a1 = some u1 ∧ W.drew.cell? a2 = some u2 ∧ W.drew.cell? a3 = some u3 ∧ W.drew.cell? a4 = some u4 ∧ W.drew.cell? a5 = some u5 ∧ W.drew.cell? a6 = some u6 := h

theorem mb_set2 {W w1 : World} {A : Nat} {p : Int} {xs : List Int} {a5 : Option Addr} {k5 lo : Nat} (X : Box w1 A #[.int .i64 0, .int .i64 0, .bool false, .slice none 0 0] 30) (hA : W.heap.size ≤ A) (o : w1.ownsRow lo 3 1 (.slice a5 xs.length k5) xs.length (xs.map (Value.int .i64))) (hlo : W.heap.size ≤ lo) (hne : ∀ j, (Value.slice a5 xs.length k5).ownBlock = some j → A ≠ j) (b1 : Below W.heap.size W w1) :
    MB W p xs (.pointer (some ⟨A, 0, none⟩)) ((((w1.setCell ⟨A, 0, none⟩ (.int .i64 7)).setCell ⟨A, 1, none⟩ (.int .i64 p)).setCell ⟨A, 2, none⟩ (.bool false)).setCell ⟨A, 3, none⟩ (.slice a5 xs.length k5)) := by
  refine ⟨_, a5, k5, rfl, hA, heap_setCell_same _ _ 3 _ _ _ (heap_setCell_same _ _ 2 _ _ _ (heap_setCell_same _ _ 1 _ _ _ (heap_setCell_same _ _ 0 _ _ _ X))), ?_, hne, ?_⟩
  · repeat refine owns_setCell ?_ ?_ _
    · exact owns_base o hlo
    all_goals (intro j h; exact hne j h)
  · repeat refine bel_setCell ?_ _ _ ?_
    · exact b1
    all_goals exact hA

set_option maxRecDepth 100000 in
set_option maxHeartbeats 4000000 in
theorem specHear_any (s : Int) (q : Bool) (a : Option Addr) (ca : Nat) (xs : List Int) (k p : Int) (o : Bool) (am : Option Addr) (cm : Nat) (ys : List Int) (w : World) (hsm : xs.length ≤ 1048577) (ha : Row .i64 w a xs) (hm : Row .i64 w am ys) :
    Calls Try.prog 6 #[.agg #[.int .i64 s, .slice a xs.length ca, .bool q], .agg #[.int .i64 k, .int .i64 p, .bool o, .slice am ys.length cm]] w fun e w' => HearP (hearR s q xs k p o ys) w e w' := by
  obtain ⟨W, hW, X0, X1, X2, X3, B, HS⟩ := Box.four w #[.int .i64 s, .slice a xs.length ca, .bool q] #[.int .i64 k, .int .i64 p, .bool o, .slice am ys.length cm] #[.int .i64 0, .slice none 0 0, .bool false] #[.int .i64 0, .int .i64 0, .bool false, .slice none 0 0] 29 30 29 30
  have HWs : Hid (W.heap.size = w.heap.size + 4) := HS
  clear HS
  have hr := ha.below B
  have hy := hm.below B
  obtain ⟨m0, m1, m2, mz⟩ := X0.at3
  go_enter Try.func6, Try.ntmps6
  go_wp2_with fail
  clear hW ha hm m0 m1 m2 mz
  refine (l3Copy_any s q a ca xs _ hsm hr).mono ?_
  rintro e w1 ⟨v, rfl, OV, b1⟩
  have s1 : w.heap.size + 4 ≤ w1.heap.size := by have h1 := b1.size; have h2 := HWs.out; omega
  have LV : Hid (∀ j, v.ownBlock = some j → w.heap.size + 4 ≤ j ∧ j < w1.heap.size) := fun j h => by have h1 := OV.lt j h; have h2 := HWs.out; omega
  replace OV := owns_base OV (by have h2 := HWs.out; show w.heap.size ≤ _; omega)
  obtain ⟨av, kv, rfl⟩ := owns_slice OV
  replace X0 := X0.below b1
  replace X1 := X1.below b1
  replace X2 := X2.below b1
  replace X3 := X3.below b1
  replace hr := hr.below b1
  replace hy := hy.below b1
  replace B := bel_trans B b1
  clear b1
  have bx := bel_alloc (Below.refl w1.heap.size w1) (.cells #[.int .i64 s, .slice av xs.length kv, .bool q] 29)
  have XO := Box.new w1 #[.int .i64 s, .slice av xs.length kv, .bool q] 29
  replace X0 := X0.below bx
  replace X1 := X1.below bx
  replace X2 := X2.below bx
  replace X3 := X3.below bx
  replace hr := hr.below bx
  replace hy := hy.below bx
  replace OV := owns_below OV bx
  replace B := bel_trans B bx
  obtain ⟨W2, hW2⟩ : ∃ W2, w1.alloc (.cells #[.int .i64 s, .slice av xs.length kv, .bool q] 29) = W2 := ⟨_, rfl⟩
  rw [hW2] at X0 X1 X2 X3 XO hr hy B OV
  clear bx
  obtain ⟨m0, m1, m2, mz⟩ := X0.at3
  go_wp2_with fail
  clear hW2 m0 m1 m2 mz
  refine (specFrameOk_any s q a ca xs _ hr).mono ?_
  rintro e w2 ⟨rfl, b2⟩
  replace X0 := X0.below b2
  replace X1 := X1.below b2
  replace X2 := X2.below b2
  replace X3 := X3.below b2
  replace XO := XO.below b2
  replace OV := owns_below OV b2
  replace hr := hr.below b2
  replace hy := hy.below b2
  replace B := bel_trans B b2
  clear b2
  rcases hear_cases s q xs k p o ys with ⟨hf, hR⟩ | ⟨hf, hk, hR⟩ | ⟨hf, hk, hc⟩
  · have HR : Hid (hearR s q xs k p o ys = ⟨s, xs, q, 0, 0, [], false⟩) := hR
    clear hR
    obtain ⟨h0, h1, h2, hz⟩ := XO.at3
    obtain ⟨n0, n1, n2, n3, nz⟩ := X1.at4
    obtain ⟨m0, m1, m2, mz⟩ := X0.at3
    have f20 := X2.frozen 0
    have f21 := X2.frozen 1
    have f22 := X2.frozen 2
    have f30 := X3.frozen 0
    have f31 := X3.frozen 1
    have f32 := X3.frozen 2
    have f33 := X3.frozen 3
    obtain ⟨y0, y1, y2, yz⟩ := X2.at3
    obtain ⟨z0, z1, z2, z3, zz⟩ := X3.at4
    clear hr hy X0 X1 XO X2 X3
    go_wp2
    rw [HR.out]
    refine bodyPost_ret (v := .tuple #[.agg #[.int .i64 s, .slice av xs.length kv, .bool q], .agg #[.int .i64 0, .int .i64 0, .bool false, .slice none 0 0], .bool false]) (by simp [results, Try.results6, go_sem, y0, y1, y2, z0, z1, z2, z3]) rfl ⟨.slice av xs.length kv, .slice none 0 0, rfl, ?_, ?_, ?_, ?_⟩
    · skip
      repeat refine owns_setCell ?_ ?_ _
      · exact OV
      all_goals (intro j h; have := LV.out j h; simp; omega)
    · exact World.ownsRow_nil _ _ _ _
    · intro j _ h; cases h
    · skip
      repeat refine bel_setCell ?_ _ _ ?_
      · exact B
      all_goals (simp; try omega)
  · have HR : Hid (hearR s q xs k p o ys = ⟨s, xs, q, 0, 0, [], false⟩) := hR
    clear hR
    obtain ⟨n0, n1, n2, n3, nz⟩ := X1.at4
    go_wp2_with fail
    refine (specMsgOk_any k p o am cm ys _ hy).mono ?_
    rintro e w3 ⟨rfl, b3⟩
    clear n0 n1 n2 n3 nz
    replace X0 := X0.below b3
    replace X1 := X1.below b3
    replace X2 := X2.below b3
    replace X3 := X3.below b3
    replace XO := XO.below b3
    replace OV := owns_below OV b3
    replace hr := hr.below b3
    replace hy := hy.below b3
    replace B := bel_trans B b3
    clear b3
    obtain ⟨h0, h1, h2, hz⟩ := XO.at3
    obtain ⟨n0, n1, n2, n3, nz⟩ := X1.at4
    obtain ⟨m0, m1, m2, mz⟩ := X0.at3
    have f20 := X2.frozen 0
    have f21 := X2.frozen 1
    have f22 := X2.frozen 2
    have f30 := X3.frozen 0
    have f31 := X3.frozen 1
    have f32 := X3.frozen 2
    have f33 := X3.frozen 3
    obtain ⟨y0, y1, y2, yz⟩ := X2.at3
    obtain ⟨z0, z1, z2, z3, zz⟩ := X3.at4
    clear hr hy X0 X1 XO X2 X3
    go_wp2
    rw [HR.out]
    refine bodyPost_ret (v := .tuple #[.agg #[.int .i64 s, .slice av xs.length kv, .bool q], .agg #[.int .i64 0, .int .i64 0, .bool false, .slice none 0 0], .bool false]) (by simp [results, Try.results6, go_sem, y0, y1, y2, z0, z1, z2, z3]) rfl ⟨.slice av xs.length kv, .slice none 0 0, rfl, ?_, ?_, ?_, ?_⟩
    · skip
      repeat refine owns_setCell ?_ ?_ _
      · exact OV
      all_goals (intro j h; have := LV.out j h; simp; omega)
    · exact World.ownsRow_nil _ _ _ _
    · intro j _ h; cases h
    · skip
      repeat refine bel_setCell ?_ _ _ ?_
      · exact B
      all_goals (simp; try omega)
  · obtain ⟨n0, n1, n2, n3, nz⟩ := X1.at4
    go_wp2_with fail
    refine (specMsgOk_any k p o am cm ys _ hy).mono ?_
    rintro e w3 ⟨rfl, b3⟩
    clear n0 n1 n2 n3 nz
    replace X0 := X0.below b3
    replace X1 := X1.below b3
    replace X2 := X2.below b3
    replace X3 := X3.below b3
    replace XO := XO.below b3
    replace OV := owns_below OV b3
    replace hr := hr.below b3
    replace hy := hy.below b3
    replace B := bel_trans B b3
    clear b3
    have z3 : w1.heap.size < w3.heap.size := XO.lt
    rcases hc with ⟨rfl, hR⟩ | ⟨rfl, hR⟩ | ⟨rfl, rfl, rfl, hR⟩ | ⟨rfl, rfl, rfl, hR⟩ | ⟨rfl, hs, hR⟩ | ⟨h3, h4, h6, hR⟩
    · obtain ⟨g0, hg0⟩ : ∃ g : Int, (if o = true then (2 : Int) else 1) = g := ⟨_, rfl⟩
      have HR : Hid (hearR s q xs 3 p o ys = ⟨g0, ys, false, 0, 0, [], false⟩) := by rw [← hg0]; exact hR
      have hw4 : wordsB ys 4 = true := by rw [← ok_3 (ok_page' hk)]; exact hk
      have hyl : ys.length = 4 := by unfold wordsB at hw4; simp only [Bool.and_eq_true] at hw4; have := eq_of_beq hw4.2; omega
      have hy0 : 0 < ys.length := by omega
      have hy5 : ys.length < 5 := by omega
      clear hyl
      clear hR hw4
      obtain ⟨i0, hi, hz0, hz1, hz2⟩ := info_parts info_i64
      obtain ⟨n0, n1, n2, n3, nz⟩ := X1.at4
      obtain ⟨h0, h1, h2, hz⟩ := XO.at3
      have e0 := XO.frozen 0
      have e1 := XO.frozen 1
      have e2 := XO.frozen 2
      obtain ⟨b, off, rfl, hsrc⟩ := row_src (hy.below (bel_alloc (Below.refl w3.heap.size w3) (.cells #[] 3))) (by omega)
      have oL := own_lit0 w3 w3.heap.size (Nat.le_refl _)
      have hcl : (ys.map (Value.int .i64)).length = ys.length * 1 := by simp
      have hR3 := hy.below (bel_alloc (Below.refl w3.heap.size w3) (.cells #[] 3))
      have hLn : Hid ((Value.slice (some ⟨w3.heap.size, 0, none⟩) 0 0).ownBlock = some w3.heap.size) := rfl
      go_upto_region 6 with fail
      have bL := bel_alloc (Below.refl w3.heap.size w3) (.cells #[] 3)
      cases o
      · obtain rfl : 1 = g0 := by simpa using hg0
        go_region_held3 (fun w' => w'.cell? ⟨w.heap.size + 1, 2, none⟩ = some (.bool false) ∧ w'.cell? ⟨w.heap.size + 1, 3, none⟩ = some (.slice (some ⟨b, off, none⟩) ys.length cm))
          (first | (with_reducible exact keep2g hgrow ‹_› ⟨fun e => by rw [hLn.out] at e; simp at e; omega, fun e => by rw [hLn.out] at e; simp at e; omega⟩) | ((with_reducible refine keep2n (keep2n (keep2n ‹_› ?_) ?_) ?_) <;> (simp; omega)) | go_keep)
          (first | (refine step_append_lies _ (by rfl) _ _ _ (by rfl) w3.heap.size 3 i0 (.int .i64 0) 1 8 Try.underlying22 hi hz0 hz1 hz2 rfl (by omega) (.slice (some ⟨w3.heap.size, 0, none⟩) 0 0) 0 [] (by rfl) oL ⟨b, off, none⟩ ys.length cm (ys.map (Value.int .i64)) (by rfl) hcl hsrc ?_ (by omega) (by unfold maxLen; omega) (by omega) (by first | (simp; done) | (simp; omega)) _ rfl ?_; (intro u hu; obtain ⟨x, _, rfl⟩ := List.mem_map.1 hu; rfl); intro g5 cap5 w5 o5 hgrow hat hlt5; have hg6 := gr_un hgrow; have XOx := (XO.below bL).kept hg6 (fun j hj => by rw [hLn.out] at hj; simp at hj; omega); obtain ⟨h0, h1, h2, hz⟩ := XOx.at3; have e0 := XOx.frozen 0; have e1 := XOx.frozen 1; have e2 := XOx.frozen 2) | (go_at_call 20; refine (bitFalse_any _).mono ?_; rintro e w4 ⟨rfl, h⟩; subst h))
        all_goals
          have o6 : w5.ownsRow w3.heap.size 3 1 (.slice (some ⟨g5, 0, none⟩) ys.length cap5) ys.length (ys.map (Value.int .i64)) := by simpa using o5
          have hg5 := (o6.lt g5 rfl).1
          have XO6 : Box (((w5.setCell ⟨w1.heap.size, 0, none⟩ (.int .i64 1)).setCell ⟨w1.heap.size, 1, none⟩ (.slice (some ⟨g5, 0, none⟩) ys.length cap5)).setCell ⟨w1.heap.size, 2, none⟩ (.bool false)) w1.heap.size #[.int .i64 1, .slice (some ⟨g5, 0, none⟩) ys.length cap5, .bool false] 29 := heap_setCell_same _ _ 2 _ _ _ (heap_setCell_same _ _ 1 _ _ _ (heap_setCell_same _ _ 0 _ _ _ XOx))
          have X2x := ((((X2.below bL).kept hg6 (fun j hj => by rw [hLn.out] at hj; simp at hj; omega)).far ⟨w1.heap.size, 0, none⟩ (.int .i64 1) (by simp; omega)).far ⟨w1.heap.size, 1, none⟩ (.slice (some ⟨g5, 0, none⟩) ys.length cap5) (by simp; omega)).far ⟨w1.heap.size, 2, none⟩ (.bool false) (by simp; omega)
          have X3x := ((((X3.below bL).kept hg6 (fun j hj => by rw [hLn.out] at hj; simp at hj; omega)).far ⟨w1.heap.size, 0, none⟩ (.int .i64 1) (by simp; omega)).far ⟨w1.heap.size, 1, none⟩ (.slice (some ⟨g5, 0, none⟩) ys.length cap5) (by simp; omega)).far ⟨w1.heap.size, 2, none⟩ (.bool false) (by simp; omega)
          have B6 := bel_setCell (bel_setCell (bel_setCell ((bel_trans B bL).grown hg6 (bel_trans B bL).size (fun j hj => by rw [hLn.out] at hj; simp at hj; omega)) ⟨w1.heap.size, 0, none⟩ (.int .i64 1) (by simp; omega)) ⟨w1.heap.size, 1, none⟩ (.slice (some ⟨g5, 0, none⟩) ys.length cap5) (by simp; omega)) ⟨w1.heap.size, 2, none⟩ (.bool false) (by simp; omega)
          have O6 := owns_setCell (owns_setCell (owns_setCell o6 (a := ⟨w1.heap.size, 0, none⟩) (fun j hj => by have := (o6.lt j hj).1; simp; omega) (.int .i64 1)) (a := ⟨w1.heap.size, 1, none⟩) (fun j hj => by have := (o6.lt j hj).1; simp; omega) (.slice (some ⟨g5, 0, none⟩) ys.length cap5)) (a := ⟨w1.heap.size, 2, none⟩) (fun j hj => by have := (o6.lt j hj).1; simp; omega) (.bool false)
          obtain ⟨W6, hW6⟩ : ∃ W6, (((w5.setCell ⟨w1.heap.size, 0, none⟩ (.int .i64 1)).setCell ⟨w1.heap.size, 1, none⟩ (.slice (some ⟨g5, 0, none⟩) ys.length cap5)).setCell ⟨w1.heap.size, 2, none⟩ (.bool false)) = W6 := ⟨_, rfl⟩
          rw [hW6] at XO6 X2x X3x B6 O6
          replace O6 := owns_base O6 (show w.heap.size ≤ _ by omega)
          obtain ⟨h0, h1, h2, hz⟩ := XO6.at3
          obtain ⟨y0, y1, y2, yz⟩ := X2x.at3
          obtain ⟨z0, z1, z2, z3, zz⟩ := X3x.at4
          have f20 := X2x.frozen 0
          have f21 := X2x.frozen 1
          have f22 := X2x.frozen 2
          have f30 := X3x.frozen 0
          have f31 := X3x.frozen 1
          have f32 := X3x.frozen 2
          have f33 := X3x.frozen 3
          have hl6 : Hid (∀ j, (Value.slice (some ⟨g5, 0, none⟩) ys.length cap5).ownBlock = some j → w.heap.size + 4 ≤ j) := fun j hj => by simp [Value.ownBlock] at hj; omega
          clear B
          have B := B6
          clear X0 X1 X2 X3 XO XOx hR3 oL hsrc hgrow hg6 o5 o6 hat hlt5 hr hy OV bL B6 XO6 X2x X3x
          go_wp2
          rw [HR.out]
          refine bodyPost_ret (v := .tuple #[.agg #[.int .i64 1, .slice (some ⟨g5, 0, none⟩) ys.length cap5, .bool false], .agg #[.int .i64 0, .int .i64 0, .bool false, .slice none 0 0], .bool false]) (by simp [results, Try.results6, go_sem, y0, y1, y2, z0, z1, z2, z3]) rfl ⟨.slice (some ⟨g5, 0, none⟩) ys.length cap5, .slice none 0 0, rfl, ?_, ?_, ?_, ?_⟩
          · skip
            repeat refine owns_setCell ?_ ?_ _
            · exact O6
            all_goals (intro j h; have := hl6.out j h; simp; omega)
          · exact World.ownsRow_nil _ _ _ _
          · intro j _ h; cases h
          · skip
            repeat refine bel_setCell ?_ _ _ ?_
            · exact B
            all_goals (simp; try omega)
      · obtain rfl : 2 = g0 := by simpa using hg0
        go_region_held3 (fun w' => w'.cell? ⟨w.heap.size + 1, 2, none⟩ = some (.bool true) ∧ w'.cell? ⟨w.heap.size + 1, 3, none⟩ = some (.slice (some ⟨b, off, none⟩) ys.length cm))
          (first | (with_reducible exact keep2g hgrow ‹_› ⟨fun e => by rw [hLn.out] at e; simp at e; omega, fun e => by rw [hLn.out] at e; simp at e; omega⟩) | ((with_reducible refine keep2n (keep2n (keep2n ‹_› ?_) ?_) ?_) <;> (simp; omega)) | go_keep)
          (first | (refine step_append_lies _ (by rfl) _ _ _ (by rfl) w3.heap.size 3 i0 (.int .i64 0) 1 8 Try.underlying22 hi hz0 hz1 hz2 rfl (by omega) (.slice (some ⟨w3.heap.size, 0, none⟩) 0 0) 0 [] (by rfl) oL ⟨b, off, none⟩ ys.length cm (ys.map (Value.int .i64)) (by rfl) hcl hsrc ?_ (by omega) (by unfold maxLen; omega) (by omega) (by first | (simp; done) | (simp; omega)) _ rfl ?_; (intro u hu; obtain ⟨x, _, rfl⟩ := List.mem_map.1 hu; rfl); intro g5 cap5 w5 o5 hgrow hat hlt5; have hg6 := gr_un hgrow; have XOx := (XO.below bL).kept hg6 (fun j hj => by rw [hLn.out] at hj; simp at hj; omega); obtain ⟨h0, h1, h2, hz⟩ := XOx.at3; have e0 := XOx.frozen 0; have e1 := XOx.frozen 1; have e2 := XOx.frozen 2) | (go_at_call 20; refine (bitTrue_any _).mono ?_; rintro e w4 ⟨rfl, h⟩; subst h))
        all_goals
          have o6 : w5.ownsRow w3.heap.size 3 1 (.slice (some ⟨g5, 0, none⟩) ys.length cap5) ys.length (ys.map (Value.int .i64)) := by simpa using o5
          have hg5 := (o6.lt g5 rfl).1
          have XO6 : Box (((w5.setCell ⟨w1.heap.size, 0, none⟩ (.int .i64 2)).setCell ⟨w1.heap.size, 1, none⟩ (.slice (some ⟨g5, 0, none⟩) ys.length cap5)).setCell ⟨w1.heap.size, 2, none⟩ (.bool false)) w1.heap.size #[.int .i64 2, .slice (some ⟨g5, 0, none⟩) ys.length cap5, .bool false] 29 := heap_setCell_same _ _ 2 _ _ _ (heap_setCell_same _ _ 1 _ _ _ (heap_setCell_same _ _ 0 _ _ _ XOx))
          have X2x := ((((X2.below bL).kept hg6 (fun j hj => by rw [hLn.out] at hj; simp at hj; omega)).far ⟨w1.heap.size, 0, none⟩ (.int .i64 2) (by simp; omega)).far ⟨w1.heap.size, 1, none⟩ (.slice (some ⟨g5, 0, none⟩) ys.length cap5) (by simp; omega)).far ⟨w1.heap.size, 2, none⟩ (.bool false) (by simp; omega)
          have X3x := ((((X3.below bL).kept hg6 (fun j hj => by rw [hLn.out] at hj; simp at hj; omega)).far ⟨w1.heap.size, 0, none⟩ (.int .i64 2) (by simp; omega)).far ⟨w1.heap.size, 1, none⟩ (.slice (some ⟨g5, 0, none⟩) ys.length cap5) (by simp; omega)).far ⟨w1.heap.size, 2, none⟩ (.bool false) (by simp; omega)
          have B6 := bel_setCell (bel_setCell (bel_setCell ((bel_trans B bL).grown hg6 (bel_trans B bL).size (fun j hj => by rw [hLn.out] at hj; simp at hj; omega)) ⟨w1.heap.size, 0, none⟩ (.int .i64 2) (by simp; omega)) ⟨w1.heap.size, 1, none⟩ (.slice (some ⟨g5, 0, none⟩) ys.length cap5) (by simp; omega)) ⟨w1.heap.size, 2, none⟩ (.bool false) (by simp; omega)
          have O6 := owns_setCell (owns_setCell (owns_setCell o6 (a := ⟨w1.heap.size, 0, none⟩) (fun j hj => by have := (o6.lt j hj).1; simp; omega) (.int .i64 2)) (a := ⟨w1.heap.size, 1, none⟩) (fun j hj => by have := (o6.lt j hj).1; simp; omega) (.slice (some ⟨g5, 0, none⟩) ys.length cap5)) (a := ⟨w1.heap.size, 2, none⟩) (fun j hj => by have := (o6.lt j hj).1; simp; omega) (.bool false)
          obtain ⟨W6, hW6⟩ : ∃ W6, (((w5.setCell ⟨w1.heap.size, 0, none⟩ (.int .i64 2)).setCell ⟨w1.heap.size, 1, none⟩ (.slice (some ⟨g5, 0, none⟩) ys.length cap5)).setCell ⟨w1.heap.size, 2, none⟩ (.bool false)) = W6 := ⟨_, rfl⟩
          rw [hW6] at XO6 X2x X3x B6 O6
          replace O6 := owns_base O6 (show w.heap.size ≤ _ by omega)
          obtain ⟨h0, h1, h2, hz⟩ := XO6.at3
          obtain ⟨y0, y1, y2, yz⟩ := X2x.at3
          obtain ⟨z0, z1, z2, z3, zz⟩ := X3x.at4
          have f20 := X2x.frozen 0
          have f21 := X2x.frozen 1
          have f22 := X2x.frozen 2
          have f30 := X3x.frozen 0
          have f31 := X3x.frozen 1
          have f32 := X3x.frozen 2
          have f33 := X3x.frozen 3
          have hl6 : Hid (∀ j, (Value.slice (some ⟨g5, 0, none⟩) ys.length cap5).ownBlock = some j → w.heap.size + 4 ≤ j) := fun j hj => by simp [Value.ownBlock] at hj; omega
          clear B
          have B := B6
          clear X0 X1 X2 X3 XO XOx hR3 oL hsrc hgrow hg6 o5 o6 hat hlt5 hr hy OV bL B6 XO6 X2x X3x
          go_wp2
          rw [HR.out]
          refine bodyPost_ret (v := .tuple #[.agg #[.int .i64 2, .slice (some ⟨g5, 0, none⟩) ys.length cap5, .bool false], .agg #[.int .i64 0, .int .i64 0, .bool false, .slice none 0 0], .bool false]) (by simp [results, Try.results6, go_sem, y0, y1, y2, z0, z1, z2, z3]) rfl ⟨.slice (some ⟨g5, 0, none⟩) ys.length cap5, .slice none 0 0, rfl, ?_, ?_, ?_, ?_⟩
          · skip
            repeat refine owns_setCell ?_ ?_ _
            · exact O6
            all_goals (intro j h; have := hl6.out j h; simp; omega)
          · exact World.ownsRow_nil _ _ _ _
          · intro j _ h; cases h
          · skip
            repeat refine bel_setCell ?_ _ _ ?_
            · exact B
            all_goals (simp; try omega)
    · have HR : Hid (hearR s q xs 4 p o ys = ⟨0, [], q, 5, p, [], true⟩) := hR
      clear hR
      obtain ⟨n0, n1, n2, n3, nz⟩ := X1.at4
      obtain ⟨m0, m1, m2, mz⟩ := X0.at3
      have f20 := X2.frozen 0
      have f21 := X2.frozen 1
      have f22 := X2.frozen 2
      have f30 := X3.frozen 0
      have f31 := X3.frozen 1
      have f32 := X3.frozen 2
      have f33 := X3.frozen 3
      obtain ⟨y0, y1, y2, yz⟩ := X2.at3
      obtain ⟨z0, z1, z2, z3, zz⟩ := X3.at4
      go_wp2_with fail
      go_region_held3 (fun w' => w'.cell? ⟨w.heap.size, 2, none⟩ = some (.bool q) ∧ w'.cell? ⟨w.heap.size + 1, 1, none⟩ = some (.int .i64 p))
        (first | ((with_reducible refine keep2d (keep2n (keep2n (keep2n ⟨m2, n1⟩ ?_) ?_) ?_)) <;> (simp; omega)) | ((with_reducible refine keep2d (keep2n (keep2n (keep2n (keep2n (keep2n (keep2n (keep2n ⟨m2, n1⟩ ?_) ?_) ?_) ?_) ?_) ?_) ?_)) <;> (simp; omega)) | go_keep) (fail)
      all_goals
        go_wp2
        rw [HR.out]
        refine bodyPost_ret (v := .tuple #[.agg #[.int .i64 0, .slice none 0 0, .bool q], .agg #[.int .i64 5, .int .i64 p, .bool false, .slice none 0 0], .bool true]) (by simp [results, Try.results6, go_sem, y0, y1, y2, z0, z1, z2, z3]) rfl ⟨.slice none 0 0, .slice none 0 0, rfl, ?_, ?_, ?_, ?_⟩
        · exact World.ownsRow_nil _ _ _ _
        · exact World.ownsRow_nil _ _ _ _
        · intro j h; cases h
        · refine bel_dw ?_
          repeat refine bel_setCell ?_ _ _ ?_
          · exact B
          all_goals (simp; try omega)
    · have HR : Hid (hearR 2 q xs 6 p true ys = ⟨0, [], q, 7, p, xs, true⟩) := hR
      clear hR
      have hx0 : 0 < xs.length ∧ xs.length < 5 := by
        rw [frame_some rfl] at hf
        unfold wordsB at hf
        simp only [Bool.and_eq_true] at hf
        have := eq_of_beq hf.2.2
        omega
      obtain ⟨hx0, hx5⟩ := hx0
      obtain ⟨i0, hi, hz0, hz1, hz2⟩ := info_parts info_i64
      obtain ⟨b, off, rfl, _⟩ := hr.2 0 hx0
      have hcl : (xs.map (Value.int .i64)).length = xs.length * 1 := by simp
      have bL := bel_alloc (Below.refl w3.heap.size w3) (.cells #[] 3)
      have bZ := bel_alloc (Below.refl w3.heap.size w3) (.cells #[.int .i64 0, .int .i64 0, .bool false, .slice none 0 0] 30)
      have bLZ := bel_alloc bL (.cells #[.int .i64 0, .int .i64 0, .bool false, .slice none 0 0] 30)
      have bZL := bel_alloc bZ (.cells #[] 3)
      have eL : (w3.alloc (.cells #[] 3)).heap.size = w3.heap.size + 1 := by simp
      have eZ : (w3.alloc (.cells #[.int .i64 0, .int .i64 0, .bool false, .slice none 0 0] 30)).heap.size = w3.heap.size + 1 := by simp
      have oL := own_lit0 w3 w3.heap.size (Nat.le_refl _)
      have oLZ := owns_below oL (bel_alloc (Below.refl _ (w3.alloc (.cells #[] 3))) (.cells #[.int .i64 0, .int .i64 0, .bool false, .slice none 0 0] 30))
      have oZL := own_lit0 (w3.alloc (.cells #[.int .i64 0, .int .i64 0, .bool false, .slice none 0 0] 30)) w3.heap.size (by simp)
      rw [eZ] at oZL
      have XLZ := Box.new (w3.alloc (.cells #[] 3)) #[.int .i64 0, .int .i64 0, .bool false, .slice none 0 0] 30
      rw [eL] at XLZ
      have XZL := (Box.new w3 #[.int .i64 0, .int .i64 0, .bool false, .slice none 0 0] 30).below (bel_alloc (Below.refl _ _) (.cells #[] 3))
      have sL := row_src2 (hr.below bL)
      have sLZ := row_src2 (hr.below bLZ)
      have sZL := row_src2 (hr.below bZL)
      have hn0 : Hid (∀ n, (Value.slice (some ⟨n, 0, none⟩) 0 0).ownBlock = some n) := fun _ => rfl
      clear eL eZ
      obtain ⟨n0, n1, n2, n3, nz⟩ := X1.at4
      obtain ⟨m0, m1, m2, mz⟩ := X0.at3
      go_upto_region 12 with fail
      go_cut [8] (fun v wx => MB w3 p xs v wx)
      case first =>
        go_region_held3 (fun w' => w'.cell? ⟨w.heap.size + 1, 1, none⟩ = some (.int .i64 p) ∧ w'.cell? ⟨w.heap.size, 1, none⟩ = some (.slice (some ⟨b, off, none⟩) xs.length ca))
          (first | (with_reducible exact keep2g hgrow ‹_› ⟨fun e => by rw [hn0.out] at e; simp at e; omega, fun e => by rw [hn0.out] at e; simp at e; omega⟩) | (with_reducible exact keep2 (bel_alloc b5 _) ⟨n1, m1⟩) | ((with_reducible refine keep2n (keep2n (keep2n (keep2n (keep2 b5 ⟨n1, m1⟩) ?_) ?_) ?_) ?_) <;> (simp; omega)) | go_keep)
          (first | (refine step_append_lies _ (by rfl) _ _ _ (by rfl) w3.heap.size 3 i0 (.int .i64 0) 1 8 Try.underlying22 hi hz0 hz1 hz2 rfl (by omega) (.slice (some ⟨w3.heap.size, 0, none⟩) 0 0) 0 [] (by rfl) oL ⟨b, off, none⟩ xs.length ca (xs.map (Value.int .i64)) (by rfl) hcl sL ?_ (by omega) (by unfold maxLen; omega) (by omega) (by first | (simp; done) | (simp; omega)) _ rfl ?_; (intro u hu; obtain ⟨x, _, rfl⟩ := List.mem_map.1 hu; rfl); intro g5 cap5 w5 o5 hgrow hat hlt5; have hg6 := gr_un hgrow; have b5 := bL.grown hg6 bL.size (fun j hj => by rw [hn0.out] at hj; simp at hj; omega)) | (refine step_append_lies _ (by rfl) _ _ _ (by rfl) w3.heap.size 3 i0 (.int .i64 0) 1 8 Try.underlying22 hi hz0 hz1 hz2 rfl (by omega) (.slice (some ⟨w3.heap.size, 0, none⟩) 0 0) 0 [] (by rfl) oLZ ⟨b, off, none⟩ xs.length ca (xs.map (Value.int .i64)) (by rfl) hcl sLZ ?_ (by omega) (by unfold maxLen; omega) (by omega) (by first | (simp; done) | (simp; omega)) _ rfl ?_; (intro u hu; obtain ⟨x, _, rfl⟩ := List.mem_map.1 hu; rfl); intro g5 cap5 w5 o5 hgrow hat hlt5; have hg6 := gr_un hgrow; have b5 := bLZ.grown hg6 bLZ.size (fun j hj => by rw [hn0.out] at hj; simp at hj; omega); have XN := XLZ.kept hg6 (fun j hj => by rw [hn0.out] at hj; simp at hj; omega); obtain ⟨i0', i1', i2', i3', iz'⟩ := XN.at4; have if0 := XN.frozen 0; have if1 := XN.frozen 1; have if2 := XN.frozen 2; have if3 := XN.frozen 3) | (refine step_append_lies _ (by rfl) _ _ _ (by rfl) w3.heap.size 3 i0 (.int .i64 0) 1 8 Try.underlying22 hi hz0 hz1 hz2 rfl (by omega) (.slice (some ⟨w3.heap.size + 1, 0, none⟩) 0 0) 0 [] (by rfl) oZL ⟨b, off, none⟩ xs.length ca (xs.map (Value.int .i64)) (by rfl) hcl sZL ?_ (by omega) (by unfold maxLen; omega) (by omega) (by first | (simp; done) | (simp; omega)) _ rfl ?_; (intro u hu; obtain ⟨x, _, rfl⟩ := List.mem_map.1 hu; rfl); intro g5 cap5 w5 o5 hgrow hat hlt5; have hg6 := gr_un hgrow; have b5 := bZL.grown hg6 bZL.size (fun j hj => by rw [hn0.out] at hj; simp at hj; omega); have XN := XZL.kept hg6 (fun j hj => by rw [hn0.out] at hj; simp at hj; omega); obtain ⟨i0', i1', i2', i3', iz'⟩ := XN.at4; have if0 := XN.frozen 0; have if1 := XN.frozen 1; have if2 := XN.frozen 2; have if3 := XN.frozen 3))
        all_goals go_wp2_with fail
        all_goals go_meet
        all_goals
          have o6 : w5.ownsRow w3.heap.size 3 1 (.slice (some ⟨g5, 0, none⟩) xs.length cap5) xs.length (xs.map (Value.int .i64)) := by simpa using o5
          first | ((with_reducible refine mb_new o6 ?_ b5); exact Nat.le_refl _) | (with_reducible refine mb_set2 XN ?_ o6 (Nat.le_refl _) ?_ b5) <;> first | (simp; done) | (intro j hj e; simp [Value.ownBlock] at hj hat; omega)
      case rest =>
        obtain ⟨A, aM, kM, rfl, hA, XM, OM, hMA, bM⟩ := hcut
        have lM : Hid (∀ j, (Value.slice aM xs.length kM).ownBlock = some j → w3.heap.size ≤ j ∧ j ≠ A ∧ j < wc.heap.size) := fun j h => ⟨(OM.lt j h).1, fun e => hMA j h e.symm, (OM.lt j h).2⟩
        have LV3 : Hid (∀ j, (Value.slice av xs.length kv).ownBlock = some j → j < w3.heap.size) := fun j h => by have := (LV.out j h).2; omega
        clear hMA n0 n1 n2 n3 nz m0 m1 m2 mz bL bZ bLZ bZL oL oLZ oZL XLZ XZL sL sLZ sZL hn0 hcl
        have zM := bM.size
        replace X0 := X0.below bM
        replace X1 := X1.below bM
        replace X2 := X2.below bM
        replace X3 := X3.below bM
        replace XO := XO.below bM
        replace OV := owns_below OV bM
        replace hr := hr.below bM
        replace hy := hy.below bM
        replace B := bel_trans B bM
        clear bM
        replace OM := owns_base OM (show w.heap.size ≤ _ by omega)
        obtain ⟨n0, n1, n2, n3, nz⟩ := X1.at4
        obtain ⟨m0, m1, m2, mz⟩ := X0.at3
        obtain ⟨e0, e1, e2, e3, ez⟩ := XM.at4
        obtain ⟨h0, h1, h2, hz⟩ := XO.at3
        have f20 := X2.frozen 0
        have f21 := X2.frozen 1
        have f22 := X2.frozen 2
        have f30 := X3.frozen 0
        have f31 := X3.frozen 1
        have f32 := X3.frozen 2
        have f33 := X3.frozen 3
        obtain ⟨y0, y1, y2, yz⟩ := X2.at3
        obtain ⟨z0, z1, z2, z3, zz⟩ := X3.at4
        have hlM : Hid (∀ j, (Value.slice aM xs.length kM).ownBlock = some j → w.heap.size + 4 ≤ j) := fun j h => by have h1 := lM.out j h; omega
        go_wp2_with fail
        go_region_held3 (fun w' => w'.cell? ⟨w.heap.size, 2, none⟩ = some (.bool q) ∧ w'.cell? ⟨A, 0, none⟩ = some (.int .i64 7) ∧ w'.cell? ⟨A, 1, none⟩ = some (.int .i64 p) ∧ w'.cell? ⟨A, 2, none⟩ = some (.bool false) ∧ w'.cell? ⟨A, 3, none⟩ = some (.slice aM xs.length kM))
          (first | ((with_reducible refine keep5d (keep5n (keep5n (keep5n ⟨m2, e0, e1, e2, e3⟩ ?_) ?_) ?_)) <;> (simp; omega)) | ((with_reducible refine keep5d (keep5n (keep5n (keep5n (keep5n (keep5n (keep5n (keep5n ⟨m2, e0, e1, e2, e3⟩ ?_) ?_) ?_) ?_) ?_) ?_) ?_)) <;> (simp; omega)) | go_keep) (fail)
        all_goals
          go_wp2
          rw [HR.out]
          refine bodyPost_ret (v := .tuple #[.agg #[.int .i64 0, .slice none 0 0, .bool q], .agg #[.int .i64 7, .int .i64 p, .bool false, .slice aM xs.length kM], .bool true]) (by simp [results, Try.results6, go_sem, y0, y1, y2, z0, z1, z2, z3]) rfl ⟨.slice none 0 0, .slice aM xs.length kM, rfl, ?_, ?_, ?_, ?_⟩
          · exact World.ownsRow_nil _ _ _ _
          · refine own_dw ?_
            repeat refine owns_setCell ?_ ?_ _
            · exact OM
            all_goals (intro j h; have := hlM.out j h; simp; omega)
          · intro j h; cases h
          · refine bel_dw ?_
            repeat refine bel_setCell ?_ _ _ ?_
            · exact B
            all_goals (simp; try omega)
    · have HR : Hid (hearR 2 q xs 6 p false ys = ⟨1, xs, q, 7, p, xs, true⟩) := hR
      clear hR
      have hx0 : 0 < xs.length ∧ xs.length < 5 := by
        rw [frame_some rfl] at hf
        unfold wordsB at hf
        simp only [Bool.and_eq_true] at hf
        have := eq_of_beq hf.2.2
        omega
      obtain ⟨hx0, hx5⟩ := hx0
      obtain ⟨i0, hi, hz0, hz1, hz2⟩ := info_parts info_i64
      obtain ⟨b, off, rfl, _⟩ := hr.2 0 hx0
      have hcl : (xs.map (Value.int .i64)).length = xs.length * 1 := by simp
      have bL := bel_alloc (Below.refl w3.heap.size w3) (.cells #[] 3)
      have bZ := bel_alloc (Below.refl w3.heap.size w3) (.cells #[.int .i64 0, .int .i64 0, .bool false, .slice none 0 0] 30)
      have bLZ := bel_alloc bL (.cells #[.int .i64 0, .int .i64 0, .bool false, .slice none 0 0] 30)
      have bZL := bel_alloc bZ (.cells #[] 3)
      have eL : (w3.alloc (.cells #[] 3)).heap.size = w3.heap.size + 1 := by simp
      have eZ : (w3.alloc (.cells #[.int .i64 0, .int .i64 0, .bool false, .slice none 0 0] 30)).heap.size = w3.heap.size + 1 := by simp
      have oL := own_lit0 w3 w3.heap.size (Nat.le_refl _)
      have oLZ := owns_below oL (bel_alloc (Below.refl _ (w3.alloc (.cells #[] 3))) (.cells #[.int .i64 0, .int .i64 0, .bool false, .slice none 0 0] 30))
      have oZL := own_lit0 (w3.alloc (.cells #[.int .i64 0, .int .i64 0, .bool false, .slice none 0 0] 30)) w3.heap.size (by simp)
      rw [eZ] at oZL
      have XLZ := Box.new (w3.alloc (.cells #[] 3)) #[.int .i64 0, .int .i64 0, .bool false, .slice none 0 0] 30
      rw [eL] at XLZ
      have XZL := (Box.new w3 #[.int .i64 0, .int .i64 0, .bool false, .slice none 0 0] 30).below (bel_alloc (Below.refl _ _) (.cells #[] 3))
      have sL := row_src2 (hr.below bL)
      have sLZ := row_src2 (hr.below bLZ)
      have sZL := row_src2 (hr.below bZL)
      have hn0 : Hid (∀ n, (Value.slice (some ⟨n, 0, none⟩) 0 0).ownBlock = some n) := fun _ => rfl
      clear eL eZ
      obtain ⟨n0, n1, n2, n3, nz⟩ := X1.at4
      obtain ⟨m0, m1, m2, mz⟩ := X0.at3
      go_upto_region 12 with fail
      go_cut [8] (fun v wx => MB w3 p xs v wx)
      case first =>
        go_region_held3 (fun w' => w'.cell? ⟨w.heap.size + 1, 1, none⟩ = some (.int .i64 p) ∧ w'.cell? ⟨w.heap.size, 1, none⟩ = some (.slice (some ⟨b, off, none⟩) xs.length ca))
          (first | (with_reducible exact keep2g hgrow ‹_› ⟨fun e => by rw [hn0.out] at e; simp at e; omega, fun e => by rw [hn0.out] at e; simp at e; omega⟩) | (with_reducible exact keep2 (bel_alloc b5 _) ⟨n1, m1⟩) | ((with_reducible refine keep2n (keep2n (keep2n (keep2n (keep2 b5 ⟨n1, m1⟩) ?_) ?_) ?_) ?_) <;> (simp; omega)) | go_keep)
          (first | (refine step_append_lies _ (by rfl) _ _ _ (by rfl) w3.heap.size 3 i0 (.int .i64 0) 1 8 Try.underlying22 hi hz0 hz1 hz2 rfl (by omega) (.slice (some ⟨w3.heap.size, 0, none⟩) 0 0) 0 [] (by rfl) oL ⟨b, off, none⟩ xs.length ca (xs.map (Value.int .i64)) (by rfl) hcl sL ?_ (by omega) (by unfold maxLen; omega) (by omega) (by first | (simp; done) | (simp; omega)) _ rfl ?_; (intro u hu; obtain ⟨x, _, rfl⟩ := List.mem_map.1 hu; rfl); intro g5 cap5 w5 o5 hgrow hat hlt5; have hg6 := gr_un hgrow; have b5 := bL.grown hg6 bL.size (fun j hj => by rw [hn0.out] at hj; simp at hj; omega)) | (refine step_append_lies _ (by rfl) _ _ _ (by rfl) w3.heap.size 3 i0 (.int .i64 0) 1 8 Try.underlying22 hi hz0 hz1 hz2 rfl (by omega) (.slice (some ⟨w3.heap.size, 0, none⟩) 0 0) 0 [] (by rfl) oLZ ⟨b, off, none⟩ xs.length ca (xs.map (Value.int .i64)) (by rfl) hcl sLZ ?_ (by omega) (by unfold maxLen; omega) (by omega) (by first | (simp; done) | (simp; omega)) _ rfl ?_; (intro u hu; obtain ⟨x, _, rfl⟩ := List.mem_map.1 hu; rfl); intro g5 cap5 w5 o5 hgrow hat hlt5; have hg6 := gr_un hgrow; have b5 := bLZ.grown hg6 bLZ.size (fun j hj => by rw [hn0.out] at hj; simp at hj; omega); have XN := XLZ.kept hg6 (fun j hj => by rw [hn0.out] at hj; simp at hj; omega); obtain ⟨i0', i1', i2', i3', iz'⟩ := XN.at4; have if0 := XN.frozen 0; have if1 := XN.frozen 1; have if2 := XN.frozen 2; have if3 := XN.frozen 3) | (refine step_append_lies _ (by rfl) _ _ _ (by rfl) w3.heap.size 3 i0 (.int .i64 0) 1 8 Try.underlying22 hi hz0 hz1 hz2 rfl (by omega) (.slice (some ⟨w3.heap.size + 1, 0, none⟩) 0 0) 0 [] (by rfl) oZL ⟨b, off, none⟩ xs.length ca (xs.map (Value.int .i64)) (by rfl) hcl sZL ?_ (by omega) (by unfold maxLen; omega) (by omega) (by first | (simp; done) | (simp; omega)) _ rfl ?_; (intro u hu; obtain ⟨x, _, rfl⟩ := List.mem_map.1 hu; rfl); intro g5 cap5 w5 o5 hgrow hat hlt5; have hg6 := gr_un hgrow; have b5 := bZL.grown hg6 bZL.size (fun j hj => by rw [hn0.out] at hj; simp at hj; omega); have XN := XZL.kept hg6 (fun j hj => by rw [hn0.out] at hj; simp at hj; omega); obtain ⟨i0', i1', i2', i3', iz'⟩ := XN.at4; have if0 := XN.frozen 0; have if1 := XN.frozen 1; have if2 := XN.frozen 2; have if3 := XN.frozen 3))
        all_goals go_wp2_with fail
        all_goals go_meet
        all_goals
          have o6 : w5.ownsRow w3.heap.size 3 1 (.slice (some ⟨g5, 0, none⟩) xs.length cap5) xs.length (xs.map (Value.int .i64)) := by simpa using o5
          first | ((with_reducible refine mb_new o6 ?_ b5); exact Nat.le_refl _) | (with_reducible refine mb_set2 XN ?_ o6 (Nat.le_refl _) ?_ b5) <;> first | (simp; done) | (intro j hj e; simp [Value.ownBlock] at hj hat; omega)
      case rest =>
        obtain ⟨A, aM, kM, rfl, hA, XM, OM, hMA, bM⟩ := hcut
        have lM : Hid (∀ j, (Value.slice aM xs.length kM).ownBlock = some j → w3.heap.size ≤ j ∧ j ≠ A ∧ j < wc.heap.size) := fun j h => ⟨(OM.lt j h).1, fun e => hMA j h e.symm, (OM.lt j h).2⟩
        have LV3 : Hid (∀ j, (Value.slice av xs.length kv).ownBlock = some j → j < w3.heap.size) := fun j h => by have := (LV.out j h).2; omega
        clear hMA n0 n1 n2 n3 nz m0 m1 m2 mz bL bZ bLZ bZL oL oLZ oZL XLZ XZL sL sLZ sZL hn0 hcl
        have zM := bM.size
        replace X0 := X0.below bM
        replace X1 := X1.below bM
        replace X2 := X2.below bM
        replace X3 := X3.below bM
        replace XO := XO.below bM
        replace OV := owns_below OV bM
        replace hr := hr.below bM
        replace hy := hy.below bM
        replace B := bel_trans B bM
        clear bM
        replace OM := owns_base OM (show w.heap.size ≤ _ by omega)
        obtain ⟨n0, n1, n2, n3, nz⟩ := X1.at4
        obtain ⟨m0, m1, m2, mz⟩ := X0.at3
        obtain ⟨e0, e1, e2, e3, ez⟩ := XM.at4
        obtain ⟨h0, h1, h2, hz⟩ := XO.at3
        have f20 := X2.frozen 0
        have f21 := X2.frozen 1
        have f22 := X2.frozen 2
        have f30 := X3.frozen 0
        have f31 := X3.frozen 1
        have f32 := X3.frozen 2
        have f33 := X3.frozen 3
        obtain ⟨y0, y1, y2, yz⟩ := X2.at3
        obtain ⟨z0, z1, z2, z3, zz⟩ := X3.at4
        have hlM : Hid (∀ j, (Value.slice aM xs.length kM).ownBlock = some j → w.heap.size + 4 ≤ j) := fun j h => by have h1 := lM.out j h; omega
        have XO6 : Box (wc.setCell ⟨w1.heap.size, 0, none⟩ (.int .i64 1)) w1.heap.size #[.int .i64 1, .slice av xs.length kv, .bool q] 29 := heap_setCell_same _ _ 0 _ _ _ XO
        have e0' := XO.frozen 0
        replace X2 := X2.far ⟨w1.heap.size, 0, none⟩ (.int .i64 1) (by simp; omega)
        replace X3 := X3.far ⟨w1.heap.size, 0, none⟩ (.int .i64 1) (by simp; omega)
        replace XM := XM.far ⟨w1.heap.size, 0, none⟩ (.int .i64 1) (by simp; omega)
        replace B := bel_setCell B ⟨w1.heap.size, 0, none⟩ (.int .i64 1) (by simp; omega)
        replace OM := owns_setCell OM (a := ⟨w1.heap.size, 0, none⟩) (fun j hj => by have := lM.out j hj; simp; omega) (.int .i64 1)
        replace OV := owns_setCell OV (a := ⟨w1.heap.size, 0, none⟩) (fun j hj => by have := LV.out j hj; simp; omega) (.int .i64 1)
        obtain ⟨W6, hW6⟩ : ∃ W6, wc.setCell ⟨w1.heap.size, 0, none⟩ (.int .i64 1) = W6 := ⟨_, rfl⟩
        rw [hW6] at XO6 X2 X3 XM B OM OV
        go_wp2_with fail
        clear e0 e1 e2 e3 ez h0 h1 h2 hz y0 y1 y2 yz z0 z1 z2 z3 zz f20 f21 f22 f30 f31 f32 f33
        obtain ⟨e0, e1, e2, e3, ez⟩ := XM.at4
        obtain ⟨h0, h1, h2, hz⟩ := XO6.at3
        have f20 := X2.frozen 0
        have f21 := X2.frozen 1
        have f22 := X2.frozen 2
        have f30 := X3.frozen 0
        have f31 := X3.frozen 1
        have f32 := X3.frozen 2
        have f33 := X3.frozen 3
        obtain ⟨y0, y1, y2, yz⟩ := X2.at3
        obtain ⟨z0, z1, z2, z3, zz⟩ := X3.at4
        go_region_held3 (fun w' => w'.cell? ⟨w1.heap.size, 0, none⟩ = some (.int .i64 1) ∧ w'.cell? ⟨w1.heap.size, 1, none⟩ = some (.slice av xs.length kv) ∧ w'.cell? ⟨w1.heap.size, 2, none⟩ = some (.bool q) ∧ w'.cell? ⟨A, 0, none⟩ = some (.int .i64 7) ∧ w'.cell? ⟨A, 1, none⟩ = some (.int .i64 p) ∧ w'.cell? ⟨A, 2, none⟩ = some (.bool false) ∧ w'.cell? ⟨A, 3, none⟩ = some (.slice aM xs.length kM))
          (first | ((with_reducible refine keep7d (keep7n (keep7n (keep7n ⟨h0, h1, h2, e0, e1, e2, e3⟩ ?_) ?_) ?_)) <;> (simp; omega)) | ((with_reducible refine keep7d (keep7n (keep7n (keep7n (keep7n (keep7n (keep7n (keep7n ⟨h0, h1, h2, e0, e1, e2, e3⟩ ?_) ?_) ?_) ?_) ?_) ?_) ?_)) <;> (simp; omega)) | go_keep) (fail)
        all_goals
          go_wp2
          rw [HR.out]
          refine bodyPost_ret (v := .tuple #[.agg #[.int .i64 1, .slice av xs.length kv, .bool q], .agg #[.int .i64 7, .int .i64 p, .bool false, .slice aM xs.length kM], .bool true]) (by simp [results, Try.results6, go_sem, y0, y1, y2, z0, z1, z2, z3]) rfl ⟨.slice av xs.length kv, .slice aM xs.length kM, rfl, ?_, ?_, ?_, ?_⟩
          · refine own_dw ?_
            repeat refine owns_setCell ?_ ?_ _
            · exact OV
            all_goals (intro j h; have := LV.out j h; simp; omega)
          · refine own_dw ?_
            repeat refine owns_setCell ?_ ?_ _
            · exact OM
            all_goals (intro j h; have := hlM.out j h; simp; omega)
          · intro j h h2; have h3 := LV3.out j h; have h4 := (lM.out j h2).1; omega
          · refine bel_dw ?_
            repeat refine bel_setCell ?_ _ _ ?_
            · exact B
            all_goals (simp; try omega)
    · have HR : Hid (hearR s q xs 6 p o ys = ⟨s, xs, q, 0, 0, [], false⟩) := hR
      have hs2 : (s != 2) = true := by unfold bne; rw [hs]; rfl
      clear hR
      obtain ⟨h0, h1, h2, hz⟩ := XO.at3
      obtain ⟨n0, n1, n2, n3, nz⟩ := X1.at4
      obtain ⟨m0, m1, m2, mz⟩ := X0.at3
      have f20 := X2.frozen 0
      have f21 := X2.frozen 1
      have f22 := X2.frozen 2
      have f30 := X3.frozen 0
      have f31 := X3.frozen 1
      have f32 := X3.frozen 2
      have f33 := X3.frozen 3
      obtain ⟨y0, y1, y2, yz⟩ := X2.at3
      obtain ⟨z0, z1, z2, z3, zz⟩ := X3.at4
      clear hr hy X0 X1 XO X2 X3
      go_wp2
      rw [HR.out]
      refine bodyPost_ret (v := .tuple #[.agg #[.int .i64 s, .slice av xs.length kv, .bool q], .agg #[.int .i64 0, .int .i64 0, .bool false, .slice none 0 0], .bool false]) (by simp [results, Try.results6, go_sem, y0, y1, y2, z0, z1, z2, z3]) rfl ⟨.slice av xs.length kv, .slice none 0 0, rfl, ?_, ?_, ?_, ?_⟩
      · skip
        repeat refine owns_setCell ?_ ?_ _
        · exact OV
        all_goals (intro j h; have := LV.out j h; simp; omega)
      · exact World.ownsRow_nil _ _ _ _
      · intro j _ h; cases h
      · skip
        repeat refine bel_setCell ?_ _ _ ?_
        · exact B
        all_goals (simp; try omega)
    · have HR : Hid (hearR s q xs k p o ys = ⟨s, xs, q, 0, 0, [], false⟩) := hR
      clear hR
      obtain ⟨h0, h1, h2, hz⟩ := XO.at3
      obtain ⟨n0, n1, n2, n3, nz⟩ := X1.at4
      obtain ⟨m0, m1, m2, mz⟩ := X0.at3
      have f20 := X2.frozen 0
      have f21 := X2.frozen 1
      have f22 := X2.frozen 2
      have f30 := X3.frozen 0
      have f31 := X3.frozen 1
      have f32 := X3.frozen 2
      have f33 := X3.frozen 3
      obtain ⟨y0, y1, y2, yz⟩ := X2.at3
      obtain ⟨z0, z1, z2, z3, zz⟩ := X3.at4
      clear hr hy X0 X1 XO X2 X3
      go_wp2
      rw [HR.out]
      refine bodyPost_ret (v := .tuple #[.agg #[.int .i64 s, .slice av xs.length kv, .bool q], .agg #[.int .i64 0, .int .i64 0, .bool false, .slice none 0 0], .bool false]) (by simp [results, Try.results6, go_sem, y0, y1, y2, z0, z1, z2, z3]) rfl ⟨.slice av xs.length kv, .slice none 0 0, rfl, ?_, ?_, ?_, ?_⟩
      · skip
        repeat refine owns_setCell ?_ ?_ _
        · exact OV
        all_goals (intro j h; have := LV.out j h; simp; omega)
      · exact World.ownsRow_nil _ _ _ _
      · intro j _ h; cases h
      · skip
        repeat refine bel_setCell ?_ _ _ ?_
        · exact B
        all_goals (simp; try omega)
end Go.Proofs.Ytgpmkojajmkkoaa
