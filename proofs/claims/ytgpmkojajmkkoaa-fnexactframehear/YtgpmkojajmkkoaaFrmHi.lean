/- What impl's FrameHear does. -/
import Derived.Test.YtgpmkojajmkkoaaFrmHr
namespace Go.Proofs.Ytgpmkojajmkkoaa
open Go.RowKit
set_option linter.unusedVariables false

theorem keep7 {W W' : World} (b : Below W.heap.size W W') {a0 a1 a2 a3 a4 a5 a6 : Addr} {u0 u1 u2 u3 u4 u5 u6 : Value}
    (h : W.cell? a0 = some u0 ∧ W.cell? a1 = some u1 ∧ W.cell? a2 = some u2 ∧ W.cell? a3 = some u3 ∧ W.cell? a4 = some u4 ∧ W.cell? a5 = some u5 ∧ W.cell? a6 = some u6) :
    W'.cell? a0 = some u0 ∧ W'.cell? a1 = some u1 ∧ W'.cell? a2 = some u2 ∧ W'.cell? a3 = some u3 ∧ W'.cell? a4 = some u4 ∧ W'.cell? a5 = some u5 ∧ W'.cell? a6 = some u6 :=
  ⟨cell_later b h.1, cell_later b h.2.1, cell_later b h.2.2.1, cell_later b h.2.2.2.1, cell_later b h.2.2.2.2.1, cell_later b h.2.2.2.2.2.1, cell_later b h.2.2.2.2.2.2⟩

theorem keep7n {W : World} {x : Addr} {u : Value} {a0 a1 a2 a3 a4 a5 a6 : Addr} {u0 u1 u2 u3 u4 u5 u6 : Value}
    (h : W.cell? a0 = some u0 ∧ W.cell? a1 = some u1 ∧ W.cell? a2 = some u2 ∧ W.cell? a3 = some u3 ∧ W.cell? a4 = some u4 ∧ W.cell? a5 = some u5 ∧ W.cell? a6 = some u6)
    (k : a0.block ≠ x.block ∧ a1.block ≠ x.block ∧ a2.block ≠ x.block ∧ a3.block ≠ x.block ∧ a4.block ≠ x.block ∧ a5.block ≠ x.block ∧ a6.block ≠ x.block) :
    (W.setCell x u).cell? a0 = some u0 ∧ (W.setCell x u).cell? a1 = some u1 ∧ (W.setCell x u).cell? a2 = some u2 ∧ (W.setCell x u).cell? a3 = some u3 ∧ (W.setCell x u).cell? a4 = some u4 ∧ (W.setCell x u).cell? a5 = some u5 ∧ (W.setCell x u).cell? a6 = some u6 := by
  have far : ∀ y : Addr, ∀ v, y.block ≠ x.block → W.cell? y = some v → (W.setCell x u).cell? y = some v := fun y v hy hv => by
    rw [World.cell?_setCell_other _ _ _ _ (fun e => by subst e; exact hy rfl)]
    exact hv
  exact ⟨far _ _ k.1 h.1, far _ _ k.2.1 h.2.1, far _ _ k.2.2.1 h.2.2.1, far _ _ k.2.2.2.1 h.2.2.2.1, far _ _ k.2.2.2.2.1 h.2.2.2.2.1, far _ _ k.2.2.2.2.2.1 h.2.2.2.2.2.1, far _ _ k.2.2.2.2.2.2 h.2.2.2.2.2.2⟩

theorem keep11 {W W' : World} (b : Below W.heap.size W W') {a0 a1 a2 a3 a4 a5 a6 a7 a8 a9 a10 : Addr} {u0 u1 u2 u3 u4 u5 u6 u7 u8 u9 u10 : Value}
    (h : W.cell? a0 = some u0 ∧ W.cell? a1 = some u1 ∧ W.cell? a2 = some u2 ∧ W.cell? a3 = some u3 ∧ W.cell? a4 = some u4 ∧ W.cell? a5 = some u5 ∧ W.cell? a6 = some u6 ∧ W.cell? a7 = some u7 ∧ W.cell? a8 = some u8 ∧ W.cell? a9 = some u9 ∧ W.cell? a10 = some u10) :
    W'.cell? a0 = some u0 ∧ W'.cell? a1 = some u1 ∧ W'.cell? a2 = some u2 ∧ W'.cell? a3 = some u3 ∧ W'.cell? a4 = some u4 ∧ W'.cell? a5 = some u5 ∧ W'.cell? a6 = some u6 ∧ W'.cell? a7 = some u7 ∧ W'.cell? a8 = some u8 ∧ W'.cell? a9 = some u9 ∧ W'.cell? a10 = some u10 :=
  ⟨cell_later b h.1, cell_later b h.2.1, cell_later b h.2.2.1, cell_later b h.2.2.2.1, cell_later b h.2.2.2.2.1, cell_later b h.2.2.2.2.2.1, cell_later b h.2.2.2.2.2.2.1, cell_later b h.2.2.2.2.2.2.2.1, cell_later b h.2.2.2.2.2.2.2.2.1, cell_later b h.2.2.2.2.2.2.2.2.2.1, cell_later b h.2.2.2.2.2.2.2.2.2.2⟩

theorem keep11n {W : World} {x : Addr} {u : Value} {a0 a1 a2 a3 a4 a5 a6 a7 a8 a9 a10 : Addr} {u0 u1 u2 u3 u4 u5 u6 u7 u8 u9 u10 : Value}
    (h : W.cell? a0 = some u0 ∧ W.cell? a1 = some u1 ∧ W.cell? a2 = some u2 ∧ W.cell? a3 = some u3 ∧ W.cell? a4 = some u4 ∧ W.cell? a5 = some u5 ∧ W.cell? a6 = some u6 ∧ W.cell? a7 = some u7 ∧ W.cell? a8 = some u8 ∧ W.cell? a9 = some u9 ∧ W.cell? a10 = some u10)
    (k : a0.block ≠ x.block ∧ a1.block ≠ x.block ∧ a2.block ≠ x.block ∧ a3.block ≠ x.block ∧ a4.block ≠ x.block ∧ a5.block ≠ x.block ∧ a6.block ≠ x.block ∧ a7.block ≠ x.block ∧ a8.block ≠ x.block ∧ a9.block ≠ x.block ∧ a10.block ≠ x.block) :
    (W.setCell x u).cell? a0 = some u0 ∧ (W.setCell x u).cell? a1 = some u1 ∧ (W.setCell x u).cell? a2 = some u2 ∧ (W.setCell x u).cell? a3 = some u3 ∧ (W.setCell x u).cell? a4 = some u4 ∧ (W.setCell x u).cell? a5 = some u5 ∧ (W.setCell x u).cell? a6 = some u6 ∧ (W.setCell x u).cell? a7 = some u7 ∧ (W.setCell x u).cell? a8 = some u8 ∧ (W.setCell x u).cell? a9 = some u9 ∧ (W.setCell x u).cell? a10 = some u10 := by
  have far : ∀ y : Addr, ∀ v, y.block ≠ x.block → W.cell? y = some v → (W.setCell x u).cell? y = some v := fun y v hy hv => by
    rw [World.cell?_setCell_other _ _ _ _ (fun e => by subst e; exact hy rfl)]
    exact hv
  exact ⟨far _ _ k.1 h.1, far _ _ k.2.1 h.2.1, far _ _ k.2.2.1 h.2.2.1, far _ _ k.2.2.2.1 h.2.2.2.1, far _ _ k.2.2.2.2.1 h.2.2.2.2.1, far _ _ k.2.2.2.2.2.1 h.2.2.2.2.2.1, far _ _ k.2.2.2.2.2.2.1 h.2.2.2.2.2.2.1, far _ _ k.2.2.2.2.2.2.2.1 h.2.2.2.2.2.2.2.1, far _ _ k.2.2.2.2.2.2.2.2.1 h.2.2.2.2.2.2.2.2.1, far _ _ k.2.2.2.2.2.2.2.2.2.1 h.2.2.2.2.2.2.2.2.2.1, far _ _ k.2.2.2.2.2.2.2.2.2.2 h.2.2.2.2.2.2.2.2.2.2⟩

theorem ok_page' {k p : Int} {o : Bool} {xs : List Int} (h : msgOkB k p o xs = true) : 0 ≤ p ∧ p ≤ 5 := by
  unfold msgOkB at h
  simp only [Bool.and_eq_true, decide_eq_true_eq] at h
  exact h.1.1.2

/-- The message that is told, in its box. -/
def MB (W : World) (p : Int) (xs : List Int) (v : Value) (wx : World) : Prop :=
  ∃ (A : Nat) (aM : Option Addr) (kM : Nat), v = .pointer (some ⟨A, 0, none⟩) ∧ W.heap.size ≤ A ∧ Box wx A #[.int .i64 7, .int .i64 p, .bool false, .slice aM xs.length kM] 30 ∧ wx.ownsRow W.heap.size 3 1 (.slice aM xs.length kM) xs.length (xs.map (Value.int .i64)) ∧ (∀ j, (Value.slice aM xs.length kM).ownBlock = some j → A ≠ j) ∧ Below W.heap.size W wx

theorem mb_new {W w1 : World} {p : Int} {xs : List Int} {a5 : Option Addr} {k5 : Nat} {lo : Nat} (o : w1.ownsRow lo 3 1 (.slice a5 xs.length k5) xs.length (xs.map (Value.int .i64))) (hlo : W.heap.size ≤ lo) (b1 : Below W.heap.size W w1) :
    MB W p xs (.pointer (some ⟨w1.heap.size, 0, none⟩)) (w1.alloc (.cells #[.int .i64 7, .int .i64 p, .bool false, .slice a5 xs.length k5] 30)) :=
  ⟨_, a5, k5, rfl, b1.size, Box.new w1 _ _, owns_below (owns_base o hlo) (bel_alloc (Below.refl _ _) _), fun j hj e => by have := (o.lt j hj).2; omega, bel_alloc b1 _⟩

theorem mb_set {W w1 : World} {p : Int} {xs : List Int} {a5 : Option Addr} {k5 : Nat} {lo : Nat} (o : w1.ownsRow lo 3 1 (.slice a5 xs.length k5) xs.length (xs.map (Value.int .i64))) (hlo : W.heap.size < lo) (b1 : Below (W.alloc (.cells #[.int .i64 0, .int .i64 0, .bool false, .slice none 0 0] 30)).heap.size (W.alloc (.cells #[.int .i64 0, .int .i64 0, .bool false, .slice none 0 0] 30)) w1) :
    MB W p xs (.pointer (some ⟨W.heap.size, 0, none⟩)) ((((w1.setCell ⟨W.heap.size, 0, none⟩ (.int .i64 7)).setCell ⟨W.heap.size, 1, none⟩ (.int .i64 p)).setCell ⟨W.heap.size, 2, none⟩ (.bool false)).setCell ⟨W.heap.size, 3, none⟩ (.slice a5 xs.length k5)) := by
  have X := (Box.new W #[.int .i64 0, .int .i64 0, .bool false, .slice none 0 0] 30).below b1
  have hl : ∀ j, (Value.slice a5 xs.length k5).ownBlock = some j → W.heap.size < j := fun j hj => by have := (o.lt j hj).1; omega
  refine ⟨_, a5, k5, rfl, Nat.le_refl _, heap_setCell_same _ _ 3 _ _ _ (heap_setCell_same _ _ 2 _ _ _ (heap_setCell_same _ _ 1 _ _ _ (heap_setCell_same _ _ 0 _ _ _ X))), ?_, fun j hj e => by have := hl j hj; omega, ?_⟩
  · repeat refine owns_setCell ?_ ?_ _
    · exact owns_base o (by omega)
    all_goals (intro j h; have := hl j h; simp; omega)
  · repeat refine bel_setCell ?_ _ _ ?_
    · exact bel_trans (bel_alloc (Below.refl _ _) _) b1
    all_goals (simp; try omega)

set_option maxRecDepth 100000 in
set_option maxHeartbeats 8000000 in
theorem implHear_any (s : Int) (q : Bool) (a : Option Addr) (ca : Nat) (xs : List Int) (k p : Int) (o : Bool) (am : Option Addr) (cm : Nat) (ys : List Int) (w : World) (hsm : xs.length ≤ 1048577) (ha : Row .i64 w a xs) (hm : Row .i64 w am ys) :
    Calls Try.prog 9 #[.agg #[.int .i64 s, .slice a xs.length ca, .bool q], .agg #[.int .i64 k, .int .i64 p, .bool o, .slice am ys.length cm]] w fun e w' => HearP (hearR s q xs k p o ys) w e w' := by
  obtain ⟨W, hW, X0, X1, X2, X3, B, HS⟩ := Box.four w #[.int .i64 s, .slice a xs.length ca, .bool q] #[.int .i64 k, .int .i64 p, .bool o, .slice am ys.length cm] #[.int .i64 0, .slice none 0 0, .bool false] #[.int .i64 0, .int .i64 0, .bool false, .slice none 0 0] 29 30 29 30
  have HWs : Hid (W.heap.size = w.heap.size + 4) := HS
  clear HS
  have hr := ha.below B
  have hy := hm.below B
  obtain ⟨m0, m1, m2, mz⟩ := X0.at3
  go_enter Try.func9, Try.ntmps9
  go_wp2_with fail
  clear hW ha hm m0 m1 m2 mz
  refine (holding_any s q a ca xs _ hr).mono ?_
  rintro e w1 ⟨t, c0, c1, c2, c3, r, rfl, hL, b1⟩
  have s1 : w.heap.size + 4 ≤ w1.heap.size := by have h1 := b1.size; have h2 := HWs.out; omega
  replace X0 := X0.below b1
  replace X1 := X1.below b1
  replace X2 := X2.below b1
  replace X3 := X3.below b1
  replace hr := hr.below b1
  replace hy := hy.below b1
  replace B := bel_trans B b1
  clear b1
  have bx := bel_alloc (Below.refl w1.heap.size w1) (.cells #[.int .i64 t, .int .i64 c0, .int .i64 c1, .int .i64 c2, .int .i64 c3, .bool r] 48)
  have XH := Box.new w1 #[.int .i64 t, .int .i64 c0, .int .i64 c1, .int .i64 c2, .int .i64 c3, .bool r] 48
  replace X0 := X0.below bx
  replace X1 := X1.below bx
  replace X2 := X2.below bx
  replace X3 := X3.below bx
  replace hr := hr.below bx
  replace hy := hy.below bx
  replace B := bel_trans B bx
  obtain ⟨W2, hW2⟩ : ∃ W2, w1.alloc (.cells #[.int .i64 t, .int .i64 c0, .int .i64 c1, .int .i64 c2, .int .i64 c3, .bool r] 48) = W2 := ⟨_, rfl⟩
  rw [hW2] at X0 X1 X2 X3 XH hr hy B
  clear bx
  rcases hear_cases s q xs k p o ys with ⟨hf, hR⟩ | ⟨hf, hk, hR⟩ | ⟨hf, hk, hc⟩
  · have HR : Hid (hearR s q xs k p o ys = ⟨s, xs, q, 0, 0, [], false⟩) := hR
    clear hR hL
    have hz0 : w.heap.size + 4 ≤ W2.heap.size := by have := XH.lt; omega
    obtain ⟨m0, m1, m2, mz⟩ := X0.at3
    obtain ⟨h0, h1, h2, h3, h4, h5, hz⟩ := XH.at6
    obtain ⟨n0, n1, n2, n3, nz⟩ := X1.at4
    go_wp2_with fail
    refine (copyFrame_any s q a ca xs _ hsm hr).mono ?_
    rintro e w4 ⟨v, rfl, o4, b4⟩
    have hz : w.heap.size + 4 ≤ w4.heap.size := by have h := b4.size; have h0 := mz; have h1 := hz0; omega
    have hlt : ∀ j, v.ownBlock = some j → w.heap.size + 4 ≤ j := fun j h => by have := (o4.lt j h).1; have h1 := hz0; omega
    have HLT : Hid (∀ j, v.ownBlock = some j → w.heap.size + 4 ≤ j) := hlt
    obtain ⟨a4, c4, rfl⟩ := owns_slice o4
    replace X2 := X2.below b4
    replace X3 := X3.below b4
    have hzB := B.size
    replace B := bel_trans B b4
    replace o4 := owns_base o4 hzB
    clear b4 hlt X0 X1 XH hr hy m0 m1 m2 mz h0 h1 h2 h3 h4 h5 hz n0 n1 n2 n3 nz
    have f20 := X2.frozen 0
    have f21 := X2.frozen 1
    have f22 := X2.frozen 2
    have f30 := X3.frozen 0
    have f31 := X3.frozen 1
    have f32 := X3.frozen 2
    have f33 := X3.frozen 3
    obtain ⟨y0, y1, y2, yz⟩ := X2.at3
    obtain ⟨z0, z1, z2, z3, zz⟩ := X3.at4
    go_wp2
    rw [HR.out]
    refine bodyPost_ret (v := .tuple #[.agg #[.int .i64 s, .slice a4 xs.length c4, .bool q], .agg #[.int .i64 0, .int .i64 0, .bool false, .slice none 0 0], .bool false]) (by simp [results, Try.results9, go_sem, y0, y1, y2, z0, z1, z2, z3]) rfl ⟨.slice a4 xs.length c4, .slice none 0 0, rfl, ?_, ?_, ?_, ?_⟩
    · repeat refine owns_setCell ?_ ?_ _
      · exact o4
      all_goals (intro j h; have := HLT.out j h; simp; omega)
    · exact World.ownsRow_nil _ _ _ _
    · intro j _ h; cases h
    · repeat refine bel_setCell ?_ _ _ ?_
      · exact B
      all_goals (simp; try omega)
  · obtain ⟨rfl, rfl, hHW⟩ := hL hf
    have HR : Hid (hearR t r xs k p o ys = ⟨t, xs, r, 0, 0, [], false⟩) := hR
    clear hR hL hHW
    obtain ⟨n0, n1, n2, n3, nz⟩ := X1.at4
    go_wp2_with fail
    refine (msgOk_any k p o am cm ys _ hy).mono ?_
    rintro e w3 ⟨rfl, b3⟩
    have hz0 : w.heap.size + 4 ≤ w3.heap.size := by have h := b3.size; have h1 := XH.lt; omega
    have hW23 := b3.size
    clear n0 n1 n2 n3 nz
    replace X0 := X0.below b3
    replace X1 := X1.below b3
    replace X2 := X2.below b3
    replace X3 := X3.below b3
    replace XH := XH.below b3
    replace hr := hr.below b3
    replace hy := hy.below b3
    replace B := bel_trans B b3
    clear b3
    obtain ⟨m0, m1, m2, mz⟩ := X0.at3
    obtain ⟨h0, h1, h2, h3, h4, h5, hz⟩ := XH.at6
    obtain ⟨n0, n1, n2, n3, nz⟩ := X1.at4
    go_wp2_with fail
    refine (copyFrame_any t r a ca xs _ hsm hr).mono ?_
    rintro e w4 ⟨v, rfl, o4, b4⟩
    have hz : w.heap.size + 4 ≤ w4.heap.size := by have h := b4.size; have h0 := mz; have h1 := hz0; omega
    have hlt : ∀ j, v.ownBlock = some j → w.heap.size + 4 ≤ j := fun j h => by have := (o4.lt j h).1; have h1 := hz0; omega
    have HLT : Hid (∀ j, v.ownBlock = some j → w.heap.size + 4 ≤ j) := hlt
    obtain ⟨a4, c4, rfl⟩ := owns_slice o4
    replace X2 := X2.below b4
    replace X3 := X3.below b4
    have hzB := B.size
    replace B := bel_trans B b4
    replace o4 := owns_base o4 hzB
    clear b4 hlt X0 X1 XH hr hy m0 m1 m2 mz h0 h1 h2 h3 h4 h5 hz n0 n1 n2 n3 nz
    have f20 := X2.frozen 0
    have f21 := X2.frozen 1
    have f22 := X2.frozen 2
    have f30 := X3.frozen 0
    have f31 := X3.frozen 1
    have f32 := X3.frozen 2
    have f33 := X3.frozen 3
    obtain ⟨y0, y1, y2, yz⟩ := X2.at3
    obtain ⟨z0, z1, z2, z3, zz⟩ := X3.at4
    go_wp2
    rw [HR.out]
    refine bodyPost_ret (v := .tuple #[.agg #[.int .i64 t, .slice a4 xs.length c4, .bool r], .agg #[.int .i64 0, .int .i64 0, .bool false, .slice none 0 0], .bool false]) (by simp [results, Try.results9, go_sem, y0, y1, y2, z0, z1, z2, z3]) rfl ⟨.slice a4 xs.length c4, .slice none 0 0, rfl, ?_, ?_, ?_, ?_⟩
    · repeat refine owns_setCell ?_ ?_ _
      · exact o4
      all_goals (intro j h; have := HLT.out j h; simp; omega)
    · exact World.ownsRow_nil _ _ _ _
    · intro j _ h; cases h
    · repeat refine bel_setCell ?_ _ _ ?_
      · exact B
      all_goals (simp; try omega)
  · obtain ⟨rfl, rfl, hHW⟩ := hL hf
    clear hL
    obtain ⟨n0, n1, n2, n3, nz⟩ := X1.at4
    go_wp2_with fail
    refine (msgOk_any k p o am cm ys _ hy).mono ?_
    rintro e w3 ⟨rfl, b3⟩
    have hz0 : w.heap.size + 4 ≤ w3.heap.size := by have h := b3.size; have h1 := XH.lt; omega
    have hW23 := b3.size
    clear n0 n1 n2 n3 nz
    replace X0 := X0.below b3
    replace X1 := X1.below b3
    replace X2 := X2.below b3
    replace X3 := X3.below b3
    replace XH := XH.below b3
    replace hr := hr.below b3
    replace hy := hy.below b3
    replace B := bel_trans B b3
    clear b3
    clear hW2
    rcases hc with ⟨rfl, hR⟩ | ⟨rfl, hR⟩ | ⟨rfl, rfl, rfl, hR⟩ | ⟨rfl, rfl, rfl, hR⟩ | ⟨rfl, hs, hR⟩ | ⟨h3, h4, h6, hR⟩
    · have HR : Hid (hearR t r xs 3 p o ys = ⟨if o then 2 else 1, ys, false, 0, 0, [], false⟩) := hR
      have hw4 : wordsB ys 4 = true := by rw [← ok_3 (ok_page' hk)]; exact hk
      clear hR
      obtain ⟨n0, n1, n2, n3, nz⟩ := X1.at4
      go_wp2_with fail
      refine (words_any am cm ys _ hy).mono ?_
      rintro e w5 ⟨d0, d1, d2, d3, rfl, hw, b5⟩
      have hyd := hw hw4
      have hd0 : 0 ≤ d0 := words_pos (by rw [← hyd]; exact hw4)
      have HLy : Hid (HL ys d0 d1 d2 d3) := .inr ⟨hyd, hd0⟩
      clear hw hyd hw4 n0 n1 n2 n3 nz
      have hz5 : w.heap.size + 4 ≤ w5.heap.size := by have h := b5.size; omega
      replace X0 := X0.below b5
      replace X1 := X1.below b5
      replace X2 := X2.below b5
      replace X3 := X3.below b5
      replace XH := XH.below b5
      replace hr := hr.below b5
      replace hy := hy.below b5
      replace B := bel_trans B b5
      clear b5
      obtain ⟨n0, n1, n2, n3, nz⟩ := X1.at4
      go_wp2_with fail
      clear n0 n1 n2 n3 nz
      have bx := bel_alloc (Below.refl w5.heap.size w5) (.cells #[.int .i64 d0, .int .i64 d1, .int .i64 d2, .int .i64 d3] 46)
      have XN := Box.new w5 #[.int .i64 d0, .int .i64 d1, .int .i64 d2, .int .i64 d3] 46
      replace X0 := X0.below bx
      replace X1 := X1.below bx
      replace X2 := X2.below bx
      replace X3 := X3.below bx
      replace XH := XH.below bx
      replace hr := hr.below bx
      replace hy := hy.below bx
      replace B := bel_trans B bx
      clear bx
      refine (granted_any d0 d1 d2 d3 o _).mono ?_
      rintro e w6 ⟨rfl, b6⟩
      obtain ⟨g, hg⟩ : ∃ g : Int, (if o = true then (2 : Int) else 1) = g := ⟨_, rfl⟩
      rw [hg]
      have HG : Hid ((if o = true then (2 : Int) else 1) = g) := hg
      clear hg
      have hz6 : w.heap.size + 4 ≤ w6.heap.size := by have h := b6.size; simp at h; omega
      replace X0 := X0.below b6
      replace X1 := X1.below b6
      replace X2 := X2.below b6
      replace X3 := X3.below b6
      replace XH := XH.below b6
      replace XN := XN.below b6
      replace hr := hr.below b6
      replace hy := hy.below b6
      replace B := bel_trans B b6
      clear b6
      go_wp2_with fail
      refine (frame_any g d0 d1 d2 d3 false ys _ HLy.out).mono ?_
      rintro e w7 ⟨v, rfl, o7, b7⟩
      have hlt : ∀ j, v.ownBlock = some j → w.heap.size + 4 ≤ j := fun j h => by have := (o7.lt j h).1; omega
      have HLT : Hid (∀ j, v.ownBlock = some j → w.heap.size + 4 ≤ j) := hlt
      obtain ⟨a7, c7, rfl⟩ := owns_slice o7
      have hzB := B.size
      replace X0 := X0.below b7
      replace X1 := X1.below b7
      replace X2 := X2.below b7
      replace X3 := X3.below b7
      replace XH := XH.below b7
      replace XN := XN.below b7
      replace hr := hr.below b7
      replace hy := hy.below b7
      replace B := bel_trans B b7
      clear b7
      replace o7 := owns_base o7 hzB
      clear hlt X0 X1 XH XN hr hy
      have f20 := X2.frozen 0
      have f21 := X2.frozen 1
      have f22 := X2.frozen 2
      have f30 := X3.frozen 0
      have f31 := X3.frozen 1
      have f32 := X3.frozen 2
      have f33 := X3.frozen 3
      obtain ⟨y0, y1, y2, yz⟩ := X2.at3
      obtain ⟨z0, z1, z2, z3, zz⟩ := X3.at4
      go_wp2
      rw [HR.out, HG.out]
      refine bodyPost_ret (v := .tuple #[.agg #[.int .i64 g, .slice a7 ys.length c7, .bool false], .agg #[.int .i64 0, .int .i64 0, .bool false, .slice none 0 0], .bool false]) (by simp [results, Try.results9, go_sem, y0, y1, y2, z0, z1, z2, z3]) rfl ⟨.slice a7 ys.length c7, .slice none 0 0, rfl, ?_, ?_, ?_, ?_⟩
      · repeat refine owns_setCell ?_ ?_ _
        · exact o7
        all_goals (intro j h; have := HLT.out j h; simp; omega)
      · exact World.ownsRow_nil _ _ _ _
      · intro j _ h; cases h
      · repeat refine bel_setCell ?_ _ _ ?_
        · exact B
        all_goals (simp; try omega)
    · have HR : Hid (hearR t r xs 4 p o ys = ⟨0, [], r, 5, p, [], true⟩) := hR
      clear hR
      obtain ⟨n0, n1, n2, n3, nz⟩ := X1.at4
      obtain ⟨h0, h1, h2, h3, h4, h5, hz⟩ := XH.at6
      have f20 := X2.frozen 0
      have f21 := X2.frozen 1
      have f22 := X2.frozen 2
      have f30 := X3.frozen 0
      have f31 := X3.frozen 1
      have f32 := X3.frozen 2
      have f33 := X3.frozen 3
      obtain ⟨y0, y1, y2, yz⟩ := X2.at3
      obtain ⟨z0, z1, z2, z3, zz⟩ := X3.at4
      go_wp2_with fail
      go_region_held3 (fun w' => w'.cell? ⟨w.heap.size + 1, 1, none⟩ = some (.int .i64 p) ∧ w'.cell? ⟨w1.heap.size, 0, none⟩ = some (.int .i64 t) ∧ w'.cell? ⟨w1.heap.size, 1, none⟩ = some (.int .i64 c0) ∧ w'.cell? ⟨w1.heap.size, 2, none⟩ = some (.int .i64 c1) ∧ w'.cell? ⟨w1.heap.size, 3, none⟩ = some (.int .i64 c2) ∧ w'.cell? ⟨w1.heap.size, 4, none⟩ = some (.int .i64 c3) ∧ w'.cell? ⟨w1.heap.size, 5, none⟩ = some (.bool r))
        (first | (with_reducible exact keep7 b6 ‹_›) | (with_reducible exact keep7 b5 ‹_›) | ((with_reducible refine keep7n (keep7n (keep7n (keep7n ‹_› ?_) ?_) ?_) ?_) <;> (simp; omega)) | ((with_reducible refine keep7n (keep7n (keep7n ‹_› ?_) ?_) ?_) <;> (simp; omega)) | go_keep)
        (first | (go_at_call 28; refine (gone_any t c0 c1 c2 c3 r _).mono ?_; rintro e w5 ⟨rfl, b5⟩) | (go_at_call 27; refine (frame_any 0 (-1) 0 0 0 r [] _ (.inl ⟨rfl, rfl, rfl, rfl, rfl⟩)).mono ?_; rintro e w6 ⟨v, rfl, o6, b6⟩; have X2 := (X2.below (bel_undrew b5)).below b6; have X3 := (X3.below (bel_undrew b5)).below b6; obtain ⟨y0, y1, y2, yz⟩ := X2.at3; obtain ⟨z0, z1, z2, z3, zz⟩ := X3.at4; have f20 := X2.frozen 0; have f21 := X2.frozen 1; have f22 := X2.frozen 2; have f30 := X3.frozen 0; have f31 := X3.frozen 1; have f32 := X3.frozen 2; have f33 := X3.frozen 3; obtain ⟨a6, k6, rfl⟩ := owns_slice o6))
      all_goals
        have B2 := bel_trans B (bel_trans (bel_undrew b5) b6)
        have hlt : Hid (∀ j, (Value.slice a6 ([] : List Int).length k6).ownBlock = some j → w.heap.size + 4 ≤ j) := fun j h => by have h1 := (o6.lt j h).1; have h2 := (bel_undrew b5).size; omega
        replace o6 := owns_base o6 (by have h2 := (bel_undrew b5).size; show w.heap.size ≤ _; omega)
        go_wp2
        replace B := B2
        rw [HR.out]
        refine bodyPost_ret (v := .tuple #[.agg #[.int .i64 0, .slice a6 0 k6, .bool r], .agg #[.int .i64 5, .int .i64 p, .bool false, .slice none 0 0], .bool true]) (by simp [results, Try.results9, go_sem, y0, y1, y2, z0, z1, z2, z3]) rfl ⟨.slice a6 0 k6, .slice none 0 0, rfl, ?_, ?_, ?_, ?_⟩
        · repeat refine owns_setCell ?_ ?_ _
          · exact o6
          all_goals (intro j h; have := hlt.out j h; simp; omega)
        · exact World.ownsRow_nil _ _ _ _
        · intro j _ h; cases h
        · repeat refine bel_setCell ?_ _ _ ?_
          · exact B
          all_goals (simp; try omega)
    · have HR : Hid (hearR 2 r xs 6 p true ys = ⟨0, [], r, 7, p, xs, true⟩) := hR
      clear hR
      have hHL := hHW.hl
      have HHL : Hid (HL xs c0 c1 c2 c3) := hHL
      clear hHL hHW
      obtain ⟨n0, n1, n2, n3, nz⟩ := X1.at4
      obtain ⟨h0, h1, h2, h3, h4, h5, hz⟩ := XH.at6
      go_upto_region 10 with fail
      go_cut [11] (fun v wx => MB w3 p xs v wx)
      case first =>
        go_region_held3 (fun w' => w'.cell? ⟨w.heap.size + 1, 1, none⟩ = some (.int .i64 p) ∧ w'.cell? ⟨w1.heap.size, 0, none⟩ = some (.int .i64 2) ∧ w'.cell? ⟨w1.heap.size, 1, none⟩ = some (.int .i64 c0) ∧ w'.cell? ⟨w1.heap.size, 2, none⟩ = some (.int .i64 c1) ∧ w'.cell? ⟨w1.heap.size, 3, none⟩ = some (.int .i64 c2) ∧ w'.cell? ⟨w1.heap.size, 4, none⟩ = some (.int .i64 c3) ∧ w'.cell? ⟨w1.heap.size, 5, none⟩ = some (.bool r))
          (first | (with_reducible exact keep7 b5 ‹_›) | (with_reducible exact keep7 (bel_alloc (bel_undrew b5) _) ⟨n1, h0, h1, h2, h3, h4, h5⟩) | ((with_reducible refine keep7n (keep7n (keep7n (keep7n ‹_› ?_) ?_) ?_) ?_) <;> (simp; omega)) | go_keep)
          (first | (go_at_call 29; refine (list_any 2 c0 c1 c2 c3 r xs _ HHL.out).mono ?_; rintro e w5 ⟨v, rfl, o5, b5⟩; obtain ⟨a5, k5, rfl⟩ := owns_slice o5; try (have XN := (Box.new w3 #[.int .i64 0, .int .i64 0, .bool false, .slice none 0 0] 30).below (bel_undrew b5); obtain ⟨i0, i1, i2, i3, iz⟩ := XN.at4; have if0 := XN.frozen 0; have if1 := XN.frozen 1; have if2 := XN.frozen 2; have if3 := XN.frozen 3)))
        all_goals go_wp2_with fail
        all_goals go_meet
        all_goals
          have b6 := bel_undrew b5
          first | ((with_reducible refine mb_new o5 ?_ b6); exact Nat.le_refl _) | ((with_reducible refine mb_set o5 ?_ b6); simp)
      case rest =>
        obtain ⟨A, aM, kM, rfl, hA, XM, OM, hMA, bM⟩ := hcut
        have lM : Hid (∀ j, (Value.slice aM xs.length kM).ownBlock = some j → w3.heap.size ≤ j ∧ j ≠ A ∧ j < wc.heap.size) := fun j h => ⟨(OM.lt j h).1, fun e => hMA j h e.symm, (OM.lt j h).2⟩
        clear hMA n0 n1 n2 n3 nz h0 h1 h2 h3 h4 h5 hz
        have zM := bM.size
        replace X0 := X0.below bM
        replace X1 := X1.below bM
        replace X2 := X2.below bM
        replace X3 := X3.below bM
        replace XH := XH.below bM
        replace hr := hr.below bM
        replace hy := hy.below bM
        replace B := bel_trans B bM
        clear bM
        obtain ⟨n0, n1, n2, n3, nz⟩ := X1.at4
        obtain ⟨h0, h1, h2, h3, h4, h5, hz⟩ := XH.at6
        obtain ⟨e0, e1, e2, e3, ez⟩ := XM.at4
        have f20 := X2.frozen 0
        have f21 := X2.frozen 1
        have f22 := X2.frozen 2
        have f30 := X3.frozen 0
        have f31 := X3.frozen 1
        have f32 := X3.frozen 2
        have f33 := X3.frozen 3
        obtain ⟨y0, y1, y2, yz⟩ := X2.at3
        obtain ⟨z0, z1, z2, z3, zz⟩ := X3.at4
        go_wp2_with fail
        go_region_held3 (fun w' => w'.cell? ⟨w.heap.size + 1, 2, none⟩ = some (.bool true) ∧ w'.cell? ⟨w1.heap.size, 0, none⟩ = some (.int .i64 2) ∧ w'.cell? ⟨w1.heap.size, 1, none⟩ = some (.int .i64 c0) ∧ w'.cell? ⟨w1.heap.size, 2, none⟩ = some (.int .i64 c1) ∧ w'.cell? ⟨w1.heap.size, 3, none⟩ = some (.int .i64 c2) ∧ w'.cell? ⟨w1.heap.size, 4, none⟩ = some (.int .i64 c3) ∧ w'.cell? ⟨w1.heap.size, 5, none⟩ = some (.bool r) ∧ w'.cell? ⟨A, 0, none⟩ = some (.int .i64 7) ∧ w'.cell? ⟨A, 1, none⟩ = some (.int .i64 p) ∧ w'.cell? ⟨A, 2, none⟩ = some (.bool false) ∧ w'.cell? ⟨A, 3, none⟩ = some (.slice aM xs.length kM))
          (first | (with_reducible exact keep11 b7 ‹_›) | (with_reducible exact keep11 b6 ‹_›) | ((with_reducible refine keep11n (keep11n (keep11n (keep11n ‹_› ?_) ?_) ?_) ?_) <;> (simp; omega)) | ((with_reducible refine keep11n (keep11n (keep11n ‹_› ?_) ?_) ?_) <;> (simp; omega)) | go_keep)
          (first | (go_at_call 30; refine (taken_any 2 c0 c1 c2 c3 r true _).mono ?_; rintro e w6 ⟨rfl, b6⟩; simp only [takenV, if_true]) | (go_at_call 27; refine (frame_any 0 (-1) 0 0 0 r [] _ (.inl ⟨rfl, rfl, rfl, rfl, rfl⟩)).mono ?_; rintro e w7 ⟨v, rfl, o7, b7⟩; have X2 := (X2.below (bel_undrew b6)).below b7; have X3 := (X3.below (bel_undrew b6)).below b7; obtain ⟨y0, y1, y2, yz⟩ := X2.at3; obtain ⟨z0, z1, z2, z3, zz⟩ := X3.at4; have f20 := X2.frozen 0; have f21 := X2.frozen 1; have f22 := X2.frozen 2; have f30 := X3.frozen 0; have f31 := X3.frozen 1; have f32 := X3.frozen 2; have f33 := X3.frozen 3; obtain ⟨a7, k7, rfl⟩ := owns_slice o7))
        all_goals
          have b67 := bel_trans (bel_undrew b6) b7
          have B2 := bel_trans B b67
          have OM2 := owns_below OM b67
          have hlt : Hid (∀ j, (Value.slice a7 ([] : List Int).length k7).ownBlock = some j → wc.heap.size ≤ j) := fun j h => by have h1 := (o7.lt j h).1; have h2 := (bel_undrew b6).size; omega
          have hl7 : Hid (∀ j, (Value.slice a7 ([] : List Int).length k7).ownBlock = some j → w.heap.size + 4 ≤ j) := fun j h => by have h1 := hlt.out j h; omega
          have hlM : Hid (∀ j, (Value.slice aM xs.length kM).ownBlock = some j → w.heap.size + 4 ≤ j) := fun j h => by have h1 := lM.out j h; omega
          replace o7 := owns_base o7 (by have h2 := (bel_undrew b6).size; show w.heap.size ≤ _; omega)
          replace OM2 := owns_base OM2 (by show w.heap.size ≤ _; omega)
          go_wp2
          replace B := B2
          rw [HR.out]
          refine bodyPost_ret (v := .tuple #[.agg #[.int .i64 0, .slice a7 0 k7, .bool r], .agg #[.int .i64 7, .int .i64 p, .bool false, .slice aM xs.length kM], .bool true]) (by simp [results, Try.results9, go_sem, y0, y1, y2, z0, z1, z2, z3]) rfl ⟨.slice a7 0 k7, .slice aM xs.length kM, rfl, ?_, ?_, ?_, ?_⟩
          · repeat refine owns_setCell ?_ ?_ _
            · exact o7
            all_goals (intro j h; have := hl7.out j h; simp; omega)
          · repeat refine owns_setCell ?_ ?_ _
            · exact OM2
            all_goals (intro j h; have := hlM.out j h; simp; omega)
          · intro j h h2; have h3 := hlt.out j h; have h4 := (lM.out j h2).2.2; omega
          · repeat refine bel_setCell ?_ _ _ ?_
            · exact B
            all_goals (simp; try omega)
    · have HR : Hid (hearR 2 r xs 6 p false ys = ⟨1, xs, r, 7, p, xs, true⟩) := hR
      clear hR
      have hHL := hHW.hl
      have HHL : Hid (HL xs c0 c1 c2 c3) := hHL
      clear hHL hHW
      obtain ⟨n0, n1, n2, n3, nz⟩ := X1.at4
      obtain ⟨h0, h1, h2, h3, h4, h5, hz⟩ := XH.at6
      go_upto_region 10 with fail
      go_cut [11] (fun v wx => MB w3 p xs v wx)
      case first =>
        go_region_held3 (fun w' => w'.cell? ⟨w.heap.size + 1, 1, none⟩ = some (.int .i64 p) ∧ w'.cell? ⟨w1.heap.size, 0, none⟩ = some (.int .i64 2) ∧ w'.cell? ⟨w1.heap.size, 1, none⟩ = some (.int .i64 c0) ∧ w'.cell? ⟨w1.heap.size, 2, none⟩ = some (.int .i64 c1) ∧ w'.cell? ⟨w1.heap.size, 3, none⟩ = some (.int .i64 c2) ∧ w'.cell? ⟨w1.heap.size, 4, none⟩ = some (.int .i64 c3) ∧ w'.cell? ⟨w1.heap.size, 5, none⟩ = some (.bool r))
          (first | (with_reducible exact keep7 b5 ‹_›) | (with_reducible exact keep7 (bel_alloc (bel_undrew b5) _) ⟨n1, h0, h1, h2, h3, h4, h5⟩) | ((with_reducible refine keep7n (keep7n (keep7n (keep7n ‹_› ?_) ?_) ?_) ?_) <;> (simp; omega)) | go_keep)
          (first | (go_at_call 29; refine (list_any 2 c0 c1 c2 c3 r xs _ HHL.out).mono ?_; rintro e w5 ⟨v, rfl, o5, b5⟩; obtain ⟨a5, k5, rfl⟩ := owns_slice o5; try (have XN := (Box.new w3 #[.int .i64 0, .int .i64 0, .bool false, .slice none 0 0] 30).below (bel_undrew b5); obtain ⟨i0, i1, i2, i3, iz⟩ := XN.at4; have if0 := XN.frozen 0; have if1 := XN.frozen 1; have if2 := XN.frozen 2; have if3 := XN.frozen 3)))
        all_goals go_wp2_with fail
        all_goals go_meet
        all_goals
          have b6 := bel_undrew b5
          first | ((with_reducible refine mb_new o5 ?_ b6); exact Nat.le_refl _) | ((with_reducible refine mb_set o5 ?_ b6); simp)
      case rest =>
        obtain ⟨A, aM, kM, rfl, hA, XM, OM, hMA, bM⟩ := hcut
        have lM : Hid (∀ j, (Value.slice aM xs.length kM).ownBlock = some j → w3.heap.size ≤ j ∧ j ≠ A ∧ j < wc.heap.size) := fun j h => ⟨(OM.lt j h).1, fun e => hMA j h e.symm, (OM.lt j h).2⟩
        clear hMA n0 n1 n2 n3 nz h0 h1 h2 h3 h4 h5 hz
        have zM := bM.size
        replace X0 := X0.below bM
        replace X1 := X1.below bM
        replace X2 := X2.below bM
        replace X3 := X3.below bM
        replace XH := XH.below bM
        replace hr := hr.below bM
        replace hy := hy.below bM
        replace B := bel_trans B bM
        clear bM
        obtain ⟨n0, n1, n2, n3, nz⟩ := X1.at4
        obtain ⟨h0, h1, h2, h3, h4, h5, hz⟩ := XH.at6
        obtain ⟨e0, e1, e2, e3, ez⟩ := XM.at4
        have f20 := X2.frozen 0
        have f21 := X2.frozen 1
        have f22 := X2.frozen 2
        have f30 := X3.frozen 0
        have f31 := X3.frozen 1
        have f32 := X3.frozen 2
        have f33 := X3.frozen 3
        obtain ⟨y0, y1, y2, yz⟩ := X2.at3
        obtain ⟨z0, z1, z2, z3, zz⟩ := X3.at4
        go_wp2_with fail
        go_region_held3 (fun w' => w'.cell? ⟨w.heap.size + 1, 2, none⟩ = some (.bool false) ∧ w'.cell? ⟨w1.heap.size, 0, none⟩ = some (.int .i64 2) ∧ w'.cell? ⟨w1.heap.size, 1, none⟩ = some (.int .i64 c0) ∧ w'.cell? ⟨w1.heap.size, 2, none⟩ = some (.int .i64 c1) ∧ w'.cell? ⟨w1.heap.size, 3, none⟩ = some (.int .i64 c2) ∧ w'.cell? ⟨w1.heap.size, 4, none⟩ = some (.int .i64 c3) ∧ w'.cell? ⟨w1.heap.size, 5, none⟩ = some (.bool r) ∧ w'.cell? ⟨A, 0, none⟩ = some (.int .i64 7) ∧ w'.cell? ⟨A, 1, none⟩ = some (.int .i64 p) ∧ w'.cell? ⟨A, 2, none⟩ = some (.bool false) ∧ w'.cell? ⟨A, 3, none⟩ = some (.slice aM xs.length kM))
          (first | (with_reducible exact keep11 b7 ‹_›) | (with_reducible exact keep11 b6 ‹_›) | ((with_reducible refine keep11n (keep11n (keep11n (keep11n ‹_› ?_) ?_) ?_) ?_) <;> (simp; omega)) | ((with_reducible refine keep11n (keep11n (keep11n ‹_› ?_) ?_) ?_) <;> (simp; omega)) | go_keep)
          (first | (go_at_call 30; refine (taken_any 2 c0 c1 c2 c3 r false _).mono ?_; rintro e w6 ⟨rfl, b6⟩; simp only [takenV, if_false, Bool.false_eq_true]) | (go_at_call 27; refine (frame_any 1 c0 c1 c2 c3 r xs _ HHL.out).mono ?_; rintro e w7 ⟨v, rfl, o7, b7⟩; have X2 := (X2.below (bel_undrew b6)).below b7; have X3 := (X3.below (bel_undrew b6)).below b7; obtain ⟨y0, y1, y2, yz⟩ := X2.at3; obtain ⟨z0, z1, z2, z3, zz⟩ := X3.at4; have f20 := X2.frozen 0; have f21 := X2.frozen 1; have f22 := X2.frozen 2; have f30 := X3.frozen 0; have f31 := X3.frozen 1; have f32 := X3.frozen 2; have f33 := X3.frozen 3; obtain ⟨a7, k7, rfl⟩ := owns_slice o7))
        all_goals
          have b67 := bel_trans (bel_undrew b6) b7
          have B2 := bel_trans B b67
          have OM2 := owns_below OM b67
          have hlt : Hid (∀ j, (Value.slice a7 xs.length k7).ownBlock = some j → wc.heap.size ≤ j) := fun j h => by have h1 := (o7.lt j h).1; have h2 := (bel_undrew b6).size; omega
          have hl7 : Hid (∀ j, (Value.slice a7 xs.length k7).ownBlock = some j → w.heap.size + 4 ≤ j) := fun j h => by have h1 := hlt.out j h; omega
          have hlM : Hid (∀ j, (Value.slice aM xs.length kM).ownBlock = some j → w.heap.size + 4 ≤ j) := fun j h => by have h1 := lM.out j h; omega
          replace o7 := owns_base o7 (by have h2 := (bel_undrew b6).size; show w.heap.size ≤ _; omega)
          replace OM2 := owns_base OM2 (by show w.heap.size ≤ _; omega)
          go_wp2
          replace B := B2
          rw [HR.out]
          refine bodyPost_ret (v := .tuple #[.agg #[.int .i64 1, .slice a7 xs.length k7, .bool r], .agg #[.int .i64 7, .int .i64 p, .bool false, .slice aM xs.length kM], .bool true]) (by simp [results, Try.results9, go_sem, y0, y1, y2, z0, z1, z2, z3]) rfl ⟨.slice a7 xs.length k7, .slice aM xs.length kM, rfl, ?_, ?_, ?_, ?_⟩
          · repeat refine owns_setCell ?_ ?_ _
            · exact o7
            all_goals (intro j h; have := hl7.out j h; simp; omega)
          · repeat refine owns_setCell ?_ ?_ _
            · exact OM2
            all_goals (intro j h; have := hlM.out j h; simp; omega)
          · intro j h h2; have h3 := hlt.out j h; have h4 := (lM.out j h2).2.2; omega
          · repeat refine bel_setCell ?_ _ _ ?_
            · exact B
            all_goals (simp; try omega)
    · have HR : Hid (hearR t r xs 6 p o ys = ⟨t, xs, r, 0, 0, [], false⟩) := hR
      clear hR hHW
      obtain ⟨m0, m1, m2, mz⟩ := X0.at3
      obtain ⟨h0, h1, h2, h3, h4, h5, hz⟩ := XH.at6
      obtain ⟨n0, n1, n2, n3, nz⟩ := X1.at4
      go_wp2_with fail
      refine (copyFrame_any t r a ca xs _ hsm hr).mono ?_
      rintro e w4 ⟨v, rfl, o4, b4⟩
      have hz : w.heap.size + 4 ≤ w4.heap.size := by have h := b4.size; have h0 := mz; have h1 := hz0; omega
      have hlt : ∀ j, v.ownBlock = some j → w.heap.size + 4 ≤ j := fun j h => by have := (o4.lt j h).1; have h1 := hz0; omega
      have HLT : Hid (∀ j, v.ownBlock = some j → w.heap.size + 4 ≤ j) := hlt
      obtain ⟨a4, c4, rfl⟩ := owns_slice o4
      replace X2 := X2.below b4
      replace X3 := X3.below b4
      have hzB := B.size
      replace B := bel_trans B b4
      replace o4 := owns_base o4 hzB
      clear b4 hlt X0 X1 XH hr hy m0 m1 m2 mz h0 h1 h2 h3 h4 h5 hz n0 n1 n2 n3 nz
      have f20 := X2.frozen 0
      have f21 := X2.frozen 1
      have f22 := X2.frozen 2
      have f30 := X3.frozen 0
      have f31 := X3.frozen 1
      have f32 := X3.frozen 2
      have f33 := X3.frozen 3
      obtain ⟨y0, y1, y2, yz⟩ := X2.at3
      obtain ⟨z0, z1, z2, z3, zz⟩ := X3.at4
      go_wp2
      rw [HR.out]
      refine bodyPost_ret (v := .tuple #[.agg #[.int .i64 t, .slice a4 xs.length c4, .bool r], .agg #[.int .i64 0, .int .i64 0, .bool false, .slice none 0 0], .bool false]) (by simp [results, Try.results9, go_sem, y0, y1, y2, z0, z1, z2, z3]) rfl ⟨.slice a4 xs.length c4, .slice none 0 0, rfl, ?_, ?_, ?_, ?_⟩
      · repeat refine owns_setCell ?_ ?_ _
        · exact o4
        all_goals (intro j h; have := HLT.out j h; simp; omega)
      · exact World.ownsRow_nil _ _ _ _
      · intro j _ h; cases h
      · repeat refine bel_setCell ?_ _ _ ?_
        · exact B
        all_goals (simp; try omega)
    · have HR : Hid (hearR t r xs k p o ys = ⟨t, xs, r, 0, 0, [], false⟩) := hR
      clear hR hHW
      obtain ⟨m0, m1, m2, mz⟩ := X0.at3
      obtain ⟨h0, h1, h2, h3, h4, h5, hz⟩ := XH.at6
      obtain ⟨n0, n1, n2, n3, nz⟩ := X1.at4
      go_wp2_with fail
      refine (copyFrame_any t r a ca xs _ hsm hr).mono ?_
      rintro e w4 ⟨v, rfl, o4, b4⟩
      have hz : w.heap.size + 4 ≤ w4.heap.size := by have h := b4.size; have h0 := mz; have h1 := hz0; omega
      have hlt : ∀ j, v.ownBlock = some j → w.heap.size + 4 ≤ j := fun j h => by have := (o4.lt j h).1; have h1 := hz0; omega
      have HLT : Hid (∀ j, v.ownBlock = some j → w.heap.size + 4 ≤ j) := hlt
      obtain ⟨a4, c4, rfl⟩ := owns_slice o4
      replace X2 := X2.below b4
      replace X3 := X3.below b4
      have hzB := B.size
      replace B := bel_trans B b4
      replace o4 := owns_base o4 hzB
      clear b4 hlt X0 X1 XH hr hy m0 m1 m2 mz h0 h1 h2 h3 h4 h5 hz n0 n1 n2 n3 nz
      have f20 := X2.frozen 0
      have f21 := X2.frozen 1
      have f22 := X2.frozen 2
      have f30 := X3.frozen 0
      have f31 := X3.frozen 1
      have f32 := X3.frozen 2
      have f33 := X3.frozen 3
      obtain ⟨y0, y1, y2, yz⟩ := X2.at3
      obtain ⟨z0, z1, z2, z3, zz⟩ := X3.at4
      go_wp2
      rw [HR.out]
      refine bodyPost_ret (v := .tuple #[.agg #[.int .i64 t, .slice a4 xs.length c4, .bool r], .agg #[.int .i64 0, .int .i64 0, .bool false, .slice none 0 0], .bool false]) (by simp [results, Try.results9, go_sem, y0, y1, y2, z0, z1, z2, z3]) rfl ⟨.slice a4 xs.length c4, .slice none 0 0, rfl, ?_, ?_, ?_, ?_⟩
      · repeat refine owns_setCell ?_ ?_ _
        · exact o4
        all_goals (intro j h; have := HLT.out j h; simp; omega)
      · exact World.ownsRow_nil _ _ _ _
      · intro j _ h; cases h
      · repeat refine bel_setCell ?_ _ _ ?_
        · exact B
        all_goals (simp; try omega)
end Go.Proofs.Ytgpmkojajmkkoaa
