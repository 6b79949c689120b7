/- What DrawFrameRead, DrawFrameWrite and DrawFrameHear give. -/
import Derived.Test.YtdopcdpapbfdlaaDrawF
import Derived.Deep.RegionHeld3
namespace Go.Proofs.Ytdopcdpapbfdlaa
open Go.RowKit
set_option linter.unusedVariables false

theorem keep3g {W W' : World} {row : Option Nat} (g : W.grownBy W' row) {a0 a1 a2 : Addr} {u0 u1 u2 : Value} (h : W.cell? a0 = some u0 ∧ W.cell? a1 = some u1 ∧ W.cell? a2 = some u2) (k : row ≠ some a0.block ∧ row ≠ some a1.block ∧ row ≠ some a2.block) : W'.cell? a0 = some u0 ∧ W'.cell? a1 = some u1 ∧ W'.cell? a2 = some u2 := by
  have far : ∀ y : Addr, ∀ v, row ≠ some y.block → W.cell? y = some v → W'.cell? y = some v := fun y v hy hv => by
    obtain ⟨yb, yo, ys⟩ := y
    have hs := World.cell?_spot hv
    simp at hs
    subst hs
    rw [World.cell?_of_block (g.block yb (lt_of_cell hv) (fun e => hy e.symm))]
    exact hv
  exact ⟨far _ _ k.1 h.1, far _ _ k.2.1 h.2.1, far _ _ k.2.2 h.2.2⟩

theorem keep3n {W : World} {x : Addr} {u : Value} {a0 a1 a2 : Addr} {u0 u1 u2 : Value} (h : W.cell? a0 = some u0 ∧ W.cell? a1 = some u1 ∧ W.cell? a2 = some u2) (k : a0.block ≠ x.block ∧ a1.block ≠ x.block ∧ a2.block ≠ x.block) : (W.setCell x u).cell? a0 = some u0 ∧ (W.setCell x u).cell? a1 = some u1 ∧ (W.setCell x u).cell? a2 = some u2 := by
  have far : ∀ y : Addr, ∀ v, y.block ≠ x.block → W.cell? y = some v → (W.setCell x u).cell? y = some v := fun y v hy hv => by
    rw [World.cell?_setCell_other _ _ _ _ (fun e => by subst e; exact hy rfl)]
    exact hv
  exact ⟨far _ _ k.1 h.1, far _ _ k.2.1 h.2.1, far _ _ k.2.2 h.2.2⟩

set_option maxRecDepth 100000 in
set_option maxHeartbeats 2000000 in
theorem drawFRead_any (a : Option Addr) (ca : Nat) (bs : List Int) (w : World) (ha : Row .u8 w a bs) :
    Calls Try.prog 29 #[.slice a bs.length ca] w fun e w' => ∃ (s : Int) (q : Bool) (v : Value) (xs : List Int) (k : Int), e = .returned (.tuple #[.agg #[.int .i64 s, v, .bool q], .int .i64 k]) ∧ xs.length ≤ 5 ∧ w'.ownsRow w.heap.size 3 1 v xs.length (xs.map (Value.int .i64)) ∧ Below w.heap.size w w' := by
  have hlt := ha.far
  have bR := bel_alloc (Below.refl w.heap.size w) (.cells #[.int .i64 0, .slice none 0 0, .bool false] 50)
  have XR := Box.new w #[.int .i64 0, .slice none 0 0, .bool false] 50
  obtain ⟨W, hW⟩ : ∃ W, w.alloc (.cells #[.int .i64 0, .slice none 0 0, .bool false] 50) = W := ⟨_, rfl⟩
  have hWs : W.heap.size = w.heap.size + 1 := by rw [← hW]; simp
  rw [hW] at bR XR
  have HWs : Hid (W.heap.size = w.heap.size + 1) := hWs
  clear hWs
  have haW := ha.below bR
  go_enter Try.func29, Try.ntmps29
  go_wp2_with fail
  clear hW
  refine (l1New_any a ca bs _ haW).mono ?_
  rintro e w1 ⟨rfl, hC, b1⟩
  obtain ⟨r, hr⟩ : ∃ r, W.heap.size = r := ⟨_, rfl⟩
  have hr1 : w.heap.size + 1 ≤ r := by rw [← hr]; exact Nat.le_of_eq HWs.out.symm
  rw [hr] at hC ⊢
  replace XR := XR.below b1
  replace haW := haW.below b1
  have B := bel_trans bR b1
  clear b1 bR HWs hr
  have hne : 0 < bs.length → ∀ x, a = some x → x.block ≠ r := fun h0 x hx => by have := hlt h0 x hx; omega
  clear hlt ha
  go_wp2_with fail
  refine (drawF_any r a ca bs _ hC haW hne).mono ?_
  rintro e w2 ⟨s, q, v, xs, rfl, hxl, o2, hC2, g2⟩
  have zC1 := hC.lt
  have HLO : Hid (∀ j, v.ownBlock = some j → r < j ∧ j < w2.heap.size) := fun j hj => by have h := o2.lt j hj; omega
  replace XR := XR.kept g2 (fun j hj => by simp at hj; omega)
  replace haW := haW.kept2 g2 hne
  replace B := B.grown g2 B.size (fun j hj => by simp at hj; omega)
  clear g2 hC
  obtain ⟨av, cv, rfl⟩ := owns_slice o2
  have zR := XR.lt
  have zC2 := hC2.lt
  have bM := bel_alloc (Below.refl w2.heap.size w2) (.cells #[.int .i64 s, .slice av xs.length cv, .bool q] 50)
  have XM := Box.new w2 #[.int .i64 s, .slice av xs.length cv, .bool q] 50
  replace XR := XR.below bM
  replace o2 := owns_below (owns_base o2 (show w.heap.size ≤ _ by omega)) bM
  replace hC2 := hC2.below bM
  replace haW := haW.below bM
  replace B := bel_trans B bM
  obtain ⟨W3, hW3⟩ : ∃ W3, w2.alloc (.cells #[.int .i64 s, .slice av xs.length cv, .bool q] 50) = W3 := ⟨_, rfl⟩
  rw [hW3] at XM XR o2 hC2 haW B
  clear bM
  obtain ⟨x0, x1, x2, zx⟩ := XM.at3
  go_wp2_with fail
  clear hW3
  go_region_held3 (fun w' => w'.cell? ⟨w2.heap.size, 0, none⟩ = some (.int .i64 s) ∧ w'.cell? ⟨w2.heap.size, 1, none⟩ = some (.slice av xs.length cv) ∧ w'.cell? ⟨w2.heap.size, 2, none⟩ = some (.bool q))
    (first | (with_reducible exact keep3g (gr_undrew g5) ⟨x0, x1, x2⟩ ⟨fun e => by simp at e; omega, fun e => by simp at e; omega, fun e => by simp at e; omega⟩) | ((with_reducible refine keep3n (keep3n (keep3n ‹_› ?_) ?_) ?_) <;> (simp; omega)) | go_keep)
    (first | (go_at_call 52; refine (l1Below_any r a ca bs 6 _ (by omega) (by omega) ?_ ?_ hne).mono ?_; exact hC2; exact haW; rintro e w5 ⟨y, rfl, hy, hC5, g5⟩; have hyi : (y : Int) < 6 := (by omega); have hyz : (0 : Int) ≤ y := (by omega); have X5 := XR.kept (gr_undrew g5) (fun j hj => by simp at hj; omega); obtain ⟨y0, y1, y2, yz⟩ := X5.at3; have f0 := X5.frozen 0; have f1 := X5.frozen 1; have f2 := X5.frozen 2))
  all_goals
    have o5 := owns_ne o2 (gr_undrew g5) (fun j hj he => by simp at he; have := HLO.out j hj; omega)
    have B5 := B.grown (gr_undrew g5) B.size (fun j hj => by simp at hj; omega)
    have hlo := HLO.out
    go_wp2
    refine bodyPost_ret (v := .tuple #[.agg #[.int .i64 s, .slice av xs.length cv, .bool q], .int .i64 (IntKind.i64.wrap ((y : Int) - 1))]) (by simp [results, Try.results29, go_sem, y0, y1, y2]) rfl ⟨_, _, _, xs, _, rfl, hxl, ?_, ?_⟩
    · repeat refine owns_setCell ?_ ?_ _
      · exact o5
      all_goals (intro j h; have := HLO.out j h; simp; omega)
    · repeat refine bel_setCell ?_ _ _ ?_
      · exact B5
      all_goals (simp; try omega)

set_option maxRecDepth 100000 in
set_option maxHeartbeats 2000000 in
theorem drawFWrite_any (a : Option Addr) (ca : Nat) (bs : List Int) (w : World) (ha : Row .u8 w a bs) :
    Calls Try.prog 26 #[.slice a bs.length ca] w fun e w' => ∃ (s : Int) (q : Bool) (v : Value) (xs : List Int) (k x : Int), e = .returned (.tuple #[.agg #[.int .i64 s, v, .bool q], .int .i64 k, .int .i64 x]) ∧ xs.length ≤ 5 ∧ w'.ownsRow w.heap.size 3 1 v xs.length (xs.map (Value.int .i64)) ∧ Below w.heap.size w w' := by
  have hlt := ha.far
  have bR := bel_alloc (Below.refl w.heap.size w) (.cells #[.int .i64 0, .slice none 0 0, .bool false] 50)
  have XR := Box.new w #[.int .i64 0, .slice none 0 0, .bool false] 50
  obtain ⟨W, hW⟩ : ∃ W, w.alloc (.cells #[.int .i64 0, .slice none 0 0, .bool false] 50) = W := ⟨_, rfl⟩
  have hWs : W.heap.size = w.heap.size + 1 := by rw [← hW]; simp
  rw [hW] at bR XR
  have HWs : Hid (W.heap.size = w.heap.size + 1) := hWs
  clear hWs
  have haW := ha.below bR
  go_enter Try.func26, Try.ntmps26
  go_wp2_with fail
  clear hW
  refine (l1New_any a ca bs _ haW).mono ?_
  rintro e w1 ⟨rfl, hC, b1⟩
  obtain ⟨r, hr⟩ : ∃ r, W.heap.size = r := ⟨_, rfl⟩
  have hr1 : w.heap.size + 1 ≤ r := by rw [← hr]; exact Nat.le_of_eq HWs.out.symm
  rw [hr] at hC ⊢
  replace XR := XR.below b1
  replace haW := haW.below b1
  have B := bel_trans bR b1
  clear b1 bR HWs hr
  have hne : 0 < bs.length → ∀ x, a = some x → x.block ≠ r := fun h0 x hx => by have := hlt h0 x hx; omega
  clear hlt ha
  go_wp2_with fail
  refine (drawF_any r a ca bs _ hC haW hne).mono ?_
  rintro e w2 ⟨s, q, v, xs, rfl, hxl, o2, hC2, g2⟩
  have zC1 := hC.lt
  have HLO : Hid (∀ j, v.ownBlock = some j → r < j ∧ j < w2.heap.size) := fun j hj => by have h := o2.lt j hj; omega
  replace XR := XR.kept g2 (fun j hj => by simp at hj; omega)
  replace haW := haW.kept2 g2 hne
  replace B := B.grown g2 B.size (fun j hj => by simp at hj; omega)
  clear g2 hC
  obtain ⟨av, cv, rfl⟩ := owns_slice o2
  have zR := XR.lt
  have zC2 := hC2.lt
  have bM := bel_alloc (Below.refl w2.heap.size w2) (.cells #[.int .i64 s, .slice av xs.length cv, .bool q] 50)
  have XM := Box.new w2 #[.int .i64 s, .slice av xs.length cv, .bool q] 50
  replace XR := XR.below bM
  replace o2 := owns_below (owns_base o2 (show w.heap.size ≤ _ by omega)) bM
  replace hC2 := hC2.below bM
  replace haW := haW.below bM
  replace B := bel_trans B bM
  obtain ⟨W3, hW3⟩ : ∃ W3, w2.alloc (.cells #[.int .i64 s, .slice av xs.length cv, .bool q] 50) = W3 := ⟨_, rfl⟩
  rw [hW3] at XM XR o2 hC2 haW B
  clear bM
  go_wp2_with fail
  clear hW3
  refine (l1Below_any r a ca bs 6 _ (by omega) (by omega) hC2 haW hne).mono ?_
  rintro e w4 ⟨y, rfl, hy, hC4, g4⟩
  replace XR := XR.kept g4 (fun j hj => by simp at hj; omega)
  replace XM := XM.kept g4 (fun j hj => by simp at hj; omega)
  replace o2 := owns_ne o2 g4 (fun j hj he => by simp at he; have := HLO.out j hj; omega)
  replace haW := haW.kept2 g4 hne
  replace B := B.grown g4 B.size (fun j hj => by simp at hj; omega)
  clear g4 hC2
  have zC4 := hC4.lt
  have zM4 := XM.lt
  have bx := bel_alloc (Below.refl w4.heap.size w4) (.cells #[.int .i64 0, .int .i64 9, .int .i64 65535, .int .i64 65536, .int .i64 (-1)] 3)
  have hrow := row_lit w4 [0, 9, 65535, 65536, -1] (by simp)
  have hCx := hC4.below bx
  have hax := haW.below bx
  have XRx := XR.below bx
  have ox := owns_below o2 bx
  have Bx := bel_trans B bx
  obtain ⟨x0, x1, x2, zx⟩ := (XM.below bx).at3
  obtain ⟨x0', x1', x2', zx'⟩ := XM.at3
  go_wp2_with fail
  go_region_held3 (fun w' => w'.cell? ⟨w2.heap.size, 0, none⟩ = some (.int .i64 s) ∧ w'.cell? ⟨w2.heap.size, 1, none⟩ = some (.slice av xs.length cv) ∧ w'.cell? ⟨w2.heap.size, 2, none⟩ = some (.bool q))
    (first | (with_reducible exact keep3g (gr_undrew g5) ⟨x0, x1, x2⟩ ⟨fun e => by simp at e; omega, fun e => by simp at e; omega, fun e => by simp at e; omega⟩) | ((with_reducible refine keep3n (keep3n (keep3n ‹_› ?_) ?_) ?_) <;> (simp; omega)) | go_keep)
    (first | (go_at_call 53; refine (l1Pick_any r a ca bs (some ⟨w4.heap.size, 0, none⟩) 5 [0, 9, 65535, 65536, -1] _ (by simp) (by simp) ?_ (fun x hx => by simp at hx; subst hx; simp; omega) ?_ ?_ hne).mono ?_; exact hrow; exact hCx; exact hax; rintro e w5 ⟨u, hu, rfl, hC5, g5⟩; have X5 := XRx.kept (gr_undrew g5) (fun j hj => by simp at hj; omega); obtain ⟨y0, y1, y2, yz⟩ := X5.at3; have f0 := X5.frozen 0; have f1 := X5.frozen 1; have f2 := X5.frozen 2))
  all_goals
    have o5 := owns_ne ox (gr_undrew g5) (fun j hj he => by simp at he; have := HLO.out j hj; omega)
    have B5 := Bx.grown (gr_undrew g5) Bx.size (fun j hj => by simp at hj; omega)
    have hlo := HLO.out
    go_wp2
    refine bodyPost_ret (v := .tuple #[.agg #[.int .i64 s, .slice av xs.length cv, .bool q], .int .i64 (y - 1), .int .i64 u]) (by simp [results, Try.results26, go_sem, y0, y1, y2]) rfl ⟨_, _, _, xs, _, _, rfl, hxl, ?_, ?_⟩
    · repeat refine owns_setCell ?_ ?_ _
      · exact o5
      all_goals (intro j h; have := HLO.out j h; simp; omega)
    · repeat refine bel_setCell ?_ _ _ ?_
      · exact B5
      all_goals (simp; try omega)

set_option maxRecDepth 100000 in
set_option maxHeartbeats 2000000 in
theorem drawFHear_any (a : Option Addr) (ca : Nat) (bs : List Int) (w : World) (ha : Row .u8 w a bs) :
    Calls Try.prog 34 #[.slice a bs.length ca] w fun e w' => ∃ (s : Int) (q : Bool) (v : Value) (xs : List Int) (k p : Int) (o : Bool) (v2 : Value) (ys : List Int), e = .returned (.tuple #[.agg #[.int .i64 s, v, .bool q], .agg #[.int .i64 k, .int .i64 p, .bool o, v2]]) ∧ xs.length ≤ 5 ∧ ys.length ≤ 5 ∧ w'.ownsRow w.heap.size 3 1 v xs.length (xs.map (Value.int .i64)) ∧ w'.ownsRow w.heap.size 3 1 v2 ys.length (ys.map (Value.int .i64)) ∧ Below w.heap.size w w' := by
  have hlt := ha.far
  have bR := bel_alloc (bel_alloc (Below.refl w.heap.size w) (.cells #[.int .i64 0, .slice none 0 0, .bool false] 50)) (.cells #[.int .i64 0, .int .i64 0, .bool false, .slice none 0 0] 26)
  obtain ⟨XR, XT⟩ := Box.two w #[.int .i64 0, .slice none 0 0, .bool false] #[.int .i64 0, .int .i64 0, .bool false, .slice none 0 0] 50 26
  obtain ⟨W, hW⟩ : ∃ W, (w.alloc (.cells #[.int .i64 0, .slice none 0 0, .bool false] 50)).alloc (.cells #[.int .i64 0, .int .i64 0, .bool false, .slice none 0 0] 26) = W := ⟨_, rfl⟩
  have hWs : W.heap.size = w.heap.size + 2 := by rw [← hW]; simp
  rw [hW] at bR XR XT
  have HWs : Hid (W.heap.size = w.heap.size + 2) := hWs
  clear hWs
  have haW := ha.below bR
  go_enter Try.func34, Try.ntmps34
  go_wp2_with fail
  clear hW
  refine (l1New_any a ca bs _ haW).mono ?_
  rintro e w1 ⟨rfl, hC, b1⟩
  obtain ⟨r, hr⟩ : ∃ r, W.heap.size = r := ⟨_, rfl⟩
  have hr1 : w.heap.size + 2 ≤ r := by rw [← hr]; exact Nat.le_of_eq HWs.out.symm
  rw [hr] at hC ⊢
  replace XR := XR.below b1
  replace XT := XT.below b1
  replace haW := haW.below b1
  have B := bel_trans bR b1
  clear b1 bR HWs hr
  have hne : 0 < bs.length → ∀ x, a = some x → x.block ≠ r := fun h0 x hx => by have := hlt h0 x hx; omega
  clear hlt ha
  go_wp2_with fail
  refine (drawF_any r a ca bs _ hC haW hne).mono ?_
  rintro e w2 ⟨s, q, v, xs, rfl, hxl, o2, hC2, g2⟩
  have zC1 := hC.lt
  have HLO : Hid (∀ j, v.ownBlock = some j → r < j ∧ j < w2.heap.size) := fun j hj => by have h := o2.lt j hj; omega
  replace XR := XR.kept g2 (fun j hj => by simp at hj; omega)
  replace XT := XT.kept g2 (fun j hj => by simp at hj; omega)
  replace haW := haW.kept2 g2 hne
  replace B := B.grown g2 B.size (fun j hj => by simp at hj; omega)
  clear g2 hC
  obtain ⟨av, cv, rfl⟩ := owns_slice o2
  have zR := XR.lt
  have zC2 := hC2.lt
  have bM := bel_alloc (Below.refl w2.heap.size w2) (.cells #[.int .i64 s, .slice av xs.length cv, .bool q] 50)
  have XM := Box.new w2 #[.int .i64 s, .slice av xs.length cv, .bool q] 50
  replace XR := XR.below bM
  replace XT := XT.below bM
  replace o2 := owns_below (owns_base o2 (show w.heap.size ≤ _ by omega)) bM
  replace hC2 := hC2.below bM
  replace haW := haW.below bM
  replace B := bel_trans B bM
  obtain ⟨W3, hW3⟩ : ∃ W3, w2.alloc (.cells #[.int .i64 s, .slice av xs.length cv, .bool q] 50) = W3 := ⟨_, rfl⟩
  rw [hW3] at XM XR o2 hC2 haW B XT
  clear bM
  obtain ⟨x0, x1, x2, zx⟩ := XM.at3
  have zM3 := XM.lt
  have zT3 := XT.lt
  go_wp2_with fail
  clear hW3
  go_region_held3 (fun w' => w'.cell? ⟨w2.heap.size, 0, none⟩ = some (.int .i64 s) ∧ w'.cell? ⟨w2.heap.size, 1, none⟩ = some (.slice av xs.length cv) ∧ w'.cell? ⟨w2.heap.size, 2, none⟩ = some (.bool q))
    (first | (with_reducible exact keep3g (gr_undrew g5) ⟨x0, x1, x2⟩ ⟨fun e => by simp at e; omega, fun e => by simp at e; omega, fun e => by simp at e; omega⟩) | ((with_reducible refine keep3n (keep3n (keep3n ‹_› ?_) ?_) ?_) <;> (simp; omega)) | ((with_reducible refine keep3n (keep3n (keep3n (keep3n ‹_› ?_) ?_) ?_) ?_) <;> (simp; omega)) | go_keep)
    (first | (go_at_call 40; refine (draw_any r a ca bs _ ?_ ?_ hne).mono ?_; exact hC2; exact haW; rintro e w5 ⟨k, p, o, v5, ys, rfl, hyl, om, hC5, g5⟩; obtain ⟨am, cm, rfl⟩ := owns_slice om; have X5 := XR.kept (gr_undrew g5) (fun j hj => by simp at hj; omega); obtain ⟨y0, y1, y2, yz⟩ := X5.at3; have f0 := X5.frozen 0; have f1 := X5.frozen 1; have f2 := X5.frozen 2; have T5 := XT.kept (gr_undrew g5) (fun j hj => by simp at hj; omega); obtain ⟨z0, z1, z2, z3, zz⟩ := T5.at4; have t0 := T5.frozen 0; have t1 := T5.frozen 1; have t2 := T5.frozen 2; have t3 := T5.frozen 3))
  all_goals
    have o5 := owns_ne o2 (gr_undrew g5) (fun j hj he => by simp at he; have := HLO.out j hj; omega)
    have B5 := B.grown (gr_undrew g5) B.size (fun j hj => by simp at hj; omega)
    have hzm : W3.drew.heap.size = W3.heap.size := rfl
    have HLM : Hid (∀ j, (Value.slice am ys.length cm).ownBlock = some j → w2.heap.size < j) := fun j hj => by have h := (om.lt j hj).1; rw [hzm] at h; omega
    have o6 := owns_base om (show w.heap.size ≤ _ by rw [hzm]; omega)
    go_wp2
    refine bodyPost_ret (v := .tuple #[.agg #[.int .i64 s, .slice av xs.length cv, .bool q], .agg #[.int .i64 k, .int .i64 p, .bool o, .slice am ys.length cm]]) (by simp [results, Try.results34, go_sem, y0, y1, y2, z0, z1, z2, z3]) rfl ⟨_, _, _, xs, _, _, _, _, ys, rfl, hxl, hyl, ?_, ?_, ?_⟩
    · repeat refine owns_setCell ?_ ?_ _
      · exact o5
      all_goals (intro j h; have := HLO.out j h; simp; omega)
    · repeat refine owns_setCell ?_ ?_ _
      · exact o6
      all_goals (intro j h; have := HLM.out j h; simp; omega)
    · repeat refine bel_setCell ?_ _ _ ?_
      · exact B5
      all_goals (simp; try omega)

end Go.Proofs.Ytdopcdpapbfdlaa
