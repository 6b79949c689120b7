/- What the specification's DrawCode, DrawInsOk, DrawEnds, DrawDecode hand over: some place; some word. -/
import Derived.Test.YtnigpgemdlcehaaDrawI
namespace Go.Proofs.Ytnigpgemdlcehaa
open Go.RowKit
set_option linter.unusedVariables false

set_option maxRecDepth 100000 in
set_option maxHeartbeats 4000000 in
theorem l8DrawOne_any (a : Option Addr) (ca : Nat) (bs : List Int) (w : World) (ha : Row .u8 w a bs) :
    Calls Try.prog 23 #[.slice a bs.length ca] w fun e w' => ∃ op r' a' b' n', e = .returned (.agg (icells op r' a' b' n')) ∧ Below w.heap.size w w' := by
  have hlt := ha.far
  have b0 := bel_alloc (Below.refl w.heap.size w) (.cells (icells 0 0 0 0 0) 25)
  have Z := Box.new w (icells 0 0 0 0 0) 25
  go_enter Try.func23, Try.ntmps23
  go_wp2_with fail
  refine (l1New_any a ca bs _ (ha.below b0)).mono ?_
  simp only [World.size_alloc]
  rintro e w1 ⟨rfl, c1, b1⟩
  have b1 : Below (w.alloc (.cells (icells 0 0 0 0 0) 25)).heap.size (w.alloc (.cells (icells 0 0 0 0 0) 25)) w1 := by simpa using b1
  replace Z := Z.below b1
  have B1 := bel_trans b0 b1
  have z1 := c1.lt
  have HNE : Hid (0 < bs.length → ∀ x, a = some x → x.block ≠ w.heap.size + 1) := fun h0 x hx => by have := hlt h0 x hx; omega
  have HA : Hid (Row .u8 w1 a bs) := ha.below B1
  clear b1 b0 ha hlt
  go_wp2_with fail
  refine (l8DrawIns_any (w.heap.size + 1) a ca bs _ c1 HA.out HNE.out).mono ?_
  rintro e w2 ⟨op, r, ia, ib, n, rfl, c2, g2⟩
  have hz2 := g2.size
  replace Z := Z.kept g2 (fun j hj e => by simp at hj; omega)
  have B2 : Below w.heap.size w w2 := B1.grown g2 B1.size (fun j hj => by simp at hj; omega)
  have bx := bel_alloc (Below.refl w2.heap.size w2) (.cells (icells op r ia ib n) 25)
  have X := Box.new w2 (icells op r ia ib n) 25
  replace Z := Z.below bx
  have HA2 : Hid (Row .u8 (w2.alloc (.cells (icells op r ia ib n) 25)) a bs) := (row_g HA.out g2 HNE.out).below bx
  have c3 := c2.below bx
  have B3 := bel_trans B2 bx
  clear g2 c2 B2 B1 bx c1 HA
  go_wp2_with fail
  refine (l1Below_any (w.heap.size + 1) a ca bs 8 _ (by decide) (by decide) c3 HA2.out HNE.out).mono ?_
  rintro e w3 ⟨d, rfl, _, c4, g3⟩
  have hz3 := g3.size
  simp only [World.size_alloc] at hz3
  replace Z := Z.kept g3 (fun j hj e => by simp at hj; omega)
  replace X := X.kept g3 (fun j hj e => by simp at hj; omega)
  have B4 : Below w.heap.size w w3 := B3.grown g3 B3.size (fun j hj => by simp at hj; omega)
  have HA3 : Hid (Row .u8 w3 a bs) := row_g HA2.out g3 HNE.out
  clear c3 g3 HA2 B3
  obtain ⟨x0, x1, x2, x3, x4, xz⟩ := X.at5i
  obtain ⟨y0, y1, y2, y3, y4, yz⟩ := Z.at5i
  have fy0 := Z.frozen 0
  have fy1 := Z.frozen 1
  have fy2 := Z.frozen 2
  have fy3 := Z.frozen 3
  have fy4 := Z.frozen 4
  by_cases h0 : d = 0
  · subst h0
    go_wp2_with fail
    refine (l1Below_any (w.heap.size + 1) a ca bs 13 _ (by decide) (by decide) c4 HA3.out HNE.out).mono ?_
    rintro e w5 ⟨v, rfl, hv13, c5, g5⟩
    have B5 : Below w.heap.size w w5 := B4.grown g5 B4.size (fun j hj => by simp at hj; omega)
    replace X := X.kept g5 (fun j hj e => by simp at hj; omega)
    replace Z := Z.kept g5 (fun j hj e => by simp at hj; omega)
    clear x0 x1 x2 x3 x4 xz y0 y1 y2 y3 y4 yz fy0 fy1 fy2 fy3 fy4 c5 g5 c4
    obtain ⟨x0, x1, x2, x3, x4, xz⟩ := X.at5i
    obtain ⟨y0, y1, y2, y3, y4, yz⟩ := Z.at5i
    have fy0 := Z.frozen 0
    have fy1 := Z.frozen 1
    have fy2 := Z.frozen 2
    have fy3 := Z.frozen 3
    have fy4 := Z.frozen 4
    have fx := X.frozen 0
    clear X Z
    go_wp2
    refine bodyPost_ret (v := .agg (icells ((v : Int) - 1) r ia ib n)) (by simp [results, Try.results23, go_sem, y0, y1, y2, y3, y4]) rfl ⟨_, _, _, _, _, rfl, ?_⟩
    repeat refine bel_setCell ?_ _ _ ?_
    · exact B5
    all_goals (simp; try omega)
  · by_cases h1 : d = 1
    · subst h1
      go_wp2_with fail
      have bl := bel_alloc (Below.refl w3.heap.size w3) (.cells #[.int .i64 (-1), .int .i64 3, .int .i64 4] 3)
      have hrow := row_lit w3 [-1, 3, 4] (by simp)
      refine (l1Pick_any (w.heap.size + 1) a ca bs (some ⟨w3.heap.size, 0, none⟩) 3 [-1, 3, 4] _ (by simp) (by simp) hrow (fun x hx => by simp at hx; subst hx; simp; omega) (c4.below bl) (HA3.out.below bl) HNE.out).mono ?_
      rintro e w5 ⟨v, _, rfl, c5, g5⟩
      have B5 : Below w.heap.size w w5 := (bel_trans B4 bl).grown g5 (bel_trans B4 bl).size (fun j hj => by simp at hj; omega)
      replace X := (X.below bl).kept g5 (fun j hj e => by simp at hj; omega)
      replace Z := (Z.below bl).kept g5 (fun j hj e => by simp at hj; omega)
      clear bl hrow
      clear x0 x1 x2 x3 x4 xz y0 y1 y2 y3 y4 yz fy0 fy1 fy2 fy3 fy4 c5 g5 c4
      obtain ⟨x0, x1, x2, x3, x4, xz⟩ := X.at5i
      obtain ⟨y0, y1, y2, y3, y4, yz⟩ := Z.at5i
      have fy0 := Z.frozen 0
      have fy1 := Z.frozen 1
      have fy2 := Z.frozen 2
      have fy3 := Z.frozen 3
      have fy4 := Z.frozen 4
      have fx := X.frozen 1
      clear X Z
      go_wp2
      refine bodyPost_ret (v := .agg (icells op v ia ib n)) (by simp [results, Try.results23, go_sem, y0, y1, y2, y3, y4]) rfl ⟨_, _, _, _, _, rfl, ?_⟩
      repeat refine bel_setCell ?_ _ _ ?_
      · exact B5
      all_goals (simp; try omega)
    · by_cases h2 : d = 2
      · subst h2
        go_wp2_with fail
        have bl := bel_alloc (Below.refl w3.heap.size w3) (.cells #[.int .i64 (-1), .int .i64 63, .int .i64 64] 3)
        have hrow := row_lit w3 [-1, 63, 64] (by simp)
        refine (l1Pick_any (w.heap.size + 1) a ca bs (some ⟨w3.heap.size, 0, none⟩) 3 [-1, 63, 64] _ (by simp) (by simp) hrow (fun x hx => by simp at hx; subst hx; simp; omega) (c4.below bl) (HA3.out.below bl) HNE.out).mono ?_
        rintro e w5 ⟨v, _, rfl, c5, g5⟩
        have B5 : Below w.heap.size w w5 := (bel_trans B4 bl).grown g5 (bel_trans B4 bl).size (fun j hj => by simp at hj; omega)
        replace X := (X.below bl).kept g5 (fun j hj e => by simp at hj; omega)
        replace Z := (Z.below bl).kept g5 (fun j hj e => by simp at hj; omega)
        clear bl hrow
        clear x0 x1 x2 x3 x4 xz y0 y1 y2 y3 y4 yz fy0 fy1 fy2 fy3 fy4 c5 g5 c4
        obtain ⟨x0, x1, x2, x3, x4, xz⟩ := X.at5i
        obtain ⟨y0, y1, y2, y3, y4, yz⟩ := Z.at5i
        have fy0 := Z.frozen 0
        have fy1 := Z.frozen 1
        have fy2 := Z.frozen 2
        have fy3 := Z.frozen 3
        have fy4 := Z.frozen 4
        have fx := X.frozen 4
        clear X Z
        go_wp2
        refine bodyPost_ret (v := .agg (icells op r ia ib v)) (by simp [results, Try.results23, go_sem, y0, y1, y2, y3, y4]) rfl ⟨_, _, _, _, _, rfl, ?_⟩
        repeat refine bel_setCell ?_ _ _ ?_
        · exact B5
        all_goals (simp; try omega)
      · have e0 : ((d : Int) == 0) = false := by simp; omega
        have e1 : ((d : Int) == 1) = false := by simp; omega
        have e2 : ((d : Int) == 2) = false := by simp; omega
        clear X Z c4
        go_wp2
        refine bodyPost_ret (v := .agg (icells op r ia ib n)) (by simp [results, Try.results23, go_sem, y0, y1, y2, y3, y4]) rfl ⟨_, _, _, _, _, rfl, ?_⟩
        repeat refine bel_setCell ?_ _ _ ?_
        · exact B4
        all_goals (simp; try omega)

set_option maxHeartbeats 1000000 in
theorem dDrawCode_any (a : Option Addr) (ca : Nat) (bs : List Int) (w : World) (ha : Row .u8 w a bs) :
    Calls Try.prog 9 #[.slice a bs.length ca] w fun e w' => ∃ op r' a' b' n', e = .returned (.agg (icells op r' a' b' n')) ∧ Below w.heap.size w w' := by
  have b0 := bel_alloc (Below.refl w.heap.size w) (.cells (icells 0 0 0 0 0) 25)
  have Z := Box.new w (icells 0 0 0 0 0) 25
  go_enter Try.func9, Try.ntmps9
  go_wp2_with fail
  refine (l8DrawOne_any a ca bs _ (ha.below b0)).mono ?_
  rintro e w1 ⟨op, r, ia, ib, n, rfl, b1⟩
  replace Z := Z.below b1
  have B1 := bel_trans b0 b1
  obtain ⟨y0, y1, y2, y3, y4, yz⟩ := Z.at5i
  have fy0 := Z.frozen 0
  have fy1 := Z.frozen 1
  have fy2 := Z.frozen 2
  have fy3 := Z.frozen 3
  have fy4 := Z.frozen 4
  clear Z b0 b1 ha
  go_wp2
  refine bodyPost_ret (v := .agg (icells op r ia ib n)) (by simp [results, Try.results9, go_sem, y0, y1, y2, y3, y4]) rfl ⟨_, _, _, _, _, rfl, ?_⟩
  repeat refine bel_setCell ?_ _ _ ?_
  · exact B1
  all_goals (simp; try omega)

set_option maxHeartbeats 1000000 in
theorem dDrawInsOk_any (a : Option Addr) (ca : Nat) (bs : List Int) (w : World) (ha : Row .u8 w a bs) :
    Calls Try.prog 16 #[.slice a bs.length ca] w fun e w' => ∃ op r' a' b' n', e = .returned (.agg (icells op r' a' b' n')) ∧ Below w.heap.size w w' := by
  have b0 := bel_alloc (Below.refl w.heap.size w) (.cells (icells 0 0 0 0 0) 25)
  have Z := Box.new w (icells 0 0 0 0 0) 25
  go_enter Try.func16, Try.ntmps16
  go_wp2_with fail
  refine (l8DrawOne_any a ca bs _ (ha.below b0)).mono ?_
  rintro e w1 ⟨op, r, ia, ib, n, rfl, b1⟩
  replace Z := Z.below b1
  have B1 := bel_trans b0 b1
  obtain ⟨y0, y1, y2, y3, y4, yz⟩ := Z.at5i
  have fy0 := Z.frozen 0
  have fy1 := Z.frozen 1
  have fy2 := Z.frozen 2
  have fy3 := Z.frozen 3
  have fy4 := Z.frozen 4
  clear Z b0 b1 ha
  go_wp2
  refine bodyPost_ret (v := .agg (icells op r ia ib n)) (by simp [results, Try.results16, go_sem, y0, y1, y2, y3, y4]) rfl ⟨_, _, _, _, _, rfl, ?_⟩
  repeat refine bel_setCell ?_ _ _ ?_
  · exact B1
  all_goals (simp; try omega)

set_option maxHeartbeats 1000000 in
theorem dDrawEnds_any (a : Option Addr) (ca : Nat) (bs : List Int) (w : World) (ha : Row .u8 w a bs) :
    Calls Try.prog 17 #[.slice a bs.length ca] w fun e w' => ∃ op r' a' b' n', e = .returned (.agg (icells op r' a' b' n')) ∧ Below w.heap.size w w' := by
  have b0 := bel_alloc (Below.refl w.heap.size w) (.cells (icells 0 0 0 0 0) 25)
  have Z := Box.new w (icells 0 0 0 0 0) 25
  go_enter Try.func17, Try.ntmps17
  go_wp2_with fail
  refine (l8DrawOne_any a ca bs _ (ha.below b0)).mono ?_
  rintro e w1 ⟨op, r, ia, ib, n, rfl, b1⟩
  replace Z := Z.below b1
  have B1 := bel_trans b0 b1
  obtain ⟨y0, y1, y2, y3, y4, yz⟩ := Z.at5i
  have fy0 := Z.frozen 0
  have fy1 := Z.frozen 1
  have fy2 := Z.frozen 2
  have fy3 := Z.frozen 3
  have fy4 := Z.frozen 4
  clear Z b0 b1 ha
  go_wp2
  refine bodyPost_ret (v := .agg (icells op r ia ib n)) (by simp [results, Try.results17, go_sem, y0, y1, y2, y3, y4]) rfl ⟨_, _, _, _, _, rfl, ?_⟩
  repeat refine bel_setCell ?_ _ _ ?_
  · exact B1
  all_goals (simp; try omega)

set_option maxRecDepth 100000 in
set_option maxHeartbeats 4000000 in
theorem dDrawDecode_any (a : Option Addr) (ca : Nat) (bs : List Int) (w : World) (ha : Row .u8 w a bs) :
    Calls Try.prog 14 #[.slice a bs.length ca] w fun e w' => ∃ x : Int, e = .returned (.int .i64 x) ∧ Below w.heap.size w w' := by
  have hlt := ha.far
  go_enter Try.func14, Try.ntmps14
  go_wp2_with fail
  refine (l1New_any a ca bs _ ha).mono ?_
  rintro e w1 ⟨rfl, c1, b1⟩
  have z1 := c1.lt
  have HNE : Hid (0 < bs.length → ∀ x, a = some x → x.block ≠ w.heap.size) := fun h0 x hx => by have := hlt h0 x hx; omega
  have HA : Hid (Row .u8 w1 a bs) := ha.below b1
  clear ha hlt
  go_wp2_with fail
  refine (l8DrawIns_any w.heap.size a ca bs _ c1 HA.out HNE.out).mono ?_
  rintro e w2 ⟨op, r, ia, ib, n, rfl, c2, g2⟩
  have B2 : Below w.heap.size w w2 := b1.grown g2 b1.size (fun j hj => by simp at hj; omega)
  have HA2 : Hid (Row .u8 w2 a bs) := row_g HA.out g2 HNE.out
  clear c1 b1 HA g2
  go_wp2_with fail
  refine (specCode_any op r ia ib n _).mono ?_
  rintro e w3 ⟨rfl, b3⟩
  have c3 := c2.below b3
  have B3 := bel_trans B2 b3
  have HA3 : Hid (Row .u8 w3 a bs) := HA2.out.below b3
  clear c2 B2 HA2 b3
  obtain ⟨cv, hcv⟩ : ∃ cv, (if insB op r ia ib n then codeW op r ia ib n else 0) = cv := ⟨_, rfl⟩
  rw [hcv]
  clear hcv
  generalize insB op r ia ib n = okc
  go_wp2_with fail
  refine (l1Below_any w.heap.size a ca bs 6 _ (by decide) (by decide) c3 HA3.out HNE.out).mono ?_
  rintro e w4 ⟨d, rfl, _, c4, g4⟩
  have B4 : Below w.heap.size w w4 := B3.grown g4 B3.size (fun j hj => by simp at hj; omega)
  have HA4 : Hid (Row .u8 w4 a bs) := row_g HA3.out g4 HNE.out
  have z4 := c4.lt
  clear c3 B3 HA3 g4
  by_cases h0 : d = 0
  · subst h0
    go_wp2_with fail
    have bl := bel_alloc (Below.refl w4.heap.size w4) (.cells #[.int .i64 1, .int .i64 16, .int .i64 64, .int .i64 256, .int .i64 1024] 3)
    have hrow := row_lit w4 [1, 16, 64, 256, 1024] (by simp)
    refine (l1Pick_any w.heap.size a ca bs (some ⟨w4.heap.size, 0, none⟩) 5 [1, 16, 64, 256, 1024] _ (by simp) (by simp) hrow (fun x hx => by simp at hx; subst hx; simp; omega) (c4.below bl) (HA4.out.below bl) HNE.out).mono ?_
    rintro e w5 ⟨v, _, rfl, c5, g5⟩
    have B5 : Below w.heap.size w w5 := (bel_trans B4 bl).grown g5 (bel_trans B4 bl).size (fun j hj => by simp at hj; omega)
    clear bl hrow c4 c5 g5
    go_wp2
    go_ret
    exact ⟨_, rfl, B5⟩
  · by_cases h1 : d = 1
    · subst h1
      go_wp2_with fail
      have bl := bel_alloc (Below.refl w4.heap.size w4) (.cells #[.int .i64 (-1), .int .i64 0, .int .i64 65535, .int .i64 65536, .int .i64 15] 3)
      have hrow := row_lit w4 [-1, 0, 65535, 65536, 15] (by simp)
      refine (l1Pick_any w.heap.size a ca bs (some ⟨w4.heap.size, 0, none⟩) 5 [-1, 0, 65535, 65536, 15] _ (by simp) (by simp) hrow (fun x hx => by simp at hx; subst hx; simp; omega) (c4.below bl) (HA4.out.below bl) HNE.out).mono ?_
      rintro e w5 ⟨v, _, rfl, c5, g5⟩
      have B5 : Below w.heap.size w w5 := (bel_trans B4 bl).grown g5 (bel_trans B4 bl).size (fun j hj => by simp at hj; omega)
      clear bl hrow c4 c5 g5
      go_wp2
      go_ret
      exact ⟨_, rfl, B5⟩
    · have e0 : ((d : Int) == 0) = false := by simp; omega
      have e1 : ((d : Int) == 1) = false := by simp; omega
      clear c4
      go_wp2
      go_ret
      exact ⟨_, rfl, B4⟩
end Go.Proofs.Ytnigpgemdlcehaa
