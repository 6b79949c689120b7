/- What the drawing functions for frames give; sameInts. -/
import Derived.Test.YtdopcdpapbfdlaaDrawM2
import Derived.Test.YtdopcdpapbfdlaaFrm
namespace Go.Proofs.Ytdopcdpapbfdlaa
open Go.RowKit
set_option linter.unusedVariables false

set_option maxHeartbeats 400000 in
theorem sameInts_any (a b : Option Addr) (ca cb : Nat) (xs : List Int) (w : World) (ha : Row .i64 w a xs) (hb : Row .i64 w b xs) :
    Calls Try.prog 15 #[.slice a xs.length ca, .slice b xs.length cb] w fun e w' => e = .returned (.bool true) ∧ ∃ n, w' = w.drewN n := by
  obtain ⟨hl, ha⟩ := ha
  obtain ⟨_, hb⟩ := hb
  go_enter Try.func15, Try.ntmps15
  go_wp2
  go_loopw [5] (fun i wr => ∃ k n : Nat, k ≤ xs.length ∧ i = .int .i64 k ∧ wr = w.drewN n) (fun i _ => xs.length - (intOf i).toNat)
  case atStart => exact ⟨0, 0, Nat.zero_le _, rfl, rfl⟩
  case round =>
    obtain ⟨k, n, hk, rfl, rfl⟩ := hrel
    by_cases hlt : k < xs.length
    · obtain ⟨ba, oa, rfl, hca⟩ := ha k hlt
      obtain ⟨bb, ob, rfl, hcb⟩ := hb k hlt
      have hi : (k : Int) < (xs.length : Int) := by omega
      go_wp2
      go_quiet (fail)
      go_wp2
      go_roundw
      case rel => exact ⟨k + 1, n + nq, by omega, by go_num, rfl⟩
      case measure => simp [intOf]; omega
    · go_wp2
      go_ret
      exact ⟨rfl, n, rfl⟩

/-- A drawn frame: its words are its own, at most so many. -/
def FrmP (L : Nat) (r : Nat) (a : Option Addr) (n ca : Nat) (w : World) (e : Ending) (w' : World) : Prop :=
  ∃ (s : Int) (q : Bool) (v : Value) (xs : List Int), e = .returned (.agg #[.int .i64 s, v, .bool q]) ∧ xs.length ≤ L ∧ w'.ownsRow w.heap.size 3 1 v xs.length (xs.map (Value.int .i64)) ∧ Cur w' r a n ca ∧ w.grownBy w' (some r)

set_option maxRecDepth 100000 in
set_option maxHeartbeats 2000000 in
theorem drawFR_any (r : Nat) (a : Option Addr) (ca : Nat) (bs : List Int) (w : World) (hC : Cur w r a bs.length ca) (ha : Row .u8 w a bs) (hne : 0 < bs.length → ∀ x, a = some x → x.block ≠ r) :
    Calls Try.prog 87 #[.pointer (some ⟨r, 0, none⟩)] w fun e w' => FrmP 4 r a bs.length ca w e w' := by
  have zC := hC.lt
  have XR := Box.new w #[.int .i64 0, .slice none 0 0, .bool false] 50
  have bR := bel_alloc (Below.refl w.heap.size w) (.cells #[.int .i64 0, .slice none 0 0, .bool false] 50)
  have gR := World.grownBy_alloc w (.cells #[.int .i64 0, .slice none 0 0, .bool false] 50) (some r)
  have hC0 := hC.below bR
  have ha0 := ha.below bR
  clear bR
  go_enter Try.func87, Try.ntmps87
  go_wp2_with fail
  refine (l1Below_any r a ca bs 3 _ (by omega) (by omega) hC0 ha0 hne).mono ?_
  rintro e w1 ⟨x, rfl, hx, hC1, g1⟩
  have XR1 := XR.kept g1 (fun j hj => by simp at hj; omega)
  have g01 := grownBy_trans gR g1
  clear hC0 ha0 g1 gR XR
  go_wp2_with fail
  refine (l1Once_any r a ca bs 3 _ (by omega) (by omega) hC1 (ha.kept2 g01 hne) hne).mono ?_
  rintro e w2 ⟨y, rfl, hC2, g2⟩
  obtain ⟨q, hq⟩ : ∃ q, ((y : Int) == 0) = q := ⟨_, rfl⟩
  rw [hq]
  clear hq
  have XR2 := XR1.kept g2 (fun j hj => by simp at hj; omega)
  have g02 := grownBy_trans g01 g2
  have z2 := XR2.lt
  have zC2 := hC2.lt
  have bM := bel_alloc (Below.refl w2.heap.size w2) (.cells #[.int .i64 x, .slice none 0 0, .bool q] 50)
  have XM := Box.new w2 #[.int .i64 x, .slice none 0 0, .bool q] 50
  have XR3 := XR2.below bM
  have hC3 := hC2.below bM
  have g03 := gr_alloc g02 (.cells #[.int .i64 x, .slice none 0 0, .bool q] 50)
  clear bM hC1 g2 g01 XR1 XR2 hC2 g02 hC
  by_cases hk : x = 0
  · subst hk
    obtain ⟨W3, hW3⟩ : ∃ W3, w2.alloc (.cells #[.int .i64 (0 : Nat), .slice none 0 0, .bool q] 50) = W3 := ⟨_, rfl⟩
    rw [hW3] at XM XR3 hC3 g03
    obtain ⟨x0, x1, x2, zx⟩ := XR3.at3
    obtain ⟨y0, y1, y2, zy⟩ := XM.at3
    have f0 := XR3.frozen 0
    have f1 := XR3.frozen 1
    have f2 := XR3.frozen 2
    have hW3' : w2.alloc (.cells #[.int .i64 0, .slice none 0 0, .bool q] 50) = W3 := hW3
    have y0' : W3.cell? ⟨w2.heap.size, 0, none⟩ = some (.int .i64 0) := y0
    clear hW3 y0
    go_wp2
    refine bodyPost_ret (v := .agg #[.int .i64 0, .slice none 0 0, .bool q]) (by simp [results, Try.results87, go_sem, x0, x1, x2]) rfl ⟨_, _, _, [], rfl, by simp, World.ownsRow_nil _ _ _ _, ?_, ?_⟩
    · repeat refine Cur.off ?_ _ _ ?_
      · exact hC3
      all_goals (simp; try omega)
    · repeat refine gr_off ?_ _ _ ?_
      · exact g03
      all_goals (simp; try omega)
  · have hxn : ((x : Int) != 0) = true := by simp; omega
    have har := ha.kept2 g03 hne
    go_wp2_with fail
    refine (drawList_any r a ca bs _ hC3 har hne).mono ?_
    rintro e w5 ⟨v5, xs, rfl, hxl, o5, hC5, g5⟩
    have XM5 := XM.kept g5 (fun j hj => by simp at hj; omega)
    have XR5 := XR3.kept g5 (fun j hj => by simp at hj; omega)
    have g05 := grownBy_trans g03 g5
    have hl5 : ∀ j, v5.ownBlock = some j → w2.heap.size < j := fun j hj => by have h1 := (o5.lt j hj).1; have h2 := XM.lt; omega
    have HL5 : Hid (∀ j, v5.ownBlock = some j → w2.heap.size < j) := hl5
    have HXL : Hid (xs.length = 4) := hxl
    obtain ⟨a5, c5, rfl⟩ := owns_slice o5
    obtain ⟨y0, y1, y2, zy⟩ := XM5.at3
    obtain ⟨x0, x1, x2, zx⟩ := XR5.at3
    have e1 := XM5.frozen 1
    have f0 := XR5.frozen 0
    have f1 := XR5.frozen 1
    have f2 := XR5.frozen 2
    clear XM5 XR5 hl5 hxl g5 har
    go_wp2
    refine bodyPost_ret (v := .agg #[.int .i64 x, .slice a5 xs.length c5, .bool q]) (by simp [results, Try.results87, go_sem, x0, x1, x2]) rfl ⟨_, _, _, xs, rfl, by have := HXL.out; omega, ?_, ?_, ?_⟩
    · repeat refine owns_setCell ?_ ?_ _
      · exact owns_base o5 (by have := g03.size; omega)
      all_goals (intro j h; have := HL5.out j h; simp; omega)
    · repeat refine Cur.off ?_ _ _ ?_
      · exact hC5
      all_goals (simp; try omega)
    · repeat refine gr_off ?_ _ _ ?_
      · exact g05
      all_goals (simp; try omega)

set_option maxRecDepth 100000 in
set_option maxHeartbeats 2000000 in
theorem drawF_any (r : Nat) (a : Option Addr) (ca : Nat) (bs : List Int) (w : World) (hC : Cur w r a bs.length ca) (ha : Row .u8 w a bs) (hne : 0 < bs.length → ∀ x, a = some x → x.block ≠ r) :
    Calls Try.prog 64 #[.pointer (some ⟨r, 0, none⟩)] w fun e w' => FrmP 5 r a bs.length ca w e w' := by
  have zC := hC.lt
  have XR := Box.new w #[.int .i64 0, .slice none 0 0, .bool false] 50
  have bR := bel_alloc (Below.refl w.heap.size w) (.cells #[.int .i64 0, .slice none 0 0, .bool false] 50)
  have gR := World.grownBy_alloc w (.cells #[.int .i64 0, .slice none 0 0, .bool false] 50) (some r)
  have hC0 := hC.below bR
  have ha0 := ha.below bR
  clear bR
  go_enter Try.func64, Try.ntmps64
  go_wp2_with fail
  refine (drawFR_any r a ca bs _ hC0 ha0 hne).mono ?_
  rintro e w1 ⟨s, q, v, xs, rfl, hxl, o1, hC1, g1⟩
  have XR1 := XR.kept g1 (fun j hj => by simp at hj; omega)
  have g01 := grownBy_trans gR g1
  have hlo : ∀ j, v.ownBlock = some j → w.heap.size < j ∧ j < w1.heap.size := fun j hj => by have h := o1.lt j hj; simp at h; omega
  have HLO : Hid (∀ j, v.ownBlock = some j → w.heap.size < j ∧ j < w1.heap.size) := hlo
  replace o1 := owns_base o1 (show w.heap.size + 1 ≤ _ by simp)
  obtain ⟨av, cv, rfl⟩ := owns_slice o1
  have z1 := XR1.lt
  have zC1 := hC1.lt
  have bM := bel_alloc (Below.refl w1.heap.size w1) (.cells #[.int .i64 s, .slice av xs.length cv, .bool q] 50)
  have XM := Box.new w1 #[.int .i64 s, .slice av xs.length cv, .bool q] 50
  have XR2 := XR1.below bM
  have hC2 := hC1.below bM
  have o2 := owns_below o1 bM
  have g02 := gr_alloc g01 (.cells #[.int .i64 s, .slice av xs.length cv, .bool q] 50)
  clear bM hC0 ha0 gR XR g1 g01 XR1 hC1 o1 hC hlo
  go_wp2_with fail
  refine (l1Below_any r a ca bs 12 _ (by omega) (by omega) hC2 (ha.kept2 g02 hne) hne).mono ?_
  rintro e w3 ⟨x, rfl, hx, hC3, g3⟩
  have XM3 := XM.kept g3 (fun j hj => by simp at hj; omega)
  have XR3 := XR2.kept g3 (fun j hj => by simp at hj; omega)
  have o3 := owns_ne o2 g3 (fun j hj he => by simp at he; have := HLO.out j hj; omega)
  have g03 := grownBy_trans g02 g3
  clear XM XR2 hC2 o2 g02 g3
  have zR := XR3.lt
  have zM := XM3.lt
  have zC3 := hC3.lt
  by_cases hq0 : x = 0
  · subst hq0
    go_wp2_with fail
    refine (l1Below_any r a ca bs 5 _ (by omega) (by omega) hC3 (ha.kept2 g03 hne) hne).mono ?_
    rintro e w4 ⟨y, rfl, hy, hC4, g4⟩
    replace XM3 := XM3.kept g4 (fun j hj => by simp at hj; omega)
    replace XR3 := XR3.kept g4 (fun j hj => by simp at hj; omega)
    replace o3 := owns_ne o3 g4 (fun j hj he => by simp at he; have := HLO.out j hj; omega)
    replace g03 := grownBy_trans g03 g4
    have e0 := XM3.frozen 0
    obtain ⟨m0, m1, m2, mz⟩ := XM3.at3
    have XM6 : Box (w4.setCell ⟨w1.heap.size, 0, none⟩ (.int .i64 (y - 1))) w1.heap.size #[.int .i64 (y - 1), .slice av xs.length cv, .bool q] 50 := heap_setCell_same _ _ 0 _ _ _ XM3
    have XR6 := XR3.far ⟨w1.heap.size, 0, none⟩ (.int .i64 (y - 1)) (by simp; omega)
    have hC6 := hC4.off ⟨w1.heap.size, 0, none⟩ (.int .i64 (y - 1)) (by simp; omega)
    have g06 := gr_off g03 ⟨w1.heap.size, 0, none⟩ (.int .i64 (y - 1)) (by simp; omega)
    have o6 := owns_setCell o3 (a := ⟨w1.heap.size, 0, none⟩) (fun j hj => by have := HLO.out j hj; simp; omega) (.int .i64 (y - 1))
    obtain ⟨W6, hW6⟩ : ∃ W6, w4.setCell ⟨w1.heap.size, 0, none⟩ (.int .i64 (y - 1)) = W6 := ⟨_, rfl⟩
    rw [hW6] at XM6 XR6 hC6 g06 o6
    clear XM3 XR3 hC3 g03 o3 g4 hC4
    obtain ⟨x0, x1, x2, zx⟩ := XR6.at3
    obtain ⟨y0, y1, y2, zy⟩ := XM6.at3
    have f0 := XR6.frozen 0
    have f1 := XR6.frozen 1
    have f2 := XR6.frozen 2
    go_wp2
    refine bodyPost_ret (v := .agg #[.int .i64 (y - 1), .slice av xs.length cv, .bool q]) (by simp [results, Try.results64, go_sem, x0, x1, x2]) rfl ⟨_, _, _, xs, rfl, by omega, ?_, ?_, ?_⟩
    · repeat refine owns_setCell ?_ ?_ _
      · exact owns_base o6 (by omega)
      all_goals (intro j h; have := HLO.out j h; simp; omega)
    · repeat refine Cur.off ?_ _ _ ?_
      · exact hC6
      all_goals (simp; try omega)
    · repeat refine gr_off ?_ _ _ ?_
      · exact g06
      all_goals (simp; try omega)
  by_cases hq1 : x = 1
  · subst hq1
    obtain ⟨i0, hi, hz0, hz1, hz2⟩ := info_parts info_i64
    have bx := bel_alloc (Below.refl w3.heap.size w3) (.cells #[.int .i64 3] 3)
    replace XM3 := XM3.below bx
    replace XR3 := XR3.below bx
    replace o3 := owns_below o3 bx
    replace hC3 := hC3.below bx
    have gx := gr_alloc g03 (.cells #[.int .i64 3] 3)
    obtain ⟨m0, m1, m2, mz⟩ := XM3.at3
    have hnew := new_i64 w3 3
    have hx4 : xs.length ≤ 4 := hxl
    obtain ⟨W4, hW4⟩ : ∃ W4, w3.alloc (.cells #[.int .i64 3] 3) = W4 := ⟨_, rfl⟩
    have hz4 : W4.heap.size = w3.heap.size + 1 := by rw [← hW4]; simp
    rw [hW4] at XM3 XR3 o3 hC3 gx m0 m1 m2 mz hnew
    have HZ4 : Hid (W4.heap.size = w3.heap.size + 1) := hz4
    have m1' : w3.cell? ⟨w1.heap.size, 1, none⟩ = some (.slice av xs.length cv) := by
      rw [← hW4] at m1
      rw [← m1]
      exact ((bx.cell (p := ⟨w1.heap.size, 1, none⟩) zM).symm)
    clear bx hz4
    go_wp2_with (at_builtin; refine wpList_append_lies _ rfl (.tmp 17) (.tmp 18) 24 rfl (w.heap.size + 1) 3 i0 (.int .i64 0) 1 8 Try.underlying24 hi hz0 hz1 hz2 rfl (by decide) (.slice av xs.length cv) xs.length (xs.map (Value.int .i64)) rfl o3 ⟨w3.heap.size, 0, none⟩ 1 1 [.int .i64 3] rfl rfl hnew ?c2 (by omega) ?c3 ?c4 ?c5 _ rfl ?_)
    case c2 => intro u hu; simp at hu; subst hu; rfl
    case c3 => unfold maxLen; omega
    case c4 => omega
    case c5 => have := HZ4.out; omega
    intro g5 cap5 w5 o5 hgrow hat hlt5
    have hg5 : w1.heap.size ≠ g5 ∧ w.heap.size < g5 := by
      refine ⟨?_, (o5.lt g5 rfl).1⟩
      rcases hat with h | h
      · have := HLO.out _ h; omega
      · have := HZ4.out; omega
    obtain ⟨hg5, hg6⟩ := hg5
    replace XM3 := XM3.kept hgrow (fun j hj => by have := HLO.out j hj; omega)
    replace XR3 := XR3.kept hgrow (fun j hj => by have := HLO.out j hj; omega)
    replace hC3 := hC3.kept hgrow (fun j hj => by have := HLO.out j hj; omega)
    have g05 := old_grown gx hgrow (fun j hj => by have := HLO.out j hj; omega)
    have o5' : w5.ownsRow (w.heap.size + 1) 3 1 (.slice (some ⟨g5, 0, none⟩) (xs.length + 1) cap5) (xs ++ [3]).length ((xs ++ [3]).map (Value.int .i64)) := by simpa using o5
    have e1 := XM3.frozen 1
    obtain ⟨n0, n1, n2, nz⟩ := XM3.at3
    have XM6 : Box (w5.setCell ⟨w1.heap.size, 1, none⟩ (.slice (some ⟨g5, 0, none⟩) (xs.length + 1) cap5)) w1.heap.size #[.int .i64 s, .slice (some ⟨g5, 0, none⟩) (xs.length + 1) cap5, .bool q] 50 := heap_setCell_same _ _ 1 _ _ _ XM3
    have XR6 := XR3.far ⟨w1.heap.size, 1, none⟩ (.slice (some ⟨g5, 0, none⟩) (xs.length + 1) cap5) (by simp; omega)
    have hC6 := hC3.off ⟨w1.heap.size, 1, none⟩ (.slice (some ⟨g5, 0, none⟩) (xs.length + 1) cap5) (by simp; omega)
    have g06 := gr_off g05 ⟨w1.heap.size, 1, none⟩ (.slice (some ⟨g5, 0, none⟩) (xs.length + 1) cap5) (by simp; omega)
    have o6 := owns_setCell o5' (a := ⟨w1.heap.size, 1, none⟩) (fun j hj => by simp [Value.ownBlock] at hj; subst hj; simpa using hg5) (.slice (some ⟨g5, 0, none⟩) (xs.length + 1) cap5)
    obtain ⟨W6, hW6⟩ : ∃ W6, w5.setCell ⟨w1.heap.size, 1, none⟩ (.slice (some ⟨g5, 0, none⟩) (xs.length + 1) cap5) = W6 := ⟨_, rfl⟩
    rw [hW6] at XM6 XR6 hC6 g06 o6
    have hlo6 : Hid (∀ j, (Value.slice (some ⟨g5, 0, none⟩) (xs.length + 1) cap5).ownBlock = some j → w.heap.size < j) := fun j hj => by simp [Value.ownBlock] at hj; omega
    clear XM3 XR3 hC3 g03 o3 o5 o5' gx hgrow hat hlt5 g05 hnew hW4 m0 m1 m2 mz m1'
    obtain ⟨x0, x1, x2, zx⟩ := XR6.at3
    obtain ⟨y0, y1, y2, zy⟩ := XM6.at3
    have f0 := XR6.frozen 0
    have f1 := XR6.frozen 1
    have f2 := XR6.frozen 2
    go_wp2
    refine bodyPost_ret (v := .agg #[.int .i64 s, .slice (some ⟨g5, 0, none⟩) (xs.length + 1) cap5, .bool q]) (by simp [results, Try.results64, go_sem, x0, x1, x2]) rfl ⟨_, _, _, xs ++ [3], rfl, by simp; omega, ?_, ?_, ?_⟩
    · repeat refine owns_setCell ?_ ?_ _
      · exact owns_base o6 (by omega)
      all_goals (intro j h; have := hlo6.out j h; simp; omega)
    · repeat refine Cur.off ?_ _ _ ?_
      · exact hC6
      all_goals (simp; try omega)
    · repeat refine gr_off ?_ _ _ ?_
      · exact g06
      all_goals (simp; try omega)
  by_cases hq2 : x = 2
  · subst hq2
    have e1 := XM3.frozen 1
    obtain ⟨m0, m1, m2, mz⟩ := XM3.at3
    have XM6 : Box (w3.setCell ⟨w1.heap.size, 1, none⟩ (.slice none 0 0)) w1.heap.size #[.int .i64 s, .slice none 0 0, .bool q] 50 := heap_setCell_same _ _ 1 _ _ _ XM3
    have XR6 := XR3.far ⟨w1.heap.size, 1, none⟩ (.slice none 0 0) (by simp; omega)
    have hC6 := hC3.off ⟨w1.heap.size, 1, none⟩ (.slice none 0 0) (by simp; omega)
    have g06 := gr_off g03 ⟨w1.heap.size, 1, none⟩ (.slice none 0 0) (by simp; omega)
    obtain ⟨W6, hW6⟩ : ∃ W6, w3.setCell ⟨w1.heap.size, 1, none⟩ (.slice none 0 0) = W6 := ⟨_, rfl⟩
    rw [hW6] at XM6 XR6 hC6 g06
    clear XM3 XR3 hC3 g03 o3
    obtain ⟨x0, x1, x2, zx⟩ := XR6.at3
    obtain ⟨y0, y1, y2, zy⟩ := XM6.at3
    have f0 := XR6.frozen 0
    have f1 := XR6.frozen 1
    have f2 := XR6.frozen 2
    go_wp2
    refine bodyPost_ret (v := .agg #[.int .i64 s, .slice none 0 0, .bool q]) (by simp [results, Try.results64, go_sem, x0, x1, x2]) rfl ⟨_, _, _, [], rfl, by simp, World.ownsRow_nil _ _ _ _, ?_, ?_⟩
    · repeat refine Cur.off ?_ _ _ ?_
      · exact hC6
      all_goals (simp; try omega)
    · repeat refine gr_off ?_ _ _ ?_
      · exact g06
      all_goals (simp; try omega)
  have e0 : ((x : Int) == 0) = false := by simp; omega
  have e1 : ((x : Int) == 1) = false := by simp; omega
  have e2 : ((x : Int) == 2) = false := by simp; omega
  obtain ⟨x0, x1, x2, zx⟩ := XR3.at3
  obtain ⟨y0, y1, y2, zy⟩ := XM3.at3
  have f0 := XR3.frozen 0
  have f1 := XR3.frozen 1
  have f2 := XR3.frozen 2
  go_wp2
  refine bodyPost_ret (v := .agg #[.int .i64 s, .slice av xs.length cv, .bool q]) (by simp [results, Try.results64, go_sem, x0, x1, x2]) rfl ⟨_, _, _, xs, rfl, by omega, ?_, ?_, ?_⟩
  · repeat refine owns_setCell ?_ ?_ _
    · exact owns_base o3 (by omega)
    all_goals (intro j h; have := HLO.out j h; simp; omega)
  · repeat refine Cur.off ?_ _ _ ?_
    · exact hC3
    all_goals (simp; try omega)
  · repeat refine gr_off ?_ _ _ ?_
    · exact g03
    all_goals (simp; try omega)
end Go.Proofs.Ytdopcdpapbfdlaa
