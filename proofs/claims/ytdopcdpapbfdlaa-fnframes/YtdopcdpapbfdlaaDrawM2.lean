/- What l1Draw gives. -/
import Derived.Test.YtdopcdpapbfdlaaDrawM
import Derived.Deep.AppendLies
import Derived.Deep.RegionLaw
import Derived.Deep.RegionWith
import Derived.BigRegion
namespace Go.Proofs.Ytdopcdpapbfdlaa
open Go.RowKit
set_option linter.unusedVariables false

theorem gr_undrew {a b : World} {row : Option Nat} (h : a.drew.grownBy b row) : a.grownBy b row := ⟨h.os, h.tape, h.output, h.size, h.block⟩

set_option maxRecDepth 100000 in
set_option maxHeartbeats 2000000 in
theorem draw_any (r : Nat) (a : Option Addr) (ca : Nat) (bs : List Int) (w : World) (hC : Cur w r a bs.length ca) (ha : Row .u8 w a bs) (hne : 0 < bs.length → ∀ x, a = some x → x.block ≠ r) :
    Calls Try.prog 40 #[.pointer (some ⟨r, 0, none⟩)] w fun e w' => MsgP 5 r a bs.length ca w e w' := by
  have zC := hC.lt
  have XR := Box.new w #[.int .i64 0, .int .i64 0, .bool false, .slice none 0 0] 26
  have bR := bel_alloc (Below.refl w.heap.size w) (.cells #[.int .i64 0, .int .i64 0, .bool false, .slice none 0 0] 26)
  have gR := World.grownBy_alloc w (.cells #[.int .i64 0, .int .i64 0, .bool false, .slice none 0 0] 26) (some r)
  have hC0 := hC.below bR
  have ha0 := ha.below bR
  clear bR
  go_enter Try.func40, Try.ntmps40
  go_wp2_with fail
  refine (drawRight_any r a ca bs _ hC0 ha0 hne).mono ?_
  rintro e w1 ⟨k, p, o, v, xs, rfl, hxl, o1, hC1, g1⟩
  have XR1 := XR.kept g1 (fun j hj => by simp at hj; omega)
  have g01 := grownBy_trans gR g1
  have hlo : ∀ j, v.ownBlock = some j → w.heap.size < j ∧ j < w1.heap.size := fun j hj => by have h := o1.lt j hj; simp at h; omega
  obtain ⟨av, cv, rfl⟩ := owns_slice o1
  have z1 := XR1.lt
  have zC1 := hC1.lt
  have bM := bel_alloc (Below.refl w1.heap.size w1) (.cells #[.int .i64 k, .int .i64 p, .bool o, .slice av xs.length cv] 26)
  have XM := Box.new w1 #[.int .i64 k, .int .i64 p, .bool o, .slice av xs.length cv] 26
  have XR2 := XR1.below bM
  have hC2 := hC1.below bM
  have o2 := owns_below o1 bM
  have g02 := gr_alloc g01 (.cells #[.int .i64 k, .int .i64 p, .bool o, .slice av xs.length cv] 26)
  clear bM hC0 ha0 gR XR g1 g01 XR1 hC1 o1 hC
  go_wp2_with fail
  refine (l1Below_any r a ca bs 12 _ (by omega) (by omega) hC2 (ha.kept2 g02 hne) hne).mono ?_
  rintro e w3 ⟨q, rfl, hq, hC3, g3⟩
  have XM3 := XM.kept g3 (fun j hj => by simp at hj; omega)
  have XR3 := XR2.kept g3 (fun j hj => by simp at hj; omega)
  have o3 := owns_ne o2 g3 (fun j hj he => by simp at he; have := hlo j hj; omega)
  have g03 := grownBy_trans g02 g3
  clear XM XR2 hC2 o2 g02 g3
  have zR := XR3.lt
  have zM := XM3.lt
  obtain ⟨n0, n1, n2, n3, nz⟩ := XM3.at4
  by_cases hq0 : q = 0
  · subst hq0
    go_wp2_with fail
    refine (l1Below_any r a ca bs 9 _ (by omega) (by omega) hC3 (ha.kept2 g03 hne) hne).mono ?_
    rintro e w4 ⟨y, rfl, hy, hC4, g4⟩
    have t_XM := XM3.kept g4 (fun j hj => by simp at hj; omega)
    have t_XR := XR3.kept g4 (fun j hj => by simp at hj; omega)
    have t_o := owns_ne o3 g4 (fun j hj he => by simp at he; have := hlo j hj; omega)
    have t_g := grownBy_trans g03 g4
    have t_hC := hC4
    have e0 := t_XM.frozen 0
    obtain ⟨m0, m1, m2, m3, mz⟩ := t_XM.at4
    have XM6 : Box (w4.setCell ⟨w1.heap.size, 0, none⟩ (.int .i64 y)) w1.heap.size #[.int .i64 y, .int .i64 p, .bool o, .slice av xs.length cv] 26 := heap_setCell_same _ _ 0 _ _ _ t_XM
    have XR6 := t_XR.far ⟨w1.heap.size, 0, none⟩ (.int .i64 y) (by simp; omega)
    have hC6 := t_hC.off ⟨w1.heap.size, 0, none⟩ (.int .i64 y) (by simp; omega)
    have g06 := gr_off t_g ⟨w1.heap.size, 0, none⟩ (.int .i64 y) (by simp; omega)
    have o6 := owns_setCell t_o (a := ⟨w1.heap.size, 0, none⟩) (fun j hj => by have := hlo j hj; simp; omega) (.int .i64 y)
    obtain ⟨W6, hW6⟩ : ∃ W6, w4.setCell ⟨w1.heap.size, 0, none⟩ (.int .i64 y) = W6 := ⟨_, rfl⟩
    rw [hW6] at XM6 XR6 hC6 g06 o6
    clear XM3 XR3 hC3 g03 o3 t_XM t_XR t_hC t_g t_o g4 hC4
    obtain ⟨x0, x1, x2, x3, zx⟩ := XR6.at4
    obtain ⟨y0, y1, y2, y3, zy⟩ := XM6.at4
    have f0 := XR6.frozen 0
    have f1 := XR6.frozen 1
    have f2 := XR6.frozen 2
    have f3 := XR6.frozen 3
    go_wp2
    refine bodyPost_ret (v := .agg #[.int .i64 y, .int .i64 p, .bool o, .slice av xs.length cv]) (by simp [results, Try.results40, go_sem, x0, x1, x2, x3]) rfl ⟨_, _, _, _, xs, rfl, by omega, ?_, ?_, ?_⟩
    · repeat refine owns_setCell ?_ ?_ _
      · exact owns_base o6 (by simp; try omega)
      all_goals (intro j h; have := hlo j h; simp; omega)
    · repeat refine Cur.off ?_ _ _ ?_
      · exact hC6
      all_goals (simp; try omega)
    · repeat refine gr_off ?_ _ _ ?_
      · exact g06
      all_goals (simp; try omega)
  by_cases hq1 : q = 1
  · subst hq1
    go_wp2_with fail
    have bx := bel_alloc (Below.refl w3.heap.size w3) (.cells #[.int .i64 (-1), .int .i64 6] 3)
    have hrow := row_lit w3 [-1, 6] (by simp)
    have zw3 := hC3.lt
    refine (l1Pick_any r a ca bs (some ⟨w3.heap.size, 0, none⟩) 2 [-1, 6] _ (by simp) (by simp) hrow (fun x hx => by simp at hx; subst hx; simp; omega) (hC3.below bx) ((ha.kept2 g03 hne).below bx) hne).mono ?_
    rintro e w4 ⟨y, _, rfl, hC4, g4⟩
    have t_XM := (XM3.below bx).kept g4 (fun j hj => by simp at hj; omega)
    have t_XR := (XR3.below bx).kept g4 (fun j hj => by simp at hj; omega)
    have t_o := owns_ne (owns_below o3 bx) g4 (fun j hj he => by simp at he; have := hlo j hj; omega)
    have t_g := grownBy_trans (gr_alloc g03 (.cells #[.int .i64 (-1), .int .i64 6] 3)) g4
    have t_hC := hC4
    clear bx hrow
    have e1 := t_XM.frozen 1
    obtain ⟨m0, m1, m2, m3, mz⟩ := t_XM.at4
    have XM6 : Box (w4.setCell ⟨w1.heap.size, 1, none⟩ (.int .i64 y)) w1.heap.size #[.int .i64 k, .int .i64 y, .bool o, .slice av xs.length cv] 26 := heap_setCell_same _ _ 1 _ _ _ t_XM
    have XR6 := t_XR.far ⟨w1.heap.size, 1, none⟩ (.int .i64 y) (by simp; omega)
    have hC6 := t_hC.off ⟨w1.heap.size, 1, none⟩ (.int .i64 y) (by simp; omega)
    have g06 := gr_off t_g ⟨w1.heap.size, 1, none⟩ (.int .i64 y) (by simp; omega)
    have o6 := owns_setCell t_o (a := ⟨w1.heap.size, 1, none⟩) (fun j hj => by have := hlo j hj; simp; omega) (.int .i64 y)
    obtain ⟨W6, hW6⟩ : ∃ W6, w4.setCell ⟨w1.heap.size, 1, none⟩ (.int .i64 y) = W6 := ⟨_, rfl⟩
    rw [hW6] at XM6 XR6 hC6 g06 o6
    clear XM3 XR3 hC3 g03 o3 t_XM t_XR t_hC t_g t_o g4 hC4
    obtain ⟨x0, x1, x2, x3, zx⟩ := XR6.at4
    obtain ⟨y0, y1, y2, y3, zy⟩ := XM6.at4
    have f0 := XR6.frozen 0
    have f1 := XR6.frozen 1
    have f2 := XR6.frozen 2
    have f3 := XR6.frozen 3
    go_wp2
    refine bodyPost_ret (v := .agg #[.int .i64 k, .int .i64 y, .bool o, .slice av xs.length cv]) (by simp [results, Try.results40, go_sem, x0, x1, x2, x3]) rfl ⟨_, _, _, _, xs, rfl, by omega, ?_, ?_, ?_⟩
    · repeat refine owns_setCell ?_ ?_ _
      · exact owns_base o6 (by simp; try omega)
      all_goals (intro j h; have := hlo j h; simp; omega)
    · repeat refine Cur.off ?_ _ _ ?_
      · exact hC6
      all_goals (simp; try omega)
    · repeat refine gr_off ?_ _ _ ?_
      · exact g06
      all_goals (simp; try omega)
  by_cases hq2 : q = 2
  · subst hq2
    have t_XM := XM3
    have t_XR := XR3
    have t_o := o3
    have t_g := g03
    have t_hC := hC3
    have e2 := t_XM.frozen 2
    obtain ⟨m0, m1, m2, m3, mz⟩ := t_XM.at4
    have XM6 : Box (w3.setCell ⟨w1.heap.size, 2, none⟩ (.bool (!o))) w1.heap.size #[.int .i64 k, .int .i64 p, .bool (!o), .slice av xs.length cv] 26 := heap_setCell_same _ _ 2 _ _ _ t_XM
    have XR6 := t_XR.far ⟨w1.heap.size, 2, none⟩ (.bool (!o)) (by simp; omega)
    have hC6 := t_hC.off ⟨w1.heap.size, 2, none⟩ (.bool (!o)) (by simp; omega)
    have g06 := gr_off t_g ⟨w1.heap.size, 2, none⟩ (.bool (!o)) (by simp; omega)
    have o6 := owns_setCell t_o (a := ⟨w1.heap.size, 2, none⟩) (fun j hj => by have := hlo j hj; simp; omega) (.bool (!o))
    obtain ⟨W6, hW6⟩ : ∃ W6, w3.setCell ⟨w1.heap.size, 2, none⟩ (.bool (!o)) = W6 := ⟨_, rfl⟩
    rw [hW6] at XM6 XR6 hC6 g06 o6
    clear XM3 XR3 hC3 g03 o3 t_XM t_XR t_hC t_g t_o
    obtain ⟨x0, x1, x2, x3, zx⟩ := XR6.at4
    obtain ⟨y0, y1, y2, y3, zy⟩ := XM6.at4
    have f0 := XR6.frozen 0
    have f1 := XR6.frozen 1
    have f2 := XR6.frozen 2
    have f3 := XR6.frozen 3
    go_wp2
    refine bodyPost_ret (v := .agg #[.int .i64 k, .int .i64 p, .bool (!o), .slice av xs.length cv]) (by simp [results, Try.results40, go_sem, x0, x1, x2, x3]) rfl ⟨_, _, _, _, xs, rfl, by omega, ?_, ?_, ?_⟩
    · repeat refine owns_setCell ?_ ?_ _
      · exact owns_base o6 (by simp; try omega)
      all_goals (intro j h; have := hlo j h; simp; omega)
    · repeat refine Cur.off ?_ _ _ ?_
      · exact hC6
      all_goals (simp; try omega)
    · repeat refine gr_off ?_ _ _ ?_
      · exact g06
      all_goals (simp; try omega)
  by_cases hq3 : q = 3
  · subst hq3
    obtain ⟨i0, hi, hz0, hz1, hz2⟩ := info_parts info_i64
    have bx := bel_alloc (Below.refl w3.heap.size w3) (.cells #[.int .i64 (-1), .int .i64 3, .int .i64 65536] 3)
    have hrow := row_lit w3 [-1, 3, 65536] (by simp)
    have hCx := hC3.below bx
    have hax := (ha.kept2 g03 hne).below bx
    have zw3 := hC3.lt
    have XMx := XM3.below bx
    have XRx := XR3.below bx
    have ox := owns_base (owns_below o3 bx) (show w.heap.size + 1 ≤ _ by simp)
    have gx := gr_alloc g03 (.cells #[.int .i64 (-1), .int .i64 3, .int .i64 65536] 3)
    have hlo' : Hid (∀ j, (Value.slice av xs.length cv).ownBlock = some j → w.heap.size < j ∧ j < w1.heap.size) := hlo
    have hx4 : xs.length ≤ 4 := hxl
    clear XM3 XR3 hC3 o3 bx hlo
    go_wp2_with fail
    go_region_law (first | (refine step_append_lies _ (by rfl) _ _ _ (by rfl) (w.heap.size + 1) 3 i0 (.int .i64 0) 1 8 Try.underlying24 hi hz0 hz1 hz2 rfl (by omega) (.slice av xs.length cv) xs.length (xs.map (Value.int .i64)) (by rfl) (t_o.alloc _) ⟨w4.heap.size, 0, none⟩ 1 1 [.int .i64 y] (by rfl) (by rfl) (new_i64 _ _) ?_ (by omega) (by unfold maxLen; omega) (by omega) hbs.out _ rfl ?_; (intro u hu; simp at hu; subst hu; rfl); intro g5 cap5 w5 o5 hgrow hat hlt5; obtain ⟨q0, q1, q2, q3, qz⟩ := ((t_XM.below b4x).kept hgrow (fun j hj => by have := hlo'.out j hj; omega)).at4; have qf := ((t_XM.below b4x).kept hgrow (fun j hj => by have := hlo'.out j hj; omega)).frozen 3) | (go_simp; go_at_call 53; refine (l1Pick_any r a ca bs (some ⟨w3.heap.size, 0, none⟩) 3 [-1, 3, 65536] _ (by simp) (by simp) ?_ (fun x hx => by simp at hx; subst hx; simp; omega) ?_ ?_ hne).mono ?_; exact hrow; exact hCx; exact hax; rintro e w4 ⟨y, _, rfl, hC4, g4⟩; have g4 := gr_undrew g4; have t_XM := XMx.kept g4 (fun j hj => by simp at hj; omega); have t_XR := XRx.kept g4 (fun j hj => by simp at hj; omega); have t_o := owns_ne ox g4 (fun j hj he => by simp at he; have := hlo'.out j hj; omega); have t_g := grownBy_trans gx g4; have b4x := bel_alloc (Below.refl w4.heap.size w4) (.cells #[.int .i64 y] 3); obtain ⟨s0, s1, s2, s3, sz⟩ := t_XM.at4; have hbs : Hid (w.heap.size + 1 ≤ (w4.alloc (.cells #[.int .i64 y] 3)).heap.size) := (show _ ≤ _ from (by have h1 := t_XM.lt; simp; omega))))
    all_goals
      have hg5 : w1.heap.size ≠ g5 := by
        rcases hat with h | h
        · have := hlo'.out _ h; omega
        · have h1 := t_XM.lt; simp at h; omega
      have hgl : Hid (w.heap.size < g5) := (o5.lt g5 rfl).1
      have XM6 : Box (w5.setCell ⟨w1.heap.size, 3, none⟩ (.slice (some ⟨g5, 0, none⟩) (xs.length + 1) cap5)) w1.heap.size #[.int .i64 k, .int .i64 p, .bool o, .slice (some ⟨g5, 0, none⟩) (xs.length + 1) cap5] 26 := heap_setCell_same _ _ 3 _ _ _ ((t_XM.below b4x).kept hgrow (fun j hj => by have := hlo'.out j hj; omega))
      have XR6 := ((t_XR.below b4x).kept hgrow (fun j hj => by have := hlo'.out j hj; omega)).far ⟨w1.heap.size, 3, none⟩ (.slice (some ⟨g5, 0, none⟩) (xs.length + 1) cap5) (by simp; omega)
      have hC6 := ((hC4.below b4x).kept hgrow (fun j hj => by have := hlo'.out j hj; omega)).off ⟨w1.heap.size, 3, none⟩ (.slice (some ⟨g5, 0, none⟩) (xs.length + 1) cap5) (by simp; omega)
      have g06 := gr_off (old_grown (gr_alloc t_g (.cells #[.int .i64 y] 3)) hgrow (fun j hj => by have := hlo'.out j hj; omega)) ⟨w1.heap.size, 3, none⟩ (.slice (some ⟨g5, 0, none⟩) (xs.length + 1) cap5) (by simp; omega)
      have o6 : (w5.setCell ⟨w1.heap.size, 3, none⟩ (.slice (some ⟨g5, 0, none⟩) (xs.length + 1) cap5)).ownsRow w.heap.size 3 1 (.slice (some ⟨g5, 0, none⟩) (xs.length + 1) cap5) (xs ++ [y]).length ((xs ++ [y]).map (Value.int .i64)) := by
        have h := owns_setCell (owns_base o5 (show w.heap.size ≤ w.heap.size + 1 by omega)) (a := ⟨w1.heap.size, 3, none⟩) (fun j hj => by simp [Value.ownBlock] at hj; subst hj; simpa using hg5) (.slice (some ⟨g5, 0, none⟩) (xs.length + 1) cap5)
        simpa using h
      have hlo6 : Hid (∀ j, (Value.slice (some ⟨g5, 0, none⟩) (xs.length + 1) cap5).ownBlock = some j → w.heap.size < j ∧ w1.heap.size ≠ j) := fun j hj => by simp [Value.ownBlock] at hj; subst hj; exact ⟨hgl.out, hg5⟩
      obtain ⟨W6, hW6⟩ : ∃ W6, w5.setCell ⟨w1.heap.size, 3, none⟩ (.slice (some ⟨g5, 0, none⟩) (xs.length + 1) cap5) = W6 := ⟨_, rfl⟩
      rw [hW6] at XM6 XR6 hC6 g06 o6
      clear t_XM t_XR t_o t_g hC4 g4 b4x hgrow o5 hat hlt5 q0 q1 q2 q3 qz qf s0 s1 s2 s3 sz hbs hrow hCx hax XMx XRx ox gx g03
      obtain ⟨x0, x1, x2, x3, zx⟩ := XR6.at4
      obtain ⟨y0, y1, y2, y3, zy⟩ := XM6.at4
      have f0 := XR6.frozen 0
      have f1 := XR6.frozen 1
      have f2 := XR6.frozen 2
      have f3 := XR6.frozen 3
      clear XR6 XM6
      go_wp2
      refine bodyPost_ret (v := .agg #[.int .i64 k, .int .i64 p, .bool o, .slice (some ⟨g5, 0, none⟩) (xs.length + 1) cap5]) (by simp [results, Try.results40, go_sem, x0, x1, x2, x3]) rfl ⟨k, p, o, .slice (some ⟨g5, 0, none⟩) (xs.length + 1) cap5, xs ++ [y], rfl, by simp; omega, ?_, ?_, ?_⟩
      · repeat refine owns_setCell ?_ ?_ _
        · exact o6
        all_goals (intro j h; have := hlo6.out j h; simp; omega)
      · repeat refine Cur.off ?_ _ _ ?_
        · exact hC6
        all_goals (simp; try omega)
      · repeat refine gr_off ?_ _ _ ?_
        · exact g06
        all_goals (simp; try omega)
  have h4 : 4 ≤ q := by omega
  · have hW6 := rfl (a := w3)
    have e0 : ((q : Int) == 0) = false := by simp; omega
    have e1 : ((q : Int) == 1) = false := by simp; omega
    have e2 : ((q : Int) == 2) = false := by simp; omega
    have e3 : ((q : Int) == 3) = false := by simp; omega
    clear hW6
    obtain ⟨x0, x1, x2, x3, zx⟩ := XR3.at4
    obtain ⟨y0, y1, y2, y3, zy⟩ := XM3.at4
    have f0 := XR3.frozen 0
    have f1 := XR3.frozen 1
    have f2 := XR3.frozen 2
    have f3 := XR3.frozen 3
    go_wp2
    refine bodyPost_ret (v := .agg #[.int .i64 k, .int .i64 p, .bool o, .slice av xs.length cv]) (by simp [results, Try.results40, go_sem, x0, x1, x2, x3]) rfl ⟨_, _, _, _, xs, rfl, by omega, ?_, ?_, ?_⟩
    · repeat refine owns_setCell ?_ ?_ _
      · exact owns_base o3 (by simp; try omega)
      all_goals (intro j h; have := hlo j h; simp; omega)
    · repeat refine Cur.off ?_ _ _ ?_
      · exact hC3
      all_goals (simp; try omega)
    · repeat refine gr_off ?_ _ _ ?_
      · exact g03
      all_goals (simp; try omega)
end Go.Proofs.Ytdopcdpapbfdlaa
