/- What l10Draw draws: a block, its places owned. -/
import Derived.Test.YtfbdgcoingagcaaDrawK
import Derived.Test.YtfbdgcoingagcaaBk5
import Derived.BigRegion
import Derived.Deep.RegionHeld3
namespace Go.Proofs.Ytfbdgcoingagcaa
open Go.RowKit
set_option linter.unusedVariables false

theorem DK.part {w0 w : World} {r : Nat} {a : Option Addr} {n ca : Nat} {xs : List Int} {g c : Nat} (h : DK w0 w r a n ca xs g c) {k m : Nat} (hk : k + m ≤ 24) : Row .i64 w (some ⟨g, k, none⟩) ((xs.drop k).take m) := by
  have hr := owns_row' (k := .i64) (xs := xs) (n := 24) h.o (by have := h.l; omega)
  have hl := h.l
  refine ⟨by simp; omega, fun i hi => ⟨g, k, rfl, ?_⟩⟩
  rw [List.length_take, List.length_drop] at hi
  obtain ⟨b, off, e, hc⟩ := hr.2 (k + i) (by omega)
  simp at e
  obtain ⟨rfl, rfl⟩ := e
  rw [Nat.zero_add] at hc
  rw [hc]
  congr 2
  simp [List.getD_eq_getElem?_getD, List.getElem?_drop, show i < m by omega]
theorem DK.cap {w0 w : World} {r : Nat} {a : Option Addr} {n ca : Nat} {xs : List Int} {g c : Nat} (h : DK w0 w r a n ca xs g c) : 24 ≤ c := by
  obtain ⟨_, h1 | ⟨g', cap, cur, e, _, _, h2, _⟩⟩ := h.o
  · simp at h1
  · simp at e; omega
/-- A drawn block beside the cursor. -/
structure DB (w0 w : World) (r : Nat) (a : Option Addr) (n ca : Nat) (nb : Nat) (ab : Option Addr) (cb : Nat) (d : Nat → XD) : Prop where
  l : nb ≤ 5
  o : IOw w w0.heap.size ab cb nb d
  C : Cur w r a n ca
  gr : w0.grownBy w (some r)
def BlkD (r : Nat) (a : Option Addr) (n ca : Nat) (w : World) (e : Ending) (w' : World) : Prop :=
  ∃ (st : Int) (ab : Option Addr) (cb nb : Nat) (d : Nat → XD), e = .returned (.agg #[.int .i64 st, .slice ab nb cb]) ∧ DB w w' r a n ca nb ab cb d
/-- A block in a box at m, its places owned, beside the cursor; the answer's box is still zero. -/
structure QB (w0 w : World) (r : Nat) (a : Option Addr) (n ca : Nat) (st : Int) (nb : Nat) (ab : Option Addr) (cb : Nat) (d : Nat → XD) (m : Nat) : Prop where
  o : IOw w (w0.heap.size + 1) ab cb nb d
  C : Cur w r a n ca
  gr : w0.grownBy w (some r)
  XR : Box w w0.heap.size #[.int .i64 0, .slice none 0 0] 29
  XB : Box w m #[.int .i64 st, .slice ab nb cb] 29
  lt : w0.heap.size < m
  ne : ∀ j, (Value.slice ab nb cb).ownBlock = some j → j ≠ m
  r0 : r < w0.heap.size
section
variable {w0 w w' : World} {r : Nat} {a : Option Addr} {n ca : Nat} {st : Int} {nb : Nat} {ab : Option Addr} {cb : Nat} {d : Nat → XD} {m : Nat}
theorem QB.new (XR : Box w w0.heap.size #[.int .i64 0, .slice none 0 0] 29) (C : Cur w r a n ca) (gr : w0.grownBy w (some r)) (o : IOw w' w.heap.size ab cb nb d) (b : Below w.heap.size w w') (h0 : r < w0.heap.size) :
    QB w0 (w'.alloc (.cells #[.int .i64 st, .slice ab nb cb] 29)) r a n ca st nb ab cb d w'.heap.size := by
  have bx := bel_alloc (Below.refl w'.heap.size w') (.cells #[.int .i64 st, .slice ab nb cb] 29)
  have hz := XR.lt
  have hs := b.size
  exact ⟨(IOw.below (owns_base o (by omega)) bx), (C.below b).below bx, grownBy_trans gr (bel_grown (bel_trans b bx)), (XR.below b).below bx, Box.new _ _ _, by omega, fun j hj => by have := (World.ownsRow.lt o j hj).2; omega, h0⟩
theorem QB.below (h : QB w0 w r a n ca st nb ab cb d m) (b : Below w.heap.size w w') : QB w0 w' r a n ca st nb ab cb d m :=
  ⟨h.o.below b, h.C.below b, grownBy_trans h.gr (bel_grown b), h.XR.below b, h.XB.below b, h.lt, h.ne, h.r0⟩
theorem QB.grown (h : QB w0 w r a n ca st nb ab cb d m) (C : Cur w' r a n ca) (k : w.grownBy w' (some r)) : QB w0 w' r a n ca st nb ab cb d m := by
  have h0 := h.r0
  have hm := h.lt
  exact ⟨owns_ne h.o k (fun j hj he => by simp at he; have := (World.ownsRow.lt h.o j hj).1; omega), C, grownBy_trans h.gr k, h.XR.kept k (fun j hj => by simp at hj; omega), h.XB.kept k (fun j hj => by simp at hj; omega), h.lt, h.ne, h.r0⟩
theorem QB.start (h : QB w0 w r a n ca st nb ab cb d m) (x : Int) : QB w0 (w.setCell ⟨m, 0, none⟩ (.int .i64 x)) r a n ca x nb ab cb d m := by
  have h0 := h.r0
  have hm := h.lt
  exact ⟨owns_setCell h.o (fun j hj => (h.ne j hj).symm) _, h.C.off _ _ (by simp; omega), gr_off h.gr _ _ (by simp; omega), h.XR.far _ _ (by simp; omega), heap_setCell_same _ _ 0 _ _ _ h.XB, h.lt, h.ne, h.r0⟩
theorem QB.nul (h : QB w0 w r a n ca st nb ab cb d m) : QB w0 (w.setCell ⟨m, 1, none⟩ (.slice none 0 0)) r a n ca st 0 none 0 d m := by
  have h0 := h.r0
  have hm := h.lt
  exact ⟨World.ownsRow_nil _ _ _ _, h.C.off _ _ (by simp; omega), gr_off h.gr _ _ (by simp; omega), h.XR.far _ _ (by simp; omega), heap_setCell_same _ _ 1 _ _ _ h.XB, h.lt, fun j hj => by simp [Value.ownBlock] at hj, h.r0⟩
theorem QB.app {w5 : World} {g cap : Nat} {y : XD} (h : QB w0 w r a n ca st nb ab cb d m) (hs : m < w.heap.size)
    (o5 : w5.ownsRow (w0.heap.size + 1) 36 5 (.slice (some ⟨g, 0, none⟩) (nb + 1) cap) (nb + 1) (chunks nb (fun i => ic (d i)) ++ ic y)) (g5 : w.grownBy w5 (Value.slice ab nb cb).ownBlock) (hg : (Value.slice ab nb cb).ownBlock = some g ∨ g = w.heap.size) :
    QB w0 (w5.setCell ⟨m, 1, none⟩ (.slice (some ⟨g, 0, none⟩) (nb + 1) cap)) r a n ca st (nb + 1) (some ⟨g, 0, none⟩) cap (fun i => if i < nb then d i else y) m := by
  have h0 := h.r0
  have hm := h.lt
  have lo : ∀ x, (Value.slice ab nb cb).ownBlock = some x → w0.heap.size + 1 ≤ x := fun x hx => (World.ownsRow.lt h.o x hx).1
  have gm : g ≠ m := by
    rcases hg with e | e
    · exact h.ne g e
    · omega
  refine ⟨?_, (h.C.kept g5 (fun k hk => by have := lo k hk; omega)).off _ _ (by simp; omega), gr_off (old_grown h.gr g5 (fun k hk => by have := lo k hk; omega)) _ _ (by simp; omega), (h.XR.kept g5 (fun j hj => by have := lo j hj; omega)).far _ _ (by simp; omega), heap_setCell_same _ _ 1 _ _ _ (h.XB.kept g5 (fun j hj => h.ne j hj)), h.lt, fun j hj => by simp [Value.ownBlock] at hj; omega, h.r0⟩
  have e : chunks (nb + 1) (fun i => ic ((fun i => if i < nb then d i else y) i)) = chunks nb (fun i => ic (d i)) ++ ic y := by
    rw [chunks_succ]
    congr 1
    · exact chunks_congr (fun i hi => by simp [hi])
    · simp
  show World.ownsRow _ _ _ _ _ _ _
  rw [e]
  exact owns_setCell o5 (fun j hj => by simp [Value.ownBlock] at hj; simp; omega) _
theorem QB.op {g : Nat} (h : QB w0 w r a n ca st nb (some ⟨g, 0, none⟩) cb d m) (hn : 0 < nb) (x : Int) :
    QB w0 (w.setCell ⟨g, 0, none⟩ (.int .i64 x)) r a n ca st nb (some ⟨g, 0, none⟩) cb (fun i => if i = 0 then ⟨x, (d i).r, (d i).a, (d i).b, (d i).n⟩ else d i) m := by
  have h0 := h.r0
  have hg := (World.ownsRow.lt h.o g rfl).1
  have hne := h.ne g rfl
  refine ⟨?_, h.C.off _ _ (by simp; omega), gr_off h.gr _ _ (by simp; omega), h.XR.far _ _ (by simp; omega), h.XB.far _ _ (by simp; omega), h.lt, h.ne, h.r0⟩
  have := owns_stored (s := 5) h.o (fun i _ => rfl) (i := 0) (j := 0) hn (by decide) (.int .i64 x)
  refine owns_congr this (fun i hi => ?_)
  by_cases e : i = 0
  · subst e; simp [ic]
  · simp [e]
theorem QB.fin (h : QB w0 w r a n ca st nb ab cb d m) (hl : nb ≤ 5) : DB w0 ((w.setCell ⟨w0.heap.size, 0, none⟩ (.int .i64 st)).setCell ⟨w0.heap.size, 1, none⟩ (.slice ab nb cb)) r a n ca nb ab cb d := by
  have h0 := h.r0
  have lo := fun j hj => (World.ownsRow.lt h.o j hj).1
  refine ⟨hl, ?_, (h.C.off _ _ (by simp; omega)).off _ _ (by simp; omega), gr_off (gr_off h.gr _ _ (by simp)) _ _ (by simp)⟩
  exact owns_base (owns_setCell (owns_setCell h.o (fun j hj => by have := lo j hj; simp; omega) _) (fun j hj => by have := lo j hj; simp; omega) _) (by omega)
end

set_option maxRecDepth 100000 in
set_option maxHeartbeats 8000000 in
theorem l10Draw_any (r : Nat) (a : Option Addr) (ca : Nat) (bs : List Int) (w : World) (hC : Cur w r a bs.length ca) (ha : Row .u8 w a bs) (hne : 0 < bs.length → ∀ x, a = some x → x.block ≠ r) :
    Calls Try.prog 43 #[.pointer (some ⟨r, 0, none⟩)] w fun e w' => BlkD r a bs.length ca w e w' := by
  have zC := hC.lt
  have bA := bel_alloc (Below.refl w.heap.size w) (.cells #[.int .i64 0, .slice none 0 0] 29)
  have XR := Box.new w #[.int .i64 0, .slice none 0 0] 29
  go_enter Try.func43, Try.ntmps43
  go_wp2_with fail
  refine (l9DrawMem_any r a ca bs _ (hC.below bA) (ha.below bA) hne).mono ?_
  rintro e w1 ⟨g, c, xs, rfl, K1⟩
  have XR1 := XR.kept K1.gr (fun j hj => by simp at hj; omega)
  have HK1 : Hid _ := K1
  have HG1 : Hid (w.grownBy w1 (some r)) := grownBy_trans (bel_grown bA) K1.gr
  clear XR bA K1
  go_wp2_with fail
  refine (l1Below_any r a ca bs 24 _ (by omega) (by omega) HK1.out.C (ha.kept2 HG1.out hne) hne).mono ?_
  rintro e w2 ⟨s, rfl, hs, hC2, g2⟩
  have XR2 := XR1.kept g2 (fun j hj => by simp at hj; omega)
  have HK2 : Hid _ := HK1.out.grown hC2 g2
  have HG2 : Hid (w.grownBy w2 (some r)) := grownBy_trans HG1.out g2
  clear XR1 HK1 HG1 hC2 g2
  obtain ⟨p, hp⟩ : ∃ p : Nat, s / 4 = p := ⟨_, rfl⟩
  have hp6 : p < 6 := by omega
  have hpi : (s : Int) / 4 = (p : Int) := by omega
  have hcap := HK2.out.cap
  obtain ⟨ys, hys⟩ : ∃ ys, (xs.drop (p * 4)).take 4 = ys := ⟨_, rfl⟩
  have hyl : ys.length = 4 := by rw [← hys, List.length_take, List.length_drop, HK2.out.l]; omega
  have HY : Hid (Row .i64 w2 (some ⟨g, p * 4, none⟩) ys) := by show Row _ _ _ _; rw [← hys]; exact HK2.out.part (by omega)
  clear hys
  go_wp2_with fail
  have HS : Hid (∀ W, Row .i64 W (some ⟨g, p * 4, none⟩) ys → Calls Try.prog 11 #[.slice (some ⟨g, p * 4, none⟩) 4 (c - p * 4), .int .i64 s] W (BlkP ys s W)) := fun W h => by
    have h1 := specBlockOf_any (some ⟨g, p * 4, none⟩) (c - p * 4) ys s W h
    rw [hyl] at h1
    exact h1
  obtain ⟨hN1, hS⟩ := ofN_pos (xs := ys) (st := s) hyl (by omega) (by omega)
  have hN4 := ofN_le ys s
  refine (HS.out _ HY.out).mono ?_
  rintro e w3 ⟨ab, cb, rfl, O3, b3⟩
  rw [hS]
  obtain ⟨N, hN⟩ : ∃ N, ofN ys s = N := ⟨_, rfl⟩
  obtain ⟨D, hD⟩ : ∃ D, ofD ys s = D := ⟨_, rfl⟩
  rw [hN] at O3 hN1 hN4 ⊢
  rw [hD] at O3
  have HQ3 : Hid (QB w (w3.alloc (.cells #[.int .i64 s, .slice ab N cb] 29)) r a bs.length ca s N ab cb D w3.heap.size) := QB.new XR2 HK2.out.C HG2.out (O3) b3 zC
  clear HS HY hyl hS hN hD O3 b3 XR2 HK2 HG2 hpi hp hcap
  go_wp2_with fail
  refine (l1Below_any r a ca bs 12 _ (by omega) (by omega) HQ3.out.C (ha.kept2 HQ3.out.gr hne) hne).mono ?_
  rintro e w4 ⟨q, rfl, hq, hC4, g4⟩
  have HQ4 : Hid (QB w w4 r a bs.length ca s N ab cb D w3.heap.size) := HQ3.out.grown hC4 g4
  clear HQ3 hC4 g4
  by_cases q0 : q = 0
  · subst q0
    have bx := bel_alloc (Below.refl w4.heap.size w4) (.cells #[.int .i64 (-1), .int .i64 23, .int .i64 24] 3)
    have hrow := row_lit w4 [-1, 23, 24] (by simp)
    have HQ5 : Hid _ := HQ4.out.below bx
    have zc := HQ4.out.C.lt
    go_wp2_with fail
    refine (l1Pick_any r a ca bs (some ⟨w4.heap.size, 0, none⟩) 3 [-1, 23, 24] _ (by simp) (by simp) hrow (fun x hx => by simp at hx; subst hx; simp; omega) HQ5.out.C (ha.kept2 HQ5.out.gr hne) hne).mono ?_
    rintro e w6 ⟨x, hx, rfl, hC6, g6⟩
    have HQ6 : Hid (QB w w6 r a bs.length ca s N ab cb D w3.heap.size) := HQ5.out.grown hC6 g6
    clear bx hrow HQ5 HQ4 hC6 g6 hx
    obtain ⟨x0, x1, xz⟩ := HQ6.out.XB.at2
    have f0 := HQ6.out.XB.frozen 0
    obtain ⟨y0, y1, yz⟩ := HQ6.out.XR.at2
    have k0 := HQ6.out.XR.frozen 0
    have k1 := HQ6.out.XR.frozen 1
    have hm := HQ6.out.lt
    have HF : Hid _ := (HQ6.out.start x).fin (by omega)
    go_wp2
    refine bodyPost_ret (v := .agg #[.int .i64 x, .slice ab N cb]) (by simp [results, Try.results43, go_sem, y0, y1]) rfl ⟨_, _, _, _, _, rfl, HF.out⟩
  have e0 : ((q : Int) == 0) = false := by simp; omega
  by_cases q1 : q = 1
  · subst q1
    obtain ⟨x0, x1, xz⟩ := HQ4.out.XB.at2
    have f0 := HQ4.out.XB.frozen 1
    obtain ⟨y0, y1, yz⟩ := HQ4.out.XR.at2
    have k0 := HQ4.out.XR.frozen 0
    have k1 := HQ4.out.XR.frozen 1
    have hm := HQ4.out.lt
    have HF : Hid _ := HQ4.out.nul.fin (by omega)
    go_wp2
    refine bodyPost_ret (v := .agg #[.int .i64 s, .slice none 0 0]) (by simp [results, Try.results43, go_sem, y0, y1]) rfl ⟨_, _, _, _, _, rfl, HF.out⟩
  have e1 : ((q : Int) == 1) = false := by simp; omega
  by_cases q2 : q = 2
  · subst q2
    obtain ⟨i0, hi0, hz0, hz1, hz2⟩ := info_parts info_ins2
    obtain ⟨x0, x1, xz⟩ := HQ4.out.XB.at2
    have b5 := bel_alloc (Below.refl w4.heap.size w4) (.cells (icells 9 0 0 0 0) 36)
    have XE := Box.new w4 (icells 9 0 0 0 0) 36
    have HQ5 : Hid _ := HQ4.out.below b5
    have hr2 : World.ownsRow _ _ _ _ _ _ _ := HQ5.out.o
    have hm := HQ4.out.lt
    clear b5
    go_wp2_with (at_builtin; refine wpList_append_lies _ rfl (.tmp 36) (.tmp 38) 27 rfl (w.heap.size + 1) 36 i0 (.agg #[.int .i64 0, .int .i64 0, .int .i64 0, .int .i64 0, .int .i64 0]) 5 40 Try.underlying27 hi0 hz0 hz1 hz2 rfl (by decide) (.slice ab N cb) N (chunks N (fun i => ic (D i))) (by rfl) hr2 ⟨w4.heap.size, 0, none⟩ 1 1 [.int .i64 9, .int .i64 0, .int .i64 0, .int .i64 0, .int .i64 0] (by rfl) (by rfl) (World.news_of_block XE) (by intro u hu; simp at hu; rcases hu with rfl | rfl <;> rfl) (by decide) (by unfold maxLen; omega) (by omega) (by simp; omega) _ rfl ?_)
    intro gq cap w6 o6 g6 at6 lt6
    have hmz := HQ5.out.XB.lt
    have HQ6 : Hid _ := HQ5.out.app (y := ⟨9, 0, 0, 0, 0⟩) hmz o6 g6 (by simpa using at6)
    have X6 := HQ5.out.XB.kept g6 (fun j hj => HQ5.out.ne j hj)
    have Y6 := HQ5.out.XR.kept g6 (fun j hj => by have := (World.ownsRow.lt HQ5.out.o j hj).1; omega)
    clear x0 x1 xz XE hr2 o6 g6 at6 lt6 HQ5 HQ4
    obtain ⟨x0, x1, xz⟩ := X6.at2
    have f0 := X6.frozen 1
    obtain ⟨y0, y1, yz⟩ := Y6.at2
    have k0 := Y6.frozen 0
    have k1 := Y6.frozen 1
    have HF : Hid _ := HQ6.out.fin (by omega)
    go_wp2
    refine bodyPost_ret (v := .agg #[.int .i64 s, .slice (some ⟨gq, 0, none⟩) (N + 1) cap]) (by simp [results, Try.results43, go_sem, y0, y1]) rfl ⟨_, _, _, _, _, rfl, HF.out⟩
  have e2 : ((q : Int) == 2) = false := by simp; omega
  by_cases q3 : q = 3
  · subst q3
    obtain ⟨gq, rfl⟩ := owns_addr HQ4.out.o (by omega)
    obtain ⟨x0, x1, xz⟩ := HQ4.out.XB.at2
    obtain ⟨uc, hu⟩ := cellN HQ4.out.o (k := 0) (t := 0) (by omega) (by decide)
    have hgq := (World.ownsRow.lt HQ4.out.o gq rfl)
    have hm := HQ4.out.lt
    have hfz := HQ4.out.o.frozenAt 0
    have HQ4d : Hid (QB w w4.drew r a bs.length ca s N (some ⟨gq, 0, none⟩) cb D w3.heap.size) := HQ4.out.below (below_drewN (Below.refl _ _) 1)
    have H4 : Hid (∀ w5, Cur w5 r a bs.length ca → w4.drew.grownBy w5 (some r) → QB w w5 r a bs.length ca s N (some ⟨gq, 0, none⟩) cb D w3.heap.size) := fun w5 c5 g5 => HQ4d.out.grown c5 g5
    go_wp2_with fail
    go_region_with (go_at_call 34; refine (l1Below_any r a ca bs 12 _ (by omega) (by omega) HQ4d.out.C (ha.kept2 HQ4d.out.gr hne) hne).mono ?_; rintro e w6 ⟨x, rfl, hx, hC6, g6⟩; have HQ6 : Hid (QB w w6 r a bs.length ca s N (some ⟨gq, 0, none⟩) cb D w3.heap.size) := H4.out w6 hC6 g6; obtain ⟨x0', x1', xz'⟩ := HQ6.out.XB.at2; obtain ⟨uc', hu'⟩ := cellN HQ6.out.o (k := 0) (t := 0) (by omega) (by decide); have hfz' := HQ6.out.o.frozenAt 0; clear hC6 g6)
    all_goals
      have HF : Hid _ := (HQ6.out.op (by omega) x).fin (by omega)
      have HQ7 : Hid _ := HQ6.out.op (by omega) x
      obtain ⟨m0, m1, mz⟩ := HQ7.out.XB.at2
      obtain ⟨y0, y1, yz⟩ := HQ7.out.XR.at2
      have k0 := HQ7.out.XR.frozen 0
      have k1 := HQ7.out.XR.frozen 1
      go_wp2
      refine bodyPost_ret (v := .agg #[.int .i64 s, .slice (some ⟨gq, 0, none⟩) N cb]) (by simp [results, Try.results43, go_sem, y0, y1]) rfl ⟨_, _, _, _, _, rfl, HF.out⟩
  have e3 : ((q : Int) == 3) = false := by simp; omega
  obtain ⟨x0, x1, xz⟩ := HQ4.out.XB.at2
  obtain ⟨y0, y1, yz⟩ := HQ4.out.XR.at2
  have k0 := HQ4.out.XR.frozen 0
  have k1 := HQ4.out.XR.frozen 1
  have hm := HQ4.out.lt
  have HF : Hid _ := HQ4.out.fin (by omega)
  go_wp2
  refine bodyPost_ret (v := .agg #[.int .i64 s, .slice ab N cb]) (by simp [results, Try.results43, go_sem, y0, y1]) rfl ⟨_, _, _, _, _, rfl, HF.out⟩
end Go.Proofs.Ytfbdgcoingagcaa
