/- What the specification's Want does. -/
import Derived.Test.YtcneocbadobcfaaGreatWtU
import Derived.Test.YtcneocbadobcfaaGreatWtB
import Derived.Test.YtcneocbadobcfaaGreatSpecQ3
namespace Go.Proofs.YtcneocbadobcfaaGreat
open Go.RowKit
set_option linter.unusedVariables false

theorem WantP.drew {d : ND} {nodes page : Int} {own : Bool} {w : World} {e : Ending} {w' : World} (h : WantP d nodes page own w e w') : WantP d nodes page own w e w'.drew := by
  obtain ⟨p', h1, h2, h3, h4⟩ := h.out
  exact ⟨p', h1, h2.below (bel_drew (Below.refl _ _)), h3, bel_drew h4⟩

def lessB (s : Int) (own : Bool) : Bool := (s == 0) || (own && (s == 1))
theorem less_lack {d : ND} {nodes : Int} (h : nodeOkB d nodes = true) {pg : Nat} (hp : pg ≤ 5) (own : Bool) : lessB (d.f pg).s own = lackB (d.f pg).s own := by
  have h2 := nodeOk_facts h
  simp only [nodeOkB, Bool.and_eq_true] at h
  have h3 := allB_at h.2.2.2.2.2.1 (show pg < d.nf by omega)
  simp only [frB, frameOkB] at h3
  have hs : (d.f pg).s = 0 ∨ (0 ≤ (d.f pg).s ∧ (d.f pg).s ≤ 2) := by
    by_cases e : (d.f pg).s = 0
    · exact .inl e
    · simp [e] at h3
      omega
  have h4 : (d.f pg).s = 0 ∨ (d.f pg).s = 1 ∨ (d.f pg).s = 2 := by omega
  rcases h4 with e | e | e <;> cases own <;> simp [lessB, lackB, e]

set_option maxHeartbeats 400000 in
theorem l5Less_any (s : Int) (v : Value) (q own : Bool) (w : World) :
    Calls Tryz.prog 18 #[.agg #[.int .i64 s, v, .bool q], .bool own] w fun e w' => e = .returned (.bool (lessB s own)) ∧ Below w.heap.size w w' := by
  have bA := bel_alloc (Below.refl w.heap.size w) (.cells #[.int .i64 s, v, .bool q] 50)
  by_cases h0 : s = 0
  · subst h0
    cases own
    all_goals
      go_enter Tryz.func18, Tryz.ntmps18
      go_wp2
      go_ret
      exact ⟨ret_bool (by simp [lessB]), bA⟩
  · cases own
    all_goals
      go_enter Tryz.func18, Tryz.ntmps18
      go_wp2
      go_ret
      exact ⟨ret_bool (by have := h0; simp_all [lessB]), bA⟩

/-- A sender is put in the place of another one, then a frame is marked as asked. -/
theorem want_end {w wN : World} {d : ND} {pg : Nat} {own : Bool} {qf qh qo qi : Option Addr} {kf kh ko ki : Nat} {qfp : Nat → Pl} {qhp : Nat → HP} {qop : Nat → Pl} {qms : Nat → List M} {gf go : Nat} (hN : NOw w d ⟨(qf, kf), qfp, (qh, kh), qhp, (qo, ko), qop, qms, (qi, ki)⟩) (hf : qf = some ⟨gf, 0, none⟩) (ho : qo = some ⟨go, 0, none⟩) (hpg : pg < d.nf) (hno : pg % d.no < d.no)
    (b : Below w.heap.size w wN) {a2 : Option Addr} {c2 : Nat} {ds : List M} (D : Deep wN w.heap.size a2 c2 ds) (hds : ds.map M.say = d.y (pg % d.no) ++ [askS pg own]) :
    ∃ (op : Nat → Pl) (ms : Nat → List M), NOw (((wN.setCell ⟨go, pg % d.no * 2, none⟩ (.int .i64 (d.b (pg % d.no)))).setCell ⟨go, pg % d.no * 2 + 1, none⟩ (.slice a2 ds.length c2)).setCell ⟨gf, pg * 3 + 2, none⟩ (.bool true)) (askD d pg own) ⟨(qf, kf), qfp, (qh, kh), qhp, (qo, ko), op, ms, (qi, ki)⟩ ∧ ∀ x, NBs (askD d pg own) ⟨(qf, kf), qfp, (qh, kh), qhp, (qo, ko), op, ms, (qi, ki)⟩ x → NBs d ⟨(qf, kf), qfp, (qh, kh), qhp, (qo, ko), qop, qms, (qi, ki)⟩ x ∨ w.heap.size ≤ x := by
  subst hf ho
  have hfg : blk (some (⟨gf, 0, none⟩ : Addr), kf) = some gf := rfl
  have hog : blk (some (⟨go, 0, none⟩ : Addr), ko) = some go := rfl
  have hSO := sender_swap (k := pg % d.no) hN.o hno (sm_bel b) D
  have on1 : Only wN ((wN.setCell ⟨go, pg % d.no * 2, none⟩ (.int .i64 (d.b (pg % d.no)))).setCell ⟨go, pg % d.no * 2 + 1, none⟩ (.slice a2 ds.length c2)) (fun x => x = go) := ((Only.refl wN (fun x => x = go)).setCell ⟨go, pg % d.no * 2, none⟩ _ rfl).setCell ⟨go, pg % d.no * 2 + 1, none⟩ _ rfl
  have hNN := hN.below b
  have hFO1 := Rw.sm hNN.f (on1.sm (fun x hx e => by subst e; exact hN.fo x hx (.inl hog)))
  have hFO2 := frame_ask hFO1 hpg
  have on2 : Only ((wN.setCell ⟨go, pg % d.no * 2, none⟩ (.int .i64 (d.b (pg % d.no)))).setCell ⟨go, pg % d.no * 2 + 1, none⟩ (.slice a2 ds.length c2)) (((wN.setCell ⟨go, pg % d.no * 2, none⟩ (.int .i64 (d.b (pg % d.no)))).setCell ⟨go, pg % d.no * 2 + 1, none⟩ (.slice a2 ds.length c2)).setCell ⟨gf, pg * 3 + 2, none⟩ (.bool true)) (fun x => x = gf) := (Only.refl _ (fun x => x = gf)).setCell ⟨gf, pg * 3 + 2, none⟩ _ rfl
  have low : ∀ x, QS (a2, c2) ds x → w.heap.size ≤ x := fun x hx => by
    rcases hx with hx | ⟨y, hy, hx⟩
    · exact (D.row.lt x (blk_own (p := (a2, c2)) hx)).1
    · exact (D.lists.lt hy hx).1
  have sub : ∀ x, RS (some ⟨go, 0, none⟩) ko d.no (fun i => QS ((fun i => if i = pg % d.no then (a2, c2) else qop i) i) ((fun i => if i = pg % d.no then ds else qms i) i)) x → RS (some ⟨go, 0, none⟩) ko d.no (fun i => QS (qop i) (qms i)) x ∨ w.heap.size ≤ x := fun x hx => by
    rcases hx with hx | ⟨i, hi, hx⟩
    · exact .inl (.inl hx)
    · by_cases e : i = pg % d.no
      · subst e
        simp only [if_pos] at hx
        exact .inr (low x hx)
      · simp only [if_neg e] at hx
        exact .inl (.inr ⟨i, hi, hx⟩)
  refine ⟨fun i => if i = pg % d.no then (a2, c2) else qop i, fun i => if i = pg % d.no then ds else qms i, ⟨hFO2, ?_, ?_, ?_, fun i hi => ?_, hN.fh, fun x h1 h2 => ?_, hN.fi, fun x h1 h2 => ?_, hN.hi, fun x h1 h2 => ?_⟩, fun x hx => ?_⟩
  · exact Rw.sm (Rw.sm hNN.h (on1.sm (fun x hx e => by subst e; exact hN.ho x hx (.inl hog)))) (on2.sm (fun x hx e => by subst e; exact hN.fh x (.inl hfg) hx))
  · exact Rw.sm hSO (on2.sm (fun x hx e => by
      subst e
      rcases sub x hx with h | h
      · exact hN.fo x (.inl hfg) h
      · have := hN.lt (.inl (.inl hfg)); omega))
  · exact GO.sm (P := fun x => blk (qi, ki) = some x) (GO.sm (P := fun x => blk (qi, ki) = some x) hNN.i (on1.sm (fun x hx e => by subst e; exact hN.oi x (.inl hog) hx)) (fun x hx => hx)) (on2.sm (fun x hx e => by subst e; exact hN.fi x (.inl hfg) hx)) (fun x hx => hx)
  · by_cases e : i = pg % d.no
    · subst e
      simp only [askD, if_pos]
      exact hds
    · simp only [askD, if_neg e]
      exact hN.e i hi
  · rcases sub x h2 with h | h
    · exact hN.fo x h1 h
    · have := hN.lt (.inl h1)
      omega
  · rcases sub x h2 with h | h
    · exact hN.ho x h1 h
    · have := hN.lt (.inr (.inl h1))
      omega
  · rcases sub x h1 with h | h
    · exact hN.oi x h h2
    · have := hN.lt (.inr (.inr (.inr h2)))
      omega
  · rcases hx with hx | hx | hx | hx
    · exact .inl (.inl hx)
    · exact .inl (.inr (.inl hx))
    · rcases sub x hx with h | h
      · exact .inl (.inr (.inr (.inl h)))
      · exact .inr h
    · exact .inl (.inr (.inr (.inr hx)))

set_option maxRecDepth 100000 in
set_option maxHeartbeats 8000000 in
theorem sw_no1 (d : ND) (af ah ao ai0 : Option Addr) (cf ch co ci0 : Nat) (fp : Nat → Pl) (hp : Nat → HP) (op : Nat → Pl) (ms : Nat → List M) (nodes page : Int) (own : Bool) (w : World) (hd : Nsm d) (hR : NR w d ⟨(af, cf), fp, (ah, ch), hp, (ao, co), op, ms, (ai0, ci0)⟩) (h1 : nodeOkB d nodes = false) (hno : wOk d nodes page own = false) :
    Calls Tryz.prog 5 #[.agg #[.int .i64 d.id, .slice af d.nf cf, .slice ah d.nh ch, .slice ao d.no co, .slice ai0 d.ni ci0], .int .i64 nodes, .int .i64 page, .bool own] w fun e w' => WantP d nodes page own w e w' := by
  have B := bel_alloc (bel_alloc (Below.refl w.heap.size w) (.cells #[.int .i64 d.id, .slice af d.nf cf, .slice ah d.nh ch, .slice ao d.no co, .slice ai0 d.ni ci0] 34)) (.cells #[.int .i64 0, .slice none 0 0, .slice none 0 0, .slice none 0 0, .slice none 0 0] 34)
  obtain ⟨XP, XR⟩ := Box.two w #[.int .i64 d.id, .slice af d.nf cf, .slice ah d.nh ch, .slice ao d.no co, .slice ai0 d.ni ci0] #[.int .i64 0, .slice none 0 0, .slice none 0 0, .slice none 0 0, .slice none 0 0] 34 34
  have HR : Hid (NR w d ⟨(af, cf), fp, (ah, ch), hp, (ao, co), op, ms, (ai0, ci0)⟩) := hR
  have hR0 := hR.below B
  have HBS : Hid (∀ i, i < d.nh → (d.h i).bs.length ≤ 1048577) := fun i hi => by have := (hd.h.2 i hi).2.1; omega
  have H1 : Hid (nodeOkB d nodes = false) := h1
  have HNO : Hid (wOk d nodes page own = false) := hno
  clear h1 hno
  clear hR
  go_enter Tryz.func5, Tryz.ntmps5
  go_wp2_with fail
  refine (l5Copy_any d ⟨(af, cf), fp, (ah, ch), hp, (ao, co), op, ms, (ai0, ci0)⟩ _ hd hR0).mono ?_
  rintro e w1 hC
  obtain ⟨q, rfl, N1, L1, b1⟩ := hC.out
  obtain ⟨⟨qf, kf⟩, qfp, ⟨qh, kh⟩, qhp, ⟨qo, ko⟩, qop, qms, ⟨qi, ki⟩⟩ := q
  have hz1 : w.heap.size + 2 ≤ w1.heap.size := by have := b1.size; simp at this; omega
  have bO := bel_alloc (Below.refl w1.heap.size w1) (.cells #[.int .i64 d.id, .slice qf d.nf kf, .slice qh d.nh kh, .slice qo d.no ko, .slice qi d.ni ki] 34)
  have XO := Box.new w1 #[.int .i64 d.id, .slice qf d.nf kf, .slice qh d.nh kh, .slice qo d.no ko, .slice qi d.ni ki] 34
  replace XP := (XP.below b1).below bO
  replace XR := (XR.below b1).below bO
  replace B := bel_trans (bel_trans B b1) bO
  have HL : Hid (∀ b, NBs d ⟨(qf, kf), qfp, (qh, kh), qhp, (qo, ko), qop, qms, (qi, ki)⟩ b → w.heap.size + 2 ≤ b ∧ b < w1.heap.size) := fun b hb => ⟨by have := L1 b hb; simp at this; omega, N1.lt hb⟩
  replace N1 : NOw (w1.alloc (.cells #[.int .i64 d.id, .slice qf d.nf kf, .slice qh d.nh kh, .slice qo d.no ko, .slice qi d.ni ki] 34)) d ⟨(qf, kf), qfp, (qh, kh), qhp, (qo, ko), qop, qms, (qi, ki)⟩ := N1.below bO
  obtain ⟨p0, p1, p2, p3, p4, pz⟩ := XP.at5
  have hRk := HR.out.below B
  clear hR0 hC L1 b1 bO
  go_wp2_with fail
  refine (specNodeOk_any d ⟨(af, cf), fp, (ah, ch), hp, (ao, co), op, ms, (ai0, ci0)⟩ nodes _ HBS.out hRk).mono ?_
  rintro e w2 ⟨rfl, b2⟩
  replace XP := XP.below b2
  replace XR := XR.below b2
  replace XO := XO.below b2
  replace N1 := N1.below b2
  replace B := bel_trans B b2
  rw [H1.out]
  clear b2 hRk p0 p1 p2 p3 p4 pz
  obtain ⟨e0, e1, e2, e3, e4, ez⟩ := XO.at5
  obtain ⟨y0, y1, y2, y3, y4, yz⟩ := XR.at5
  have f0 := XR.frozen 0
  have f1 := XR.frozen 1
  have f2 := XR.frozen 2
  have f3 := XR.frozen 3
  have f4 := XR.frozen 4
  have HF : Hid (WantP d nodes page own w (.returned (.tuple #[.agg #[.int .i64 d.id, .slice qf d.nf kf, .slice qh d.nh kh, .slice qo d.no ko, .slice qi d.ni ki], .bool false])) (((((w2.setCell ⟨w.heap.size + 1, 0, none⟩ (.int .i64 d.id)).setCell ⟨w.heap.size + 1, 1, none⟩ (.slice qf d.nf kf)).setCell ⟨w.heap.size + 1, 2, none⟩ (.slice qh d.nh kh)).setCell ⟨w.heap.size + 1, 3, none⟩ (.slice qo d.no ko)).setCell ⟨w.heap.size + 1, 4, none⟩ (.slice qi d.ni ki))) := by
    have hw : wantB d nodes page own = false := by unfold wantB; rw [HNO.out]; rfl
    have on : Only w2 (((((w2.setCell ⟨w.heap.size + 1, 0, none⟩ (.int .i64 d.id)).setCell ⟨w.heap.size + 1, 1, none⟩ (.slice qf d.nf kf)).setCell ⟨w.heap.size + 1, 2, none⟩ (.slice qh d.nh kh)).setCell ⟨w.heap.size + 1, 3, none⟩ (.slice qo d.no ko)).setCell ⟨w.heap.size + 1, 4, none⟩ (.slice qi d.ni ki)) (fun x => x = w.heap.size + 1) := (((((Only.refl w2 (fun x => x = w.heap.size + 1)).setCell ⟨w.heap.size + 1, 0, none⟩ _ rfl).setCell ⟨w.heap.size + 1, 1, none⟩ _ rfl).setCell ⟨w.heap.size + 1, 2, none⟩ _ rfl).setCell ⟨w.heap.size + 1, 3, none⟩ _ rfl).setCell ⟨w.heap.size + 1, 4, none⟩ _ rfl
    refine ⟨⟨(qf, kf), qfp, (qh, kh), qhp, (qo, ko), qop, qms, (qi, ki)⟩, ?_, ?_, ?_, ?_⟩
    · unfold wantD; rw [hw]; rfl
    · unfold wantD; rw [hw]; exact N1.sm (on.sm (fun x hx e => by have := HL.out x hx; omega))
    · unfold wantD; rw [hw]; exact fun x hx => by have := HL.out x hx; omega
    · exact lit_bel5 B (by omega)
  clear XP XO XR N1 B
  go_wp2
  refine bodyPost_ret (v := .tuple #[.agg #[.int .i64 d.id, .slice qf d.nf kf, .slice qh d.nh kh, .slice qo d.no ko, .slice qi d.ni ki], .bool false]) (by simp [results, Tryz.results5, go_sem, y0, y1, y2, y3, y4]) rfl HF.out

set_option maxRecDepth 100000 in
set_option maxHeartbeats 8000000 in
theorem sw_no2 (d : ND) (af ah ao ai0 : Option Addr) (cf ch co ci0 : Nat) (fp : Nat → Pl) (hp : Nat → HP) (op : Nat → Pl) (ms : Nat → List M) (nodes page : Int) (own : Bool) (w : World) (hd : Nsm d) (hR : NR w d ⟨(af, cf), fp, (ah, ch), hp, (ao, co), op, ms, (ai0, ci0)⟩) (h1 : nodeOkB d nodes = true) (h2 : decide (0 ≤ page ∧ page ≤ 5) = false) (hno : wOk d nodes page own = false) :
    Calls Tryz.prog 5 #[.agg #[.int .i64 d.id, .slice af d.nf cf, .slice ah d.nh ch, .slice ao d.no co, .slice ai0 d.ni ci0], .int .i64 nodes, .int .i64 page, .bool own] w fun e w' => WantP d nodes page own w e w' := by
  have B := bel_alloc (bel_alloc (Below.refl w.heap.size w) (.cells #[.int .i64 d.id, .slice af d.nf cf, .slice ah d.nh ch, .slice ao d.no co, .slice ai0 d.ni ci0] 34)) (.cells #[.int .i64 0, .slice none 0 0, .slice none 0 0, .slice none 0 0, .slice none 0 0] 34)
  obtain ⟨XP, XR⟩ := Box.two w #[.int .i64 d.id, .slice af d.nf cf, .slice ah d.nh ch, .slice ao d.no co, .slice ai0 d.ni ci0] #[.int .i64 0, .slice none 0 0, .slice none 0 0, .slice none 0 0, .slice none 0 0] 34 34
  have HR : Hid (NR w d ⟨(af, cf), fp, (ah, ch), hp, (ao, co), op, ms, (ai0, ci0)⟩) := hR
  have hR0 := hR.below B
  have HBS : Hid (∀ i, i < d.nh → (d.h i).bs.length ≤ 1048577) := fun i hi => by have := (hd.h.2 i hi).2.1; omega
  have H1 : Hid (nodeOkB d nodes = true) := h1
  have H2 : Hid (decide (0 ≤ page ∧ page ≤ 5) = false) := h2
  have HNO : Hid (wOk d nodes page own = false) := hno
  clear h1 h2 hno
  clear hR
  go_enter Tryz.func5, Tryz.ntmps5
  go_wp2_with fail
  refine (l5Copy_any d ⟨(af, cf), fp, (ah, ch), hp, (ao, co), op, ms, (ai0, ci0)⟩ _ hd hR0).mono ?_
  rintro e w1 hC
  obtain ⟨q, rfl, N1, L1, b1⟩ := hC.out
  obtain ⟨⟨qf, kf⟩, qfp, ⟨qh, kh⟩, qhp, ⟨qo, ko⟩, qop, qms, ⟨qi, ki⟩⟩ := q
  have hz1 : w.heap.size + 2 ≤ w1.heap.size := by have := b1.size; simp at this; omega
  have bO := bel_alloc (Below.refl w1.heap.size w1) (.cells #[.int .i64 d.id, .slice qf d.nf kf, .slice qh d.nh kh, .slice qo d.no ko, .slice qi d.ni ki] 34)
  have XO := Box.new w1 #[.int .i64 d.id, .slice qf d.nf kf, .slice qh d.nh kh, .slice qo d.no ko, .slice qi d.ni ki] 34
  replace XP := (XP.below b1).below bO
  replace XR := (XR.below b1).below bO
  replace B := bel_trans (bel_trans B b1) bO
  have HL : Hid (∀ b, NBs d ⟨(qf, kf), qfp, (qh, kh), qhp, (qo, ko), qop, qms, (qi, ki)⟩ b → w.heap.size + 2 ≤ b ∧ b < w1.heap.size) := fun b hb => ⟨by have := L1 b hb; simp at this; omega, N1.lt hb⟩
  replace N1 : NOw (w1.alloc (.cells #[.int .i64 d.id, .slice qf d.nf kf, .slice qh d.nh kh, .slice qo d.no ko, .slice qi d.ni ki] 34)) d ⟨(qf, kf), qfp, (qh, kh), qhp, (qo, ko), qop, qms, (qi, ki)⟩ := N1.below bO
  obtain ⟨p0, p1, p2, p3, p4, pz⟩ := XP.at5
  have hRk := HR.out.below B
  clear hR0 hC L1 b1 bO
  go_wp2_with fail
  refine (specNodeOk_any d ⟨(af, cf), fp, (ah, ch), hp, (ao, co), op, ms, (ai0, ci0)⟩ nodes _ HBS.out hRk).mono ?_
  rintro e w2 ⟨rfl, b2⟩
  replace XP := XP.below b2
  replace XR := XR.below b2
  replace XO := XO.below b2
  replace N1 := N1.below b2
  replace B := bel_trans B b2
  rw [H1.out]
  clear b2 hRk p0 p1 p2 p3 p4 pz
  go_wp2_with fail
  refine (specIn_any page 0 5 _).mono ?_
  rintro e w3 ⟨rfl, h3⟩
  subst h3
  rw [H2.out]
  obtain ⟨e0, e1, e2, e3, e4, ez⟩ := XO.at5
  obtain ⟨y0, y1, y2, y3, y4, yz⟩ := XR.at5
  have f0 := XR.frozen 0
  have f1 := XR.frozen 1
  have f2 := XR.frozen 2
  have f3 := XR.frozen 3
  have f4 := XR.frozen 4
  have HF : Hid (WantP d nodes page own w (.returned (.tuple #[.agg #[.int .i64 d.id, .slice qf d.nf kf, .slice qh d.nh kh, .slice qo d.no ko, .slice qi d.ni ki], .bool false])) (((((w3.setCell ⟨w.heap.size + 1, 0, none⟩ (.int .i64 d.id)).setCell ⟨w.heap.size + 1, 1, none⟩ (.slice qf d.nf kf)).setCell ⟨w.heap.size + 1, 2, none⟩ (.slice qh d.nh kh)).setCell ⟨w.heap.size + 1, 3, none⟩ (.slice qo d.no ko)).setCell ⟨w.heap.size + 1, 4, none⟩ (.slice qi d.ni ki))) := by
    have hw : wantB d nodes page own = false := by unfold wantB; rw [HNO.out]; rfl
    have on : Only w3 (((((w3.setCell ⟨w.heap.size + 1, 0, none⟩ (.int .i64 d.id)).setCell ⟨w.heap.size + 1, 1, none⟩ (.slice qf d.nf kf)).setCell ⟨w.heap.size + 1, 2, none⟩ (.slice qh d.nh kh)).setCell ⟨w.heap.size + 1, 3, none⟩ (.slice qo d.no ko)).setCell ⟨w.heap.size + 1, 4, none⟩ (.slice qi d.ni ki)) (fun x => x = w.heap.size + 1) := (((((Only.refl w3 (fun x => x = w.heap.size + 1)).setCell ⟨w.heap.size + 1, 0, none⟩ _ rfl).setCell ⟨w.heap.size + 1, 1, none⟩ _ rfl).setCell ⟨w.heap.size + 1, 2, none⟩ _ rfl).setCell ⟨w.heap.size + 1, 3, none⟩ _ rfl).setCell ⟨w.heap.size + 1, 4, none⟩ _ rfl
    refine ⟨⟨(qf, kf), qfp, (qh, kh), qhp, (qo, ko), qop, qms, (qi, ki)⟩, ?_, ?_, ?_, ?_⟩
    · unfold wantD; rw [hw]; rfl
    · unfold wantD; rw [hw]; exact N1.sm (on.sm (fun x hx e => by have := HL.out x hx; omega))
    · unfold wantD; rw [hw]; exact fun x hx => by have := HL.out x hx; omega
    · exact lit_bel5 B (by omega)
  clear XP XO XR N1 B
  go_wp2
  refine bodyPost_ret (v := .tuple #[.agg #[.int .i64 d.id, .slice qf d.nf kf, .slice qh d.nh kh, .slice qo d.no ko, .slice qi d.ni ki], .bool false]) (by simp [results, Tryz.results5, go_sem, y0, y1, y2, y3, y4]) rfl HF.out

set_option maxRecDepth 100000 in
set_option maxHeartbeats 8000000 in
theorem sw_no3 (d : ND) (af ah ao ai0 : Option Addr) (cf ch co ci0 : Nat) (fp : Nat → Pl) (hp : Nat → HP) (op : Nat → Pl) (ms : Nat → List M) (nodes : Int) (pg : Nat) (own : Bool) (w : World) (hd : Nsm d) (hR : NR w d ⟨(af, cf), fp, (ah, ch), hp, (ao, co), op, ms, (ai0, ci0)⟩) (h1 : nodeOkB d nodes = true) (h2 : pg ≤ 5) (h3 : (d.f pg).q = true) (hno : wOk d nodes pg own = false) :
    Calls Tryz.prog 5 #[.agg #[.int .i64 d.id, .slice af d.nf cf, .slice ah d.nh ch, .slice ao d.no co, .slice ai0 d.ni ci0], .int .i64 nodes, .int .i64 pg, .bool own] w fun e w' => WantP d nodes pg own w e w' := by
  have B := bel_alloc (bel_alloc (Below.refl w.heap.size w) (.cells #[.int .i64 d.id, .slice af d.nf cf, .slice ah d.nh ch, .slice ao d.no co, .slice ai0 d.ni ci0] 34)) (.cells #[.int .i64 0, .slice none 0 0, .slice none 0 0, .slice none 0 0, .slice none 0 0] 34)
  obtain ⟨XP, XR⟩ := Box.two w #[.int .i64 d.id, .slice af d.nf cf, .slice ah d.nh ch, .slice ao d.no co, .slice ai0 d.ni ci0] #[.int .i64 0, .slice none 0 0, .slice none 0 0, .slice none 0 0, .slice none 0 0] 34 34
  have HR : Hid (NR w d ⟨(af, cf), fp, (ah, ch), hp, (ao, co), op, ms, (ai0, ci0)⟩) := hR
  have hR0 := hR.below B
  have HBS : Hid (∀ i, i < d.nh → (d.h i).bs.length ≤ 1048577) := fun i hi => by have := (hd.h.2 i hi).2.1; omega
  have H1 : Hid (nodeOkB d nodes = true) := h1
  have H2 : Hid (decide ((0 : Int) ≤ (pg : Int) ∧ (pg : Int) ≤ 5) = true) := by show _ = _; simp; omega
  have hF := nodeOk_facts h1
  have HFA : Hid (d.nf = 6 ∧ (1 ≤ d.no ∧ d.no ≤ 4) ∧ (d.no : Int) = nodes) := hF
  obtain ⟨b, off, ha, F0, F1, F2⟩ := hR.f.at (show pg < d.nf by omega)
  replace ha : af = some ⟨b, off, none⟩ := ha
  subst ha
  rw [h3] at F2
  have hbw : b < w.heap.size := lt_of_cell F0
  have hi : (pg : Int) < (d.nf : Int) := by omega
  have HFF : Hid (∀ W, Below w.heap.size w W → W.cell? ⟨b, off + pg * 3, none⟩ = some (.int .i64 (d.f pg).s) ∧ W.cell? ⟨b, off + pg * 3 + 1, none⟩ = some (.slice (fp pg).1 (d.f pg).xs.length (fp pg).2) ∧ W.cell? ⟨b, off + pg * 3 + 2, none⟩ = some (.bool true)) := fun W bb => ⟨(bb.cell (p := ⟨b, off + pg * 3, none⟩) hbw).trans F0, (bb.cell (p := ⟨b, off + pg * 3 + 1, none⟩) hbw).trans F1, (bb.cell (p := ⟨b, off + pg * 3 + 2, none⟩) hbw).trans F2⟩
  have HNO : Hid (wOk d nodes pg own = false) := hno
  clear h1 h3 hno hF F0 F1 F2
  clear hR
  go_enter Tryz.func5, Tryz.ntmps5
  go_wp2_with fail
  refine (l5Copy_any d ⟨((some ⟨b, off, none⟩), cf), fp, (ah, ch), hp, (ao, co), op, ms, (ai0, ci0)⟩ _ hd hR0).mono ?_
  rintro e w1 hC
  obtain ⟨q, rfl, N1, L1, b1⟩ := hC.out
  obtain ⟨⟨qf, kf⟩, qfp, ⟨qh, kh⟩, qhp, ⟨qo, ko⟩, qop, qms, ⟨qi, ki⟩⟩ := q
  have hz1 : w.heap.size + 2 ≤ w1.heap.size := by have := b1.size; simp at this; omega
  have bO := bel_alloc (Below.refl w1.heap.size w1) (.cells #[.int .i64 d.id, .slice qf d.nf kf, .slice qh d.nh kh, .slice qo d.no ko, .slice qi d.ni ki] 34)
  have XO := Box.new w1 #[.int .i64 d.id, .slice qf d.nf kf, .slice qh d.nh kh, .slice qo d.no ko, .slice qi d.ni ki] 34
  replace XP := (XP.below b1).below bO
  replace XR := (XR.below b1).below bO
  replace B := bel_trans (bel_trans B b1) bO
  have HL : Hid (∀ b, NBs d ⟨(qf, kf), qfp, (qh, kh), qhp, (qo, ko), qop, qms, (qi, ki)⟩ b → w.heap.size + 2 ≤ b ∧ b < w1.heap.size) := fun b hb => ⟨by have := L1 b hb; simp at this; omega, N1.lt hb⟩
  replace N1 : NOw (w1.alloc (.cells #[.int .i64 d.id, .slice qf d.nf kf, .slice qh d.nh kh, .slice qo d.no ko, .slice qi d.ni ki] 34)) d ⟨(qf, kf), qfp, (qh, kh), qhp, (qo, ko), qop, qms, (qi, ki)⟩ := N1.below bO
  obtain ⟨p0, p1, p2, p3, p4, pz⟩ := XP.at5
  have hRk := HR.out.below B
  clear hR0 hC L1 b1 bO
  go_wp2_with fail
  refine (specNodeOk_any d ⟨((some ⟨b, off, none⟩), cf), fp, (ah, ch), hp, (ao, co), op, ms, (ai0, ci0)⟩ nodes _ HBS.out hRk).mono ?_
  rintro e w2 ⟨rfl, b2⟩
  replace XP := XP.below b2
  replace XR := XR.below b2
  replace XO := XO.below b2
  replace N1 := N1.below b2
  replace B := bel_trans B b2
  rw [H1.out]
  clear b2 hRk p0 p1 p2 p3 p4 pz
  go_wp2_with fail
  refine (specIn_any pg 0 5 _).mono ?_
  rintro e w3 ⟨rfl, h3⟩
  subst h3
  rw [H2.out]
  obtain ⟨p0, p1, p2, p3, p4, pz⟩ := XP.at5
  obtain ⟨c0, c1, c2⟩ := HFF.out _ B
  obtain ⟨e0, e1, e2, e3, e4, ez⟩ := XO.at5
  obtain ⟨y0, y1, y2, y3, y4, yz⟩ := XR.at5
  have f0 := XR.frozen 0
  have f1 := XR.frozen 1
  have f2 := XR.frozen 2
  have f3 := XR.frozen 3
  have f4 := XR.frozen 4
  have HF : Hid (WantP d nodes pg own w (.returned (.tuple #[.agg #[.int .i64 d.id, .slice qf d.nf kf, .slice qh d.nh kh, .slice qo d.no ko, .slice qi d.ni ki], .bool false])) (((((w3.setCell ⟨w.heap.size + 1, 0, none⟩ (.int .i64 d.id)).setCell ⟨w.heap.size + 1, 1, none⟩ (.slice qf d.nf kf)).setCell ⟨w.heap.size + 1, 2, none⟩ (.slice qh d.nh kh)).setCell ⟨w.heap.size + 1, 3, none⟩ (.slice qo d.no ko)).setCell ⟨w.heap.size + 1, 4, none⟩ (.slice qi d.ni ki))) := by
    have hw : wantB d nodes pg own = false := by unfold wantB; rw [HNO.out]; rfl
    have on : Only w3 (((((w3.setCell ⟨w.heap.size + 1, 0, none⟩ (.int .i64 d.id)).setCell ⟨w.heap.size + 1, 1, none⟩ (.slice qf d.nf kf)).setCell ⟨w.heap.size + 1, 2, none⟩ (.slice qh d.nh kh)).setCell ⟨w.heap.size + 1, 3, none⟩ (.slice qo d.no ko)).setCell ⟨w.heap.size + 1, 4, none⟩ (.slice qi d.ni ki)) (fun x => x = w.heap.size + 1) := (((((Only.refl w3 (fun x => x = w.heap.size + 1)).setCell ⟨w.heap.size + 1, 0, none⟩ _ rfl).setCell ⟨w.heap.size + 1, 1, none⟩ _ rfl).setCell ⟨w.heap.size + 1, 2, none⟩ _ rfl).setCell ⟨w.heap.size + 1, 3, none⟩ _ rfl).setCell ⟨w.heap.size + 1, 4, none⟩ _ rfl
    refine ⟨⟨(qf, kf), qfp, (qh, kh), qhp, (qo, ko), qop, qms, (qi, ki)⟩, ?_, ?_, ?_, ?_⟩
    · unfold wantD; rw [hw]; rfl
    · unfold wantD; rw [hw]; exact N1.sm (on.sm (fun x hx e => by have := HL.out x hx; omega))
    · unfold wantD; rw [hw]; exact fun x hx => by have := HL.out x hx; omega
    · exact lit_bel5 B (by omega)
  clear XP XO XR N1 B
  go_wp2
  refine bodyPost_ret (v := .tuple #[.agg #[.int .i64 d.id, .slice qf d.nf kf, .slice qh d.nh kh, .slice qo d.no ko, .slice qi d.ni ki], .bool false]) (by simp [results, Tryz.results5, go_sem, y0, y1, y2, y3, y4]) rfl HF.out

set_option maxRecDepth 100000 in
set_option maxHeartbeats 8000000 in
theorem sw_no4 (d : ND) (af ah ao ai0 : Option Addr) (cf ch co ci0 : Nat) (fp : Nat → Pl) (hp : Nat → HP) (op : Nat → Pl) (ms : Nat → List M) (nodes : Int) (pg : Nat) (own : Bool) (w : World) (hd : Nsm d) (hR : NR w d ⟨(af, cf), fp, (ah, ch), hp, (ao, co), op, ms, (ai0, ci0)⟩) (h1 : nodeOkB d nodes = true) (h2 : pg ≤ 5) (h3 : (d.f pg).q = false) (h4 : lessB (d.f pg).s own = false) (hno : wOk d nodes pg own = false) :
    Calls Tryz.prog 5 #[.agg #[.int .i64 d.id, .slice af d.nf cf, .slice ah d.nh ch, .slice ao d.no co, .slice ai0 d.ni ci0], .int .i64 nodes, .int .i64 pg, .bool own] w fun e w' => WantP d nodes pg own w e w' := by
  have B := bel_alloc (bel_alloc (Below.refl w.heap.size w) (.cells #[.int .i64 d.id, .slice af d.nf cf, .slice ah d.nh ch, .slice ao d.no co, .slice ai0 d.ni ci0] 34)) (.cells #[.int .i64 0, .slice none 0 0, .slice none 0 0, .slice none 0 0, .slice none 0 0] 34)
  obtain ⟨XP, XR⟩ := Box.two w #[.int .i64 d.id, .slice af d.nf cf, .slice ah d.nh ch, .slice ao d.no co, .slice ai0 d.ni ci0] #[.int .i64 0, .slice none 0 0, .slice none 0 0, .slice none 0 0, .slice none 0 0] 34 34
  have HR : Hid (NR w d ⟨(af, cf), fp, (ah, ch), hp, (ao, co), op, ms, (ai0, ci0)⟩) := hR
  have hR0 := hR.below B
  have HBS : Hid (∀ i, i < d.nh → (d.h i).bs.length ≤ 1048577) := fun i hi => by have := (hd.h.2 i hi).2.1; omega
  have H1 : Hid (nodeOkB d nodes = true) := h1
  have H2 : Hid (decide ((0 : Int) ≤ (pg : Int) ∧ (pg : Int) ≤ 5) = true) := by show _ = _; simp; omega
  have hF := nodeOk_facts h1
  have HFA : Hid (d.nf = 6 ∧ (1 ≤ d.no ∧ d.no ≤ 4) ∧ (d.no : Int) = nodes) := hF
  obtain ⟨b, off, ha, F0, F1, F2⟩ := hR.f.at (show pg < d.nf by omega)
  replace ha : af = some ⟨b, off, none⟩ := ha
  subst ha
  rw [h3] at F2
  have hbw : b < w.heap.size := lt_of_cell F0
  have hi : (pg : Int) < (d.nf : Int) := by omega
  have HFF : Hid (∀ W, Below w.heap.size w W → W.cell? ⟨b, off + pg * 3, none⟩ = some (.int .i64 (d.f pg).s) ∧ W.cell? ⟨b, off + pg * 3 + 1, none⟩ = some (.slice (fp pg).1 (d.f pg).xs.length (fp pg).2) ∧ W.cell? ⟨b, off + pg * 3 + 2, none⟩ = some (.bool false)) := fun W bb => ⟨(bb.cell (p := ⟨b, off + pg * 3, none⟩) hbw).trans F0, (bb.cell (p := ⟨b, off + pg * 3 + 1, none⟩) hbw).trans F1, (bb.cell (p := ⟨b, off + pg * 3 + 2, none⟩) hbw).trans F2⟩
  have HNO : Hid (wOk d nodes pg own = false) := hno
  have H4 : Hid (lessB (d.f pg).s own = false) := h4
  clear h1 h3 h4 hno hF F0 F1 F2
  clear hR
  go_enter Tryz.func5, Tryz.ntmps5
  go_wp2_with fail
  refine (l5Copy_any d ⟨((some ⟨b, off, none⟩), cf), fp, (ah, ch), hp, (ao, co), op, ms, (ai0, ci0)⟩ _ hd hR0).mono ?_
  rintro e w1 hC
  obtain ⟨q, rfl, N1, L1, b1⟩ := hC.out
  obtain ⟨⟨qf, kf⟩, qfp, ⟨qh, kh⟩, qhp, ⟨qo, ko⟩, qop, qms, ⟨qi, ki⟩⟩ := q
  have hz1 : w.heap.size + 2 ≤ w1.heap.size := by have := b1.size; simp at this; omega
  have bO := bel_alloc (Below.refl w1.heap.size w1) (.cells #[.int .i64 d.id, .slice qf d.nf kf, .slice qh d.nh kh, .slice qo d.no ko, .slice qi d.ni ki] 34)
  have XO := Box.new w1 #[.int .i64 d.id, .slice qf d.nf kf, .slice qh d.nh kh, .slice qo d.no ko, .slice qi d.ni ki] 34
  replace XP := (XP.below b1).below bO
  replace XR := (XR.below b1).below bO
  replace B := bel_trans (bel_trans B b1) bO
  have HL : Hid (∀ b, NBs d ⟨(qf, kf), qfp, (qh, kh), qhp, (qo, ko), qop, qms, (qi, ki)⟩ b → w.heap.size + 2 ≤ b ∧ b < w1.heap.size) := fun b hb => ⟨by have := L1 b hb; simp at this; omega, N1.lt hb⟩
  replace N1 : NOw (w1.alloc (.cells #[.int .i64 d.id, .slice qf d.nf kf, .slice qh d.nh kh, .slice qo d.no ko, .slice qi d.ni ki] 34)) d ⟨(qf, kf), qfp, (qh, kh), qhp, (qo, ko), qop, qms, (qi, ki)⟩ := N1.below bO
  obtain ⟨p0, p1, p2, p3, p4, pz⟩ := XP.at5
  have hRk := HR.out.below B
  clear hR0 hC L1 b1 bO
  go_wp2_with fail
  refine (specNodeOk_any d ⟨((some ⟨b, off, none⟩), cf), fp, (ah, ch), hp, (ao, co), op, ms, (ai0, ci0)⟩ nodes _ HBS.out hRk).mono ?_
  rintro e w2 ⟨rfl, b2⟩
  replace XP := XP.below b2
  replace XR := XR.below b2
  replace XO := XO.below b2
  replace N1 := N1.below b2
  replace B := bel_trans B b2
  rw [H1.out]
  clear b2 hRk p0 p1 p2 p3 p4 pz
  go_wp2_with fail
  refine (specIn_any pg 0 5 _).mono ?_
  rintro e w3 ⟨rfl, h3⟩
  subst h3
  rw [H2.out]
  obtain ⟨p0, p1, p2, p3, p4, pz⟩ := XP.at5
  obtain ⟨c0, c1, c2⟩ := HFF.out _ B
  go_wp2_with fail
  refine (l5Less_any (d.f pg).s (.slice (fp pg).1 (d.f pg).xs.length (fp pg).2) false own _).mono ?_
  rintro e w4 ⟨rfl, b3⟩
  replace XP := XP.below b3
  replace XR := XR.below b3
  replace XO := XO.below b3
  replace N1 := N1.below b3
  replace B := bel_trans B b3
  clear b3
  rw [H4.out]
  clear p0 p1 p2 p3 p4 pz c0 c1 c2
  obtain ⟨e0, e1, e2, e3, e4, ez⟩ := XO.at5
  obtain ⟨y0, y1, y2, y3, y4, yz⟩ := XR.at5
  have f0 := XR.frozen 0
  have f1 := XR.frozen 1
  have f2 := XR.frozen 2
  have f3 := XR.frozen 3
  have f4 := XR.frozen 4
  have HF : Hid (WantP d nodes pg own w (.returned (.tuple #[.agg #[.int .i64 d.id, .slice qf d.nf kf, .slice qh d.nh kh, .slice qo d.no ko, .slice qi d.ni ki], .bool false])) (((((w4.setCell ⟨w.heap.size + 1, 0, none⟩ (.int .i64 d.id)).setCell ⟨w.heap.size + 1, 1, none⟩ (.slice qf d.nf kf)).setCell ⟨w.heap.size + 1, 2, none⟩ (.slice qh d.nh kh)).setCell ⟨w.heap.size + 1, 3, none⟩ (.slice qo d.no ko)).setCell ⟨w.heap.size + 1, 4, none⟩ (.slice qi d.ni ki))) := by
    have hw : wantB d nodes pg own = false := by unfold wantB; rw [HNO.out]; rfl
    have on : Only w4 (((((w4.setCell ⟨w.heap.size + 1, 0, none⟩ (.int .i64 d.id)).setCell ⟨w.heap.size + 1, 1, none⟩ (.slice qf d.nf kf)).setCell ⟨w.heap.size + 1, 2, none⟩ (.slice qh d.nh kh)).setCell ⟨w.heap.size + 1, 3, none⟩ (.slice qo d.no ko)).setCell ⟨w.heap.size + 1, 4, none⟩ (.slice qi d.ni ki)) (fun x => x = w.heap.size + 1) := (((((Only.refl w4 (fun x => x = w.heap.size + 1)).setCell ⟨w.heap.size + 1, 0, none⟩ _ rfl).setCell ⟨w.heap.size + 1, 1, none⟩ _ rfl).setCell ⟨w.heap.size + 1, 2, none⟩ _ rfl).setCell ⟨w.heap.size + 1, 3, none⟩ _ rfl).setCell ⟨w.heap.size + 1, 4, none⟩ _ rfl
    refine ⟨⟨(qf, kf), qfp, (qh, kh), qhp, (qo, ko), qop, qms, (qi, ki)⟩, ?_, ?_, ?_, ?_⟩
    · unfold wantD; rw [hw]; rfl
    · unfold wantD; rw [hw]; exact N1.sm (on.sm (fun x hx e => by have := HL.out x hx; omega))
    · unfold wantD; rw [hw]; exact fun x hx => by have := HL.out x hx; omega
    · exact lit_bel5 B (by omega)
  clear XP XO XR N1 B
  go_wp2
  refine bodyPost_ret (v := .tuple #[.agg #[.int .i64 d.id, .slice qf d.nf kf, .slice qh d.nh kh, .slice qo d.no ko, .slice qi d.ni ki], .bool false]) (by simp [results, Tryz.results5, go_sem, y0, y1, y2, y3, y4]) rfl HF.out

set_option maxRecDepth 100000 in
set_option maxHeartbeats 8000000 in
theorem sw_yes (d : ND) (af ah ao ai0 : Option Addr) (cf ch co ci0 : Nat) (fp : Nat → Pl) (hp : Nat → HP) (op : Nat → Pl) (ms : Nat → List M) (nodes : Int) (pg : Nat) (own : Bool) (w : World) (hd : Nsm d) (hR : NR w d ⟨(af, cf), fp, (ah, ch), hp, (ao, co), op, ms, (ai0, ci0)⟩) (h1 : nodeOkB d nodes = true) (h2 : pg ≤ 5) (h3 : (d.f pg).q = false) (h4 : lessB (d.f pg).s own = true) (hyes : wOk d nodes pg own = true) :
    Calls Tryz.prog 5 #[.agg #[.int .i64 d.id, .slice af d.nf cf, .slice ah d.nh ch, .slice ao d.no co, .slice ai0 d.ni ci0], .int .i64 nodes, .int .i64 pg, .bool own] w fun e w' => WantP d nodes pg own w e w' := by
  have B := bel_alloc (bel_alloc (Below.refl w.heap.size w) (.cells #[.int .i64 d.id, .slice af d.nf cf, .slice ah d.nh ch, .slice ao d.no co, .slice ai0 d.ni ci0] 34)) (.cells #[.int .i64 0, .slice none 0 0, .slice none 0 0, .slice none 0 0, .slice none 0 0] 34)
  obtain ⟨XP, XR⟩ := Box.two w #[.int .i64 d.id, .slice af d.nf cf, .slice ah d.nh ch, .slice ao d.no co, .slice ai0 d.ni ci0] #[.int .i64 0, .slice none 0 0, .slice none 0 0, .slice none 0 0, .slice none 0 0] 34 34
  have HR : Hid (NR w d ⟨(af, cf), fp, (ah, ch), hp, (ao, co), op, ms, (ai0, ci0)⟩) := hR
  have hR0 := hR.below B
  have HBS : Hid (∀ i, i < d.nh → (d.h i).bs.length ≤ 1048577) := fun i hi => by have := (hd.h.2 i hi).2.1; omega
  have H1 : Hid (nodeOkB d nodes = true) := h1
  have H2 : Hid (decide ((0 : Int) ≤ (pg : Int) ∧ (pg : Int) ≤ 5) = true) := by show _ = _; simp; omega
  have hF := nodeOk_facts h1
  obtain ⟨hF1, hF2, hF3⟩ := hF
  subst hF3
  have hF := nodeOk_facts h1
  obtain ⟨b, off, ha, F0, F1, F2⟩ := hR.f.at (show pg < d.nf by omega)
  replace ha : af = some ⟨b, off, none⟩ := ha
  subst ha
  rw [h3] at F2
  have hbw : b < w.heap.size := lt_of_cell F0
  have hi : (pg : Int) < (d.nf : Int) := by omega
  have HFF : Hid (∀ W, Below w.heap.size w W → W.cell? ⟨b, off + pg * 3, none⟩ = some (.int .i64 (d.f pg).s) ∧ W.cell? ⟨b, off + pg * 3 + 1, none⟩ = some (.slice (fp pg).1 (d.f pg).xs.length (fp pg).2) ∧ W.cell? ⟨b, off + pg * 3 + 2, none⟩ = some (.bool false)) := fun W bb => ⟨(bb.cell (p := ⟨b, off + pg * 3, none⟩) hbw).trans F0, (bb.cell (p := ⟨b, off + pg * 3 + 1, none⟩) hbw).trans F1, (bb.cell (p := ⟨b, off + pg * 3 + 2, none⟩) hbw).trans F2⟩
  have HYES : Hid (wOk d (d.no : Int) pg own = true) := hyes
  have H4 : Hid (lessB (d.f pg).s own = true) := h4
  obtain ⟨di, hdie⟩ : ∃ di, pg % d.no = di := ⟨_, rfl⟩
  have hdi : di < d.no := by rw [← hdie]; exact Nat.mod_lt _ (by omega)
  have HDI : Hid (pg % d.no = di) := hdie
  obtain ⟨bq, oq, hb', G0, G1⟩ := hR.o.at hdi
  replace hb' : ao = some ⟨bq, oq, none⟩ := hb'
  subst hb'
  have hmr := (hR.o.2.2 (di) hdi)
  have hms : MRow w (op (di)).1 (ms (di)) := hmr.1
  have hsay : (ms (di)).map M.say = d.y (di) := hmr.2
  have hyl : (d.y (di)).length = (ms (di)).length := by rw [← hsay, List.length_map]
  have G1' : w.cell? ⟨bq, oq + di * 2 + 1, none⟩ = some (.slice (op (di)).1 (ms (di)).length (op (di)).2) := by rw [← hyl]; exact G1
  have hbq : bq < w.heap.size := lt_of_cell G0
  have HGG : Hid (∀ W, Below w.heap.size w W → W.cell? ⟨bq, oq + di * 2, none⟩ = some (.int .i64 (d.b (di))) ∧ W.cell? ⟨bq, oq + di * 2 + 1, none⟩ = some (.slice (op (di)).1 (ms (di)).length (op (di)).2)) := fun W bb => ⟨(bb.cell (p := ⟨bq, oq + di * 2, none⟩) hbq).trans G0, (bb.cell (p := ⟨bq, oq + di * 2 + 1, none⟩) hbq).trans G1'⟩
  have hml : (ms (di)).length ≤ 1048576 := by have := (hd.o.2 _ hdi).1; omega
  have hmx : ∀ x ∈ ms (di), x.xs.length ≤ 1048577 := hR.msm hd _ hdi
  have HQ : Hid (∀ W, Below w.heap.size w W → Calls Tryz.prog 19 #[.agg #[.int .i64 (d.b (di)), .slice (op (di)).1 (ms (di)).length (op (di)).2], .agg #[.int .i64 (askS pg own).1, .int .i64 pg, .bool false, .slice none 0 0]] W fun e w' => QPost (d.b (di)) (ms (di)) ⟨(askS pg own).1, pg, false, none, 0, []⟩ W e w') := fun W bb =>
    specQueue_any (d.b (di)) (op (di)).1 (op (di)).2 (ms (di)) ⟨(askS pg own).1, pg, false, none, 0, []⟩ W (hms.below bb) hml hmx (by simp) (Row.nil _ _ _)
  have HSQ : Hid (senderB (d.b (di)) (ms (di) ++ [⟨(askS pg own).1, pg, false, none, 0, []⟩]) = askQ d pg own) := by
    show _ = _
    rw [senderB_eq, List.map_append, hsay, ← hdie]
    rfl
  have HSY : Hid ((ms (di)).map M.say = d.y (di)) := hsay
  have hnz : ¬ ((d.no : Int) = 0) := by omega
  have hnz' : ¬ (d.no = 0) := by omega
  have hdi' : (di : Int) < (d.no : Int) := by omega
  have hrm : ((pg : Int)).tmod (d.no : Int) = (di : Int) := by rw [← hdie]; exact (Int.ofNat_tmod pg d.no).symm
  have HF6 : Hid (d.nf = 6) := hF.1
  clear h1 h3 h4 hyes hF hF1 hF2 F0 F1 F2 G0 G1 G1' hdie hms hsay hyl hmr hml hmx
  clear hR
  go_enter Tryz.func5, Tryz.ntmps5
  go_wp2_with fail
  refine (l5Copy_any d ⟨((some ⟨b, off, none⟩), cf), fp, (ah, ch), hp, ((some ⟨bq, oq, none⟩), co), op, ms, (ai0, ci0)⟩ _ hd hR0).mono ?_
  rintro e w1 hC
  obtain ⟨q, rfl, N1, L1, b1⟩ := hC.out
  obtain ⟨⟨qf, kf⟩, qfp, ⟨qh, kh⟩, qhp, ⟨qo, ko⟩, qop, qms, ⟨qi, ki⟩⟩ := q
  have hz1 : w.heap.size + 2 ≤ w1.heap.size := by have := b1.size; simp at this; omega
  have bO := bel_alloc (Below.refl w1.heap.size w1) (.cells #[.int .i64 d.id, .slice qf d.nf kf, .slice qh d.nh kh, .slice qo d.no ko, .slice qi d.ni ki] 34)
  have XO := Box.new w1 #[.int .i64 d.id, .slice qf d.nf kf, .slice qh d.nh kh, .slice qo d.no ko, .slice qi d.ni ki] 34
  replace XP := (XP.below b1).below bO
  replace XR := (XR.below b1).below bO
  replace B := bel_trans (bel_trans B b1) bO
  have HL : Hid (∀ b, NBs d ⟨(qf, kf), qfp, (qh, kh), qhp, (qo, ko), qop, qms, (qi, ki)⟩ b → w.heap.size + 2 ≤ b ∧ b < w1.heap.size) := fun b hb => ⟨by have := L1 b hb; simp at this; omega, N1.lt hb⟩
  replace N1 : NOw (w1.alloc (.cells #[.int .i64 d.id, .slice qf d.nf kf, .slice qh d.nh kh, .slice qo d.no ko, .slice qi d.ni ki] 34)) d ⟨(qf, kf), qfp, (qh, kh), qhp, (qo, ko), qop, qms, (qi, ki)⟩ := N1.below bO
  obtain ⟨p0, p1, p2, p3, p4, pz⟩ := XP.at5
  have hRk := HR.out.below B
  clear hR0 hC L1 b1 bO
  go_wp2_with fail
  refine (specNodeOk_any d ⟨((some ⟨b, off, none⟩), cf), fp, (ah, ch), hp, ((some ⟨bq, oq, none⟩), co), op, ms, (ai0, ci0)⟩ (d.no : Int) _ HBS.out hRk).mono ?_
  rintro e w2 ⟨rfl, b2⟩
  replace XP := XP.below b2
  replace XR := XR.below b2
  replace XO := XO.below b2
  replace N1 := N1.below b2
  replace B := bel_trans B b2
  rw [H1.out]
  clear b2 hRk p0 p1 p2 p3 p4 pz
  go_wp2_with fail
  refine (specIn_any pg 0 5 _).mono ?_
  rintro e w3 ⟨rfl, h3⟩
  subst h3
  rw [H2.out]
  obtain ⟨p0, p1, p2, p3, p4, pz⟩ := XP.at5
  obtain ⟨c0, c1, c2⟩ := HFF.out _ B
  go_wp2_with fail
  refine (l5Less_any (d.f pg).s (.slice (fp pg).1 (d.f pg).xs.length (fp pg).2) false own _).mono ?_
  rintro e w4 ⟨rfl, b3⟩
  replace XP := XP.below b3
  replace XR := XR.below b3
  replace XO := XO.below b3
  replace N1 := N1.below b3
  replace B := bel_trans B b3
  clear b3
  rw [H4.out]
  clear p0 p1 p2 p3 p4 pz c0 c1 c2
  cases own
  · have Hz4 : Hid (w1.heap.size < w4.heap.size) := XO.lt
    have KS : Hid (∀ W, Below w4.heap.size w4 W → (fun w' => w'.cell? ⟨w.heap.size, 3, none⟩ = some (.slice (some ⟨bq, oq, none⟩) d.no co) ∧ w'.cell? ⟨bq, oq + di * 2, none⟩ = some (.int .i64 (d.b (di))) ∧ w'.cell? ⟨bq, oq + di * 2 + 1, none⟩ = some (.slice (op (di)).1 (ms (di)).length (op (di)).2) ∧ w.heap.size < w'.heap.size) W) := fun W bb => ⟨(XP.below bb).cell 3, (HGG.out W (bel_trans B bb)).1, (HGG.out W (bel_trans B bb)).2, (XP.below bb).lt⟩
    have hq0 := HQ.out
    simp only [askS, Bool.false_eq_true, if_false] at hq0
    have HQq : Hid _ := hq0
    clear hq0
    go_wp2_with fail
    refine wp_region_held_drew (S := (fun w' => w'.cell? ⟨w.heap.size, 3, none⟩ = some (.slice (some ⟨bq, oq, none⟩) d.no co) ∧ w'.cell? ⟨bq, oq + di * 2, none⟩ = some (.int .i64 (d.b (di))) ∧ w'.cell? ⟨bq, oq + di * 2 + 1, none⟩ = some (.slice (op (di)).1 (ms (di)).length (op (di)).2) ∧ w.heap.size < w'.heap.size)) (by kernel_rfl) ?_ (fun hHeld => ?_)
    · exact KS.out _ (bel_drew (Below.refl _ _))
    refine wpAnyH_take (i := 0) (oi := { dst := some 46, op := Op.fieldAddr 34 (Operand.tmp 4) 3, type := 0, pos := "l05_node.go:61", after := #[], guard := none }) (v := ?r1_v0) rfl (by kernel_rfl) (by kernel_rfl) (by kernel_rfl) (fun _ _ _ h => h) (Or.inl ⟨by rfl, ?r1_hy0⟩) (by assumption) ?r1_rest0
    case r1_hy0 => intro w hSw; obtain ⟨s0, s1, s2, s3⟩ := hSw; go_simp; try (with_reducible rfl)
    simp only [Act.put, List.setIfInBounds_toArray, List.set_cons_zero, List.set_cons_succ]
    refine wpAnyH_take (i := 1) (oi := { dst := some 47, op := Op.load 31 (Operand.tmp 46), type := 31, pos := "l05_node.go:61", after := #[{ on := 0, ground := Ground.data }], guard := none }) (v := ?r1_v1) rfl (by kernel_rfl) (by kernel_rfl) (by kernel_rfl) (fun _ _ _ h => h) (Or.inl ⟨by rfl, ?r1_hy1⟩) (by assumption) ?r1_rest1
    case r1_hy1 => intro w hSw; obtain ⟨s0, s1, s2, s3⟩ := hSw; go_simp; try (with_reducible rfl)
    simp only [Act.put, List.setIfInBounds_toArray, List.set_cons_zero, List.set_cons_succ]
    refine wpAnyH_take (i := 2) (oi := { dst := some 48, op := Op.move (Operand.tmp 2), type := 3, pos := "l05_node.go:61", after := #[], guard := none }) (v := ?r1_v2) rfl (by kernel_rfl) (by kernel_rfl) (by kernel_rfl) (fun _ _ _ h => h) (Or.inl ⟨by rfl, ?r1_hy2⟩) (by assumption) ?r1_rest2
    case r1_hy2 => intro w hSw; obtain ⟨s0, s1, s2, s3⟩ := hSw; go_simp; try (with_reducible rfl)
    simp only [Act.put, List.setIfInBounds_toArray, List.set_cons_zero, List.set_cons_succ]
    refine wpAnyH_take (i := 3) (oi := { dst := some 49, op := Op.move (Operand.tmp 1), type := 3, pos := "l05_node.go:61", after := #[], guard := none }) (v := ?r1_v3) rfl (by kernel_rfl) (by kernel_rfl) (by kernel_rfl) (fun _ _ _ h => h) (Or.inl ⟨by rfl, ?r1_hy3⟩) (by assumption) ?r1_rest3
    case r1_hy3 => intro w hSw; obtain ⟨s0, s1, s2, s3⟩ := hSw; go_simp; try (with_reducible rfl)
    simp only [Act.put, List.setIfInBounds_toArray, List.set_cons_zero, List.set_cons_succ]
    refine wpAnyH_take (i := 4) (oi := { dst := some 50, op := Op.binOp BinOp.rem 3 (Operand.tmp 48) (Operand.tmp 49) 3, type := 3, pos := "l05_node.go:61", after := #[{ on := 2, ground := Ground.data }, { on := 3, ground := Ground.data }], guard := none }) (v := .int .i64 (di : Int)) rfl (by kernel_rfl) (by kernel_rfl) (by kernel_rfl) (fun _ _ _ h => h) (Or.inl ⟨by rfl, ?r1_hy4⟩) (by assumption) ?r1_rest4
    case r1_hy4 => intro w hSw; obtain ⟨s0, s1, s2, s3⟩ := hSw; go_simp; try exact hrm
    simp only [Act.put, List.setIfInBounds_toArray, List.set_cons_zero, List.set_cons_succ]
    refine wpAnyH_take (i := 5) (oi := { dst := some 51, op := Op.indexAddr 31 (Operand.tmp 47) (Operand.tmp 50), type := 0, pos := "l05_node.go:61", after := #[{ on := 1, ground := Ground.data }, { on := 4, ground := Ground.data }], guard := none }) (v := ?r1_v5) rfl (by kernel_rfl) (by kernel_rfl) (by kernel_rfl) (fun _ _ _ h => h) (Or.inl ⟨by rfl, ?r1_hy5⟩) (by assumption) ?r1_rest5
    case r1_hy5 => intro w hSw; obtain ⟨s0, s1, s2, s3⟩ := hSw; go_simp; try (with_reducible rfl)
    simp only [Act.put, List.setIfInBounds_toArray, List.set_cons_zero, List.set_cons_succ]
    refine wpAnyH_take (i := 6) (oi := { dst := some 52, op := Op.load 54 (Operand.tmp 51), type := 54, pos := "l05_node.go:61", after := #[{ on := 5, ground := Ground.data }], guard := none }) (v := ?r1_v6) rfl (by kernel_rfl) (by kernel_rfl) (by kernel_rfl) (fun _ _ _ h => h) (Or.inl ⟨by rfl, ?r1_hy6⟩) (by assumption) ?r1_rest6
    case r1_hy6 => intro w hSw; obtain ⟨s0, s1, s2, s3⟩ := hSw; go_simp; try (with_reducible rfl)
    simp only [Act.put, List.setIfInBounds_toArray, List.set_cons_zero, List.set_cons_succ]
    refine wpAnyH_take (i := 7) (oi := { dst := some 53, op := Op.move (Operand.tmp 11), type := 3, pos := "l05_node.go:61", after := #[], guard := none }) (v := ?r1_v7) rfl (by kernel_rfl) (by kernel_rfl) (by kernel_rfl) (fun _ _ _ h => h) (Or.inl ⟨by rfl, ?r1_hy7⟩) (by assumption) ?r1_rest7
    case r1_hy7 => intro w hSw; obtain ⟨s0, s1, s2, s3⟩ := hSw; go_simp; try (with_reducible rfl)
    simp only [Act.put, List.setIfInBounds_toArray, List.set_cons_zero, List.set_cons_succ]
    refine wpAnyH_take (i := 8) (oi := { dst := some 54, op := Op.move (Operand.tmp 2), type := 3, pos := "l05_node.go:61", after := #[], guard := none }) (v := ?r1_v8) rfl (by kernel_rfl) (by kernel_rfl) (by kernel_rfl) (fun _ _ _ h => h) (Or.inl ⟨by rfl, ?r1_hy8⟩) (by assumption) ?r1_rest8
    case r1_hy8 => intro w hSw; obtain ⟨s0, s1, s2, s3⟩ := hSw; go_simp; try (with_reducible rfl)
    simp only [Act.put, List.setIfInBounds_toArray, List.set_cons_zero, List.set_cons_succ]
    refine wpAnyH_take (i := 9) (oi := { dst := some 55, op := Op.build 58 #[(0, Operand.tmp 53), (1, Operand.tmp 54)], type := 58, pos := "l05_node.go:61", after := #[{ on := 7, ground := Ground.data }, { on := 8, ground := Ground.data }], guard := none }) (v := ?r1_v9) rfl (by kernel_rfl) (by kernel_rfl) (by kernel_rfl) (fun _ _ _ h => h) (Or.inl ⟨by rfl, ?r1_hy9⟩) (by assumption) ?r1_rest9
    case r1_hy9 => intro w hSw; obtain ⟨s0, s1, s2, s3⟩ := hSw; go_simp; try (with_reducible rfl)
    simp only [Act.put, List.setIfInBounds_toArray, List.set_cons_zero, List.set_cons_succ]
    refine wpAnyH_ready (rs := [10, 14]) (by kernel_rfl) (by simp) ?_
    refine AllReadyH.cons (o := { dst := some 56, op := Op.call { callee := Callee.value (Operand.func 19), args := #[Operand.tmp 52, Operand.tmp 55], argTypes := #[54, 58] }, type := 55, pos := "l05_node.go:61", after := #[{ on := 6, ground := Ground.data }, { on := 9, ground := Ground.data }], guard := none }) rfl (fun K2 hK2 => ?_) (AllReadyH.cons (o := { dst := some 12, op := Op.alloc 54, type := 0, pos := "l05_node.go:61", after := #[], guard := none }) rfl (fun K2 hK2 => ?_) AllReadyH.nil)
    · go_simp
      refine (HQq.out _ (bel_drew B)).mono ?_
      rintro e w5 ⟨a2, c2, ds, rfl, hds, D1, b1⟩
      replace b1 := bel_undrew b1
      go_wp2_with fail
      refine hK2.out _ _ ?_ (fun hHeld2 => ?_)
      · exact KS.out _ b1
      clear hK2 K2 hHeld
      have hHeld := hHeld2
      clear hHeld2
      try simp only [Act.put, List.setIfInBounds_toArray, List.set_cons_zero, List.set_cons_succ]
      refine wpAnyH_take (i := 11) (oi := { dst := some 45, op := Op.move (Operand.tmp 56), type := 55, pos := "l05_node.go:61", after := #[{ on := 10, ground := Ground.data }], guard := none }) (v := ?r2_v11) rfl (by kernel_rfl) (by kernel_rfl) (by kernel_rfl) (fun _ _ _ h => h) (Or.inl ⟨by rfl, ?r2_hy11⟩) (by assumption) ?r2_rest11
      case r2_hy11 => intro w hSw; obtain ⟨s0, s1, s2, s3⟩ := hSw; go_simp; try (with_reducible rfl)
      simp only [Act.put, List.setIfInBounds_toArray, List.set_cons_zero, List.set_cons_succ]
      refine wpAnyH_take (i := 12) (oi := { dst := some 57, op := Op.extract (Operand.tmp 45) 0, type := 54, pos := "l05_node.go:61", after := #[{ on := 11, ground := Ground.data }], guard := none }) (v := ?r2_v12) rfl (by kernel_rfl) (by kernel_rfl) (by kernel_rfl) (fun _ _ _ h => h) (Or.inl ⟨by rfl, ?r2_hy12⟩) (by assumption) ?r2_rest12
      case r2_hy12 => intro w hSw; obtain ⟨s0, s1, s2, s3⟩ := hSw; go_simp; try (with_reducible rfl)
      simp only [Act.put, List.setIfInBounds_toArray, List.set_cons_zero, List.set_cons_succ]
      refine wpAnyH_take (i := 13) (oi := { dst := some 58, op := Op.extract (Operand.tmp 45) 1, type := 4, pos := "l05_node.go:61", after := #[{ on := 11, ground := Ground.data }, { on := 15, ground := Ground.gcOnly Departure.lateStores }], guard := none }) (v := ?r2_v13) rfl (by kernel_rfl) (by kernel_rfl) (by kernel_rfl) (fun _ _ _ h => h) (Or.inl ⟨by rfl, ?r2_hy13⟩) (by assumption) ?r2_rest13
      case r2_hy13 => intro w hSw; obtain ⟨s0, s1, s2, s3⟩ := hSw; go_simp; try (with_reducible rfl)
      simp only [Act.put, List.setIfInBounds_toArray, List.set_cons_zero, List.set_cons_succ]
      refine wpAnyH_ready (rs := [14]) (by kernel_rfl) (by simp) ?_
      refine AllReadyH.cons (o := { dst := some 12, op := Op.alloc 54, type := 0, pos := "l05_node.go:61", after := #[], guard := none }) rfl (fun K2 hK2 => ?_) AllReadyH.nil
      go_simp
      refine hK2.out _ _ ?_ (fun hHeld2 => ?_)
      · exact KS.out _ (bel_alloc b1 _)
      clear hK2 K2 hHeld
      have hHeld := hHeld2
      clear hHeld2
      try simp only [Act.put, List.setIfInBounds_toArray, List.set_cons_zero, List.set_cons_succ]
      refine wpAnyH_ready (rs := [15]) (by kernel_rfl) (by simp) ?_
      refine AllReadyH.cons (o := { dst := none, op := Op.store 54 (Operand.tmp 12) (Operand.tmp 57), type := 0, pos := "l05_node.go:61", after := #[{ on := 14, ground := Ground.data }, { on := 12, ground := Ground.data }, { on := 10, ground := Ground.chain }, { on := 0, ground := Ground.phase }, { on := 1, ground := Ground.phase }, { on := 2, ground := Ground.phase }, { on := 3, ground := Ground.phase }, { on := 4, ground := Ground.phase }, { on := 5, ground := Ground.phase }, { on := 6, ground := Ground.phase }, { on := 7, ground := Ground.phase }, { on := 8, ground := Ground.phase }, { on := 9, ground := Ground.phase }, { on := 10, ground := Ground.phase }, { on := 11, ground := Ground.phase }, { on := 12, ground := Ground.phase }, { on := 13, ground := Ground.textOnly Departure.lateStores }, { on := 14, ground := Ground.phase }], guard := none }) rfl (fun K2 hK2 => ?_) AllReadyH.nil
      go_simp
      refine hK2.out _ _ ?_ (fun hHeld2 => ?_)
      · exact KS.out _ (bel_alloc b1 _)
      clear hK2 K2 hHeld
      have hHeld := hHeld2
      clear hHeld2
      try simp only [Act.put, List.setIfInBounds_toArray, List.set_cons_zero, List.set_cons_succ]
      refine wpAnyH_take (i := 16) (oi := { dst := some 13, op := Op.assign (Operand.tmp 58), type := 4, pos := "l05_node.go:61", after := #[{ on := 13, ground := Ground.data }, { on := 15, ground := Ground.chain }, { on := 0, ground := Ground.phase }, { on := 1, ground := Ground.phase }, { on := 2, ground := Ground.phase }, { on := 3, ground := Ground.phase }, { on := 4, ground := Ground.phase }, { on := 5, ground := Ground.phase }, { on := 6, ground := Ground.phase }, { on := 7, ground := Ground.phase }, { on := 8, ground := Ground.phase }, { on := 9, ground := Ground.phase }, { on := 10, ground := Ground.phase }, { on := 11, ground := Ground.phase }, { on := 12, ground := Ground.phase }, { on := 13, ground := Ground.phase }, { on := 14, ground := Ground.phase }, { on := 15, ground := Ground.phase }], guard := none }) (v := ?r2_v16) rfl (by kernel_rfl) (by kernel_rfl) (by kernel_rfl) (fun _ _ _ h => h) (Or.inl ⟨by rfl, ?r2_hy16⟩) (by assumption) ?r2_rest16
      case r2_hy16 => intro w hSw; obtain ⟨s0, s1, s2, s3⟩ := hSw; go_simp; try (with_reducible rfl)
      simp only [Act.put, List.setIfInBounds_toArray, List.set_cons_zero, List.set_cons_succ]
      refine wpAnyH_done (by kernel_rfl) ?_ _
      have BW := bel_alloc b1 (.cells #[.int .i64 (d.b (di)), .slice a2 ds.length c2] 54)
      have XS2 : Box (w5.alloc (.cells #[.int .i64 (d.b (di)), .slice a2 ds.length c2] 54)) w5.heap.size #[.int .i64 (d.b (di)), .slice a2 ds.length c2] 54 := Box.new w5 _ _
      have D2 : Deep w5 w4.heap.size a2 c2 ds := D1
      have DW := D2.below (bel_alloc (Below.refl w5.heap.size w5) (.cells #[.int .i64 (d.b (di)), .slice a2 ds.length c2] 54))
      have hnb : w4.heap.size ≤ w5.heap.size := b1.size
      clear D1 D2 b1
      obtain ⟨W, hW⟩ : ∃ W, w5.alloc (.cells #[.int .i64 (d.b (di)), .slice a2 ds.length c2] 54) = W := ⟨_, rfl⟩
      rw [hW] at BW XS2 DW hHeld ⊢
      clear hW hHeld
      replace XP := XP.below BW
      replace XR := XR.below BW
      replace XO := XO.below BW
      have N1W := N1.below BW
      have BWW := bel_trans B BW
      have hsq := HSQ.out
      simp only [askS, Bool.false_eq_true, if_false] at hsq
      rw [hsq] at hds ⊢
      cases hq : askQ d pg false
      · obtain ⟨e0, e1, e2, e3, e4, ez⟩ := XO.at5
        obtain ⟨y0, y1, y2, y3, y4, yz⟩ := XR.at5
        have f0 := XR.frozen 0
        have f1 := XR.frozen 1
        have f2 := XR.frozen 2
        have f3 := XR.frozen 3
        have f4 := XR.frozen 4
        have HF : Hid (WantP d (d.no : Int) pg false w (.returned (.tuple #[.agg #[.int .i64 d.id, .slice qf d.nf kf, .slice qh d.nh kh, .slice qo d.no ko, .slice qi d.ni ki], .bool false])) (((((W.setCell ⟨w.heap.size + 1, 0, none⟩ (.int .i64 d.id)).setCell ⟨w.heap.size + 1, 1, none⟩ (.slice qf d.nf kf)).setCell ⟨w.heap.size + 1, 2, none⟩ (.slice qh d.nh kh)).setCell ⟨w.heap.size + 1, 3, none⟩ (.slice qo d.no ko)).setCell ⟨w.heap.size + 1, 4, none⟩ (.slice qi d.ni ki))) := by
          have hw : wantB d (d.no : Int) pg false = false := by unfold wantB; rw [HYES.out]; exact hq
          have on : Only W (((((W.setCell ⟨w.heap.size + 1, 0, none⟩ (.int .i64 d.id)).setCell ⟨w.heap.size + 1, 1, none⟩ (.slice qf d.nf kf)).setCell ⟨w.heap.size + 1, 2, none⟩ (.slice qh d.nh kh)).setCell ⟨w.heap.size + 1, 3, none⟩ (.slice qo d.no ko)).setCell ⟨w.heap.size + 1, 4, none⟩ (.slice qi d.ni ki)) (fun x => x = w.heap.size + 1) := (((((Only.refl W (fun x => x = w.heap.size + 1)).setCell ⟨w.heap.size + 1, 0, none⟩ _ rfl).setCell ⟨w.heap.size + 1, 1, none⟩ _ rfl).setCell ⟨w.heap.size + 1, 2, none⟩ _ rfl).setCell ⟨w.heap.size + 1, 3, none⟩ _ rfl).setCell ⟨w.heap.size + 1, 4, none⟩ _ rfl
          refine ⟨⟨(qf, kf), qfp, (qh, kh), qhp, (qo, ko), qop, qms, (qi, ki)⟩, ?_, ?_, ?_, ?_⟩
          · unfold wantD; rw [hw]; rfl
          · unfold wantD; rw [hw]; exact N1W.sm (on.sm (fun x hx e => by have := HL.out x hx; omega))
          · unfold wantD; rw [hw]; exact fun x hx => by have := HL.out x hx; omega
          · exact lit_bel5 BWW (by omega)
        clear XP XO XR N1W BWW
        go_wp2
        refine bodyPost_ret (v := .tuple #[.agg #[.int .i64 d.id, .slice qf d.nf kf, .slice qh d.nh kh, .slice qo d.no ko, .slice qi d.ni ki], .bool false]) (by simp [results, Tryz.results5, go_sem, y0, y1, y2, y3, y4]) rfl HF.out
      · obtain ⟨gq, hgq⟩ := owns_addr N1.o.row (by omega)
        obtain ⟨gf, hgf⟩ := owns_addr N1.f.row (by omega)
        replace hgq : qo = some ⟨gq, 0, none⟩ := hgq
        replace hgf : qf = some ⟨gf, 0, none⟩ := hgf
        rw [hq] at hds
        simp only [if_true] at hds
        have hds2 : ds.map M.say = d.y (pg % d.no) ++ [askS pg false] := by rw [hds, List.map_append, HSY.out, HDI.out]; rfl
        obtain ⟨op2, ms2, N9, L9⟩ := want_end (own := false) N1 hgf hgq (by omega) (by rw [HDI.out]; exact hdi) BW DW hds2
        rw [HDI.out] at N9
        subst hgf hgq
        have HQT : Hid (askQ d pg false = true) := hq
        have o1 := N1W.o.row
        have z0 := o1.frozenAt (di * 2)
        have z1 := o1.frozenAt (di * 2 + 1)
        obtain ⟨u0, v0⟩ := cellN o1 hdi (t := 0) (by decide)
        obtain ⟨u1, v1⟩ := cellN o1 hdi (t := 1) (by decide)
        rw [Nat.add_zero] at v0
        have hgb := HL.out gq (.inr (.inr (.inl (.inl rfl))))
        have hgc := HL.out gf (.inl (.inl rfl))
        have hne : gf ≠ gq := fun e => N1.fo gf (.inl rfl) (.inl (by rw [e]; rfl))
        obtain ⟨e0, e1, e2, e3, e4, ez⟩ := XO.at5
        obtain ⟨n0, n1, nz⟩ := XS2.at2
        have hwz := BW.size
        have hw14 : w1.heap.size < w4.heap.size := Hz4.out
        have hnbz : w4.heap.size ≤ w5.heap.size := hnb
        have HN9 : Hid (NOw (((W.setCell ⟨gq, di * 2, none⟩ (.int .i64 (d.b (di)))).setCell ⟨gq, di * 2 + 1, none⟩ (.slice a2 ds.length c2)).setCell ⟨gf, pg * 3 + 2, none⟩ (.bool true)) (askD d pg false) ⟨((some ⟨gf, 0, none⟩), kf), qfp, (qh, kh), qhp, ((some ⟨gq, 0, none⟩), ko), op2, ms2, (qi, ki)⟩) := N9
        have HL9 : Hid (∀ x, NBs (askD d pg false) ⟨((some ⟨gf, 0, none⟩), kf), qfp, (qh, kh), qhp, ((some ⟨gq, 0, none⟩), ko), op2, ms2, (qi, ki)⟩ x → NBs d ⟨((some ⟨gf, 0, none⟩), kf), qfp, (qh, kh), qhp, ((some ⟨gq, 0, none⟩), ko), qop, qms, (qi, ki)⟩ x ∨ w4.heap.size ≤ x) := L9
        have HNW : Hid (NOw W d ⟨((some ⟨gf, 0, none⟩), kf), qfp, (qh, kh), qhp, ((some ⟨gq, 0, none⟩), ko), qop, qms, (qi, ki)⟩) := N1W
        have HNN : Hid (NOw w4 d ⟨((some ⟨gf, 0, none⟩), kf), qfp, (qh, kh), qhp, ((some ⟨gq, 0, none⟩), ko), qop, qms, (qi, ki)⟩) := N1
        have HXO : Hid (Box W w1.heap.size #[.int .i64 d.id, .slice (some ⟨gf, 0, none⟩) d.nf kf, .slice qh d.nh kh, .slice (some ⟨gq, 0, none⟩) d.no ko, .slice qi d.ni ki] 34) := XO
        have HXR : Hid (Box W (w.heap.size + 1) #[.int .i64 0, .slice none 0 0, .slice none 0 0, .slice none 0 0, .slice none 0 0] 34) := XR
        have HBW : Hid (Below w.heap.size w W) := BWW
        clear hds hds2 DW N9 L9 N1W N1 XO XR BWW BW XP XS2 hq hnb o1 B
        go_wp2_with fail
        refine wp_region_held_drew (S := (fun w' => w'.cell? ⟨w1.heap.size, 3, none⟩ = some (.slice (some ⟨gq, 0, none⟩) d.no ko) ∧ w'.cell? ⟨w5.heap.size, 0, none⟩ = some (.int .i64 (d.b (di))) ∧ w'.cell? ⟨w5.heap.size, 1, none⟩ = some (.slice a2 ds.length c2) ∧ w1.heap.size < w'.heap.size ∧ w5.heap.size < w'.heap.size)) (by kernel_rfl) ?_ (fun hHeld => ?_)
        · exact ⟨e3, n0, n1, ez, nz⟩
        refine wpAnyH_take (i := 0) (oi := { dst := some 62, op := Op.fieldAddr 34 (Operand.tmp 10) 3, type := 0, pos := "l05_node.go:65", after := #[], guard := none }) (v := ?r3_v0) rfl (by kernel_rfl) (by kernel_rfl) (by kernel_rfl) (fun _ _ _ h => h) (Or.inl ⟨by rfl, ?r3_hy0⟩) (by assumption) ?r3_rest0
        case r3_hy0 => intro w hSw; obtain ⟨r0, r1, r2, r3, r4⟩ := hSw; go_simp; try (with_reducible rfl)
        simp only [Act.put, List.setIfInBounds_toArray, List.set_cons_zero, List.set_cons_succ]
        refine wpAnyH_take (i := 1) (oi := { dst := some 63, op := Op.load 31 (Operand.tmp 62), type := 31, pos := "l05_node.go:65", after := #[{ on := 0, ground := Ground.data }], guard := none }) (v := ?r3_v1) rfl (by kernel_rfl) (by kernel_rfl) (by kernel_rfl) (fun _ _ _ h => h) (Or.inl ⟨by rfl, ?r3_hy1⟩) (by assumption) ?r3_rest1
        case r3_hy1 => intro w hSw; obtain ⟨r0, r1, r2, r3, r4⟩ := hSw; go_simp; try (with_reducible rfl)
        simp only [Act.put, List.setIfInBounds_toArray, List.set_cons_zero, List.set_cons_succ]
        refine wpAnyH_take (i := 2) (oi := { dst := some 64, op := Op.move (Operand.tmp 2), type := 3, pos := "l05_node.go:65", after := #[], guard := none }) (v := ?r3_v2) rfl (by kernel_rfl) (by kernel_rfl) (by kernel_rfl) (fun _ _ _ h => h) (Or.inl ⟨by rfl, ?r3_hy2⟩) (by assumption) ?r3_rest2
        case r3_hy2 => intro w hSw; obtain ⟨r0, r1, r2, r3, r4⟩ := hSw; go_simp; try (with_reducible rfl)
        simp only [Act.put, List.setIfInBounds_toArray, List.set_cons_zero, List.set_cons_succ]
        refine wpAnyH_take (i := 3) (oi := { dst := some 65, op := Op.move (Operand.tmp 1), type := 3, pos := "l05_node.go:65", after := #[], guard := none }) (v := ?r3_v3) rfl (by kernel_rfl) (by kernel_rfl) (by kernel_rfl) (fun _ _ _ h => h) (Or.inl ⟨by rfl, ?r3_hy3⟩) (by assumption) ?r3_rest3
        case r3_hy3 => intro w hSw; obtain ⟨r0, r1, r2, r3, r4⟩ := hSw; go_simp; try (with_reducible rfl)
        simp only [Act.put, List.setIfInBounds_toArray, List.set_cons_zero, List.set_cons_succ]
        refine wpAnyH_take (i := 4) (oi := { dst := some 66, op := Op.binOp BinOp.rem 3 (Operand.tmp 64) (Operand.tmp 65) 3, type := 3, pos := "l05_node.go:65", after := #[{ on := 2, ground := Ground.data }, { on := 3, ground := Ground.data }], guard := none }) (v := .int .i64 (di : Int)) rfl (by kernel_rfl) (by kernel_rfl) (by kernel_rfl) (fun _ _ _ h => h) (Or.inl ⟨by rfl, ?r3_hy4⟩) (by assumption) ?r3_rest4
        case r3_hy4 => intro w hSw; obtain ⟨r0, r1, r2, r3, r4⟩ := hSw; go_simp; try exact hrm
        simp only [Act.put, List.setIfInBounds_toArray, List.set_cons_zero, List.set_cons_succ]
        refine wpAnyH_take (i := 5) (oi := { dst := some 67, op := Op.load 54 (Operand.tmp 12), type := 54, pos := "l05_node.go:65", after := #[], guard := none }) (v := ?r3_v5) rfl (by kernel_rfl) (by kernel_rfl) (by kernel_rfl) (fun _ _ _ h => h) (Or.inl ⟨by rfl, ?r3_hy5⟩) (by assumption) ?r3_rest5
        case r3_hy5 => intro w hSw; obtain ⟨r0, r1, r2, r3, r4⟩ := hSw; go_simp; try (with_reducible rfl)
        simp only [Act.put, List.setIfInBounds_toArray, List.set_cons_zero, List.set_cons_succ]
        refine wpAnyH_take (i := 6) (oi := { dst := some 68, op := Op.indexAddr 31 (Operand.tmp 63) (Operand.tmp 66), type := 0, pos := "l05_node.go:65", after := #[{ on := 1, ground := Ground.data }, { on := 4, ground := Ground.data }, { on := 0, ground := Ground.phase }, { on := 1, ground := Ground.phase }, { on := 2, ground := Ground.phase }, { on := 3, ground := Ground.phase }, { on := 4, ground := Ground.phase }, { on := 5, ground := Ground.phase }], guard := none }) (v := ?r3_v6) rfl (by kernel_rfl) (by kernel_rfl) (by kernel_rfl) (fun _ _ _ h => h) (Or.inl ⟨by rfl, ?r3_hy6⟩) (by assumption) ?r3_rest6
        case r3_hy6 => intro w hSw; obtain ⟨r0, r1, r2, r3, r4⟩ := hSw; go_simp; try (with_reducible rfl)
        simp only [Act.put, List.setIfInBounds_toArray, List.set_cons_zero, List.set_cons_succ]
        refine wpAnyH_ready (rs := [7]) (by kernel_rfl) (by simp) ?_
        refine AllReadyH.cons (o := { dst := none, op := Op.store 54 (Operand.tmp 68) (Operand.tmp 67), type := 0, pos := "l05_node.go:65", after := #[{ on := 6, ground := Ground.data }, { on := 5, ground := Ground.data }, { on := 0, ground := Ground.phase }, { on := 1, ground := Ground.phase }, { on := 2, ground := Ground.phase }, { on := 3, ground := Ground.phase }, { on := 4, ground := Ground.phase }, { on := 5, ground := Ground.phase }], guard := none }) rfl (fun K2 hK2 => ?_) AllReadyH.nil
        go_simp
        refine hK2.out _ _ ?_ (fun hHeld2 => ?_)
        · exact ⟨(World.cell?_setCell_other _ _ _ _ (fun e => by first | (simp at e; done) | (simp at e; omega))).trans ((World.cell?_setCell_other _ _ _ _ (fun e => by first | (simp at e; done) | (simp at e; omega))).trans e3), (World.cell?_setCell_other _ _ _ _ (fun e => by first | (simp at e; done) | (simp at e; omega))).trans ((World.cell?_setCell_other _ _ _ _ (fun e => by first | (simp at e; done) | (simp at e; omega))).trans n0), (World.cell?_setCell_other _ _ _ _ (fun e => by first | (simp at e; done) | (simp at e; omega))).trans ((World.cell?_setCell_other _ _ _ _ (fun e => by first | (simp at e; done) | (simp at e; omega))).trans n1), by simpa using ez, by simpa using nz⟩
        clear hK2 K2 hHeld
        have hHeld := hHeld2
        clear hHeld2
        try simp only [Act.put, List.setIfInBounds_toArray, List.set_cons_zero, List.set_cons_succ]
        refine wpAnyH_done (by kernel_rfl) ?_ _
        have on8 : Only W ((W.setCell ⟨gq, di * 2, none⟩ (.int .i64 (d.b (di)))).setCell ⟨gq, di * 2 + 1, none⟩ (.slice a2 ds.length c2)) (fun x => x = gq) := ((Only.refl W (fun x => x = gq)).setCell ⟨gq, di * 2, none⟩ _ rfl).setCell ⟨gq, di * 2 + 1, none⟩ _ rfl
        have XO8 := HXO.out.only on8 (fun e => by omega)
        have XR8 := HXR.out.only on8 (fun e => by omega)
        have of8 := (Rw.sm HNW.out.f (on8.sm (fun x hx e => by subst e; exact HNN.out.fo x hx (.inl rfl)))).row
        have c9 := owns_chunk of8 (fun i _ => rfl) (show pg < d.nf by have := HF6.out; omega) (j := 2) (by decide)
        simp only [fcells, List.getElem?_cons_zero, List.getElem?_cons_succ] at c9
        have fz9 := of8.frozenAt (pg * 3 + 2)
        have B8 : Below w.heap.size w ((W.setCell ⟨gq, di * 2, none⟩ (.int .i64 (d.b (di)))).setCell ⟨gq, di * 2 + 1, none⟩ (.slice a2 ds.length c2)) := HBW.out.trans ⟨on8.os, on8.tape, on8.output, on8.size, fun i hi => on8.block i (by have := HBW.out.size; omega) (fun e => by omega)⟩
        replace XO8 : Box ((W.setCell ⟨gq, di * 2, none⟩ (.int .i64 (d.b (di)))).setCell ⟨gq, di * 2 + 1, none⟩ (.slice a2 ds.length c2)) w1.heap.size #[.int .i64 d.id, .slice (some ⟨gf, 0, none⟩) d.nf kf, .slice qh d.nh kh, .slice (some ⟨gq, 0, none⟩) d.no ko, .slice qi d.ni ki] 34 := XO8
        replace XR8 : Box ((W.setCell ⟨gq, di * 2, none⟩ (.int .i64 (d.b (di)))).setCell ⟨gq, di * 2 + 1, none⟩ (.slice a2 ds.length c2)) (w.heap.size + 1) #[.int .i64 0, .slice none 0 0, .slice none 0 0, .slice none 0 0, .slice none 0 0] 34 := XR8
        obtain ⟨V8, hV8⟩ : ∃ V, ((W.setCell ⟨gq, di * 2, none⟩ (.int .i64 (d.b (di)))).setCell ⟨gq, di * 2 + 1, none⟩ (.slice a2 ds.length c2)) = V := ⟨_, rfl⟩
        rw [hV8] at HN9 XO8 XR8 c9 fz9 B8 ⊢
        clear hV8 on8 of8 hHeld
        have on9 : Only V8 (V8.setCell ⟨gf, pg * 3 + 2, none⟩ (.bool true)) (fun x => x = gf) := (Only.refl _ (fun x => x = gf)).setCell ⟨gf, pg * 3 + 2, none⟩ _ rfl
        have XO9 := XO8.only on9 (fun e => by omega)
        have XR9 := XR8.only on9 (fun e => by omega)
        have B9 : Below w.heap.size w (V8.setCell ⟨gf, pg * 3 + 2, none⟩ (.bool true)) := B8.trans ⟨on9.os, on9.tape, on9.output, on9.size, fun i hi => on9.block i (by have := B8.size; omega) (fun e => by omega)⟩
        clear e0 e1 e2 e3 e4 ez n0 n1 nz z0 z1 v0 v1
        have e8 : V8.cell? ⟨w1.heap.size, 1, none⟩ = some (.slice (some ⟨gf, 0, none⟩) d.nf kf) := XO8.cell 1
        have ez8 := XO8.lt
        have XO9b : Box (V8.setCell ⟨gf, pg * 3 + 2, none⟩ (.bool true)) w1.heap.size #[.int .i64 d.id, .slice (some ⟨gf, 0, none⟩) d.nf kf, .slice qh d.nh kh, .slice (some ⟨gq, 0, none⟩) d.no ko, .slice qi d.ni ki] 34 := XO9
        have XR9b : Box (V8.setCell ⟨gf, pg * 3 + 2, none⟩ (.bool true)) (w.heap.size + 1) #[.int .i64 0, .slice none 0 0, .slice none 0 0, .slice none 0 0, .slice none 0 0] 34 := XR9
        obtain ⟨e0, e1, e2, e3, e4, ez⟩ := XO9b.at5
        obtain ⟨y0, y1, y2, y3, y4, yz⟩ := XR9b.at5
        have f0 := XR9b.frozen 0
        have f1 := XR9b.frozen 1
        have f2 := XR9b.frozen 2
        have f3 := XR9b.frozen 3
        have f4 := XR9b.frozen 4
        have HF : Hid (WantP d (d.no : Int) pg false w (.returned (.tuple #[.agg #[.int .i64 d.id, .slice (some ⟨gf, 0, none⟩) d.nf kf, .slice qh d.nh kh, .slice (some ⟨gq, 0, none⟩) d.no ko, .slice qi d.ni ki], .bool true])) ((((((V8.setCell ⟨gf, pg * 3 + 2, none⟩ (.bool true)).setCell ⟨w.heap.size + 1, 0, none⟩ (.int .i64 d.id)).setCell ⟨w.heap.size + 1, 1, none⟩ (.slice (some ⟨gf, 0, none⟩) d.nf kf)).setCell ⟨w.heap.size + 1, 2, none⟩ (.slice qh d.nh kh)).setCell ⟨w.heap.size + 1, 3, none⟩ (.slice (some ⟨gq, 0, none⟩) d.no ko)).setCell ⟨w.heap.size + 1, 4, none⟩ (.slice qi d.ni ki))) := by
          have hw : wantB d (d.no : Int) pg false = true := by unfold wantB; rw [HYES.out]; exact HQT.out
          have on : Only (V8.setCell ⟨gf, pg * 3 + 2, none⟩ (.bool true)) ((((((V8.setCell ⟨gf, pg * 3 + 2, none⟩ (.bool true)).setCell ⟨w.heap.size + 1, 0, none⟩ (.int .i64 d.id)).setCell ⟨w.heap.size + 1, 1, none⟩ (.slice (some ⟨gf, 0, none⟩) d.nf kf)).setCell ⟨w.heap.size + 1, 2, none⟩ (.slice qh d.nh kh)).setCell ⟨w.heap.size + 1, 3, none⟩ (.slice (some ⟨gq, 0, none⟩) d.no ko)).setCell ⟨w.heap.size + 1, 4, none⟩ (.slice qi d.ni ki)) (fun x => x = w.heap.size + 1) := (((((Only.refl _ (fun x => x = w.heap.size + 1)).setCell ⟨w.heap.size + 1, 0, none⟩ _ rfl).setCell ⟨w.heap.size + 1, 1, none⟩ _ rfl).setCell ⟨w.heap.size + 1, 2, none⟩ _ rfl).setCell ⟨w.heap.size + 1, 3, none⟩ _ rfl).setCell ⟨w.heap.size + 1, 4, none⟩ _ rfl
          have hlx : ∀ x, NBs (askD d pg false) ⟨((some ⟨gf, 0, none⟩), kf), qfp, (qh, kh), qhp, ((some ⟨gq, 0, none⟩), ko), op2, ms2, (qi, ki)⟩ x → w.heap.size + 2 ≤ x := fun x hx => by
            rcases HL9.out x hx with h | h
            · exact (HL.out x h).1
            · have h7 := hw14; have h8 := hz1; omega
          refine ⟨⟨((some ⟨gf, 0, none⟩), kf), qfp, (qh, kh), qhp, ((some ⟨gq, 0, none⟩), ko), op2, ms2, (qi, ki)⟩, ?_, ?_, ?_, ?_⟩
          · unfold wantD; rw [hw]; rfl
          · unfold wantD; rw [hw]; exact HN9.out.sm (on.sm (fun x hx e => by have := hlx x hx; omega))
          · unfold wantD; rw [hw]; exact fun x hx => by have := hlx x hx; omega
          · exact lit_bel5 B9 (by omega)
        clear on9 XO8 XR8 XO9 XR9 XO9b XR9b B9 B8 HN9 HL9 HNW HNN HXO HXR HBW
        go_wp2
        refine bodyPost_ret (v := .tuple #[.agg #[.int .i64 d.id, .slice (some ⟨gf, 0, none⟩) d.nf kf, .slice qh d.nh kh, .slice (some ⟨gq, 0, none⟩) d.no ko, .slice qi d.ni ki], .bool true]) (by simp [results, Tryz.results5, go_sem, y0, y1, y2, y3, y4]) rfl HF.out.drew
    · go_simp
      refine hK2.out _ _ ?_ (fun hHeld2 => ?_)
      · exact KS.out _ (bel_alloc (bel_drew (Below.refl _ _)) _)
      clear hK2 K2 hHeld
      have hHeld := hHeld2
      clear hHeld2
      try simp only [Act.put, List.setIfInBounds_toArray, List.set_cons_zero, List.set_cons_succ]
      have XS : Box (w4.drew.alloc (.cells #[.int .i64 0, .slice none 0 0] 54)) w4.heap.size #[.int .i64 0, .slice none 0 0] 54 := Box.new w4.drew _ _
      have bz := bel_alloc (bel_drew (Below.refl w4.heap.size w4)) (.cells #[.int .i64 0, .slice none 0 0] 54)
      refine wpAnyH_ready (rs := [10]) (by kernel_rfl) (by simp) ?_
      refine AllReadyH.cons (o := { dst := some 56, op := Op.call { callee := Callee.value (Operand.func 19), args := #[Operand.tmp 52, Operand.tmp 55], argTypes := #[54, 58] }, type := 55, pos := "l05_node.go:61", after := #[{ on := 6, ground := Ground.data }, { on := 9, ground := Ground.data }], guard := none }) rfl (fun K2 hK2 => ?_) AllReadyH.nil
      go_simp
      refine (HQq.out _ (bel_trans B bz)).mono ?_
      rintro e w5 ⟨a2, c2, ds, rfl, hds, D1, b1⟩
      go_wp2_with fail
      refine hK2.out _ _ ?_ (fun hHeld2 => ?_)
      · exact KS.out _ (bel_trans bz b1)
      clear hK2 K2 hHeld
      have hHeld := hHeld2
      clear hHeld2
      try simp only [Act.put, List.setIfInBounds_toArray, List.set_cons_zero, List.set_cons_succ]
      refine wpAnyH_take (i := 11) (oi := { dst := some 45, op := Op.move (Operand.tmp 56), type := 55, pos := "l05_node.go:61", after := #[{ on := 10, ground := Ground.data }], guard := none }) (v := ?r4_v11) rfl (by kernel_rfl) (by kernel_rfl) (by kernel_rfl) (fun _ _ _ h => h) (Or.inl ⟨by rfl, ?r4_hy11⟩) (by assumption) ?r4_rest11
      case r4_hy11 => intro w hSw; obtain ⟨s0, s1, s2, s3⟩ := hSw; go_simp; try (with_reducible rfl)
      simp only [Act.put, List.setIfInBounds_toArray, List.set_cons_zero, List.set_cons_succ]
      refine wpAnyH_take (i := 12) (oi := { dst := some 57, op := Op.extract (Operand.tmp 45) 0, type := 54, pos := "l05_node.go:61", after := #[{ on := 11, ground := Ground.data }], guard := none }) (v := ?r4_v12) rfl (by kernel_rfl) (by kernel_rfl) (by kernel_rfl) (fun _ _ _ h => h) (Or.inl ⟨by rfl, ?r4_hy12⟩) (by assumption) ?r4_rest12
      case r4_hy12 => intro w hSw; obtain ⟨s0, s1, s2, s3⟩ := hSw; go_simp; try (with_reducible rfl)
      simp only [Act.put, List.setIfInBounds_toArray, List.set_cons_zero, List.set_cons_succ]
      refine wpAnyH_take (i := 13) (oi := { dst := some 58, op := Op.extract (Operand.tmp 45) 1, type := 4, pos := "l05_node.go:61", after := #[{ on := 11, ground := Ground.data }, { on := 15, ground := Ground.gcOnly Departure.lateStores }], guard := none }) (v := ?r4_v13) rfl (by kernel_rfl) (by kernel_rfl) (by kernel_rfl) (fun _ _ _ h => h) (Or.inl ⟨by rfl, ?r4_hy13⟩) (by assumption) ?r4_rest13
      case r4_hy13 => intro w hSw; obtain ⟨s0, s1, s2, s3⟩ := hSw; go_simp; try (with_reducible rfl)
      simp only [Act.put, List.setIfInBounds_toArray, List.set_cons_zero, List.set_cons_succ]
      replace XS := XS.below b1
      have bzz := bel_trans bz b1
      obtain ⟨n0, n1, nz⟩ := XS.at2
      have nf0 := XS.frozen 0
      have nf1 := XS.frozen 1
      refine wpAnyH_ready (rs := [15]) (by kernel_rfl) (by simp) ?_
      refine AllReadyH.cons (o := { dst := none, op := Op.store 54 (Operand.tmp 12) (Operand.tmp 57), type := 0, pos := "l05_node.go:61", after := #[{ on := 14, ground := Ground.data }, { on := 12, ground := Ground.data }, { on := 10, ground := Ground.chain }, { on := 0, ground := Ground.phase }, { on := 1, ground := Ground.phase }, { on := 2, ground := Ground.phase }, { on := 3, ground := Ground.phase }, { on := 4, ground := Ground.phase }, { on := 5, ground := Ground.phase }, { on := 6, ground := Ground.phase }, { on := 7, ground := Ground.phase }, { on := 8, ground := Ground.phase }, { on := 9, ground := Ground.phase }, { on := 10, ground := Ground.phase }, { on := 11, ground := Ground.phase }, { on := 12, ground := Ground.phase }, { on := 13, ground := Ground.textOnly Departure.lateStores }, { on := 14, ground := Ground.phase }], guard := none }) rfl (fun K2 hK2 => ?_) AllReadyH.nil
      go_simp
      refine hK2.out _ _ ?_ (fun hHeld2 => ?_)
      · exact KS.out _ (bel_setCell (bel_setCell bzz ⟨w4.heap.size, 0, none⟩ (.int .i64 (d.b (di))) (Nat.le_refl _)) ⟨w4.heap.size, 1, none⟩ (.slice a2 ds.length c2) (Nat.le_refl _))
      clear hK2 K2 hHeld
      have hHeld := hHeld2
      clear hHeld2
      try simp only [Act.put, List.setIfInBounds_toArray, List.set_cons_zero, List.set_cons_succ]
      refine wpAnyH_take (i := 16) (oi := { dst := some 13, op := Op.assign (Operand.tmp 58), type := 4, pos := "l05_node.go:61", after := #[{ on := 13, ground := Ground.data }, { on := 15, ground := Ground.chain }, { on := 0, ground := Ground.phase }, { on := 1, ground := Ground.phase }, { on := 2, ground := Ground.phase }, { on := 3, ground := Ground.phase }, { on := 4, ground := Ground.phase }, { on := 5, ground := Ground.phase }, { on := 6, ground := Ground.phase }, { on := 7, ground := Ground.phase }, { on := 8, ground := Ground.phase }, { on := 9, ground := Ground.phase }, { on := 10, ground := Ground.phase }, { on := 11, ground := Ground.phase }, { on := 12, ground := Ground.phase }, { on := 13, ground := Ground.phase }, { on := 14, ground := Ground.phase }, { on := 15, ground := Ground.phase }], guard := none }) (v := ?r4_v16) rfl (by kernel_rfl) (by kernel_rfl) (by kernel_rfl) (fun _ _ _ h => h) (Or.inl ⟨by rfl, ?r4_hy16⟩) (by assumption) ?r4_rest16
      case r4_hy16 => intro w hSw; obtain ⟨s0, s1, s2, s3⟩ := hSw; go_simp; try (with_reducible rfl)
      simp only [Act.put, List.setIfInBounds_toArray, List.set_cons_zero, List.set_cons_succ]
      refine wpAnyH_done (by kernel_rfl) ?_ _
      have BW := bel_setCell (bel_setCell bzz ⟨w4.heap.size, 0, none⟩ (.int .i64 (d.b (di))) (Nat.le_refl _)) ⟨w4.heap.size, 1, none⟩ (.slice a2 ds.length c2) (Nat.le_refl _)
      have XS2 : Box ((w5.setCell ⟨w4.heap.size, 0, none⟩ (.int .i64 (d.b (di)))).setCell ⟨w4.heap.size, 1, none⟩ (.slice a2 ds.length c2)) w4.heap.size #[.int .i64 (d.b (di)), .slice a2 ds.length c2] 54 := heap_setCell_same _ _ 1 _ _ _ (heap_setCell_same _ _ 0 _ _ _ XS)
      have hlw : ∀ x, (Value.slice a2 ds.length c2).ownBlock = some x → w4.heap.size ≠ x := fun x hx e => by have := (D1.row.lt x hx).1; simp at this; omega
      have hly : ∀ y ∈ ds, ∀ x, y.v.ownBlock = some x → w4.heap.size ≠ x := fun y hy x hx e => by have := (D1.lists.lt hy hx).1; simp at this; omega
      have DW : Deep ((w5.setCell ⟨w4.heap.size, 0, none⟩ (.int .i64 (d.b (di)))).setCell ⟨w4.heap.size, 1, none⟩ (.slice a2 ds.length c2)) w4.heap.size a2 c2 ds := ⟨owns_base (owns_setCell (owns_setCell D1.row hlw _) hlw _) (by simp), ((D1.lists.far _ _ hly).far _ _ hly).base (by simp)⟩
      clear n0 n1 nz nf0 nf1 XS D1 b1 bz bzz hlw hly
      have hnb : w4.heap.size ≤ w4.heap.size := Nat.le_refl _
      obtain ⟨W, hW⟩ : ∃ W, (w5.setCell ⟨w4.heap.size, 0, none⟩ (.int .i64 (d.b (di)))).setCell ⟨w4.heap.size, 1, none⟩ (.slice a2 ds.length c2) = W := ⟨_, rfl⟩
      rw [hW] at BW XS2 DW hHeld ⊢
      clear hW hHeld
      replace XP := XP.below BW
      replace XR := XR.below BW
      replace XO := XO.below BW
      have N1W := N1.below BW
      have BWW := bel_trans B BW
      have hsq := HSQ.out
      simp only [askS, Bool.false_eq_true, if_false] at hsq
      rw [hsq] at hds ⊢
      cases hq : askQ d pg false
      · obtain ⟨e0, e1, e2, e3, e4, ez⟩ := XO.at5
        obtain ⟨y0, y1, y2, y3, y4, yz⟩ := XR.at5
        have f0 := XR.frozen 0
        have f1 := XR.frozen 1
        have f2 := XR.frozen 2
        have f3 := XR.frozen 3
        have f4 := XR.frozen 4
        have HF : Hid (WantP d (d.no : Int) pg false w (.returned (.tuple #[.agg #[.int .i64 d.id, .slice qf d.nf kf, .slice qh d.nh kh, .slice qo d.no ko, .slice qi d.ni ki], .bool false])) (((((W.setCell ⟨w.heap.size + 1, 0, none⟩ (.int .i64 d.id)).setCell ⟨w.heap.size + 1, 1, none⟩ (.slice qf d.nf kf)).setCell ⟨w.heap.size + 1, 2, none⟩ (.slice qh d.nh kh)).setCell ⟨w.heap.size + 1, 3, none⟩ (.slice qo d.no ko)).setCell ⟨w.heap.size + 1, 4, none⟩ (.slice qi d.ni ki))) := by
          have hw : wantB d (d.no : Int) pg false = false := by unfold wantB; rw [HYES.out]; exact hq
          have on : Only W (((((W.setCell ⟨w.heap.size + 1, 0, none⟩ (.int .i64 d.id)).setCell ⟨w.heap.size + 1, 1, none⟩ (.slice qf d.nf kf)).setCell ⟨w.heap.size + 1, 2, none⟩ (.slice qh d.nh kh)).setCell ⟨w.heap.size + 1, 3, none⟩ (.slice qo d.no ko)).setCell ⟨w.heap.size + 1, 4, none⟩ (.slice qi d.ni ki)) (fun x => x = w.heap.size + 1) := (((((Only.refl W (fun x => x = w.heap.size + 1)).setCell ⟨w.heap.size + 1, 0, none⟩ _ rfl).setCell ⟨w.heap.size + 1, 1, none⟩ _ rfl).setCell ⟨w.heap.size + 1, 2, none⟩ _ rfl).setCell ⟨w.heap.size + 1, 3, none⟩ _ rfl).setCell ⟨w.heap.size + 1, 4, none⟩ _ rfl
          refine ⟨⟨(qf, kf), qfp, (qh, kh), qhp, (qo, ko), qop, qms, (qi, ki)⟩, ?_, ?_, ?_, ?_⟩
          · unfold wantD; rw [hw]; rfl
          · unfold wantD; rw [hw]; exact N1W.sm (on.sm (fun x hx e => by have := HL.out x hx; omega))
          · unfold wantD; rw [hw]; exact fun x hx => by have := HL.out x hx; omega
          · exact lit_bel5 BWW (by omega)
        clear XP XO XR N1W BWW
        go_wp2
        refine bodyPost_ret (v := .tuple #[.agg #[.int .i64 d.id, .slice qf d.nf kf, .slice qh d.nh kh, .slice qo d.no ko, .slice qi d.ni ki], .bool false]) (by simp [results, Tryz.results5, go_sem, y0, y1, y2, y3, y4]) rfl HF.out
      · obtain ⟨gq, hgq⟩ := owns_addr N1.o.row (by omega)
        obtain ⟨gf, hgf⟩ := owns_addr N1.f.row (by omega)
        replace hgq : qo = some ⟨gq, 0, none⟩ := hgq
        replace hgf : qf = some ⟨gf, 0, none⟩ := hgf
        rw [hq] at hds
        simp only [if_true] at hds
        have hds2 : ds.map M.say = d.y (pg % d.no) ++ [askS pg false] := by rw [hds, List.map_append, HSY.out, HDI.out]; rfl
        obtain ⟨op2, ms2, N9, L9⟩ := want_end (own := false) N1 hgf hgq (by omega) (by rw [HDI.out]; exact hdi) BW DW hds2
        rw [HDI.out] at N9
        subst hgf hgq
        have HQT : Hid (askQ d pg false = true) := hq
        have o1 := N1W.o.row
        have z0 := o1.frozenAt (di * 2)
        have z1 := o1.frozenAt (di * 2 + 1)
        obtain ⟨u0, v0⟩ := cellN o1 hdi (t := 0) (by decide)
        obtain ⟨u1, v1⟩ := cellN o1 hdi (t := 1) (by decide)
        rw [Nat.add_zero] at v0
        have hgb := HL.out gq (.inr (.inr (.inl (.inl rfl))))
        have hgc := HL.out gf (.inl (.inl rfl))
        have hne : gf ≠ gq := fun e => N1.fo gf (.inl rfl) (.inl (by rw [e]; rfl))
        obtain ⟨e0, e1, e2, e3, e4, ez⟩ := XO.at5
        obtain ⟨n0, n1, nz⟩ := XS2.at2
        have hwz := BW.size
        have hw14 : w1.heap.size < w4.heap.size := Hz4.out
        have hnbz : w4.heap.size ≤ w4.heap.size := hnb
        have HN9 : Hid (NOw (((W.setCell ⟨gq, di * 2, none⟩ (.int .i64 (d.b (di)))).setCell ⟨gq, di * 2 + 1, none⟩ (.slice a2 ds.length c2)).setCell ⟨gf, pg * 3 + 2, none⟩ (.bool true)) (askD d pg false) ⟨((some ⟨gf, 0, none⟩), kf), qfp, (qh, kh), qhp, ((some ⟨gq, 0, none⟩), ko), op2, ms2, (qi, ki)⟩) := N9
        have HL9 : Hid (∀ x, NBs (askD d pg false) ⟨((some ⟨gf, 0, none⟩), kf), qfp, (qh, kh), qhp, ((some ⟨gq, 0, none⟩), ko), op2, ms2, (qi, ki)⟩ x → NBs d ⟨((some ⟨gf, 0, none⟩), kf), qfp, (qh, kh), qhp, ((some ⟨gq, 0, none⟩), ko), qop, qms, (qi, ki)⟩ x ∨ w4.heap.size ≤ x) := L9
        have HNW : Hid (NOw W d ⟨((some ⟨gf, 0, none⟩), kf), qfp, (qh, kh), qhp, ((some ⟨gq, 0, none⟩), ko), qop, qms, (qi, ki)⟩) := N1W
        have HNN : Hid (NOw w4 d ⟨((some ⟨gf, 0, none⟩), kf), qfp, (qh, kh), qhp, ((some ⟨gq, 0, none⟩), ko), qop, qms, (qi, ki)⟩) := N1
        have HXO : Hid (Box W w1.heap.size #[.int .i64 d.id, .slice (some ⟨gf, 0, none⟩) d.nf kf, .slice qh d.nh kh, .slice (some ⟨gq, 0, none⟩) d.no ko, .slice qi d.ni ki] 34) := XO
        have HXR : Hid (Box W (w.heap.size + 1) #[.int .i64 0, .slice none 0 0, .slice none 0 0, .slice none 0 0, .slice none 0 0] 34) := XR
        have HBW : Hid (Below w.heap.size w W) := BWW
        clear hds hds2 DW N9 L9 N1W N1 XO XR BWW BW XP XS2 hq hnb o1 B
        go_wp2_with fail
        refine wp_region_held_drew (S := (fun w' => w'.cell? ⟨w1.heap.size, 3, none⟩ = some (.slice (some ⟨gq, 0, none⟩) d.no ko) ∧ w'.cell? ⟨w4.heap.size, 0, none⟩ = some (.int .i64 (d.b (di))) ∧ w'.cell? ⟨w4.heap.size, 1, none⟩ = some (.slice a2 ds.length c2) ∧ w1.heap.size < w'.heap.size ∧ w4.heap.size < w'.heap.size)) (by kernel_rfl) ?_ (fun hHeld => ?_)
        · exact ⟨e3, n0, n1, ez, nz⟩
        refine wpAnyH_take (i := 0) (oi := { dst := some 62, op := Op.fieldAddr 34 (Operand.tmp 10) 3, type := 0, pos := "l05_node.go:65", after := #[], guard := none }) (v := ?r5_v0) rfl (by kernel_rfl) (by kernel_rfl) (by kernel_rfl) (fun _ _ _ h => h) (Or.inl ⟨by rfl, ?r5_hy0⟩) (by assumption) ?r5_rest0
        case r5_hy0 => intro w hSw; obtain ⟨r0, r1, r2, r3, r4⟩ := hSw; go_simp; try (with_reducible rfl)
        simp only [Act.put, List.setIfInBounds_toArray, List.set_cons_zero, List.set_cons_succ]
        refine wpAnyH_take (i := 1) (oi := { dst := some 63, op := Op.load 31 (Operand.tmp 62), type := 31, pos := "l05_node.go:65", after := #[{ on := 0, ground := Ground.data }], guard := none }) (v := ?r5_v1) rfl (by kernel_rfl) (by kernel_rfl) (by kernel_rfl) (fun _ _ _ h => h) (Or.inl ⟨by rfl, ?r5_hy1⟩) (by assumption) ?r5_rest1
        case r5_hy1 => intro w hSw; obtain ⟨r0, r1, r2, r3, r4⟩ := hSw; go_simp; try (with_reducible rfl)
        simp only [Act.put, List.setIfInBounds_toArray, List.set_cons_zero, List.set_cons_succ]
        refine wpAnyH_take (i := 2) (oi := { dst := some 64, op := Op.move (Operand.tmp 2), type := 3, pos := "l05_node.go:65", after := #[], guard := none }) (v := ?r5_v2) rfl (by kernel_rfl) (by kernel_rfl) (by kernel_rfl) (fun _ _ _ h => h) (Or.inl ⟨by rfl, ?r5_hy2⟩) (by assumption) ?r5_rest2
        case r5_hy2 => intro w hSw; obtain ⟨r0, r1, r2, r3, r4⟩ := hSw; go_simp; try (with_reducible rfl)
        simp only [Act.put, List.setIfInBounds_toArray, List.set_cons_zero, List.set_cons_succ]
        refine wpAnyH_take (i := 3) (oi := { dst := some 65, op := Op.move (Operand.tmp 1), type := 3, pos := "l05_node.go:65", after := #[], guard := none }) (v := ?r5_v3) rfl (by kernel_rfl) (by kernel_rfl) (by kernel_rfl) (fun _ _ _ h => h) (Or.inl ⟨by rfl, ?r5_hy3⟩) (by assumption) ?r5_rest3
        case r5_hy3 => intro w hSw; obtain ⟨r0, r1, r2, r3, r4⟩ := hSw; go_simp; try (with_reducible rfl)
        simp only [Act.put, List.setIfInBounds_toArray, List.set_cons_zero, List.set_cons_succ]
        refine wpAnyH_take (i := 4) (oi := { dst := some 66, op := Op.binOp BinOp.rem 3 (Operand.tmp 64) (Operand.tmp 65) 3, type := 3, pos := "l05_node.go:65", after := #[{ on := 2, ground := Ground.data }, { on := 3, ground := Ground.data }], guard := none }) (v := .int .i64 (di : Int)) rfl (by kernel_rfl) (by kernel_rfl) (by kernel_rfl) (fun _ _ _ h => h) (Or.inl ⟨by rfl, ?r5_hy4⟩) (by assumption) ?r5_rest4
        case r5_hy4 => intro w hSw; obtain ⟨r0, r1, r2, r3, r4⟩ := hSw; go_simp; try exact hrm
        simp only [Act.put, List.setIfInBounds_toArray, List.set_cons_zero, List.set_cons_succ]
        refine wpAnyH_take (i := 5) (oi := { dst := some 67, op := Op.load 54 (Operand.tmp 12), type := 54, pos := "l05_node.go:65", after := #[], guard := none }) (v := ?r5_v5) rfl (by kernel_rfl) (by kernel_rfl) (by kernel_rfl) (fun _ _ _ h => h) (Or.inl ⟨by rfl, ?r5_hy5⟩) (by assumption) ?r5_rest5
        case r5_hy5 => intro w hSw; obtain ⟨r0, r1, r2, r3, r4⟩ := hSw; go_simp; try (with_reducible rfl)
        simp only [Act.put, List.setIfInBounds_toArray, List.set_cons_zero, List.set_cons_succ]
        refine wpAnyH_take (i := 6) (oi := { dst := some 68, op := Op.indexAddr 31 (Operand.tmp 63) (Operand.tmp 66), type := 0, pos := "l05_node.go:65", after := #[{ on := 1, ground := Ground.data }, { on := 4, ground := Ground.data }, { on := 0, ground := Ground.phase }, { on := 1, ground := Ground.phase }, { on := 2, ground := Ground.phase }, { on := 3, ground := Ground.phase }, { on := 4, ground := Ground.phase }, { on := 5, ground := Ground.phase }], guard := none }) (v := ?r5_v6) rfl (by kernel_rfl) (by kernel_rfl) (by kernel_rfl) (fun _ _ _ h => h) (Or.inl ⟨by rfl, ?r5_hy6⟩) (by assumption) ?r5_rest6
        case r5_hy6 => intro w hSw; obtain ⟨r0, r1, r2, r3, r4⟩ := hSw; go_simp; try (with_reducible rfl)
        simp only [Act.put, List.setIfInBounds_toArray, List.set_cons_zero, List.set_cons_succ]
        refine wpAnyH_ready (rs := [7]) (by kernel_rfl) (by simp) ?_
        refine AllReadyH.cons (o := { dst := none, op := Op.store 54 (Operand.tmp 68) (Operand.tmp 67), type := 0, pos := "l05_node.go:65", after := #[{ on := 6, ground := Ground.data }, { on := 5, ground := Ground.data }, { on := 0, ground := Ground.phase }, { on := 1, ground := Ground.phase }, { on := 2, ground := Ground.phase }, { on := 3, ground := Ground.phase }, { on := 4, ground := Ground.phase }, { on := 5, ground := Ground.phase }], guard := none }) rfl (fun K2 hK2 => ?_) AllReadyH.nil
        go_simp
        refine hK2.out _ _ ?_ (fun hHeld2 => ?_)
        · exact ⟨(World.cell?_setCell_other _ _ _ _ (fun e => by first | (simp at e; done) | (simp at e; omega))).trans ((World.cell?_setCell_other _ _ _ _ (fun e => by first | (simp at e; done) | (simp at e; omega))).trans e3), (World.cell?_setCell_other _ _ _ _ (fun e => by first | (simp at e; done) | (simp at e; omega))).trans ((World.cell?_setCell_other _ _ _ _ (fun e => by first | (simp at e; done) | (simp at e; omega))).trans n0), (World.cell?_setCell_other _ _ _ _ (fun e => by first | (simp at e; done) | (simp at e; omega))).trans ((World.cell?_setCell_other _ _ _ _ (fun e => by first | (simp at e; done) | (simp at e; omega))).trans n1), by simpa using ez, by simpa using nz⟩
        clear hK2 K2 hHeld
        have hHeld := hHeld2
        clear hHeld2
        try simp only [Act.put, List.setIfInBounds_toArray, List.set_cons_zero, List.set_cons_succ]
        refine wpAnyH_done (by kernel_rfl) ?_ _
        have on8 : Only W ((W.setCell ⟨gq, di * 2, none⟩ (.int .i64 (d.b (di)))).setCell ⟨gq, di * 2 + 1, none⟩ (.slice a2 ds.length c2)) (fun x => x = gq) := ((Only.refl W (fun x => x = gq)).setCell ⟨gq, di * 2, none⟩ _ rfl).setCell ⟨gq, di * 2 + 1, none⟩ _ rfl
        have XO8 := HXO.out.only on8 (fun e => by omega)
        have XR8 := HXR.out.only on8 (fun e => by omega)
        have of8 := (Rw.sm HNW.out.f (on8.sm (fun x hx e => by subst e; exact HNN.out.fo x hx (.inl rfl)))).row
        have c9 := owns_chunk of8 (fun i _ => rfl) (show pg < d.nf by have := HF6.out; omega) (j := 2) (by decide)
        simp only [fcells, List.getElem?_cons_zero, List.getElem?_cons_succ] at c9
        have fz9 := of8.frozenAt (pg * 3 + 2)
        have B8 : Below w.heap.size w ((W.setCell ⟨gq, di * 2, none⟩ (.int .i64 (d.b (di)))).setCell ⟨gq, di * 2 + 1, none⟩ (.slice a2 ds.length c2)) := HBW.out.trans ⟨on8.os, on8.tape, on8.output, on8.size, fun i hi => on8.block i (by have := HBW.out.size; omega) (fun e => by omega)⟩
        replace XO8 : Box ((W.setCell ⟨gq, di * 2, none⟩ (.int .i64 (d.b (di)))).setCell ⟨gq, di * 2 + 1, none⟩ (.slice a2 ds.length c2)) w1.heap.size #[.int .i64 d.id, .slice (some ⟨gf, 0, none⟩) d.nf kf, .slice qh d.nh kh, .slice (some ⟨gq, 0, none⟩) d.no ko, .slice qi d.ni ki] 34 := XO8
        replace XR8 : Box ((W.setCell ⟨gq, di * 2, none⟩ (.int .i64 (d.b (di)))).setCell ⟨gq, di * 2 + 1, none⟩ (.slice a2 ds.length c2)) (w.heap.size + 1) #[.int .i64 0, .slice none 0 0, .slice none 0 0, .slice none 0 0, .slice none 0 0] 34 := XR8
        obtain ⟨V8, hV8⟩ : ∃ V, ((W.setCell ⟨gq, di * 2, none⟩ (.int .i64 (d.b (di)))).setCell ⟨gq, di * 2 + 1, none⟩ (.slice a2 ds.length c2)) = V := ⟨_, rfl⟩
        rw [hV8] at HN9 XO8 XR8 c9 fz9 B8 ⊢
        clear hV8 on8 of8 hHeld
        have on9 : Only V8 (V8.setCell ⟨gf, pg * 3 + 2, none⟩ (.bool true)) (fun x => x = gf) := (Only.refl _ (fun x => x = gf)).setCell ⟨gf, pg * 3 + 2, none⟩ _ rfl
        have XO9 := XO8.only on9 (fun e => by omega)
        have XR9 := XR8.only on9 (fun e => by omega)
        have B9 : Below w.heap.size w (V8.setCell ⟨gf, pg * 3 + 2, none⟩ (.bool true)) := B8.trans ⟨on9.os, on9.tape, on9.output, on9.size, fun i hi => on9.block i (by have := B8.size; omega) (fun e => by omega)⟩
        clear e0 e1 e2 e3 e4 ez n0 n1 nz z0 z1 v0 v1
        have e8 : V8.cell? ⟨w1.heap.size, 1, none⟩ = some (.slice (some ⟨gf, 0, none⟩) d.nf kf) := XO8.cell 1
        have ez8 := XO8.lt
        have XO9b : Box (V8.setCell ⟨gf, pg * 3 + 2, none⟩ (.bool true)) w1.heap.size #[.int .i64 d.id, .slice (some ⟨gf, 0, none⟩) d.nf kf, .slice qh d.nh kh, .slice (some ⟨gq, 0, none⟩) d.no ko, .slice qi d.ni ki] 34 := XO9
        have XR9b : Box (V8.setCell ⟨gf, pg * 3 + 2, none⟩ (.bool true)) (w.heap.size + 1) #[.int .i64 0, .slice none 0 0, .slice none 0 0, .slice none 0 0, .slice none 0 0] 34 := XR9
        obtain ⟨e0, e1, e2, e3, e4, ez⟩ := XO9b.at5
        obtain ⟨y0, y1, y2, y3, y4, yz⟩ := XR9b.at5
        have f0 := XR9b.frozen 0
        have f1 := XR9b.frozen 1
        have f2 := XR9b.frozen 2
        have f3 := XR9b.frozen 3
        have f4 := XR9b.frozen 4
        have HF : Hid (WantP d (d.no : Int) pg false w (.returned (.tuple #[.agg #[.int .i64 d.id, .slice (some ⟨gf, 0, none⟩) d.nf kf, .slice qh d.nh kh, .slice (some ⟨gq, 0, none⟩) d.no ko, .slice qi d.ni ki], .bool true])) ((((((V8.setCell ⟨gf, pg * 3 + 2, none⟩ (.bool true)).setCell ⟨w.heap.size + 1, 0, none⟩ (.int .i64 d.id)).setCell ⟨w.heap.size + 1, 1, none⟩ (.slice (some ⟨gf, 0, none⟩) d.nf kf)).setCell ⟨w.heap.size + 1, 2, none⟩ (.slice qh d.nh kh)).setCell ⟨w.heap.size + 1, 3, none⟩ (.slice (some ⟨gq, 0, none⟩) d.no ko)).setCell ⟨w.heap.size + 1, 4, none⟩ (.slice qi d.ni ki))) := by
          have hw : wantB d (d.no : Int) pg false = true := by unfold wantB; rw [HYES.out]; exact HQT.out
          have on : Only (V8.setCell ⟨gf, pg * 3 + 2, none⟩ (.bool true)) ((((((V8.setCell ⟨gf, pg * 3 + 2, none⟩ (.bool true)).setCell ⟨w.heap.size + 1, 0, none⟩ (.int .i64 d.id)).setCell ⟨w.heap.size + 1, 1, none⟩ (.slice (some ⟨gf, 0, none⟩) d.nf kf)).setCell ⟨w.heap.size + 1, 2, none⟩ (.slice qh d.nh kh)).setCell ⟨w.heap.size + 1, 3, none⟩ (.slice (some ⟨gq, 0, none⟩) d.no ko)).setCell ⟨w.heap.size + 1, 4, none⟩ (.slice qi d.ni ki)) (fun x => x = w.heap.size + 1) := (((((Only.refl _ (fun x => x = w.heap.size + 1)).setCell ⟨w.heap.size + 1, 0, none⟩ _ rfl).setCell ⟨w.heap.size + 1, 1, none⟩ _ rfl).setCell ⟨w.heap.size + 1, 2, none⟩ _ rfl).setCell ⟨w.heap.size + 1, 3, none⟩ _ rfl).setCell ⟨w.heap.size + 1, 4, none⟩ _ rfl
          have hlx : ∀ x, NBs (askD d pg false) ⟨((some ⟨gf, 0, none⟩), kf), qfp, (qh, kh), qhp, ((some ⟨gq, 0, none⟩), ko), op2, ms2, (qi, ki)⟩ x → w.heap.size + 2 ≤ x := fun x hx => by
            rcases HL9.out x hx with h | h
            · exact (HL.out x h).1
            · have h7 := hw14; have h8 := hz1; omega
          refine ⟨⟨((some ⟨gf, 0, none⟩), kf), qfp, (qh, kh), qhp, ((some ⟨gq, 0, none⟩), ko), op2, ms2, (qi, ki)⟩, ?_, ?_, ?_, ?_⟩
          · unfold wantD; rw [hw]; rfl
          · unfold wantD; rw [hw]; exact HN9.out.sm (on.sm (fun x hx e => by have := hlx x hx; omega))
          · unfold wantD; rw [hw]; exact fun x hx => by have := hlx x hx; omega
          · exact lit_bel5 B9 (by omega)
        clear on9 XO8 XR8 XO9 XR9 XO9b XR9b B9 B8 HN9 HL9 HNW HNN HXO HXR HBW
        go_wp2
        refine bodyPost_ret (v := .tuple #[.agg #[.int .i64 d.id, .slice (some ⟨gf, 0, none⟩) d.nf kf, .slice qh d.nh kh, .slice (some ⟨gq, 0, none⟩) d.no ko, .slice qi d.ni ki], .bool true]) (by simp [results, Tryz.results5, go_sem, y0, y1, y2, y3, y4]) rfl HF.out.drew
  · have Hz4 : Hid (w1.heap.size < w4.heap.size) := XO.lt
    have KS : Hid (∀ W, Below w4.heap.size w4 W → (fun w' => w'.cell? ⟨w.heap.size, 3, none⟩ = some (.slice (some ⟨bq, oq, none⟩) d.no co) ∧ w'.cell? ⟨bq, oq + di * 2, none⟩ = some (.int .i64 (d.b (di))) ∧ w'.cell? ⟨bq, oq + di * 2 + 1, none⟩ = some (.slice (op (di)).1 (ms (di)).length (op (di)).2) ∧ w.heap.size < w'.heap.size) W) := fun W bb => ⟨(XP.below bb).cell 3, (HGG.out W (bel_trans B bb)).1, (HGG.out W (bel_trans B bb)).2, (XP.below bb).lt⟩
    have hq0 := HQ.out
    simp only [askS, if_true] at hq0
    have HQq : Hid _ := hq0
    clear hq0
    go_wp2_with fail
    refine wp_region_held_drew (S := (fun w' => w'.cell? ⟨w.heap.size, 3, none⟩ = some (.slice (some ⟨bq, oq, none⟩) d.no co) ∧ w'.cell? ⟨bq, oq + di * 2, none⟩ = some (.int .i64 (d.b (di))) ∧ w'.cell? ⟨bq, oq + di * 2 + 1, none⟩ = some (.slice (op (di)).1 (ms (di)).length (op (di)).2) ∧ w.heap.size < w'.heap.size)) (by kernel_rfl) ?_ (fun hHeld => ?_)
    · exact KS.out _ (bel_drew (Below.refl _ _))
    refine wpAnyH_take (i := 0) (oi := { dst := some 46, op := Op.fieldAddr 34 (Operand.tmp 4) 3, type := 0, pos := "l05_node.go:61", after := #[], guard := none }) (v := ?r6_v0) rfl (by kernel_rfl) (by kernel_rfl) (by kernel_rfl) (fun _ _ _ h => h) (Or.inl ⟨by rfl, ?r6_hy0⟩) (by assumption) ?r6_rest0
    case r6_hy0 => intro w hSw; obtain ⟨s0, s1, s2, s3⟩ := hSw; go_simp; try (with_reducible rfl)
    simp only [Act.put, List.setIfInBounds_toArray, List.set_cons_zero, List.set_cons_succ]
    refine wpAnyH_take (i := 1) (oi := { dst := some 47, op := Op.load 31 (Operand.tmp 46), type := 31, pos := "l05_node.go:61", after := #[{ on := 0, ground := Ground.data }], guard := none }) (v := ?r6_v1) rfl (by kernel_rfl) (by kernel_rfl) (by kernel_rfl) (fun _ _ _ h => h) (Or.inl ⟨by rfl, ?r6_hy1⟩) (by assumption) ?r6_rest1
    case r6_hy1 => intro w hSw; obtain ⟨s0, s1, s2, s3⟩ := hSw; go_simp; try (with_reducible rfl)
    simp only [Act.put, List.setIfInBounds_toArray, List.set_cons_zero, List.set_cons_succ]
    refine wpAnyH_take (i := 2) (oi := { dst := some 48, op := Op.move (Operand.tmp 2), type := 3, pos := "l05_node.go:61", after := #[], guard := none }) (v := ?r6_v2) rfl (by kernel_rfl) (by kernel_rfl) (by kernel_rfl) (fun _ _ _ h => h) (Or.inl ⟨by rfl, ?r6_hy2⟩) (by assumption) ?r6_rest2
    case r6_hy2 => intro w hSw; obtain ⟨s0, s1, s2, s3⟩ := hSw; go_simp; try (with_reducible rfl)
    simp only [Act.put, List.setIfInBounds_toArray, List.set_cons_zero, List.set_cons_succ]
    refine wpAnyH_take (i := 3) (oi := { dst := some 49, op := Op.move (Operand.tmp 1), type := 3, pos := "l05_node.go:61", after := #[], guard := none }) (v := ?r6_v3) rfl (by kernel_rfl) (by kernel_rfl) (by kernel_rfl) (fun _ _ _ h => h) (Or.inl ⟨by rfl, ?r6_hy3⟩) (by assumption) ?r6_rest3
    case r6_hy3 => intro w hSw; obtain ⟨s0, s1, s2, s3⟩ := hSw; go_simp; try (with_reducible rfl)
    simp only [Act.put, List.setIfInBounds_toArray, List.set_cons_zero, List.set_cons_succ]
    refine wpAnyH_take (i := 4) (oi := { dst := some 50, op := Op.binOp BinOp.rem 3 (Operand.tmp 48) (Operand.tmp 49) 3, type := 3, pos := "l05_node.go:61", after := #[{ on := 2, ground := Ground.data }, { on := 3, ground := Ground.data }], guard := none }) (v := .int .i64 (di : Int)) rfl (by kernel_rfl) (by kernel_rfl) (by kernel_rfl) (fun _ _ _ h => h) (Or.inl ⟨by rfl, ?r6_hy4⟩) (by assumption) ?r6_rest4
    case r6_hy4 => intro w hSw; obtain ⟨s0, s1, s2, s3⟩ := hSw; go_simp; try exact hrm
    simp only [Act.put, List.setIfInBounds_toArray, List.set_cons_zero, List.set_cons_succ]
    refine wpAnyH_take (i := 5) (oi := { dst := some 51, op := Op.indexAddr 31 (Operand.tmp 47) (Operand.tmp 50), type := 0, pos := "l05_node.go:61", after := #[{ on := 1, ground := Ground.data }, { on := 4, ground := Ground.data }], guard := none }) (v := ?r6_v5) rfl (by kernel_rfl) (by kernel_rfl) (by kernel_rfl) (fun _ _ _ h => h) (Or.inl ⟨by rfl, ?r6_hy5⟩) (by assumption) ?r6_rest5
    case r6_hy5 => intro w hSw; obtain ⟨s0, s1, s2, s3⟩ := hSw; go_simp; try (with_reducible rfl)
    simp only [Act.put, List.setIfInBounds_toArray, List.set_cons_zero, List.set_cons_succ]
    refine wpAnyH_take (i := 6) (oi := { dst := some 52, op := Op.load 54 (Operand.tmp 51), type := 54, pos := "l05_node.go:61", after := #[{ on := 5, ground := Ground.data }], guard := none }) (v := ?r6_v6) rfl (by kernel_rfl) (by kernel_rfl) (by kernel_rfl) (fun _ _ _ h => h) (Or.inl ⟨by rfl, ?r6_hy6⟩) (by assumption) ?r6_rest6
    case r6_hy6 => intro w hSw; obtain ⟨s0, s1, s2, s3⟩ := hSw; go_simp; try (with_reducible rfl)
    simp only [Act.put, List.setIfInBounds_toArray, List.set_cons_zero, List.set_cons_succ]
    refine wpAnyH_take (i := 7) (oi := { dst := some 53, op := Op.move (Operand.tmp 11), type := 3, pos := "l05_node.go:61", after := #[], guard := none }) (v := ?r6_v7) rfl (by kernel_rfl) (by kernel_rfl) (by kernel_rfl) (fun _ _ _ h => h) (Or.inl ⟨by rfl, ?r6_hy7⟩) (by assumption) ?r6_rest7
    case r6_hy7 => intro w hSw; obtain ⟨s0, s1, s2, s3⟩ := hSw; go_simp; try (with_reducible rfl)
    simp only [Act.put, List.setIfInBounds_toArray, List.set_cons_zero, List.set_cons_succ]
    refine wpAnyH_take (i := 8) (oi := { dst := some 54, op := Op.move (Operand.tmp 2), type := 3, pos := "l05_node.go:61", after := #[], guard := none }) (v := ?r6_v8) rfl (by kernel_rfl) (by kernel_rfl) (by kernel_rfl) (fun _ _ _ h => h) (Or.inl ⟨by rfl, ?r6_hy8⟩) (by assumption) ?r6_rest8
    case r6_hy8 => intro w hSw; obtain ⟨s0, s1, s2, s3⟩ := hSw; go_simp; try (with_reducible rfl)
    simp only [Act.put, List.setIfInBounds_toArray, List.set_cons_zero, List.set_cons_succ]
    refine wpAnyH_take (i := 9) (oi := { dst := some 55, op := Op.build 58 #[(0, Operand.tmp 53), (1, Operand.tmp 54)], type := 58, pos := "l05_node.go:61", after := #[{ on := 7, ground := Ground.data }, { on := 8, ground := Ground.data }], guard := none }) (v := ?r6_v9) rfl (by kernel_rfl) (by kernel_rfl) (by kernel_rfl) (fun _ _ _ h => h) (Or.inl ⟨by rfl, ?r6_hy9⟩) (by assumption) ?r6_rest9
    case r6_hy9 => intro w hSw; obtain ⟨s0, s1, s2, s3⟩ := hSw; go_simp; try (with_reducible rfl)
    simp only [Act.put, List.setIfInBounds_toArray, List.set_cons_zero, List.set_cons_succ]
    refine wpAnyH_ready (rs := [10, 14]) (by kernel_rfl) (by simp) ?_
    refine AllReadyH.cons (o := { dst := some 56, op := Op.call { callee := Callee.value (Operand.func 19), args := #[Operand.tmp 52, Operand.tmp 55], argTypes := #[54, 58] }, type := 55, pos := "l05_node.go:61", after := #[{ on := 6, ground := Ground.data }, { on := 9, ground := Ground.data }], guard := none }) rfl (fun K2 hK2 => ?_) (AllReadyH.cons (o := { dst := some 12, op := Op.alloc 54, type := 0, pos := "l05_node.go:61", after := #[], guard := none }) rfl (fun K2 hK2 => ?_) AllReadyH.nil)
    · go_simp
      refine (HQq.out _ (bel_drew B)).mono ?_
      rintro e w5 ⟨a2, c2, ds, rfl, hds, D1, b1⟩
      replace b1 := bel_undrew b1
      go_wp2_with fail
      refine hK2.out _ _ ?_ (fun hHeld2 => ?_)
      · exact KS.out _ b1
      clear hK2 K2 hHeld
      have hHeld := hHeld2
      clear hHeld2
      try simp only [Act.put, List.setIfInBounds_toArray, List.set_cons_zero, List.set_cons_succ]
      refine wpAnyH_take (i := 11) (oi := { dst := some 45, op := Op.move (Operand.tmp 56), type := 55, pos := "l05_node.go:61", after := #[{ on := 10, ground := Ground.data }], guard := none }) (v := ?r7_v11) rfl (by kernel_rfl) (by kernel_rfl) (by kernel_rfl) (fun _ _ _ h => h) (Or.inl ⟨by rfl, ?r7_hy11⟩) (by assumption) ?r7_rest11
      case r7_hy11 => intro w hSw; obtain ⟨s0, s1, s2, s3⟩ := hSw; go_simp; try (with_reducible rfl)
      simp only [Act.put, List.setIfInBounds_toArray, List.set_cons_zero, List.set_cons_succ]
      refine wpAnyH_take (i := 12) (oi := { dst := some 57, op := Op.extract (Operand.tmp 45) 0, type := 54, pos := "l05_node.go:61", after := #[{ on := 11, ground := Ground.data }], guard := none }) (v := ?r7_v12) rfl (by kernel_rfl) (by kernel_rfl) (by kernel_rfl) (fun _ _ _ h => h) (Or.inl ⟨by rfl, ?r7_hy12⟩) (by assumption) ?r7_rest12
      case r7_hy12 => intro w hSw; obtain ⟨s0, s1, s2, s3⟩ := hSw; go_simp; try (with_reducible rfl)
      simp only [Act.put, List.setIfInBounds_toArray, List.set_cons_zero, List.set_cons_succ]
      refine wpAnyH_take (i := 13) (oi := { dst := some 58, op := Op.extract (Operand.tmp 45) 1, type := 4, pos := "l05_node.go:61", after := #[{ on := 11, ground := Ground.data }, { on := 15, ground := Ground.gcOnly Departure.lateStores }], guard := none }) (v := ?r7_v13) rfl (by kernel_rfl) (by kernel_rfl) (by kernel_rfl) (fun _ _ _ h => h) (Or.inl ⟨by rfl, ?r7_hy13⟩) (by assumption) ?r7_rest13
      case r7_hy13 => intro w hSw; obtain ⟨s0, s1, s2, s3⟩ := hSw; go_simp; try (with_reducible rfl)
      simp only [Act.put, List.setIfInBounds_toArray, List.set_cons_zero, List.set_cons_succ]
      refine wpAnyH_ready (rs := [14]) (by kernel_rfl) (by simp) ?_
      refine AllReadyH.cons (o := { dst := some 12, op := Op.alloc 54, type := 0, pos := "l05_node.go:61", after := #[], guard := none }) rfl (fun K2 hK2 => ?_) AllReadyH.nil
      go_simp
      refine hK2.out _ _ ?_ (fun hHeld2 => ?_)
      · exact KS.out _ (bel_alloc b1 _)
      clear hK2 K2 hHeld
      have hHeld := hHeld2
      clear hHeld2
      try simp only [Act.put, List.setIfInBounds_toArray, List.set_cons_zero, List.set_cons_succ]
      refine wpAnyH_ready (rs := [15]) (by kernel_rfl) (by simp) ?_
      refine AllReadyH.cons (o := { dst := none, op := Op.store 54 (Operand.tmp 12) (Operand.tmp 57), type := 0, pos := "l05_node.go:61", after := #[{ on := 14, ground := Ground.data }, { on := 12, ground := Ground.data }, { on := 10, ground := Ground.chain }, { on := 0, ground := Ground.phase }, { on := 1, ground := Ground.phase }, { on := 2, ground := Ground.phase }, { on := 3, ground := Ground.phase }, { on := 4, ground := Ground.phase }, { on := 5, ground := Ground.phase }, { on := 6, ground := Ground.phase }, { on := 7, ground := Ground.phase }, { on := 8, ground := Ground.phase }, { on := 9, ground := Ground.phase }, { on := 10, ground := Ground.phase }, { on := 11, ground := Ground.phase }, { on := 12, ground := Ground.phase }, { on := 13, ground := Ground.textOnly Departure.lateStores }, { on := 14, ground := Ground.phase }], guard := none }) rfl (fun K2 hK2 => ?_) AllReadyH.nil
      go_simp
      refine hK2.out _ _ ?_ (fun hHeld2 => ?_)
      · exact KS.out _ (bel_alloc b1 _)
      clear hK2 K2 hHeld
      have hHeld := hHeld2
      clear hHeld2
      try simp only [Act.put, List.setIfInBounds_toArray, List.set_cons_zero, List.set_cons_succ]
      refine wpAnyH_take (i := 16) (oi := { dst := some 13, op := Op.assign (Operand.tmp 58), type := 4, pos := "l05_node.go:61", after := #[{ on := 13, ground := Ground.data }, { on := 15, ground := Ground.chain }, { on := 0, ground := Ground.phase }, { on := 1, ground := Ground.phase }, { on := 2, ground := Ground.phase }, { on := 3, ground := Ground.phase }, { on := 4, ground := Ground.phase }, { on := 5, ground := Ground.phase }, { on := 6, ground := Ground.phase }, { on := 7, ground := Ground.phase }, { on := 8, ground := Ground.phase }, { on := 9, ground := Ground.phase }, { on := 10, ground := Ground.phase }, { on := 11, ground := Ground.phase }, { on := 12, ground := Ground.phase }, { on := 13, ground := Ground.phase }, { on := 14, ground := Ground.phase }, { on := 15, ground := Ground.phase }], guard := none }) (v := ?r7_v16) rfl (by kernel_rfl) (by kernel_rfl) (by kernel_rfl) (fun _ _ _ h => h) (Or.inl ⟨by rfl, ?r7_hy16⟩) (by assumption) ?r7_rest16
      case r7_hy16 => intro w hSw; obtain ⟨s0, s1, s2, s3⟩ := hSw; go_simp; try (with_reducible rfl)
      simp only [Act.put, List.setIfInBounds_toArray, List.set_cons_zero, List.set_cons_succ]
      refine wpAnyH_done (by kernel_rfl) ?_ _
      have BW := bel_alloc b1 (.cells #[.int .i64 (d.b (di)), .slice a2 ds.length c2] 54)
      have XS2 : Box (w5.alloc (.cells #[.int .i64 (d.b (di)), .slice a2 ds.length c2] 54)) w5.heap.size #[.int .i64 (d.b (di)), .slice a2 ds.length c2] 54 := Box.new w5 _ _
      have D2 : Deep w5 w4.heap.size a2 c2 ds := D1
      have DW := D2.below (bel_alloc (Below.refl w5.heap.size w5) (.cells #[.int .i64 (d.b (di)), .slice a2 ds.length c2] 54))
      have hnb : w4.heap.size ≤ w5.heap.size := b1.size
      clear D1 D2 b1
      obtain ⟨W, hW⟩ : ∃ W, w5.alloc (.cells #[.int .i64 (d.b (di)), .slice a2 ds.length c2] 54) = W := ⟨_, rfl⟩
      rw [hW] at BW XS2 DW hHeld ⊢
      clear hW hHeld
      replace XP := XP.below BW
      replace XR := XR.below BW
      replace XO := XO.below BW
      have N1W := N1.below BW
      have BWW := bel_trans B BW
      have hsq := HSQ.out
      simp only [askS, if_true] at hsq
      rw [hsq] at hds ⊢
      cases hq : askQ d pg true
      · obtain ⟨e0, e1, e2, e3, e4, ez⟩ := XO.at5
        obtain ⟨y0, y1, y2, y3, y4, yz⟩ := XR.at5
        have f0 := XR.frozen 0
        have f1 := XR.frozen 1
        have f2 := XR.frozen 2
        have f3 := XR.frozen 3
        have f4 := XR.frozen 4
        have HF : Hid (WantP d (d.no : Int) pg true w (.returned (.tuple #[.agg #[.int .i64 d.id, .slice qf d.nf kf, .slice qh d.nh kh, .slice qo d.no ko, .slice qi d.ni ki], .bool false])) (((((W.setCell ⟨w.heap.size + 1, 0, none⟩ (.int .i64 d.id)).setCell ⟨w.heap.size + 1, 1, none⟩ (.slice qf d.nf kf)).setCell ⟨w.heap.size + 1, 2, none⟩ (.slice qh d.nh kh)).setCell ⟨w.heap.size + 1, 3, none⟩ (.slice qo d.no ko)).setCell ⟨w.heap.size + 1, 4, none⟩ (.slice qi d.ni ki))) := by
          have hw : wantB d (d.no : Int) pg true = false := by unfold wantB; rw [HYES.out]; exact hq
          have on : Only W (((((W.setCell ⟨w.heap.size + 1, 0, none⟩ (.int .i64 d.id)).setCell ⟨w.heap.size + 1, 1, none⟩ (.slice qf d.nf kf)).setCell ⟨w.heap.size + 1, 2, none⟩ (.slice qh d.nh kh)).setCell ⟨w.heap.size + 1, 3, none⟩ (.slice qo d.no ko)).setCell ⟨w.heap.size + 1, 4, none⟩ (.slice qi d.ni ki)) (fun x => x = w.heap.size + 1) := (((((Only.refl W (fun x => x = w.heap.size + 1)).setCell ⟨w.heap.size + 1, 0, none⟩ _ rfl).setCell ⟨w.heap.size + 1, 1, none⟩ _ rfl).setCell ⟨w.heap.size + 1, 2, none⟩ _ rfl).setCell ⟨w.heap.size + 1, 3, none⟩ _ rfl).setCell ⟨w.heap.size + 1, 4, none⟩ _ rfl
          refine ⟨⟨(qf, kf), qfp, (qh, kh), qhp, (qo, ko), qop, qms, (qi, ki)⟩, ?_, ?_, ?_, ?_⟩
          · unfold wantD; rw [hw]; rfl
          · unfold wantD; rw [hw]; exact N1W.sm (on.sm (fun x hx e => by have := HL.out x hx; omega))
          · unfold wantD; rw [hw]; exact fun x hx => by have := HL.out x hx; omega
          · exact lit_bel5 BWW (by omega)
        clear XP XO XR N1W BWW
        go_wp2
        refine bodyPost_ret (v := .tuple #[.agg #[.int .i64 d.id, .slice qf d.nf kf, .slice qh d.nh kh, .slice qo d.no ko, .slice qi d.ni ki], .bool false]) (by simp [results, Tryz.results5, go_sem, y0, y1, y2, y3, y4]) rfl HF.out
      · obtain ⟨gq, hgq⟩ := owns_addr N1.o.row (by omega)
        obtain ⟨gf, hgf⟩ := owns_addr N1.f.row (by omega)
        replace hgq : qo = some ⟨gq, 0, none⟩ := hgq
        replace hgf : qf = some ⟨gf, 0, none⟩ := hgf
        rw [hq] at hds
        simp only [if_true] at hds
        have hds2 : ds.map M.say = d.y (pg % d.no) ++ [askS pg true] := by rw [hds, List.map_append, HSY.out, HDI.out]; rfl
        obtain ⟨op2, ms2, N9, L9⟩ := want_end (own := true) N1 hgf hgq (by omega) (by rw [HDI.out]; exact hdi) BW DW hds2
        rw [HDI.out] at N9
        subst hgf hgq
        have HQT : Hid (askQ d pg true = true) := hq
        have o1 := N1W.o.row
        have z0 := o1.frozenAt (di * 2)
        have z1 := o1.frozenAt (di * 2 + 1)
        obtain ⟨u0, v0⟩ := cellN o1 hdi (t := 0) (by decide)
        obtain ⟨u1, v1⟩ := cellN o1 hdi (t := 1) (by decide)
        rw [Nat.add_zero] at v0
        have hgb := HL.out gq (.inr (.inr (.inl (.inl rfl))))
        have hgc := HL.out gf (.inl (.inl rfl))
        have hne : gf ≠ gq := fun e => N1.fo gf (.inl rfl) (.inl (by rw [e]; rfl))
        obtain ⟨e0, e1, e2, e3, e4, ez⟩ := XO.at5
        obtain ⟨n0, n1, nz⟩ := XS2.at2
        have hwz := BW.size
        have hw14 : w1.heap.size < w4.heap.size := Hz4.out
        have hnbz : w4.heap.size ≤ w5.heap.size := hnb
        have HN9 : Hid (NOw (((W.setCell ⟨gq, di * 2, none⟩ (.int .i64 (d.b (di)))).setCell ⟨gq, di * 2 + 1, none⟩ (.slice a2 ds.length c2)).setCell ⟨gf, pg * 3 + 2, none⟩ (.bool true)) (askD d pg true) ⟨((some ⟨gf, 0, none⟩), kf), qfp, (qh, kh), qhp, ((some ⟨gq, 0, none⟩), ko), op2, ms2, (qi, ki)⟩) := N9
        have HL9 : Hid (∀ x, NBs (askD d pg true) ⟨((some ⟨gf, 0, none⟩), kf), qfp, (qh, kh), qhp, ((some ⟨gq, 0, none⟩), ko), op2, ms2, (qi, ki)⟩ x → NBs d ⟨((some ⟨gf, 0, none⟩), kf), qfp, (qh, kh), qhp, ((some ⟨gq, 0, none⟩), ko), qop, qms, (qi, ki)⟩ x ∨ w4.heap.size ≤ x) := L9
        have HNW : Hid (NOw W d ⟨((some ⟨gf, 0, none⟩), kf), qfp, (qh, kh), qhp, ((some ⟨gq, 0, none⟩), ko), qop, qms, (qi, ki)⟩) := N1W
        have HNN : Hid (NOw w4 d ⟨((some ⟨gf, 0, none⟩), kf), qfp, (qh, kh), qhp, ((some ⟨gq, 0, none⟩), ko), qop, qms, (qi, ki)⟩) := N1
        have HXO : Hid (Box W w1.heap.size #[.int .i64 d.id, .slice (some ⟨gf, 0, none⟩) d.nf kf, .slice qh d.nh kh, .slice (some ⟨gq, 0, none⟩) d.no ko, .slice qi d.ni ki] 34) := XO
        have HXR : Hid (Box W (w.heap.size + 1) #[.int .i64 0, .slice none 0 0, .slice none 0 0, .slice none 0 0, .slice none 0 0] 34) := XR
        have HBW : Hid (Below w.heap.size w W) := BWW
        clear hds hds2 DW N9 L9 N1W N1 XO XR BWW BW XP XS2 hq hnb o1 B
        go_wp2_with fail
        refine wp_region_held_drew (S := (fun w' => w'.cell? ⟨w1.heap.size, 3, none⟩ = some (.slice (some ⟨gq, 0, none⟩) d.no ko) ∧ w'.cell? ⟨w5.heap.size, 0, none⟩ = some (.int .i64 (d.b (di))) ∧ w'.cell? ⟨w5.heap.size, 1, none⟩ = some (.slice a2 ds.length c2) ∧ w1.heap.size < w'.heap.size ∧ w5.heap.size < w'.heap.size)) (by kernel_rfl) ?_ (fun hHeld => ?_)
        · exact ⟨e3, n0, n1, ez, nz⟩
        refine wpAnyH_take (i := 0) (oi := { dst := some 62, op := Op.fieldAddr 34 (Operand.tmp 10) 3, type := 0, pos := "l05_node.go:65", after := #[], guard := none }) (v := ?r8_v0) rfl (by kernel_rfl) (by kernel_rfl) (by kernel_rfl) (fun _ _ _ h => h) (Or.inl ⟨by rfl, ?r8_hy0⟩) (by assumption) ?r8_rest0
        case r8_hy0 => intro w hSw; obtain ⟨r0, r1, r2, r3, r4⟩ := hSw; go_simp; try (with_reducible rfl)
        simp only [Act.put, List.setIfInBounds_toArray, List.set_cons_zero, List.set_cons_succ]
        refine wpAnyH_take (i := 1) (oi := { dst := some 63, op := Op.load 31 (Operand.tmp 62), type := 31, pos := "l05_node.go:65", after := #[{ on := 0, ground := Ground.data }], guard := none }) (v := ?r8_v1) rfl (by kernel_rfl) (by kernel_rfl) (by kernel_rfl) (fun _ _ _ h => h) (Or.inl ⟨by rfl, ?r8_hy1⟩) (by assumption) ?r8_rest1
        case r8_hy1 => intro w hSw; obtain ⟨r0, r1, r2, r3, r4⟩ := hSw; go_simp; try (with_reducible rfl)
        simp only [Act.put, List.setIfInBounds_toArray, List.set_cons_zero, List.set_cons_succ]
        refine wpAnyH_take (i := 2) (oi := { dst := some 64, op := Op.move (Operand.tmp 2), type := 3, pos := "l05_node.go:65", after := #[], guard := none }) (v := ?r8_v2) rfl (by kernel_rfl) (by kernel_rfl) (by kernel_rfl) (fun _ _ _ h => h) (Or.inl ⟨by rfl, ?r8_hy2⟩) (by assumption) ?r8_rest2
        case r8_hy2 => intro w hSw; obtain ⟨r0, r1, r2, r3, r4⟩ := hSw; go_simp; try (with_reducible rfl)
        simp only [Act.put, List.setIfInBounds_toArray, List.set_cons_zero, List.set_cons_succ]
        refine wpAnyH_take (i := 3) (oi := { dst := some 65, op := Op.move (Operand.tmp 1), type := 3, pos := "l05_node.go:65", after := #[], guard := none }) (v := ?r8_v3) rfl (by kernel_rfl) (by kernel_rfl) (by kernel_rfl) (fun _ _ _ h => h) (Or.inl ⟨by rfl, ?r8_hy3⟩) (by assumption) ?r8_rest3
        case r8_hy3 => intro w hSw; obtain ⟨r0, r1, r2, r3, r4⟩ := hSw; go_simp; try (with_reducible rfl)
        simp only [Act.put, List.setIfInBounds_toArray, List.set_cons_zero, List.set_cons_succ]
        refine wpAnyH_take (i := 4) (oi := { dst := some 66, op := Op.binOp BinOp.rem 3 (Operand.tmp 64) (Operand.tmp 65) 3, type := 3, pos := "l05_node.go:65", after := #[{ on := 2, ground := Ground.data }, { on := 3, ground := Ground.data }], guard := none }) (v := .int .i64 (di : Int)) rfl (by kernel_rfl) (by kernel_rfl) (by kernel_rfl) (fun _ _ _ h => h) (Or.inl ⟨by rfl, ?r8_hy4⟩) (by assumption) ?r8_rest4
        case r8_hy4 => intro w hSw; obtain ⟨r0, r1, r2, r3, r4⟩ := hSw; go_simp; try exact hrm
        simp only [Act.put, List.setIfInBounds_toArray, List.set_cons_zero, List.set_cons_succ]
        refine wpAnyH_take (i := 5) (oi := { dst := some 67, op := Op.load 54 (Operand.tmp 12), type := 54, pos := "l05_node.go:65", after := #[], guard := none }) (v := ?r8_v5) rfl (by kernel_rfl) (by kernel_rfl) (by kernel_rfl) (fun _ _ _ h => h) (Or.inl ⟨by rfl, ?r8_hy5⟩) (by assumption) ?r8_rest5
        case r8_hy5 => intro w hSw; obtain ⟨r0, r1, r2, r3, r4⟩ := hSw; go_simp; try (with_reducible rfl)
        simp only [Act.put, List.setIfInBounds_toArray, List.set_cons_zero, List.set_cons_succ]
        refine wpAnyH_take (i := 6) (oi := { dst := some 68, op := Op.indexAddr 31 (Operand.tmp 63) (Operand.tmp 66), type := 0, pos := "l05_node.go:65", after := #[{ on := 1, ground := Ground.data }, { on := 4, ground := Ground.data }, { on := 0, ground := Ground.phase }, { on := 1, ground := Ground.phase }, { on := 2, ground := Ground.phase }, { on := 3, ground := Ground.phase }, { on := 4, ground := Ground.phase }, { on := 5, ground := Ground.phase }], guard := none }) (v := ?r8_v6) rfl (by kernel_rfl) (by kernel_rfl) (by kernel_rfl) (fun _ _ _ h => h) (Or.inl ⟨by rfl, ?r8_hy6⟩) (by assumption) ?r8_rest6
        case r8_hy6 => intro w hSw; obtain ⟨r0, r1, r2, r3, r4⟩ := hSw; go_simp; try (with_reducible rfl)
        simp only [Act.put, List.setIfInBounds_toArray, List.set_cons_zero, List.set_cons_succ]
        refine wpAnyH_ready (rs := [7]) (by kernel_rfl) (by simp) ?_
        refine AllReadyH.cons (o := { dst := none, op := Op.store 54 (Operand.tmp 68) (Operand.tmp 67), type := 0, pos := "l05_node.go:65", after := #[{ on := 6, ground := Ground.data }, { on := 5, ground := Ground.data }, { on := 0, ground := Ground.phase }, { on := 1, ground := Ground.phase }, { on := 2, ground := Ground.phase }, { on := 3, ground := Ground.phase }, { on := 4, ground := Ground.phase }, { on := 5, ground := Ground.phase }], guard := none }) rfl (fun K2 hK2 => ?_) AllReadyH.nil
        go_simp
        refine hK2.out _ _ ?_ (fun hHeld2 => ?_)
        · exact ⟨(World.cell?_setCell_other _ _ _ _ (fun e => by first | (simp at e; done) | (simp at e; omega))).trans ((World.cell?_setCell_other _ _ _ _ (fun e => by first | (simp at e; done) | (simp at e; omega))).trans e3), (World.cell?_setCell_other _ _ _ _ (fun e => by first | (simp at e; done) | (simp at e; omega))).trans ((World.cell?_setCell_other _ _ _ _ (fun e => by first | (simp at e; done) | (simp at e; omega))).trans n0), (World.cell?_setCell_other _ _ _ _ (fun e => by first | (simp at e; done) | (simp at e; omega))).trans ((World.cell?_setCell_other _ _ _ _ (fun e => by first | (simp at e; done) | (simp at e; omega))).trans n1), by simpa using ez, by simpa using nz⟩
        clear hK2 K2 hHeld
        have hHeld := hHeld2
        clear hHeld2
        try simp only [Act.put, List.setIfInBounds_toArray, List.set_cons_zero, List.set_cons_succ]
        refine wpAnyH_done (by kernel_rfl) ?_ _
        have on8 : Only W ((W.setCell ⟨gq, di * 2, none⟩ (.int .i64 (d.b (di)))).setCell ⟨gq, di * 2 + 1, none⟩ (.slice a2 ds.length c2)) (fun x => x = gq) := ((Only.refl W (fun x => x = gq)).setCell ⟨gq, di * 2, none⟩ _ rfl).setCell ⟨gq, di * 2 + 1, none⟩ _ rfl
        have XO8 := HXO.out.only on8 (fun e => by omega)
        have XR8 := HXR.out.only on8 (fun e => by omega)
        have of8 := (Rw.sm HNW.out.f (on8.sm (fun x hx e => by subst e; exact HNN.out.fo x hx (.inl rfl)))).row
        have c9 := owns_chunk of8 (fun i _ => rfl) (show pg < d.nf by have := HF6.out; omega) (j := 2) (by decide)
        simp only [fcells, List.getElem?_cons_zero, List.getElem?_cons_succ] at c9
        have fz9 := of8.frozenAt (pg * 3 + 2)
        have B8 : Below w.heap.size w ((W.setCell ⟨gq, di * 2, none⟩ (.int .i64 (d.b (di)))).setCell ⟨gq, di * 2 + 1, none⟩ (.slice a2 ds.length c2)) := HBW.out.trans ⟨on8.os, on8.tape, on8.output, on8.size, fun i hi => on8.block i (by have := HBW.out.size; omega) (fun e => by omega)⟩
        replace XO8 : Box ((W.setCell ⟨gq, di * 2, none⟩ (.int .i64 (d.b (di)))).setCell ⟨gq, di * 2 + 1, none⟩ (.slice a2 ds.length c2)) w1.heap.size #[.int .i64 d.id, .slice (some ⟨gf, 0, none⟩) d.nf kf, .slice qh d.nh kh, .slice (some ⟨gq, 0, none⟩) d.no ko, .slice qi d.ni ki] 34 := XO8
        replace XR8 : Box ((W.setCell ⟨gq, di * 2, none⟩ (.int .i64 (d.b (di)))).setCell ⟨gq, di * 2 + 1, none⟩ (.slice a2 ds.length c2)) (w.heap.size + 1) #[.int .i64 0, .slice none 0 0, .slice none 0 0, .slice none 0 0, .slice none 0 0] 34 := XR8
        obtain ⟨V8, hV8⟩ : ∃ V, ((W.setCell ⟨gq, di * 2, none⟩ (.int .i64 (d.b (di)))).setCell ⟨gq, di * 2 + 1, none⟩ (.slice a2 ds.length c2)) = V := ⟨_, rfl⟩
        rw [hV8] at HN9 XO8 XR8 c9 fz9 B8 ⊢
        clear hV8 on8 of8 hHeld
        have on9 : Only V8 (V8.setCell ⟨gf, pg * 3 + 2, none⟩ (.bool true)) (fun x => x = gf) := (Only.refl _ (fun x => x = gf)).setCell ⟨gf, pg * 3 + 2, none⟩ _ rfl
        have XO9 := XO8.only on9 (fun e => by omega)
        have XR9 := XR8.only on9 (fun e => by omega)
        have B9 : Below w.heap.size w (V8.setCell ⟨gf, pg * 3 + 2, none⟩ (.bool true)) := B8.trans ⟨on9.os, on9.tape, on9.output, on9.size, fun i hi => on9.block i (by have := B8.size; omega) (fun e => by omega)⟩
        clear e0 e1 e2 e3 e4 ez n0 n1 nz z0 z1 v0 v1
        have e8 : V8.cell? ⟨w1.heap.size, 1, none⟩ = some (.slice (some ⟨gf, 0, none⟩) d.nf kf) := XO8.cell 1
        have ez8 := XO8.lt
        have XO9b : Box (V8.setCell ⟨gf, pg * 3 + 2, none⟩ (.bool true)) w1.heap.size #[.int .i64 d.id, .slice (some ⟨gf, 0, none⟩) d.nf kf, .slice qh d.nh kh, .slice (some ⟨gq, 0, none⟩) d.no ko, .slice qi d.ni ki] 34 := XO9
        have XR9b : Box (V8.setCell ⟨gf, pg * 3 + 2, none⟩ (.bool true)) (w.heap.size + 1) #[.int .i64 0, .slice none 0 0, .slice none 0 0, .slice none 0 0, .slice none 0 0] 34 := XR9
        obtain ⟨e0, e1, e2, e3, e4, ez⟩ := XO9b.at5
        obtain ⟨y0, y1, y2, y3, y4, yz⟩ := XR9b.at5
        have f0 := XR9b.frozen 0
        have f1 := XR9b.frozen 1
        have f2 := XR9b.frozen 2
        have f3 := XR9b.frozen 3
        have f4 := XR9b.frozen 4
        have HF : Hid (WantP d (d.no : Int) pg true w (.returned (.tuple #[.agg #[.int .i64 d.id, .slice (some ⟨gf, 0, none⟩) d.nf kf, .slice qh d.nh kh, .slice (some ⟨gq, 0, none⟩) d.no ko, .slice qi d.ni ki], .bool true])) ((((((V8.setCell ⟨gf, pg * 3 + 2, none⟩ (.bool true)).setCell ⟨w.heap.size + 1, 0, none⟩ (.int .i64 d.id)).setCell ⟨w.heap.size + 1, 1, none⟩ (.slice (some ⟨gf, 0, none⟩) d.nf kf)).setCell ⟨w.heap.size + 1, 2, none⟩ (.slice qh d.nh kh)).setCell ⟨w.heap.size + 1, 3, none⟩ (.slice (some ⟨gq, 0, none⟩) d.no ko)).setCell ⟨w.heap.size + 1, 4, none⟩ (.slice qi d.ni ki))) := by
          have hw : wantB d (d.no : Int) pg true = true := by unfold wantB; rw [HYES.out]; exact HQT.out
          have on : Only (V8.setCell ⟨gf, pg * 3 + 2, none⟩ (.bool true)) ((((((V8.setCell ⟨gf, pg * 3 + 2, none⟩ (.bool true)).setCell ⟨w.heap.size + 1, 0, none⟩ (.int .i64 d.id)).setCell ⟨w.heap.size + 1, 1, none⟩ (.slice (some ⟨gf, 0, none⟩) d.nf kf)).setCell ⟨w.heap.size + 1, 2, none⟩ (.slice qh d.nh kh)).setCell ⟨w.heap.size + 1, 3, none⟩ (.slice (some ⟨gq, 0, none⟩) d.no ko)).setCell ⟨w.heap.size + 1, 4, none⟩ (.slice qi d.ni ki)) (fun x => x = w.heap.size + 1) := (((((Only.refl _ (fun x => x = w.heap.size + 1)).setCell ⟨w.heap.size + 1, 0, none⟩ _ rfl).setCell ⟨w.heap.size + 1, 1, none⟩ _ rfl).setCell ⟨w.heap.size + 1, 2, none⟩ _ rfl).setCell ⟨w.heap.size + 1, 3, none⟩ _ rfl).setCell ⟨w.heap.size + 1, 4, none⟩ _ rfl
          have hlx : ∀ x, NBs (askD d pg true) ⟨((some ⟨gf, 0, none⟩), kf), qfp, (qh, kh), qhp, ((some ⟨gq, 0, none⟩), ko), op2, ms2, (qi, ki)⟩ x → w.heap.size + 2 ≤ x := fun x hx => by
            rcases HL9.out x hx with h | h
            · exact (HL.out x h).1
            · have h7 := hw14; have h8 := hz1; omega
          refine ⟨⟨((some ⟨gf, 0, none⟩), kf), qfp, (qh, kh), qhp, ((some ⟨gq, 0, none⟩), ko), op2, ms2, (qi, ki)⟩, ?_, ?_, ?_, ?_⟩
          · unfold wantD; rw [hw]; rfl
          · unfold wantD; rw [hw]; exact HN9.out.sm (on.sm (fun x hx e => by have := hlx x hx; omega))
          · unfold wantD; rw [hw]; exact fun x hx => by have := hlx x hx; omega
          · exact lit_bel5 B9 (by omega)
        clear on9 XO8 XR8 XO9 XR9 XO9b XR9b B9 B8 HN9 HL9 HNW HNN HXO HXR HBW
        go_wp2
        refine bodyPost_ret (v := .tuple #[.agg #[.int .i64 d.id, .slice (some ⟨gf, 0, none⟩) d.nf kf, .slice qh d.nh kh, .slice (some ⟨gq, 0, none⟩) d.no ko, .slice qi d.ni ki], .bool true]) (by simp [results, Tryz.results5, go_sem, y0, y1, y2, y3, y4]) rfl HF.out.drew
    · go_simp
      refine hK2.out _ _ ?_ (fun hHeld2 => ?_)
      · exact KS.out _ (bel_alloc (bel_drew (Below.refl _ _)) _)
      clear hK2 K2 hHeld
      have hHeld := hHeld2
      clear hHeld2
      try simp only [Act.put, List.setIfInBounds_toArray, List.set_cons_zero, List.set_cons_succ]
      have XS : Box (w4.drew.alloc (.cells #[.int .i64 0, .slice none 0 0] 54)) w4.heap.size #[.int .i64 0, .slice none 0 0] 54 := Box.new w4.drew _ _
      have bz := bel_alloc (bel_drew (Below.refl w4.heap.size w4)) (.cells #[.int .i64 0, .slice none 0 0] 54)
      refine wpAnyH_ready (rs := [10]) (by kernel_rfl) (by simp) ?_
      refine AllReadyH.cons (o := { dst := some 56, op := Op.call { callee := Callee.value (Operand.func 19), args := #[Operand.tmp 52, Operand.tmp 55], argTypes := #[54, 58] }, type := 55, pos := "l05_node.go:61", after := #[{ on := 6, ground := Ground.data }, { on := 9, ground := Ground.data }], guard := none }) rfl (fun K2 hK2 => ?_) AllReadyH.nil
      go_simp
      refine (HQq.out _ (bel_trans B bz)).mono ?_
      rintro e w5 ⟨a2, c2, ds, rfl, hds, D1, b1⟩
      go_wp2_with fail
      refine hK2.out _ _ ?_ (fun hHeld2 => ?_)
      · exact KS.out _ (bel_trans bz b1)
      clear hK2 K2 hHeld
      have hHeld := hHeld2
      clear hHeld2
      try simp only [Act.put, List.setIfInBounds_toArray, List.set_cons_zero, List.set_cons_succ]
      refine wpAnyH_take (i := 11) (oi := { dst := some 45, op := Op.move (Operand.tmp 56), type := 55, pos := "l05_node.go:61", after := #[{ on := 10, ground := Ground.data }], guard := none }) (v := ?r9_v11) rfl (by kernel_rfl) (by kernel_rfl) (by kernel_rfl) (fun _ _ _ h => h) (Or.inl ⟨by rfl, ?r9_hy11⟩) (by assumption) ?r9_rest11
      case r9_hy11 => intro w hSw; obtain ⟨s0, s1, s2, s3⟩ := hSw; go_simp; try (with_reducible rfl)
      simp only [Act.put, List.setIfInBounds_toArray, List.set_cons_zero, List.set_cons_succ]
      refine wpAnyH_take (i := 12) (oi := { dst := some 57, op := Op.extract (Operand.tmp 45) 0, type := 54, pos := "l05_node.go:61", after := #[{ on := 11, ground := Ground.data }], guard := none }) (v := ?r9_v12) rfl (by kernel_rfl) (by kernel_rfl) (by kernel_rfl) (fun _ _ _ h => h) (Or.inl ⟨by rfl, ?r9_hy12⟩) (by assumption) ?r9_rest12
      case r9_hy12 => intro w hSw; obtain ⟨s0, s1, s2, s3⟩ := hSw; go_simp; try (with_reducible rfl)
      simp only [Act.put, List.setIfInBounds_toArray, List.set_cons_zero, List.set_cons_succ]
      refine wpAnyH_take (i := 13) (oi := { dst := some 58, op := Op.extract (Operand.tmp 45) 1, type := 4, pos := "l05_node.go:61", after := #[{ on := 11, ground := Ground.data }, { on := 15, ground := Ground.gcOnly Departure.lateStores }], guard := none }) (v := ?r9_v13) rfl (by kernel_rfl) (by kernel_rfl) (by kernel_rfl) (fun _ _ _ h => h) (Or.inl ⟨by rfl, ?r9_hy13⟩) (by assumption) ?r9_rest13
      case r9_hy13 => intro w hSw; obtain ⟨s0, s1, s2, s3⟩ := hSw; go_simp; try (with_reducible rfl)
      simp only [Act.put, List.setIfInBounds_toArray, List.set_cons_zero, List.set_cons_succ]
      replace XS := XS.below b1
      have bzz := bel_trans bz b1
      obtain ⟨n0, n1, nz⟩ := XS.at2
      have nf0 := XS.frozen 0
      have nf1 := XS.frozen 1
      refine wpAnyH_ready (rs := [15]) (by kernel_rfl) (by simp) ?_
      refine AllReadyH.cons (o := { dst := none, op := Op.store 54 (Operand.tmp 12) (Operand.tmp 57), type := 0, pos := "l05_node.go:61", after := #[{ on := 14, ground := Ground.data }, { on := 12, ground := Ground.data }, { on := 10, ground := Ground.chain }, { on := 0, ground := Ground.phase }, { on := 1, ground := Ground.phase }, { on := 2, ground := Ground.phase }, { on := 3, ground := Ground.phase }, { on := 4, ground := Ground.phase }, { on := 5, ground := Ground.phase }, { on := 6, ground := Ground.phase }, { on := 7, ground := Ground.phase }, { on := 8, ground := Ground.phase }, { on := 9, ground := Ground.phase }, { on := 10, ground := Ground.phase }, { on := 11, ground := Ground.phase }, { on := 12, ground := Ground.phase }, { on := 13, ground := Ground.textOnly Departure.lateStores }, { on := 14, ground := Ground.phase }], guard := none }) rfl (fun K2 hK2 => ?_) AllReadyH.nil
      go_simp
      refine hK2.out _ _ ?_ (fun hHeld2 => ?_)
      · exact KS.out _ (bel_setCell (bel_setCell bzz ⟨w4.heap.size, 0, none⟩ (.int .i64 (d.b (di))) (Nat.le_refl _)) ⟨w4.heap.size, 1, none⟩ (.slice a2 ds.length c2) (Nat.le_refl _))
      clear hK2 K2 hHeld
      have hHeld := hHeld2
      clear hHeld2
      try simp only [Act.put, List.setIfInBounds_toArray, List.set_cons_zero, List.set_cons_succ]
      refine wpAnyH_take (i := 16) (oi := { dst := some 13, op := Op.assign (Operand.tmp 58), type := 4, pos := "l05_node.go:61", after := #[{ on := 13, ground := Ground.data }, { on := 15, ground := Ground.chain }, { on := 0, ground := Ground.phase }, { on := 1, ground := Ground.phase }, { on := 2, ground := Ground.phase }, { on := 3, ground := Ground.phase }, { on := 4, ground := Ground.phase }, { on := 5, ground := Ground.phase }, { on := 6, ground := Ground.phase }, { on := 7, ground := Ground.phase }, { on := 8, ground := Ground.phase }, { on := 9, ground := Ground.phase }, { on := 10, ground := Ground.phase }, { on := 11, ground := Ground.phase }, { on := 12, ground := Ground.phase }, { on := 13, ground := Ground.phase }, { on := 14, ground := Ground.phase }, { on := 15, ground := Ground.phase }], guard := none }) (v := ?r9_v16) rfl (by kernel_rfl) (by kernel_rfl) (by kernel_rfl) (fun _ _ _ h => h) (Or.inl ⟨by rfl, ?r9_hy16⟩) (by assumption) ?r9_rest16
      case r9_hy16 => intro w hSw; obtain ⟨s0, s1, s2, s3⟩ := hSw; go_simp; try (with_reducible rfl)
      simp only [Act.put, List.setIfInBounds_toArray, List.set_cons_zero, List.set_cons_succ]
      refine wpAnyH_done (by kernel_rfl) ?_ _
      have BW := bel_setCell (bel_setCell bzz ⟨w4.heap.size, 0, none⟩ (.int .i64 (d.b (di))) (Nat.le_refl _)) ⟨w4.heap.size, 1, none⟩ (.slice a2 ds.length c2) (Nat.le_refl _)
      have XS2 : Box ((w5.setCell ⟨w4.heap.size, 0, none⟩ (.int .i64 (d.b (di)))).setCell ⟨w4.heap.size, 1, none⟩ (.slice a2 ds.length c2)) w4.heap.size #[.int .i64 (d.b (di)), .slice a2 ds.length c2] 54 := heap_setCell_same _ _ 1 _ _ _ (heap_setCell_same _ _ 0 _ _ _ XS)
      have hlw : ∀ x, (Value.slice a2 ds.length c2).ownBlock = some x → w4.heap.size ≠ x := fun x hx e => by have := (D1.row.lt x hx).1; simp at this; omega
      have hly : ∀ y ∈ ds, ∀ x, y.v.ownBlock = some x → w4.heap.size ≠ x := fun y hy x hx e => by have := (D1.lists.lt hy hx).1; simp at this; omega
      have DW : Deep ((w5.setCell ⟨w4.heap.size, 0, none⟩ (.int .i64 (d.b (di)))).setCell ⟨w4.heap.size, 1, none⟩ (.slice a2 ds.length c2)) w4.heap.size a2 c2 ds := ⟨owns_base (owns_setCell (owns_setCell D1.row hlw _) hlw _) (by simp), ((D1.lists.far _ _ hly).far _ _ hly).base (by simp)⟩
      clear n0 n1 nz nf0 nf1 XS D1 b1 bz bzz hlw hly
      have hnb : w4.heap.size ≤ w4.heap.size := Nat.le_refl _
      obtain ⟨W, hW⟩ : ∃ W, (w5.setCell ⟨w4.heap.size, 0, none⟩ (.int .i64 (d.b (di)))).setCell ⟨w4.heap.size, 1, none⟩ (.slice a2 ds.length c2) = W := ⟨_, rfl⟩
      rw [hW] at BW XS2 DW hHeld ⊢
      clear hW hHeld
      replace XP := XP.below BW
      replace XR := XR.below BW
      replace XO := XO.below BW
      have N1W := N1.below BW
      have BWW := bel_trans B BW
      have hsq := HSQ.out
      simp only [askS, if_true] at hsq
      rw [hsq] at hds ⊢
      cases hq : askQ d pg true
      · obtain ⟨e0, e1, e2, e3, e4, ez⟩ := XO.at5
        obtain ⟨y0, y1, y2, y3, y4, yz⟩ := XR.at5
        have f0 := XR.frozen 0
        have f1 := XR.frozen 1
        have f2 := XR.frozen 2
        have f3 := XR.frozen 3
        have f4 := XR.frozen 4
        have HF : Hid (WantP d (d.no : Int) pg true w (.returned (.tuple #[.agg #[.int .i64 d.id, .slice qf d.nf kf, .slice qh d.nh kh, .slice qo d.no ko, .slice qi d.ni ki], .bool false])) (((((W.setCell ⟨w.heap.size + 1, 0, none⟩ (.int .i64 d.id)).setCell ⟨w.heap.size + 1, 1, none⟩ (.slice qf d.nf kf)).setCell ⟨w.heap.size + 1, 2, none⟩ (.slice qh d.nh kh)).setCell ⟨w.heap.size + 1, 3, none⟩ (.slice qo d.no ko)).setCell ⟨w.heap.size + 1, 4, none⟩ (.slice qi d.ni ki))) := by
          have hw : wantB d (d.no : Int) pg true = false := by unfold wantB; rw [HYES.out]; exact hq
          have on : Only W (((((W.setCell ⟨w.heap.size + 1, 0, none⟩ (.int .i64 d.id)).setCell ⟨w.heap.size + 1, 1, none⟩ (.slice qf d.nf kf)).setCell ⟨w.heap.size + 1, 2, none⟩ (.slice qh d.nh kh)).setCell ⟨w.heap.size + 1, 3, none⟩ (.slice qo d.no ko)).setCell ⟨w.heap.size + 1, 4, none⟩ (.slice qi d.ni ki)) (fun x => x = w.heap.size + 1) := (((((Only.refl W (fun x => x = w.heap.size + 1)).setCell ⟨w.heap.size + 1, 0, none⟩ _ rfl).setCell ⟨w.heap.size + 1, 1, none⟩ _ rfl).setCell ⟨w.heap.size + 1, 2, none⟩ _ rfl).setCell ⟨w.heap.size + 1, 3, none⟩ _ rfl).setCell ⟨w.heap.size + 1, 4, none⟩ _ rfl
          refine ⟨⟨(qf, kf), qfp, (qh, kh), qhp, (qo, ko), qop, qms, (qi, ki)⟩, ?_, ?_, ?_, ?_⟩
          · unfold wantD; rw [hw]; rfl
          · unfold wantD; rw [hw]; exact N1W.sm (on.sm (fun x hx e => by have := HL.out x hx; omega))
          · unfold wantD; rw [hw]; exact fun x hx => by have := HL.out x hx; omega
          · exact lit_bel5 BWW (by omega)
        clear XP XO XR N1W BWW
        go_wp2
        refine bodyPost_ret (v := .tuple #[.agg #[.int .i64 d.id, .slice qf d.nf kf, .slice qh d.nh kh, .slice qo d.no ko, .slice qi d.ni ki], .bool false]) (by simp [results, Tryz.results5, go_sem, y0, y1, y2, y3, y4]) rfl HF.out
      · obtain ⟨gq, hgq⟩ := owns_addr N1.o.row (by omega)
        obtain ⟨gf, hgf⟩ := owns_addr N1.f.row (by omega)
        replace hgq : qo = some ⟨gq, 0, none⟩ := hgq
        replace hgf : qf = some ⟨gf, 0, none⟩ := hgf
        rw [hq] at hds
        simp only [if_true] at hds
        have hds2 : ds.map M.say = d.y (pg % d.no) ++ [askS pg true] := by rw [hds, List.map_append, HSY.out, HDI.out]; rfl
        obtain ⟨op2, ms2, N9, L9⟩ := want_end (own := true) N1 hgf hgq (by omega) (by rw [HDI.out]; exact hdi) BW DW hds2
        rw [HDI.out] at N9
        subst hgf hgq
        have HQT : Hid (askQ d pg true = true) := hq
        have o1 := N1W.o.row
        have z0 := o1.frozenAt (di * 2)
        have z1 := o1.frozenAt (di * 2 + 1)
        obtain ⟨u0, v0⟩ := cellN o1 hdi (t := 0) (by decide)
        obtain ⟨u1, v1⟩ := cellN o1 hdi (t := 1) (by decide)
        rw [Nat.add_zero] at v0
        have hgb := HL.out gq (.inr (.inr (.inl (.inl rfl))))
        have hgc := HL.out gf (.inl (.inl rfl))
        have hne : gf ≠ gq := fun e => N1.fo gf (.inl rfl) (.inl (by rw [e]; rfl))
        obtain ⟨e0, e1, e2, e3, e4, ez⟩ := XO.at5
        obtain ⟨n0, n1, nz⟩ := XS2.at2
        have hwz := BW.size
        have hw14 : w1.heap.size < w4.heap.size := Hz4.out
        have hnbz : w4.heap.size ≤ w4.heap.size := hnb
        have HN9 : Hid (NOw (((W.setCell ⟨gq, di * 2, none⟩ (.int .i64 (d.b (di)))).setCell ⟨gq, di * 2 + 1, none⟩ (.slice a2 ds.length c2)).setCell ⟨gf, pg * 3 + 2, none⟩ (.bool true)) (askD d pg true) ⟨((some ⟨gf, 0, none⟩), kf), qfp, (qh, kh), qhp, ((some ⟨gq, 0, none⟩), ko), op2, ms2, (qi, ki)⟩) := N9
        have HL9 : Hid (∀ x, NBs (askD d pg true) ⟨((some ⟨gf, 0, none⟩), kf), qfp, (qh, kh), qhp, ((some ⟨gq, 0, none⟩), ko), op2, ms2, (qi, ki)⟩ x → NBs d ⟨((some ⟨gf, 0, none⟩), kf), qfp, (qh, kh), qhp, ((some ⟨gq, 0, none⟩), ko), qop, qms, (qi, ki)⟩ x ∨ w4.heap.size ≤ x) := L9
        have HNW : Hid (NOw W d ⟨((some ⟨gf, 0, none⟩), kf), qfp, (qh, kh), qhp, ((some ⟨gq, 0, none⟩), ko), qop, qms, (qi, ki)⟩) := N1W
        have HNN : Hid (NOw w4 d ⟨((some ⟨gf, 0, none⟩), kf), qfp, (qh, kh), qhp, ((some ⟨gq, 0, none⟩), ko), qop, qms, (qi, ki)⟩) := N1
        have HXO : Hid (Box W w1.heap.size #[.int .i64 d.id, .slice (some ⟨gf, 0, none⟩) d.nf kf, .slice qh d.nh kh, .slice (some ⟨gq, 0, none⟩) d.no ko, .slice qi d.ni ki] 34) := XO
        have HXR : Hid (Box W (w.heap.size + 1) #[.int .i64 0, .slice none 0 0, .slice none 0 0, .slice none 0 0, .slice none 0 0] 34) := XR
        have HBW : Hid (Below w.heap.size w W) := BWW
        clear hds hds2 DW N9 L9 N1W N1 XO XR BWW BW XP XS2 hq hnb o1 B
        go_wp2_with fail
        refine wp_region_held_drew (S := (fun w' => w'.cell? ⟨w1.heap.size, 3, none⟩ = some (.slice (some ⟨gq, 0, none⟩) d.no ko) ∧ w'.cell? ⟨w4.heap.size, 0, none⟩ = some (.int .i64 (d.b (di))) ∧ w'.cell? ⟨w4.heap.size, 1, none⟩ = some (.slice a2 ds.length c2) ∧ w1.heap.size < w'.heap.size ∧ w4.heap.size < w'.heap.size)) (by kernel_rfl) ?_ (fun hHeld => ?_)
        · exact ⟨e3, n0, n1, ez, nz⟩
        refine wpAnyH_take (i := 0) (oi := { dst := some 62, op := Op.fieldAddr 34 (Operand.tmp 10) 3, type := 0, pos := "l05_node.go:65", after := #[], guard := none }) (v := ?r10_v0) rfl (by kernel_rfl) (by kernel_rfl) (by kernel_rfl) (fun _ _ _ h => h) (Or.inl ⟨by rfl, ?r10_hy0⟩) (by assumption) ?r10_rest0
        case r10_hy0 => intro w hSw; obtain ⟨r0, r1, r2, r3, r4⟩ := hSw; go_simp; try (with_reducible rfl)
        simp only [Act.put, List.setIfInBounds_toArray, List.set_cons_zero, List.set_cons_succ]
        refine wpAnyH_take (i := 1) (oi := { dst := some 63, op := Op.load 31 (Operand.tmp 62), type := 31, pos := "l05_node.go:65", after := #[{ on := 0, ground := Ground.data }], guard := none }) (v := ?r10_v1) rfl (by kernel_rfl) (by kernel_rfl) (by kernel_rfl) (fun _ _ _ h => h) (Or.inl ⟨by rfl, ?r10_hy1⟩) (by assumption) ?r10_rest1
        case r10_hy1 => intro w hSw; obtain ⟨r0, r1, r2, r3, r4⟩ := hSw; go_simp; try (with_reducible rfl)
        simp only [Act.put, List.setIfInBounds_toArray, List.set_cons_zero, List.set_cons_succ]
        refine wpAnyH_take (i := 2) (oi := { dst := some 64, op := Op.move (Operand.tmp 2), type := 3, pos := "l05_node.go:65", after := #[], guard := none }) (v := ?r10_v2) rfl (by kernel_rfl) (by kernel_rfl) (by kernel_rfl) (fun _ _ _ h => h) (Or.inl ⟨by rfl, ?r10_hy2⟩) (by assumption) ?r10_rest2
        case r10_hy2 => intro w hSw; obtain ⟨r0, r1, r2, r3, r4⟩ := hSw; go_simp; try (with_reducible rfl)
        simp only [Act.put, List.setIfInBounds_toArray, List.set_cons_zero, List.set_cons_succ]
        refine wpAnyH_take (i := 3) (oi := { dst := some 65, op := Op.move (Operand.tmp 1), type := 3, pos := "l05_node.go:65", after := #[], guard := none }) (v := ?r10_v3) rfl (by kernel_rfl) (by kernel_rfl) (by kernel_rfl) (fun _ _ _ h => h) (Or.inl ⟨by rfl, ?r10_hy3⟩) (by assumption) ?r10_rest3
        case r10_hy3 => intro w hSw; obtain ⟨r0, r1, r2, r3, r4⟩ := hSw; go_simp; try (with_reducible rfl)
        simp only [Act.put, List.setIfInBounds_toArray, List.set_cons_zero, List.set_cons_succ]
        refine wpAnyH_take (i := 4) (oi := { dst := some 66, op := Op.binOp BinOp.rem 3 (Operand.tmp 64) (Operand.tmp 65) 3, type := 3, pos := "l05_node.go:65", after := #[{ on := 2, ground := Ground.data }, { on := 3, ground := Ground.data }], guard := none }) (v := .int .i64 (di : Int)) rfl (by kernel_rfl) (by kernel_rfl) (by kernel_rfl) (fun _ _ _ h => h) (Or.inl ⟨by rfl, ?r10_hy4⟩) (by assumption) ?r10_rest4
        case r10_hy4 => intro w hSw; obtain ⟨r0, r1, r2, r3, r4⟩ := hSw; go_simp; try exact hrm
        simp only [Act.put, List.setIfInBounds_toArray, List.set_cons_zero, List.set_cons_succ]
        refine wpAnyH_take (i := 5) (oi := { dst := some 67, op := Op.load 54 (Operand.tmp 12), type := 54, pos := "l05_node.go:65", after := #[], guard := none }) (v := ?r10_v5) rfl (by kernel_rfl) (by kernel_rfl) (by kernel_rfl) (fun _ _ _ h => h) (Or.inl ⟨by rfl, ?r10_hy5⟩) (by assumption) ?r10_rest5
        case r10_hy5 => intro w hSw; obtain ⟨r0, r1, r2, r3, r4⟩ := hSw; go_simp; try (with_reducible rfl)
        simp only [Act.put, List.setIfInBounds_toArray, List.set_cons_zero, List.set_cons_succ]
        refine wpAnyH_take (i := 6) (oi := { dst := some 68, op := Op.indexAddr 31 (Operand.tmp 63) (Operand.tmp 66), type := 0, pos := "l05_node.go:65", after := #[{ on := 1, ground := Ground.data }, { on := 4, ground := Ground.data }, { on := 0, ground := Ground.phase }, { on := 1, ground := Ground.phase }, { on := 2, ground := Ground.phase }, { on := 3, ground := Ground.phase }, { on := 4, ground := Ground.phase }, { on := 5, ground := Ground.phase }], guard := none }) (v := ?r10_v6) rfl (by kernel_rfl) (by kernel_rfl) (by kernel_rfl) (fun _ _ _ h => h) (Or.inl ⟨by rfl, ?r10_hy6⟩) (by assumption) ?r10_rest6
        case r10_hy6 => intro w hSw; obtain ⟨r0, r1, r2, r3, r4⟩ := hSw; go_simp; try (with_reducible rfl)
        simp only [Act.put, List.setIfInBounds_toArray, List.set_cons_zero, List.set_cons_succ]
        refine wpAnyH_ready (rs := [7]) (by kernel_rfl) (by simp) ?_
        refine AllReadyH.cons (o := { dst := none, op := Op.store 54 (Operand.tmp 68) (Operand.tmp 67), type := 0, pos := "l05_node.go:65", after := #[{ on := 6, ground := Ground.data }, { on := 5, ground := Ground.data }, { on := 0, ground := Ground.phase }, { on := 1, ground := Ground.phase }, { on := 2, ground := Ground.phase }, { on := 3, ground := Ground.phase }, { on := 4, ground := Ground.phase }, { on := 5, ground := Ground.phase }], guard := none }) rfl (fun K2 hK2 => ?_) AllReadyH.nil
        go_simp
        refine hK2.out _ _ ?_ (fun hHeld2 => ?_)
        · exact ⟨(World.cell?_setCell_other _ _ _ _ (fun e => by first | (simp at e; done) | (simp at e; omega))).trans ((World.cell?_setCell_other _ _ _ _ (fun e => by first | (simp at e; done) | (simp at e; omega))).trans e3), (World.cell?_setCell_other _ _ _ _ (fun e => by first | (simp at e; done) | (simp at e; omega))).trans ((World.cell?_setCell_other _ _ _ _ (fun e => by first | (simp at e; done) | (simp at e; omega))).trans n0), (World.cell?_setCell_other _ _ _ _ (fun e => by first | (simp at e; done) | (simp at e; omega))).trans ((World.cell?_setCell_other _ _ _ _ (fun e => by first | (simp at e; done) | (simp at e; omega))).trans n1), by simpa using ez, by simpa using nz⟩
        clear hK2 K2 hHeld
        have hHeld := hHeld2
        clear hHeld2
        try simp only [Act.put, List.setIfInBounds_toArray, List.set_cons_zero, List.set_cons_succ]
        refine wpAnyH_done (by kernel_rfl) ?_ _
        have on8 : Only W ((W.setCell ⟨gq, di * 2, none⟩ (.int .i64 (d.b (di)))).setCell ⟨gq, di * 2 + 1, none⟩ (.slice a2 ds.length c2)) (fun x => x = gq) := ((Only.refl W (fun x => x = gq)).setCell ⟨gq, di * 2, none⟩ _ rfl).setCell ⟨gq, di * 2 + 1, none⟩ _ rfl
        have XO8 := HXO.out.only on8 (fun e => by omega)
        have XR8 := HXR.out.only on8 (fun e => by omega)
        have of8 := (Rw.sm HNW.out.f (on8.sm (fun x hx e => by subst e; exact HNN.out.fo x hx (.inl rfl)))).row
        have c9 := owns_chunk of8 (fun i _ => rfl) (show pg < d.nf by have := HF6.out; omega) (j := 2) (by decide)
        simp only [fcells, List.getElem?_cons_zero, List.getElem?_cons_succ] at c9
        have fz9 := of8.frozenAt (pg * 3 + 2)
        have B8 : Below w.heap.size w ((W.setCell ⟨gq, di * 2, none⟩ (.int .i64 (d.b (di)))).setCell ⟨gq, di * 2 + 1, none⟩ (.slice a2 ds.length c2)) := HBW.out.trans ⟨on8.os, on8.tape, on8.output, on8.size, fun i hi => on8.block i (by have := HBW.out.size; omega) (fun e => by omega)⟩
        replace XO8 : Box ((W.setCell ⟨gq, di * 2, none⟩ (.int .i64 (d.b (di)))).setCell ⟨gq, di * 2 + 1, none⟩ (.slice a2 ds.length c2)) w1.heap.size #[.int .i64 d.id, .slice (some ⟨gf, 0, none⟩) d.nf kf, .slice qh d.nh kh, .slice (some ⟨gq, 0, none⟩) d.no ko, .slice qi d.ni ki] 34 := XO8
        replace XR8 : Box ((W.setCell ⟨gq, di * 2, none⟩ (.int .i64 (d.b (di)))).setCell ⟨gq, di * 2 + 1, none⟩ (.slice a2 ds.length c2)) (w.heap.size + 1) #[.int .i64 0, .slice none 0 0, .slice none 0 0, .slice none 0 0, .slice none 0 0] 34 := XR8
        obtain ⟨V8, hV8⟩ : ∃ V, ((W.setCell ⟨gq, di * 2, none⟩ (.int .i64 (d.b (di)))).setCell ⟨gq, di * 2 + 1, none⟩ (.slice a2 ds.length c2)) = V := ⟨_, rfl⟩
        rw [hV8] at HN9 XO8 XR8 c9 fz9 B8 ⊢
        clear hV8 on8 of8 hHeld
        have on9 : Only V8 (V8.setCell ⟨gf, pg * 3 + 2, none⟩ (.bool true)) (fun x => x = gf) := (Only.refl _ (fun x => x = gf)).setCell ⟨gf, pg * 3 + 2, none⟩ _ rfl
        have XO9 := XO8.only on9 (fun e => by omega)
        have XR9 := XR8.only on9 (fun e => by omega)
        have B9 : Below w.heap.size w (V8.setCell ⟨gf, pg * 3 + 2, none⟩ (.bool true)) := B8.trans ⟨on9.os, on9.tape, on9.output, on9.size, fun i hi => on9.block i (by have := B8.size; omega) (fun e => by omega)⟩
        clear e0 e1 e2 e3 e4 ez n0 n1 nz z0 z1 v0 v1
        have e8 : V8.cell? ⟨w1.heap.size, 1, none⟩ = some (.slice (some ⟨gf, 0, none⟩) d.nf kf) := XO8.cell 1
        have ez8 := XO8.lt
        have XO9b : Box (V8.setCell ⟨gf, pg * 3 + 2, none⟩ (.bool true)) w1.heap.size #[.int .i64 d.id, .slice (some ⟨gf, 0, none⟩) d.nf kf, .slice qh d.nh kh, .slice (some ⟨gq, 0, none⟩) d.no ko, .slice qi d.ni ki] 34 := XO9
        have XR9b : Box (V8.setCell ⟨gf, pg * 3 + 2, none⟩ (.bool true)) (w.heap.size + 1) #[.int .i64 0, .slice none 0 0, .slice none 0 0, .slice none 0 0, .slice none 0 0] 34 := XR9
        obtain ⟨e0, e1, e2, e3, e4, ez⟩ := XO9b.at5
        obtain ⟨y0, y1, y2, y3, y4, yz⟩ := XR9b.at5
        have f0 := XR9b.frozen 0
        have f1 := XR9b.frozen 1
        have f2 := XR9b.frozen 2
        have f3 := XR9b.frozen 3
        have f4 := XR9b.frozen 4
        have HF : Hid (WantP d (d.no : Int) pg true w (.returned (.tuple #[.agg #[.int .i64 d.id, .slice (some ⟨gf, 0, none⟩) d.nf kf, .slice qh d.nh kh, .slice (some ⟨gq, 0, none⟩) d.no ko, .slice qi d.ni ki], .bool true])) ((((((V8.setCell ⟨gf, pg * 3 + 2, none⟩ (.bool true)).setCell ⟨w.heap.size + 1, 0, none⟩ (.int .i64 d.id)).setCell ⟨w.heap.size + 1, 1, none⟩ (.slice (some ⟨gf, 0, none⟩) d.nf kf)).setCell ⟨w.heap.size + 1, 2, none⟩ (.slice qh d.nh kh)).setCell ⟨w.heap.size + 1, 3, none⟩ (.slice (some ⟨gq, 0, none⟩) d.no ko)).setCell ⟨w.heap.size + 1, 4, none⟩ (.slice qi d.ni ki))) := by
          have hw : wantB d (d.no : Int) pg true = true := by unfold wantB; rw [HYES.out]; exact HQT.out
          have on : Only (V8.setCell ⟨gf, pg * 3 + 2, none⟩ (.bool true)) ((((((V8.setCell ⟨gf, pg * 3 + 2, none⟩ (.bool true)).setCell ⟨w.heap.size + 1, 0, none⟩ (.int .i64 d.id)).setCell ⟨w.heap.size + 1, 1, none⟩ (.slice (some ⟨gf, 0, none⟩) d.nf kf)).setCell ⟨w.heap.size + 1, 2, none⟩ (.slice qh d.nh kh)).setCell ⟨w.heap.size + 1, 3, none⟩ (.slice (some ⟨gq, 0, none⟩) d.no ko)).setCell ⟨w.heap.size + 1, 4, none⟩ (.slice qi d.ni ki)) (fun x => x = w.heap.size + 1) := (((((Only.refl _ (fun x => x = w.heap.size + 1)).setCell ⟨w.heap.size + 1, 0, none⟩ _ rfl).setCell ⟨w.heap.size + 1, 1, none⟩ _ rfl).setCell ⟨w.heap.size + 1, 2, none⟩ _ rfl).setCell ⟨w.heap.size + 1, 3, none⟩ _ rfl).setCell ⟨w.heap.size + 1, 4, none⟩ _ rfl
          have hlx : ∀ x, NBs (askD d pg true) ⟨((some ⟨gf, 0, none⟩), kf), qfp, (qh, kh), qhp, ((some ⟨gq, 0, none⟩), ko), op2, ms2, (qi, ki)⟩ x → w.heap.size + 2 ≤ x := fun x hx => by
            rcases HL9.out x hx with h | h
            · exact (HL.out x h).1
            · have h7 := hw14; have h8 := hz1; omega
          refine ⟨⟨((some ⟨gf, 0, none⟩), kf), qfp, (qh, kh), qhp, ((some ⟨gq, 0, none⟩), ko), op2, ms2, (qi, ki)⟩, ?_, ?_, ?_, ?_⟩
          · unfold wantD; rw [hw]; rfl
          · unfold wantD; rw [hw]; exact HN9.out.sm (on.sm (fun x hx e => by have := hlx x hx; omega))
          · unfold wantD; rw [hw]; exact fun x hx => by have := hlx x hx; omega
          · exact lit_bel5 B9 (by omega)
        clear on9 XO8 XR8 XO9 XR9 XO9b XR9b B9 B8 HN9 HL9 HNW HNN HXO HXR HBW
        go_wp2
        refine bodyPost_ret (v := .tuple #[.agg #[.int .i64 d.id, .slice (some ⟨gf, 0, none⟩) d.nf kf, .slice qh d.nh kh, .slice (some ⟨gq, 0, none⟩) d.no ko, .slice qi d.ni ki], .bool true]) (by simp [results, Tryz.results5, go_sem, y0, y1, y2, y3, y4]) rfl HF.out.drew

theorem specWant_any (d : ND) (p : NP) (nodes page : Int) (own : Bool) (w : World) (hd : Nsm d) (hR : NR w d p) :
    Calls Tryz.prog 5 #[.agg (ncells d p), .int .i64 nodes, .int .i64 page, .bool own] w fun e w' => WantP d nodes page own w e w' := by
  obtain ⟨⟨af, cf⟩, fp, ⟨ah, ch⟩, hp, ⟨ao, co⟩, op, ms, ⟨ai0, ci0⟩⟩ := p
  cases h1 : nodeOkB d nodes
  · exact sw_no1 d af ah ao ai0 cf ch co ci0 fp hp op ms nodes page own w hd hR h1 (by unfold wOk; rw [h1]; rfl)
  · cases h2 : inB page 0 5
    · exact sw_no2 d af ah ao ai0 cf ch co ci0 fp hp op ms nodes page own w hd hR h1 (by simpa [inB] using h2) (by unfold wOk; rw [h1, h2]; rfl)
    · simp [inB] at h2
      obtain ⟨pg, rfl⟩ : ∃ pg : Nat, page = pg := ⟨page.toNat, by omega⟩
      have h2' : pg ≤ 5 := by omega
      have hin : inB (pg : Int) 0 5 = true := by simp [inB]; omega
      cases h3 : (d.f pg).q
      · have hll := less_lack h1 h2' own
        cases h4 : lackB (d.f pg).s own
        · exact sw_no4 d af ah ao ai0 cf ch co ci0 fp hp op ms nodes pg own w hd hR h1 h2' h3 (by rw [hll, h4]) (by simp [wOk, h4])
        · exact sw_yes d af ah ao ai0 cf ch co ci0 fp hp op ms nodes pg own w hd hR h1 h2' h3 (by rw [hll, h4]) (by simp [wOk, h1, hin, h3, h4])
      · exact sw_no3 d af ah ao ai0 cf ch co ci0 fp hp op ms nodes pg own w hd hR h1 h2' h3 (by simp [wOk, h3])
end Go.Proofs.YtcneocbadobcfaaGreat
