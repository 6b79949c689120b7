/- TrT and TrF and TrS: see the heads of the parts. -/
import Derived.Test.YtiaiomjoapbalaaGreatRvI
import Derived.Test.YtiaiomjoapbalaaGreatTrL
import Derived.Test.YtiaiomjoapbalaaGreatTrA
import Derived.BigQuiet
/- What the specification's l7Truth does. -/
namespace Go.Proofs.YtiaiomjoapbalaaGreat
open Go.RowKit
set_option linter.unusedVariables false

/-- A call that answers a row of words. -/
def IntsP (L : List Int) (w : World) (e : Ending) (w' : World) : Prop := ∃ (a : Option Addr) (c : Nat), e = .returned (.slice a L.length c) ∧ w'.ownsRow w.heap.size 3 1 (.slice a L.length c) L.length (L.map (Value.int .i64)) ∧ Below w.heap.size w w'

theorem ints_p {L L' : List Int} (h : L = L') {w w' : World} {e : Ending} (hp : IntsP L' w e w') : IntsP L w e w' := by rw [h]; exact hp
theorem ints_of {L : List Int} {n : Nat} (hl : L.length = n) {w w' : World} {a : Option Addr} {c : Nat} (o : w'.ownsRow w.heap.size 3 1 (.slice a n c) n (L.map (Value.int .i64))) (b : Below w.heap.size w w') : IntsP L w (.returned (.slice a n c)) w' := by subst hl; exact ⟨a, c, rfl, o, b⟩
theorem com_ok {d : WoD} (h : WOk d) {f t : Nat} (hf : f < d.nn) (ht : t < d.nn) : ∀ s ∈ comD d f t, okS s = true := fun s hs => (sB_parts (h.o f hf t ht)).2.2.2 s (com_mem hs)
theorem says_len {ds : List M} {y : List Say} (h : ds.map M.say = y) (hy : ∀ s ∈ y, okS s = true) : ∀ m ∈ ds, m.xs.length ≤ 1048577 := fun m hm => by
  have h1 : m.say ∈ y := by rw [← h]; exact List.mem_map_of_mem hm
  have := (okS_len (hy _ h1)).1
  simp only [M.say] at this
  omega
theorem say_num {d : WoD} (h : WOk d) {f t : Nat} (hf : f < d.nn) (ht : t < d.nn) {ds : List M} (hd : ds.map M.say = comD d f t) : ds.length ≤ 30 := by
  have h1 := congrArg List.length hd
  rw [List.length_map] at h1
  have h2 := com_len ((d.d f).b t) ((d.d t).g f) ((d.d f).y t)
  have h3 := (sB_parts (h.o f hf t ht)).2.1
  unfold comD at h1
  omega

set_option maxRecDepth 100000 in
set_option maxHeartbeats 4000000 in
theorem l7Truth_any (d : WoD) (p : WoP) (pg : Nat) (w : World) (hR : WoR w d p) (hok : WOk d) (hp : pg < 6) :
    Calls Tryz.prog 36 #[.agg (wcells d p), .int .i64 (pg : Int)] w (IntsP (truthL d pg) w) := by
  obtain ⟨i1, hi1, hz10, hz11, hz12⟩ := info_parts info_i64
  obtain ⟨size, nn, D, nk, K⟩ := d
  obtain ⟨⟨pn, cn⟩, np, ⟨pk, ck⟩, kp⟩ := p
  have hsz : size = (nn : Int) := hok.n.1
  have hn1 : 1 ≤ nn := hok.n.2.1
  have hn4 : nn ≤ 4 := hok.n.2.2
  subst hsz
  obtain ⟨hm, ehm⟩ : ∃ x, pg % nn = x := ⟨_, rfl⟩
  have hhm : hm < nn := by rw [← ehm]; exact Nat.mod_lt _ hn1
  have hrem : (pg : Int) % (nn : Int) = (hm : Int) := by rw [← ehm]; rfl
  have hrem2 : (pg : Int).tmod (nn : Int) = (hm : Int) := by rw [← ehm]; rfl
  obtain ⟨ch1, ch2, ch3, ch4⟩ := hok.c hm hhm
  have hho := hoB_parts (hok.h hm hhm pg hp)
  have hne : ¬ ((nn : Int) = 0) := by omega
  have HOK : Hid (WOk ⟨nn, nn, D, nk, K⟩) := hok
  have HR : Hid (WoR w ⟨nn, nn, D, nk, K⟩ ⟨(pn, cn), np, (pk, ck), kp⟩) := hR
  have B := bel_alloc (Below.refl w.heap.size w) (.cells #[.int .i64 (nn : Int), .slice pn nn cn, .slice pk nk ck] 32)
  have X := Box.new w #[.int .i64 (nn : Int), .slice pn nn cn, .slice pk nk ck] 32
  have hN : NsR _ pn nn D np := hR.n.below B
  obtain ⟨bn, on1, ea, y0, y1, y2, y3, y4⟩ := hN.at hhm
  subst ea
  have hrh := (hN.2.2 hm hhm).h
  obtain ⟨bh, oh, eh, c0, c1, c2, c3, c4, c5, c6, c7⟩ := hrh.at (i := pg) (by simp only at ch2; omega)
  simp only at ch2 hho
  rw [eh, ch2] at y2
  obtain ⟨W1, hW1⟩ : ∃ W1, w.alloc (.cells #[.int .i64 (nn : Int), .slice (some ⟨bn, on1, none⟩) nn cn, .slice pk nk ck] 32) = W1 := ⟨_, rfl⟩
  rw [hW1] at B X hN y0 y1 y2 y3 y4 c0 c1 c2 c3 c4 c5 c6 c7 hrh
  obtain ⟨⟨hxs, how, hbs, hbz, hwh, hwo, hak, hws⟩, ehd⟩ : ∃ x, (D hm).h pg = x := ⟨_, rfl⟩
  obtain ⟨⟨hpl, hpr, hpq⟩, ehp⟩ : ∃ x, (np hm).hp pg = x := ⟨_, rfl⟩
  have hlr := (hrh.2.2 pg (by omega)).1
  rw [ehd] at c0 c1 c2 c3 c4 c5 c6 c7 hho hlr
  rw [ehp] at c0 c2 c7 hlr
  simp only at c0 c1 c2 c3 c4 c5 c6 c7 hho hlr
  obtain ⟨hx1, hx2, hx3⟩ := hho
  rw [hx1] at c0
  have HX1 : Hid (hxs.length = 4) := hx1
  have HLR : Hid (Row .i64 W1 hpl.1 hxs) := hlr
  have hp6 : (pg : Int) < 6 := by omega
  have hm4 : (hm : Int) < (nn : Int) := by omega
  obtain ⟨x0, x1, x2, xz⟩ := X.at3
  have zb := lt_of_cell y0
  have zh := lt_of_cell c0
  have HX : Hid (Box W1 w.heap.size #[.int .i64 (nn : Int), .slice (some ⟨bn, on1, none⟩) nn cn, .slice pk nk ck] 32) := X
  have HB : Hid (Below w.heap.size w W1) := B
  have HNs : Hid (NsR W1 (some ⟨bn, on1, none⟩) nn D np) := hN
  have bH := bel_alloc (Below.refl W1.heap.size W1) (.cells #[.slice hpl.1 4 hpl.2, .int .i64 how, .slice hpr.1 hbs.length hpr.2, .bool hbz, .int .i64 hwh, .bool hwo, .int .i64 hak, .slice hpq.1 hws.length hpq.2] 106)
  have XH := Box.new W1 #[.slice hpl.1 4 hpl.2, .int .i64 how, .slice hpr.1 hbs.length hpr.2, .bool hbz, .int .i64 hwh, .bool hwo, .int .i64 hak, .slice hpq.1 hws.length hpq.2] 106
  clear y0 y1 y3 y4 hrh eh ch1 ch2 ch3 ch4 hR hok hlr hx1 ehp B X hN
  by_cases hneg : how < 0
  · have HT : Hid (truthL ⟨nn, nn, D, nk, K⟩ pg = hxs) := by
      show _ = _
      unfold truthL
      simp only [ehm, ehd, hneg, if_true]
    have hv := ((row_v HLR.out (by rw [HX1.out]; omega)).below bH).below (bel_alloc (Below.refl _ _) (.cells #[] 3))
    have oE := own_litE (W1.alloc (.cells #[.slice hpl.1 4 hpl.2, .int .i64 how, .slice hpr.1 hbs.length hpr.2, .bool hbz, .int .i64 hwh, .bool hwo, .int .i64 hak, .slice hpq.1 hws.length hpq.2] 106)) 3 1 (W1.heap.size + 1) (by simp)
    rw [show (W1.alloc (.cells #[.slice hpl.1 4 hpl.2, .int .i64 how, .slice hpr.1 hbs.length hpr.2, .bool hbz, .int .i64 hwh, .bool hwo, .int .i64 hak, .slice hpq.1 hws.length hpq.2] 106)).heap.size = W1.heap.size + 1 by simp] at oE
    have B2 := bel_trans (bel_trans HB.out bH) (bel_alloc (Below.refl _ _) (.cells #[] 3))
    clear XH bH ehd ehm
    go_enter Tryz.func36, Tryz.ntmps36
    go_wp2_with (at_builtin; refine wpList_append_rowYtiaiomjoapbalaaGreat rfl (.tmp 25) (.tmp 27) 39 rfl (W1.heap.size + 1) 3 i1 (.int .i64 0) 1 8 Tryz.underlying39 hi1 hz10 hz11 hz12 rfl (by decide) (.slice (some ⟨W1.heap.size + 1, 0, none⟩) 0 0) 0 [] (by rfl) oE hpl.1 4 hpl.2 (hxs.map (Value.int .i64)) (by rfl) (by rw [List.length_map, HX1.out]) hv.2 (by intro u hu; obtain ⟨x, _, rfl⟩ := List.mem_map.1 hu; rfl) (by unfold maxLen; omega) (by omega) (by simp) ?_)
    intro v1 w5 o5 g5
    have B5 : Hid (Below w.heap.size w w5) := B2.grown g5 B2.size (fun j hj => by simp [Value.ownBlock] at hj; omega)
    try simp only [Nat.zero_add, List.nil_append] at o5
    obtain ⟨a5, c5, rfl⟩ := owns_slice o5
    have O5 : Hid (w5.ownsRow w.heap.size 3 1 (.slice a5 4 c5) 4 (hxs.map (Value.int .i64))) := owns_base o5 (by omega)
    clear o5 g5 oE hv B2
    go_wp2
    go_ret
    exact ints_p HT.out (ints_of HX1.out O5.out B5.out)
  · obtain ⟨o, rfl⟩ : ∃ o : Nat, how = (o : Int) := ⟨how.toNat, by omega⟩
    have ho : o < nn := by omega
    have hoi : (o : Int) < (nn : Int) := by omega
    have hop : ¬ ((o : Int) < 0) := by omega
    obtain ⟨bn2, on2, ea2, y0, y1, y2', y3, y4⟩ := HNs.out.at ho
    simp only [Option.some.injEq, Addr.mk.injEq, and_true] at ea2
    obtain ⟨e1, e2⟩ := ea2
    subst e1 e2
    have hc := HOK.out.c o ho
    have hfo := frB_parts (HOK.out.f o ho pg hp)
    simp only at hc hfo
    have hrf := (HNs.out.2.2 o ho).f
    obtain ⟨bf, of, ef, f0, f1, f2⟩ := hrf.at (i := pg) (by omega)
    rw [ef, hc.1] at y1
    obtain ⟨⟨fs, fxs, fq⟩, efd⟩ : ∃ x, (D o).f pg = x := ⟨_, rfl⟩
    obtain ⟨fpl, efp⟩ : ∃ x, (np o).fp pg = x := ⟨_, rfl⟩
    have hflr := hrf.2.2 pg (by omega)
    rw [efd] at f0 f1 f2 hfo hflr
    rw [efp] at f1 hflr
    simp only at f0 f1 f2 hfo hflr
    have HFR : Hid (Row .i64 W1 fpl.1 fxs) := hflr
    have zf := lt_of_cell f0
    clear hrf ef hc hflr y0 y2' y3 y4 efp
    by_cases hs2 : fs = 2
    · subst hs2
      have hl4 : fxs.length = 4 := by rcases hfo with h | h; exact absurd h.1 (by decide); exact h.2
      rw [hl4] at f1
      have HL4 : Hid (fxs.length = 4) := hl4
      have HT : Hid (truthL ⟨nn, nn, D, nk, K⟩ pg = fxs) := by
        show _ = _
        unfold truthL
        simp only [ehm, ehd, hop, if_false, Int.toNat_natCast, efd, if_true]
      have bF := bel_alloc bH (.cells #[.int .i64 2, .slice fpl.1 4 fpl.2, .bool fq] 108)
      have hv := ((row_v HFR.out (by rw [HL4.out]; omega)).below bF).below (bel_alloc (Below.refl _ _) (.cells #[] 3))
      have B2 := bel_trans (bel_trans HB.out bF) (bel_alloc (Below.refl _ _) (.cells #[] 3))
      have oE := own_litE ((W1.alloc (.cells #[.slice hpl.1 4 hpl.2, .int .i64 (o : Int), .slice hpr.1 hbs.length hpr.2, .bool hbz, .int .i64 hwh, .bool hwo, .int .i64 hak, .slice hpq.1 hws.length hpq.2] 106)).alloc (.cells #[.int .i64 2, .slice fpl.1 4 fpl.2, .bool fq] 108)) 3 1 (W1.heap.size + 1 + 1) (by simp)
      rw [show ((W1.alloc (.cells #[.slice hpl.1 4 hpl.2, .int .i64 (o : Int), .slice hpr.1 hbs.length hpr.2, .bool hbz, .int .i64 hwh, .bool hwo, .int .i64 hak, .slice hpq.1 hws.length hpq.2] 106)).alloc (.cells #[.int .i64 2, .slice fpl.1 4 fpl.2, .bool fq] 108)).heap.size = W1.heap.size + 1 + 1 by simp] at oE
      clear XH bH ehd ehm hfo hl4 efd bF
      go_enter Tryz.func36, Tryz.ntmps36
      go_wp2_with (at_builtin; refine wpList_append_rowYtiaiomjoapbalaaGreat rfl (.tmp 42) (.tmp 44) 39 rfl (W1.heap.size + 1 + 1) 3 i1 (.int .i64 0) 1 8 Tryz.underlying39 hi1 hz10 hz11 hz12 rfl (by decide) (.slice (some ⟨W1.heap.size + 1 + 1, 0, none⟩) 0 0) 0 [] (by rfl) oE fpl.1 4 fpl.2 (fxs.map (Value.int .i64)) (by rfl) (by rw [List.length_map, HL4.out]) hv.2 (by intro u hu; obtain ⟨x, _, rfl⟩ := List.mem_map.1 hu; rfl) (by unfold maxLen; omega) (by omega) (by simp) ?_)
      intro v1 w5 o5 g5
      have B5 : Hid (Below w.heap.size w w5) := B2.grown g5 B2.size (fun j hj => by simp [Value.ownBlock] at hj; omega)
      try simp only [Nat.zero_add, List.nil_append] at o5
      obtain ⟨a5, c5, rfl⟩ := owns_slice o5
      have O5 : Hid (w5.ownsRow w.heap.size 3 1 (.slice a5 4 c5) 4 (fxs.map (Value.int .i64))) := owns_base o5 (by omega)
      clear o5 g5 oE hv B2
      go_wp2
      go_ret
      exact ints_p HT.out (ints_of HL4.out O5.out B5.out)
    · have hs2' : (fs == 2) = false := by simpa using hs2
      have bF := bel_alloc bH (.cells #[.int .i64 fs, .slice fpl.1 fxs.length fpl.2, .bool fq] 108)
      have HL : Hid (fxs.length ≤ 4) := by rcases hfo with h | h <;> (show _ ≤ _; omega)
      have HBF : Hid (Below w.heap.size w _) := bel_trans HB.out bF
      have HXW : Hid (Box _ w.heap.size #[.int .i64 (nn : Int), .slice (some ⟨bn, on1, none⟩) nn cn, .slice pk nk ck] 32) := HX.out.below bF
      have HXH : Hid (Box _ W1.heap.size #[.slice hpl.1 4 hpl.2, .int .i64 (o : Int), .slice hpr.1 hbs.length hpr.2, .bool hbz, .int .i64 hwh, .bool hwo, .int .i64 hak, .slice hpq.1 hws.length hpq.2] 106) := XH.below (bel_alloc (Below.refl _ _) (.cells #[.int .i64 fs, .slice fpl.1 fxs.length fpl.2, .bool fq] 108))
      obtain ⟨L3, e3⟩ : ∃ x, lastY 3 pg (comD ⟨nn, nn, D, nk, K⟩ hm o) = x := ⟨_, rfl⟩
      obtain ⟨L7, e7⟩ : ∃ x, lastY 7 pg (comD ⟨nn, nn, D, nk, K⟩ o hm) = x := ⟨_, rfl⟩
      have HE3 : Hid (lastY 3 pg (comD ⟨nn, nn, D, nk, K⟩ hm o) = L3) := e3
      have HE7 : Hid (lastY 7 pg (comD ⟨nn, nn, D, nk, K⟩ o hm) = L7) := e7
      have HT : Hid (truthL ⟨nn, nn, D, nk, K⟩ pg = if L3.length = 0 then L7 else L3) := by
        show _ = _
        unfold truthL
        simp only [ehm, ehd, hop, if_false, Int.toNat_natCast, efd, hs2, e3, e7]
      have h34 : L3.length ≤ 4 := by rw [← e3]; exact lastY_len 3 pg (com_ok HOK.out hhm ho)
      clear XH bH ehd ehm hfo efd bF e3 e7
      go_enter Tryz.func36, Tryz.ntmps36
      go_wp2_with fail
      refine (l7Coming_any ⟨nn, nn, D, nk, K⟩ ⟨(some ⟨bn, on1, none⟩, cn), np, (pk, ck), kp⟩ hm o _ (HR.out.below HBF.out) HOK.out hhm ho).mono ?_
      rintro e w4 ⟨a4, k4, ds, rfl, hds, hdeep, b4⟩
      have HDL : Hid (lastY 3 pg (ds.map M.say) = L3) := by show _ = _; rw [hds]; exact HE3.out
      have hmr := hdeep.mrow (by have := say_num HOK.out hhm ho hds; omega) (says_len hds (com_ok HOK.out hhm ho))
      have HSL : Hid (∀ m ∈ ds, m.xs.length ≤ 1048577) := says_len hds (com_ok HOK.out hhm ho)
      replace HXW : Hid (Box w4 w.heap.size #[.int .i64 (nn : Int), .slice (some ⟨bn, on1, none⟩) nn cn, .slice pk nk ck] 32) := HXW.out.below b4
      replace HXH : Hid (Box w4 W1.heap.size #[.slice hpl.1 4 hpl.2, .int .i64 (o : Int), .slice hpr.1 hbs.length hpr.2, .bool hbz, .int .i64 hwh, .bool hwo, .int .i64 hak, .slice hpq.1 hws.length hpq.2] 106) := HXH.out.below b4
      replace HBF : Hid (Below w.heap.size w w4) := bel_trans HBF.out b4
      clear hds hdeep b4 x0 x1 x2 xz y1 y2 c0 c1 c2 c3 c4 c5 c6 c7 f0 f1 f2 zb zh zf
      go_wp2_with fail
      refine (l7Last_any 3 pg a4 k4 ds _ hmr HSL.out).mono ?_
      rintro e w5 ⟨a5, k5, rfl, o5, b5⟩
      rw [HDL.out] at o5 ⊢
      replace HXW : Hid (Box w5 w.heap.size #[.int .i64 (nn : Int), .slice (some ⟨bn, on1, none⟩) nn cn, .slice pk nk ck] 32) := HXW.out.below b5
      replace HXH : Hid (Box w5 W1.heap.size #[.slice hpl.1 4 hpl.2, .int .i64 (o : Int), .slice hpr.1 hbs.length hpr.2, .bool hbz, .int .i64 hwh, .bool hwo, .int .i64 hak, .slice hpq.1 hws.length hpq.2] 106) := HXH.out.below b5
      have HO5 : Hid (w5.ownsRow w.heap.size 3 1 (.slice a5 L3.length k5) L3.length (L3.map (Value.int .i64))) := owns_base o5 HBF.out.size
      replace HBF : Hid (Below w.heap.size w w5) := bel_trans HBF.out b5
      obtain ⟨n3, en3⟩ : ∃ x, L3.length = x := ⟨_, rfl⟩
      have HN3 : Hid (L3.length = n3) := en3
      rw [en3] at h34 ⊢
      clear hmr o5 b5 en3
      by_cases hz : n3 = 0
      · subst hz
        obtain ⟨x0, x1, x2, xz⟩ := HXW.out.at3
        obtain ⟨g0, g1, g2, g3, g4, g5, g6, g7, gz⟩ := at8 HXH.out
        go_wp2_with fail
        refine (l7Coming_any ⟨nn, nn, D, nk, K⟩ ⟨(some ⟨bn, on1, none⟩, cn), np, (pk, ck), kp⟩ o hm _ (HR.out.below HBF.out) HOK.out ho hhm).mono ?_
        rintro e w6 ⟨a6, k6, es, rfl, hes, hdeep, b6⟩
        have HDL7 : Hid (lastY 7 pg (es.map M.say) = L7) := by show _ = _; rw [hes]; exact HE7.out
        have hmr := hdeep.mrow (by have := say_num HOK.out ho hhm hes; omega) (says_len hes (com_ok HOK.out ho hhm))
        have HSL7 : Hid (∀ m ∈ es, m.xs.length ≤ 1048577) := says_len hes (com_ok HOK.out ho hhm)
        replace HBF : Hid (Below w.heap.size w w6) := bel_trans HBF.out b6
        clear hes hdeep b6 x0 x1 x2 xz g0 g1 g2 g3 g4 g5 g6 g7 gz
        go_wp2_with fail
        refine (l7Last_any 7 pg a6 k6 es _ hmr HSL7.out).mono ?_
        rintro e w7 ⟨a7, k7, rfl, o7, b7⟩
        rw [HDL7.out] at o7 ⊢
        have HO7 : Hid (w7.ownsRow w.heap.size 3 1 (.slice a7 L7.length k7) L7.length (L7.map (Value.int .i64))) := owns_base o7 HBF.out.size
        replace HBF : Hid (Below w.heap.size w w7) := bel_trans HBF.out b7
        clear o7 b7 hmr
        go_wp2
        go_ret
        exact ints_p (HT.out.trans (by rw [HN3.out]; rfl)) (ints_of rfl HO7.out HBF.out)
      · have hz' : (0 : Int) < (n3 : Int) := by omega
        go_wp2
        go_ret
        exact ints_p (HT.out.trans (by rw [HN3.out, if_neg hz])) (ints_of HN3.out (by have := HO5.out; rw [HN3.out] at this; exact this) HBF.out)
end Go.Proofs.YtiaiomjoapbalaaGreat

/- What the specification's Coming and Truth answer. -/
namespace Go.Proofs.YtiaiomjoapbalaaGreat
open Go.RowKit
set_option linter.unusedVariables false

/-- A call that answers a row of messages. -/
def MsgsP (y : List Say) (w : World) (e : Ending) (w' : World) : Prop := ∃ (a : Option Addr) (c : Nat) (ds : List M), e = .returned (.slice a ds.length c) ∧ ds.map M.say = y ∧ Deep w' w.heap.size a c ds ∧ Below w.heap.size w w'
def comW (d : WoD) (f t : Int) : List Say := if worldB d && (inB f 0 (d.size - 1) && inB t 0 (d.size - 1)) then comD d f.toNat t.toNat else []
def truW (d : WoD) (page : Int) : List Int := if worldB d && inB page 0 5 then truthL d page.toNat else []
theorem comW_no {d : WoD} {f t : Int} (h : (worldB d && (inB f 0 (d.size - 1) && inB t 0 (d.size - 1))) = false) : comW d f t = [] := by unfold comW; rw [h]; rfl
theorem comW_yes {d : WoD} {f t : Int} (h : (worldB d && (inB f 0 (d.size - 1) && inB t 0 (d.size - 1))) = true) : comW d f t = comD d f.toNat t.toNat := by unfold comW; rw [h]; rfl
theorem truW_no {d : WoD} {page : Int} (h : (worldB d && inB page 0 5) = false) : truW d page = [] := by unfold truW; rw [h]; rfl
theorem truW_yes {d : WoD} {page : Int} (h : (worldB d && inB page 0 5) = true) : truW d page = truthL d page.toNat := by unfold truW; rw [h]; rfl
theorem msgs_none {d : WoD} {f t : Int} (h : comW d f t = []) {w w' : World} {a : Option Addr} (o : w'.ownsRow w.heap.size 55 4 (.slice a 0 0) 0 []) (b : Below w.heap.size w w') : MsgsP (comW d f t) w (.returned (.slice a 0 0)) w' := by
  rw [h]
  exact ⟨a, 0, [], rfl, rfl, ⟨o, Lists.nil _ _⟩, b⟩
theorem ints_none {d : WoD} {page : Int} (h : truW d page = []) {w w' : World} {a : Option Addr} (o : w'.ownsRow w.heap.size 3 1 (.slice a 0 0) 0 []) (b : Below w.heap.size w w') : IntsP (truW d page) w (.returned (.slice a 0 0)) w' := by
  rw [h]
  exact ⟨a, 0, rfl, o, b⟩
theorem lit_end {w w1 : World} {e s : Nat} (b : Below w.heap.size w w1) : (w1.alloc (.cells #[] e)).ownsRow w.heap.size e s (.slice (some ⟨w1.heap.size, 0, none⟩) 0 0) 0 [] ∧ Below w.heap.size w (w1.alloc (.cells #[] e)) :=
  ⟨own_litE w1 e s w.heap.size b.size, bel_alloc b _⟩

set_option maxRecDepth 100000 in
set_option maxHeartbeats 4000000 in
theorem specComing_any (d : WoD) (p : WoP) (f t : Int) (w : World) (hbs : ∀ i, i < d.nn → ∀ j, j < (d.d i).nh → ((d.d i).h j).bs.length ≤ 1048577) (hR : WoR w d p) :
    Calls Tryz.prog 6 #[.agg (wcells d p), .int .i64 f, .int .i64 t] w (MsgsP (comW d f t) w) := by
  have B := bel_alloc (Below.refl w.heap.size w) (.cells (wcells d p) 32)
  have X := Box.new w (wcells d p) 32
  have HR : Hid (WoR w d p) := hR
  have hR1 := hR.below B
  clear hR
  cases hw : worldB d
  · have HW : Hid (worldB d = false) := hw
    have HC : Hid (comW d f t = []) := comW_no (by rw [hw]; rfl)
    clear hw X
    go_enter Tryz.func6, Tryz.ntmps6
    go_wp2_with fail
    refine (specWorldOk_any d p _ hbs hR1).mono ?_
    rintro e w1 ⟨rfl, b1⟩
    rw [HW.out]
    have HF : Hid (Below w.heap.size w w1) := bel_trans B b1
    clear b1 hR1 B
    go_wp2
    go_ret
    exact msgs_none HC.out (lit_end HF.out).1 (bel_alloc HF.out _)
  · have hok := WOk.of hw
    obtain ⟨size, nn, D, nk, K⟩ := d
    have hsz : size = (nn : Int) := hok.n.1
    have hn1 : 1 ≤ nn := hok.n.2.1
    have hn4 : nn ≤ 4 := hok.n.2.2
    subst hsz
    have HW : Hid (worldB ⟨nn, nn, D, nk, K⟩ = true) := hw
    have HOK : Hid (WOk ⟨nn, nn, D, nk, K⟩) := hok
    clear hok
    cases h1 : inB f 0 ((nn : Int) - 1)
    · have H1 : Hid (inB f 0 ((nn : Int) - 1) = false) := h1
      have HC : Hid (comW ⟨nn, nn, D, nk, K⟩ f t = []) := comW_no (by rw [hw, h1]; rfl)
      clear hw h1
      go_enter Tryz.func6, Tryz.ntmps6
      go_wp2_with fail
      refine (specWorldOk_any _ p _ hbs hR1).mono ?_
      rintro e w1 ⟨rfl, b1⟩
      rw [HW.out]
      have HF : Hid (Below w.heap.size w w1) := bel_trans B b1
      obtain ⟨x0, x1, x2, xz⟩ := (X.below b1).at3
      clear b1 hR1 B X
      go_wp2_with fail
      refine (specIn_h f 0 ((nn : Int) - 1) _).mono ?_
      rintro e w2 ⟨rfl, h⟩
      replace h := h.symm
      subst h
      rw [H1.out]
      go_wp2
      go_ret
      exact msgs_none HC.out (lit_end HF.out).1 (bel_alloc HF.out _)
    · have H1 : Hid (inB f 0 ((nn : Int) - 1) = true) := h1
      cases h2 : inB t 0 ((nn : Int) - 1)
      · have H2 : Hid (inB t 0 ((nn : Int) - 1) = false) := h2
        have HC : Hid (comW ⟨nn, nn, D, nk, K⟩ f t = []) := comW_no (by rw [hw, h1, h2]; rfl)
        clear hw h1 h2
        go_enter Tryz.func6, Tryz.ntmps6
        go_wp2_with fail
        refine (specWorldOk_any _ p _ hbs hR1).mono ?_
        rintro e w1 ⟨rfl, b1⟩
        rw [HW.out]
        have HF : Hid (Below w.heap.size w w1) := bel_trans B b1
        obtain ⟨x0, x1, x2, xz⟩ := (X.below b1).at3
        clear b1 hR1 B X
        go_wp2_with fail
        refine (specIn_h f 0 ((nn : Int) - 1) _).mono ?_
        rintro e w2 ⟨rfl, h⟩
        replace h := h.symm
        subst h
        rw [H1.out]
        go_wp2_with fail
        refine (specIn_h t 0 ((nn : Int) - 1) _).mono ?_
        rintro e w2 ⟨rfl, h⟩
        replace h := h.symm
        subst h
        rw [H2.out]
        go_wp2
        go_ret
        exact msgs_none HC.out (lit_end HF.out).1 (bel_alloc HF.out _)
      · have H2 : Hid (inB t 0 ((nn : Int) - 1) = true) := h2
        obtain ⟨f0, f1⟩ : 0 ≤ f ∧ f ≤ (nn : Int) - 1 := by simpa [inB] using h1
        obtain ⟨t0, t1⟩ : 0 ≤ t ∧ t ≤ (nn : Int) - 1 := by simpa [inB] using h2
        obtain ⟨fn, rfl⟩ : ∃ n : Nat, f = (n : Int) := ⟨f.toNat, by omega⟩
        obtain ⟨tn, rfl⟩ : ∃ n : Nat, t = (n : Int) := ⟨t.toNat, by omega⟩
        have HC : Hid (comW ⟨nn, nn, D, nk, K⟩ fn tn = comD ⟨nn, nn, D, nk, K⟩ fn tn) := comW_yes (by rw [hw, h1, h2]; rfl)
        clear hw h1 h2
        go_enter Tryz.func6, Tryz.ntmps6
        go_wp2_with fail
        refine (specWorldOk_any _ p _ hbs hR1).mono ?_
        rintro e w1 ⟨rfl, b1⟩
        rw [HW.out]
        have HF : Hid (Below w.heap.size w w1) := bel_trans B b1
        obtain ⟨x0, x1, x2, xz⟩ := (X.below b1).at3
        clear b1 hR1 B X
        go_wp2_with fail
        refine (specIn_h (fn : Int) 0 ((nn : Int) - 1) _).mono ?_
        rintro e w2 ⟨rfl, h⟩
        replace h := h.symm
        subst h
        rw [H1.out]
        go_wp2_with fail
        refine (specIn_h (tn : Int) 0 ((nn : Int) - 1) _).mono ?_
        rintro e w2 ⟨rfl, h⟩
        replace h := h.symm
        subst h
        rw [H2.out]
        go_wp2_with fail
        refine (l7Coming_any ⟨nn, nn, D, nk, K⟩ p fn tn _ (HR.out.below HF.out) HOK.out (by show fn < nn; omega) (by show tn < nn; omega)).mono ?_
        rintro e w3 ⟨a3, k3, ds, rfl, hds, hdeep, b3⟩
        have HD : Hid (Deep w3 w.heap.size a3 k3 ds) := hdeep.base HF.out.size
        have HS : Hid (ds.map M.say = comW ⟨nn, nn, D, nk, K⟩ fn tn) := by show _ = _; rw [HC.out]; exact hds
        have HG : Hid (Below w.heap.size w w3) := bel_trans HF.out b3
        clear hds hdeep b3 x0 x1 x2 xz
        go_wp2
        go_ret
        exact ⟨a3, k3, ds, rfl, HS.out, HD.out, HG.out⟩

set_option maxRecDepth 100000 in
set_option maxHeartbeats 4000000 in
theorem specTruth_any (d : WoD) (p : WoP) (page : Int) (w : World) (hbs : ∀ i, i < d.nn → ∀ j, j < (d.d i).nh → ((d.d i).h j).bs.length ≤ 1048577) (hR : WoR w d p) :
    Calls Tryz.prog 14 #[.agg (wcells d p), .int .i64 page] w (IntsP (truW d page) w) := by
  have B := bel_alloc (Below.refl w.heap.size w) (.cells (wcells d p) 32)
  have X := Box.new w (wcells d p) 32
  have HR : Hid (WoR w d p) := hR
  have hR1 := hR.below B
  clear hR
  cases hw : worldB d
  · have HW : Hid (worldB d = false) := hw
    have HC : Hid (truW d page = []) := truW_no (by rw [hw]; rfl)
    clear hw X
    go_enter Tryz.func14, Tryz.ntmps14
    go_wp2_with fail
    refine (specWorldOk_any d p _ hbs hR1).mono ?_
    rintro e w1 ⟨rfl, b1⟩
    rw [HW.out]
    have HF : Hid (Below w.heap.size w w1) := bel_trans B b1
    clear b1 hR1 B
    go_wp2
    go_ret
    exact ints_none HC.out (lit_end HF.out).1 (bel_alloc HF.out _)
  · have HW : Hid (worldB d = true) := hw
    have HOK : Hid (WOk d) := WOk.of hw
    cases h1 : inB page 0 5
    · have H1 : Hid (inB page 0 5 = false) := h1
      have HC : Hid (truW d page = []) := truW_no (by rw [hw, h1]; rfl)
      clear hw h1 X
      go_enter Tryz.func14, Tryz.ntmps14
      go_wp2_with fail
      refine (specWorldOk_any d p _ hbs hR1).mono ?_
      rintro e w1 ⟨rfl, b1⟩
      rw [HW.out]
      have HF : Hid (Below w.heap.size w w1) := bel_trans B b1
      clear b1 hR1 B
      go_wp2_with fail
      refine (specIn_h page 0 5 _).mono ?_
      rintro e w2 ⟨rfl, h⟩
      replace h := h.symm
      subst h
      rw [H1.out]
      go_wp2
      go_ret
      exact ints_none HC.out (lit_end HF.out).1 (bel_alloc HF.out _)
    · have H1 : Hid (inB page 0 5 = true) := h1
      obtain ⟨p0, p5⟩ : 0 ≤ page ∧ page ≤ 5 := by simpa [inB] using h1
      obtain ⟨pg, rfl⟩ : ∃ n : Nat, page = (n : Int) := ⟨page.toNat, by omega⟩
      have HC : Hid (truW d pg = truthL d pg) := truW_yes (by rw [hw, h1]; rfl)
      clear hw h1
      go_enter Tryz.func14, Tryz.ntmps14
      go_wp2_with fail
      refine (specWorldOk_any d p _ hbs hR1).mono ?_
      rintro e w1 ⟨rfl, b1⟩
      rw [HW.out]
      have HF : Hid (Below w.heap.size w w1) := bel_trans B b1
      obtain ⟨x0, x1, x2, xz⟩ := (X.below b1).at3
      clear b1 hR1 B X
      go_wp2_with fail
      refine (specIn_h (pg : Int) 0 5 _).mono ?_
      rintro e w2 ⟨rfl, h⟩
      replace h := h.symm
      subst h
      rw [H1.out]
      go_wp2_with fail
      refine (l7Truth_any d p pg _ (HR.out.below HF.out) HOK.out (by omega)).mono ?_
      rintro e w3 ⟨a3, k3, rfl, o3, b3⟩
      have HO : Hid (w3.ownsRow w.heap.size 3 1 (.slice a3 (truthL d pg).length k3) (truthL d pg).length ((truthL d pg).map (Value.int .i64))) := owns_base o3 HF.out.size
      have HG : Hid (Below w.heap.size w w3) := bel_trans HF.out b3
      obtain ⟨L, eL⟩ : ∃ L, truthL d pg = L := ⟨_, rfl⟩
      rw [eL] at HO HC ⊢
      clear o3 b3 x0 x1 x2 xz eL
      go_wp2
      go_ret
      exact ints_p HC.out (ints_of rfl HO.out HG.out)
end Go.Proofs.YtiaiomjoapbalaaGreat

/- What the specification's Sane answers. -/
namespace Go.Proofs.YtiaiomjoapbalaaGreat
open Go.RowKit
set_option linter.unusedVariables false

theorem truth_len {d : WoD} (h : WOk d) {k : Nat} (hk : k < 6) : (truthL d k).length ≤ 1048577 := by
  have hm : k % d.nn < d.nn := Nat.mod_lt _ h.n.2.1
  have h1 := hoB_parts (h.h _ hm k hk)
  unfold truthL
  split
  · omega
  · have ho : ((d.d (k % d.nn)).h k).ow.toNat < d.nn := by omega
    have h2 := frB_parts (h.f _ ho k hk)
    split
    · omega
    · have h3 := lastY_len 3 k (com_ok h hm ho)
      have h7 := lastY_len 7 k (com_ok h ho hm)
      split <;> omega
theorem sane_bad {d : WoD} {k : Nat} (hk : k < 6) (h : saneP d k = false) : saneB d = false := by unfold saneB; rw [allB_bad hk h]; rfl
theorem saneP_alone {d : WoD} {k : Nat} (h : aloneB d k = false) : saneP d k = false := by unfold saneP; rw [h]; rfl
theorem saneP_len {d : WoD} {k : Nat} (h : ¬ (truthL d k).length = 4) : saneP d k = false := by unfold saneP; rw [decide_eq_false h]; simp
theorem saneP_frame {d : WoD} {k i : Nat} (hi : i < d.nn) (h : (((d.d i).f k).s == 0 || decide (((d.d i).f k).xs = truthL d k)) = false) : saneP d k = false := by unfold saneP; rw [allB_bad hi h]; simp
theorem saneP_ok {d : WoD} {k : Nat} (h : aloneB d k = true) (h2 : (truthL d k).length = 4) (h3 : ∀ i, i < d.nn → (((d.d i).f k).s == 0 || decide (((d.d i).f k).xs = truthL d k)) = true) : saneP d k = true := by unfold saneP; rw [h, decide_eq_true h2, allB_ok h3]; rfl
theorem sane_sent {d : WoD} {i k : Nat} (hi : i < d.nn) (hk : k < d.nn) (h : sentB d i k = false) : saneB d = false := by unfold saneB; rw [allB_bad (n := d.nn) hi (allB_bad hk h)]; simp
theorem sane_ok {d : WoD} (h : ∀ k, k < 6 → saneP d k = true) (h2 : ∀ i, i < d.nn → ∀ k, k < d.nn → sentB d i k = true) : saneB d = true := by unfold saneB; rw [allB_ok h, allB_ok (fun i hi => allB_ok (h2 i hi))]; rfl


end Go.Proofs.YtiaiomjoapbalaaGreat
