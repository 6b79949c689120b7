/- TrT and TrF and Mem1: see the heads of the parts. -/
import Derived.Test.YtpfppeifppdmbaaGreatTrC
import Derived.Test.YtpfppeifppdmbaaGreatTrL
import Derived.Test.YtpfppeifppdmbaaGreatAppR
/- What the specification's l7Truth does. -/
namespace Go.Proofs.YtpfppeifppdmbaaGreat
open Go.RowKit
set_option linter.unusedVariables false

/-- A call that answers a row of words. -/
def IntsP (L : List Int) (w : World) (e : Ending) (w' : World) : Prop := ∃ (a : Option Addr) (c : Nat), e = .returned (.slice a L.length c) ∧ w'.ownsRow w.heap.size 3 1 (.slice a L.length c) L.length (L.map (Value.int .i64)) ∧ Below w.heap.size w w'

theorem ints_p {L L' : List Int} (h : L = L') {w w' : World} {e : Ending} (hp : IntsP L' w e w') : IntsP L w e w' := by rw [h]; exact hp
theorem ints_of {L : List Int} {n : Nat} (hl : L.length = n) {w w' : World} {a : Option Addr} {c : Nat} (o : w'.ownsRow w.heap.size 3 1 (.slice a n c) n (L.map (Value.int .i64))) (b : Below w.heap.size w w') : IntsP L w (.returned (.slice a n c)) w' := by subst hl; exact ⟨a, c, rfl, o, b⟩
theorem com_ok {d : WoD} (h : WOk d) {f t : Nat} (hf : f < d.nn) (ht : t < d.nn) : ∀ s ∈ comD d f t, okS s = true := fun s hs => (sB_parts (h.o f hf t ht)).2.2.2 s (com_mem hs)
theorem says_len {ds : List M} {y : List Say} (h : ds.map M.say = y) (hy : ∀ s ∈ y, okS s = true) : ∀ m ∈ ds, m.xs.length ≤ 1048577 := fun m hm => by
  have h1 : m.say ∈ y := by rw [← h]; exact List.mem_map_of_mem hm
  have := (okS_len (hy _ h1)).1
  simp only [M.say] at this
  omega
theorem say_num {d : WoD} (h : WOk d) {f t : Nat} (hf : f < d.nn) (ht : t < d.nn) {ds : List M} (hd : ds.map M.say = comD d f t) : ds.length ≤ 30 := by
  have h1 := congrArg List.length hd
  rw [List.length_map] at h1
  have h2 := com_len ((d.d f).b t) ((d.d t).g f) ((d.d f).y t)
  have h3 := (sB_parts (h.o f hf t ht)).2.1
  unfold comD at h1
  omega

set_option maxRecDepth 100000 in
set_option maxHeartbeats 4000000 in
theorem l7Truth_any (d : WoD) (p : WoP) (pg : Nat) (w : World) (hR : WoR w d p) (hok : WOk d) (hp : pg < 6) :
    Calls Tryz.prog 27 #[.agg (wcells d p), .int .i64 (pg : Int)] w (IntsP (truthL d pg) w) := by
  obtain ⟨i1, hi1, hz10, hz11, hz12⟩ := info_parts info_i64
  obtain ⟨size, nn, D, nk, K⟩ := d
  obtain ⟨⟨pn, cn⟩, np, ⟨pk, ck⟩, kp⟩ := p
  have hsz : size = (nn : Int) := hok.n.1
  have hn1 : 1 ≤ nn := hok.n.2.1
  have hn4 : nn ≤ 4 := hok.n.2.2
  subst hsz
  obtain ⟨hm, ehm⟩ : ∃ x, pg % nn = x := ⟨_, rfl⟩
  have hhm : hm < nn := by rw [← ehm]; exact Nat.mod_lt _ hn1
  have hrem : (pg : Int) % (nn : Int) = (hm : Int) := by rw [← ehm]; rfl
  have hrem2 : (pg : Int).tmod (nn : Int) = (hm : Int) := by rw [← ehm]; rfl
  obtain ⟨ch1, ch2, ch3, ch4⟩ := hok.c hm hhm
  have hho := hoB_parts (hok.h hm hhm pg hp)
  have hne : ¬ ((nn : Int) = 0) := by omega
  have HOK : Hid (WOk ⟨nn, nn, D, nk, K⟩) := hok
  have HR : Hid (WoR w ⟨nn, nn, D, nk, K⟩ ⟨(pn, cn), np, (pk, ck), kp⟩) := hR
  have B := bel_alloc (Below.refl w.heap.size w) (.cells #[.int .i64 (nn : Int), .slice pn nn cn, .slice pk nk ck] 32)
  have X := Box.new w #[.int .i64 (nn : Int), .slice pn nn cn, .slice pk nk ck] 32
  have hN : NsR _ pn nn D np := hR.n.below B
  obtain ⟨bn, on1, ea, y0, y1, y2, y3, y4⟩ := hN.at hhm
  subst ea
  have hrh := (hN.2.2 hm hhm).h
  obtain ⟨bh, oh, eh, c0, c1, c2, c3, c4, c5, c6, c7⟩ := hrh.at (i := pg) (by simp only at ch2; omega)
  simp only at ch2 hho
  rw [eh, ch2] at y2
  obtain ⟨W1, hW1⟩ : ∃ W1, w.alloc (.cells #[.int .i64 (nn : Int), .slice (some ⟨bn, on1, none⟩) nn cn, .slice pk nk ck] 32) = W1 := ⟨_, rfl⟩
  rw [hW1] at B X hN y0 y1 y2 y3 y4 c0 c1 c2 c3 c4 c5 c6 c7 hrh
  obtain ⟨⟨hxs, how, hbs, hbz, hwh, hwo, hak, hws⟩, ehd⟩ : ∃ x, (D hm).h pg = x := ⟨_, rfl⟩
  obtain ⟨⟨hpl, hpr, hpq⟩, ehp⟩ : ∃ x, (np hm).hp pg = x := ⟨_, rfl⟩
  have hlr := (hrh.2.2 pg (by omega)).1
  rw [ehd] at c0 c1 c2 c3 c4 c5 c6 c7 hho hlr
  rw [ehp] at c0 c2 c7 hlr
  simp only at c0 c1 c2 c3 c4 c5 c6 c7 hho hlr
  obtain ⟨hx1, hx2, hx3⟩ := hho
  rw [hx1] at c0
  have HX1 : Hid (hxs.length = 4) := hx1
  have HLR : Hid (Row .i64 W1 hpl.1 hxs) := hlr
  have hp6 : (pg : Int) < 6 := by omega
  have hm4 : (hm : Int) < (nn : Int) := by omega
  obtain ⟨x0, x1, x2, xz⟩ := X.at3
  have zb := lt_of_cell y0
  have zh := lt_of_cell c0
  have HX : Hid (Box W1 w.heap.size #[.int .i64 (nn : Int), .slice (some ⟨bn, on1, none⟩) nn cn, .slice pk nk ck] 32) := X
  have HB : Hid (Below w.heap.size w W1) := B
  have HNs : Hid (NsR W1 (some ⟨bn, on1, none⟩) nn D np) := hN
  have bH := bel_alloc (Below.refl W1.heap.size W1) (.cells #[.slice hpl.1 4 hpl.2, .int .i64 how, .slice hpr.1 hbs.length hpr.2, .bool hbz, .int .i64 hwh, .bool hwo, .int .i64 hak, .slice hpq.1 hws.length hpq.2] 93)
  have XH := Box.new W1 #[.slice hpl.1 4 hpl.2, .int .i64 how, .slice hpr.1 hbs.length hpr.2, .bool hbz, .int .i64 hwh, .bool hwo, .int .i64 hak, .slice hpq.1 hws.length hpq.2] 93
  clear y0 y1 y3 y4 hrh eh ch1 ch2 ch3 ch4 hR hok hlr hx1 ehp B X hN
  by_cases hneg : how < 0
  · have HT : Hid (truthL ⟨nn, nn, D, nk, K⟩ pg = hxs) := by
      show _ = _
      unfold truthL
      simp only [ehm, ehd, hneg, if_true]
    have hv := ((row_v HLR.out (by rw [HX1.out]; omega)).below bH).below (bel_alloc (Below.refl _ _) (.cells #[] 3))
    have oE := own_litE (W1.alloc (.cells #[.slice hpl.1 4 hpl.2, .int .i64 how, .slice hpr.1 hbs.length hpr.2, .bool hbz, .int .i64 hwh, .bool hwo, .int .i64 hak, .slice hpq.1 hws.length hpq.2] 93)) 3 1 (W1.heap.size + 1) (by simp)
    rw [show (W1.alloc (.cells #[.slice hpl.1 4 hpl.2, .int .i64 how, .slice hpr.1 hbs.length hpr.2, .bool hbz, .int .i64 hwh, .bool hwo, .int .i64 hak, .slice hpq.1 hws.length hpq.2] 93)).heap.size = W1.heap.size + 1 by simp] at oE
    have B2 := bel_trans (bel_trans HB.out bH) (bel_alloc (Below.refl _ _) (.cells #[] 3))
    clear XH bH ehd ehm
    go_enter Tryz.func27, Tryz.ntmps27
    go_wp2_with (at_builtin; refine wpList_append_rowYtpfppeifppdmbaaGreat rfl (.tmp 25) (.tmp 27) 27 rfl (W1.heap.size + 1) 3 i1 (.int .i64 0) 1 8 Tryz.underlying27 hi1 hz10 hz11 hz12 rfl (by decide) (.slice (some ⟨W1.heap.size + 1, 0, none⟩) 0 0) 0 [] (by rfl) oE hpl.1 4 hpl.2 (hxs.map (Value.int .i64)) (by rfl) (by rw [List.length_map, HX1.out]) hv.2 (by intro u hu; obtain ⟨x, _, rfl⟩ := List.mem_map.1 hu; rfl) (by unfold maxLen; omega) (by omega) (by simp) ?_)
    intro v1 w5 o5 g5
    have B5 : Hid (Below w.heap.size w w5) := B2.grown g5 B2.size (fun j hj => by simp [Value.ownBlock] at hj; omega)
    try simp only [Nat.zero_add, List.nil_append] at o5
    obtain ⟨a5, c5, rfl⟩ := owns_slice o5
    have O5 : Hid (w5.ownsRow w.heap.size 3 1 (.slice a5 4 c5) 4 (hxs.map (Value.int .i64))) := owns_base o5 (by omega)
    clear o5 g5 oE hv B2
    go_wp2
    go_ret
    exact ints_p HT.out (ints_of HX1.out O5.out B5.out)
  · obtain ⟨o, rfl⟩ : ∃ o : Nat, how = (o : Int) := ⟨how.toNat, by omega⟩
    have ho : o < nn := by omega
    have hoi : (o : Int) < (nn : Int) := by omega
    have hop : ¬ ((o : Int) < 0) := by omega
    obtain ⟨bn2, on2, ea2, y0, y1, y2', y3, y4⟩ := HNs.out.at ho
    simp only [Option.some.injEq, Addr.mk.injEq, and_true] at ea2
    obtain ⟨e1, e2⟩ := ea2
    subst e1 e2
    have hc := HOK.out.c o ho
    have hfo := frB_parts (HOK.out.f o ho pg hp)
    simp only at hc hfo
    have hrf := (HNs.out.2.2 o ho).f
    obtain ⟨bf, of, ef, f0, f1, f2⟩ := hrf.at (i := pg) (by omega)
    rw [ef, hc.1] at y1
    obtain ⟨⟨fs, fxs, fq⟩, efd⟩ : ∃ x, (D o).f pg = x := ⟨_, rfl⟩
    obtain ⟨fpl, efp⟩ : ∃ x, (np o).fp pg = x := ⟨_, rfl⟩
    have hflr := hrf.2.2 pg (by omega)
    rw [efd] at f0 f1 f2 hfo hflr
    rw [efp] at f1 hflr
    simp only at f0 f1 f2 hfo hflr
    have HFR : Hid (Row .i64 W1 fpl.1 fxs) := hflr
    have zf := lt_of_cell f0
    clear hrf ef hc hflr y0 y2' y3 y4 efp
    by_cases hs2 : fs = 2
    · subst hs2
      have hl4 : fxs.length = 4 := by rcases hfo with h | h; exact absurd h.1 (by decide); exact h.2
      rw [hl4] at f1
      have HL4 : Hid (fxs.length = 4) := hl4
      have HT : Hid (truthL ⟨nn, nn, D, nk, K⟩ pg = fxs) := by
        show _ = _
        unfold truthL
        simp only [ehm, ehd, hop, if_false, Int.toNat_natCast, efd, if_true]
      have bF := bel_alloc bH (.cells #[.int .i64 2, .slice fpl.1 4 fpl.2, .bool fq] 95)
      have hv := ((row_v HFR.out (by rw [HL4.out]; omega)).below bF).below (bel_alloc (Below.refl _ _) (.cells #[] 3))
      have B2 := bel_trans (bel_trans HB.out bF) (bel_alloc (Below.refl _ _) (.cells #[] 3))
      have oE := own_litE ((W1.alloc (.cells #[.slice hpl.1 4 hpl.2, .int .i64 (o : Int), .slice hpr.1 hbs.length hpr.2, .bool hbz, .int .i64 hwh, .bool hwo, .int .i64 hak, .slice hpq.1 hws.length hpq.2] 93)).alloc (.cells #[.int .i64 2, .slice fpl.1 4 fpl.2, .bool fq] 95)) 3 1 (W1.heap.size + 1 + 1) (by simp)
      rw [show ((W1.alloc (.cells #[.slice hpl.1 4 hpl.2, .int .i64 (o : Int), .slice hpr.1 hbs.length hpr.2, .bool hbz, .int .i64 hwh, .bool hwo, .int .i64 hak, .slice hpq.1 hws.length hpq.2] 93)).alloc (.cells #[.int .i64 2, .slice fpl.1 4 fpl.2, .bool fq] 95)).heap.size = W1.heap.size + 1 + 1 by simp] at oE
      clear XH bH ehd ehm hfo hl4 efd bF
      go_enter Tryz.func27, Tryz.ntmps27
      go_wp2_with (at_builtin; refine wpList_append_rowYtpfppeifppdmbaaGreat rfl (.tmp 42) (.tmp 44) 27 rfl (W1.heap.size + 1 + 1) 3 i1 (.int .i64 0) 1 8 Tryz.underlying27 hi1 hz10 hz11 hz12 rfl (by decide) (.slice (some ⟨W1.heap.size + 1 + 1, 0, none⟩) 0 0) 0 [] (by rfl) oE fpl.1 4 fpl.2 (fxs.map (Value.int .i64)) (by rfl) (by rw [List.length_map, HL4.out]) hv.2 (by intro u hu; obtain ⟨x, _, rfl⟩ := List.mem_map.1 hu; rfl) (by unfold maxLen; omega) (by omega) (by simp) ?_)
      intro v1 w5 o5 g5
      have B5 : Hid (Below w.heap.size w w5) := B2.grown g5 B2.size (fun j hj => by simp [Value.ownBlock] at hj; omega)
      try simp only [Nat.zero_add, List.nil_append] at o5
      obtain ⟨a5, c5, rfl⟩ := owns_slice o5
      have O5 : Hid (w5.ownsRow w.heap.size 3 1 (.slice a5 4 c5) 4 (fxs.map (Value.int .i64))) := owns_base o5 (by omega)
      clear o5 g5 oE hv B2
      go_wp2
      go_ret
      exact ints_p HT.out (ints_of HL4.out O5.out B5.out)
    · have hs2' : (fs == 2) = false := by simpa using hs2
      have bF := bel_alloc bH (.cells #[.int .i64 fs, .slice fpl.1 fxs.length fpl.2, .bool fq] 95)
      have HL : Hid (fxs.length ≤ 4) := by rcases hfo with h | h <;> (show _ ≤ _; omega)
      have HBF : Hid (Below w.heap.size w _) := bel_trans HB.out bF
      have HXW : Hid (Box _ w.heap.size #[.int .i64 (nn : Int), .slice (some ⟨bn, on1, none⟩) nn cn, .slice pk nk ck] 32) := HX.out.below bF
      have HXH : Hid (Box _ W1.heap.size #[.slice hpl.1 4 hpl.2, .int .i64 (o : Int), .slice hpr.1 hbs.length hpr.2, .bool hbz, .int .i64 hwh, .bool hwo, .int .i64 hak, .slice hpq.1 hws.length hpq.2] 93) := XH.below (bel_alloc (Below.refl _ _) (.cells #[.int .i64 fs, .slice fpl.1 fxs.length fpl.2, .bool fq] 95))
      obtain ⟨L3, e3⟩ : ∃ x, lastY 3 pg (comD ⟨nn, nn, D, nk, K⟩ hm o) = x := ⟨_, rfl⟩
      obtain ⟨L7, e7⟩ : ∃ x, lastY 7 pg (comD ⟨nn, nn, D, nk, K⟩ o hm) = x := ⟨_, rfl⟩
      have HE3 : Hid (lastY 3 pg (comD ⟨nn, nn, D, nk, K⟩ hm o) = L3) := e3
      have HE7 : Hid (lastY 7 pg (comD ⟨nn, nn, D, nk, K⟩ o hm) = L7) := e7
      have HT : Hid (truthL ⟨nn, nn, D, nk, K⟩ pg = if L3.length = 0 then L7 else L3) := by
        show _ = _
        unfold truthL
        simp only [ehm, ehd, hop, if_false, Int.toNat_natCast, efd, hs2, e3, e7]
      have h34 : L3.length ≤ 4 := by rw [← e3]; exact lastY_len 3 pg (com_ok HOK.out hhm ho)
      clear XH bH ehd ehm hfo efd bF e3 e7
      go_enter Tryz.func27, Tryz.ntmps27
      go_wp2_with fail
      refine (l7Coming_any ⟨nn, nn, D, nk, K⟩ ⟨(some ⟨bn, on1, none⟩, cn), np, (pk, ck), kp⟩ hm o _ (HR.out.below HBF.out) HOK.out hhm ho).mono ?_
      rintro e w4 ⟨a4, k4, ds, rfl, hds, hdeep, b4⟩
      have HDL : Hid (lastY 3 pg (ds.map M.say) = L3) := by show _ = _; rw [hds]; exact HE3.out
      have hmr := hdeep.mrow (by have := say_num HOK.out hhm ho hds; omega) (says_len hds (com_ok HOK.out hhm ho))
      have HSL : Hid (∀ m ∈ ds, m.xs.length ≤ 1048577) := says_len hds (com_ok HOK.out hhm ho)
      replace HXW : Hid (Box w4 w.heap.size #[.int .i64 (nn : Int), .slice (some ⟨bn, on1, none⟩) nn cn, .slice pk nk ck] 32) := HXW.out.below b4
      replace HXH : Hid (Box w4 W1.heap.size #[.slice hpl.1 4 hpl.2, .int .i64 (o : Int), .slice hpr.1 hbs.length hpr.2, .bool hbz, .int .i64 hwh, .bool hwo, .int .i64 hak, .slice hpq.1 hws.length hpq.2] 93) := HXH.out.below b4
      replace HBF : Hid (Below w.heap.size w w4) := bel_trans HBF.out b4
      clear hds hdeep b4 x0 x1 x2 xz y1 y2 c0 c1 c2 c3 c4 c5 c6 c7 f0 f1 f2 zb zh zf
      go_wp2_with fail
      refine (l7Last_any 3 pg a4 k4 ds _ hmr HSL.out).mono ?_
      rintro e w5 ⟨a5, k5, rfl, o5, b5⟩
      rw [HDL.out] at o5 ⊢
      replace HXW : Hid (Box w5 w.heap.size #[.int .i64 (nn : Int), .slice (some ⟨bn, on1, none⟩) nn cn, .slice pk nk ck] 32) := HXW.out.below b5
      replace HXH : Hid (Box w5 W1.heap.size #[.slice hpl.1 4 hpl.2, .int .i64 (o : Int), .slice hpr.1 hbs.length hpr.2, .bool hbz, .int .i64 hwh, .bool hwo, .int .i64 hak, .slice hpq.1 hws.length hpq.2] 93) := HXH.out.below b5
      have HO5 : Hid (w5.ownsRow w.heap.size 3 1 (.slice a5 L3.length k5) L3.length (L3.map (Value.int .i64))) := owns_base o5 HBF.out.size
      replace HBF : Hid (Below w.heap.size w w5) := bel_trans HBF.out b5
      obtain ⟨n3, en3⟩ : ∃ x, L3.length = x := ⟨_, rfl⟩
      have HN3 : Hid (L3.length = n3) := en3
      rw [en3] at h34 ⊢
      clear hmr o5 b5 en3
      by_cases hz : n3 = 0
      · subst hz
        obtain ⟨x0, x1, x2, xz⟩ := HXW.out.at3
        obtain ⟨g0, g1, g2, g3, g4, g5, g6, g7, gz⟩ := at8 HXH.out
        go_wp2_with fail
        refine (l7Coming_any ⟨nn, nn, D, nk, K⟩ ⟨(some ⟨bn, on1, none⟩, cn), np, (pk, ck), kp⟩ o hm _ (HR.out.below HBF.out) HOK.out ho hhm).mono ?_
        rintro e w6 ⟨a6, k6, es, rfl, hes, hdeep, b6⟩
        have HDL7 : Hid (lastY 7 pg (es.map M.say) = L7) := by show _ = _; rw [hes]; exact HE7.out
        have hmr := hdeep.mrow (by have := say_num HOK.out ho hhm hes; omega) (says_len hes (com_ok HOK.out ho hhm))
        have HSL7 : Hid (∀ m ∈ es, m.xs.length ≤ 1048577) := says_len hes (com_ok HOK.out ho hhm)
        replace HBF : Hid (Below w.heap.size w w6) := bel_trans HBF.out b6
        clear hes hdeep b6 x0 x1 x2 xz g0 g1 g2 g3 g4 g5 g6 g7 gz
        go_wp2_with fail
        refine (l7Last_any 7 pg a6 k6 es _ hmr HSL7.out).mono ?_
        rintro e w7 ⟨a7, k7, rfl, o7, b7⟩
        rw [HDL7.out] at o7 ⊢
        have HO7 : Hid (w7.ownsRow w.heap.size 3 1 (.slice a7 L7.length k7) L7.length (L7.map (Value.int .i64))) := owns_base o7 HBF.out.size
        replace HBF : Hid (Below w.heap.size w w7) := bel_trans HBF.out b7
        clear o7 b7 hmr
        go_wp2
        go_ret
        exact ints_p (HT.out.trans (by rw [HN3.out]; rfl)) (ints_of rfl HO7.out HBF.out)
      · have hz' : (0 : Int) < (n3 : Int) := by omega
        go_wp2
        go_ret
        exact ints_p (HT.out.trans (by rw [HN3.out, if_neg hz])) (ints_of HN3.out (by have := HO5.out; rw [HN3.out] at this; exact this) HBF.out)
end Go.Proofs.YtpfppeifppdmbaaGreat

/- What the specification's Coming and Truth answer. -/
namespace Go.Proofs.YtpfppeifppdmbaaGreat
open Go.RowKit
set_option linter.unusedVariables false

/-- A call that answers a row of messages. -/
def MsgsP (y : List Say) (w : World) (e : Ending) (w' : World) : Prop := ∃ (a : Option Addr) (c : Nat) (ds : List M), e = .returned (.slice a ds.length c) ∧ ds.map M.say = y ∧ Deep w' w.heap.size a c ds ∧ Below w.heap.size w w'
def comW (d : WoD) (f t : Int) : List Say := if worldB d && (inB f 0 (d.size - 1) && inB t 0 (d.size - 1)) then comD d f.toNat t.toNat else []
def truW (d : WoD) (page : Int) : List Int := if worldB d && inB page 0 5 then truthL d page.toNat else []
theorem comW_no {d : WoD} {f t : Int} (h : (worldB d && (inB f 0 (d.size - 1) && inB t 0 (d.size - 1))) = false) : comW d f t = [] := by unfold comW; rw [h]; rfl
theorem comW_yes {d : WoD} {f t : Int} (h : (worldB d && (inB f 0 (d.size - 1) && inB t 0 (d.size - 1))) = true) : comW d f t = comD d f.toNat t.toNat := by unfold comW; rw [h]; rfl
theorem truW_no {d : WoD} {page : Int} (h : (worldB d && inB page 0 5) = false) : truW d page = [] := by unfold truW; rw [h]; rfl
theorem truW_yes {d : WoD} {page : Int} (h : (worldB d && inB page 0 5) = true) : truW d page = truthL d page.toNat := by unfold truW; rw [h]; rfl
theorem msgs_none {d : WoD} {f t : Int} (h : comW d f t = []) {w w' : World} {a : Option Addr} (o : w'.ownsRow w.heap.size 69 4 (.slice a 0 0) 0 []) (b : Below w.heap.size w w') : MsgsP (comW d f t) w (.returned (.slice a 0 0)) w' := by
  rw [h]
  exact ⟨a, 0, [], rfl, rfl, ⟨o, Lists.nil _ _⟩, b⟩
theorem ints_none {d : WoD} {page : Int} (h : truW d page = []) {w w' : World} {a : Option Addr} (o : w'.ownsRow w.heap.size 3 1 (.slice a 0 0) 0 []) (b : Below w.heap.size w w') : IntsP (truW d page) w (.returned (.slice a 0 0)) w' := by
  rw [h]
  exact ⟨a, 0, rfl, o, b⟩
theorem lit_end {w w1 : World} {e s : Nat} (b : Below w.heap.size w w1) : (w1.alloc (.cells #[] e)).ownsRow w.heap.size e s (.slice (some ⟨w1.heap.size, 0, none⟩) 0 0) 0 [] ∧ Below w.heap.size w (w1.alloc (.cells #[] e)) :=
  ⟨own_litE w1 e s w.heap.size b.size, bel_alloc b _⟩


set_option maxRecDepth 100000 in
set_option maxHeartbeats 4000000 in
theorem specTruth_any (d : WoD) (p : WoP) (page : Int) (w : World) (hbs : ∀ i, i < d.nn → ∀ j, j < (d.d i).nh → ((d.d i).h j).bs.length ≤ 1048577) (hR : WoR w d p) :
    Calls Tryz.prog 15 #[.agg (wcells d p), .int .i64 page] w (IntsP (truW d page) w) := by
  have B := bel_alloc (Below.refl w.heap.size w) (.cells (wcells d p) 32)
  have X := Box.new w (wcells d p) 32
  have HR : Hid (WoR w d p) := hR
  have hR1 := hR.below B
  clear hR
  cases hw : worldB d
  · have HW : Hid (worldB d = false) := hw
    have HC : Hid (truW d page = []) := truW_no (by rw [hw]; rfl)
    clear hw X
    go_enter Tryz.func15, Tryz.ntmps15
    go_wp2_with fail
    refine (specWorldOk_any d p _ hbs hR1).mono ?_
    rintro e w1 ⟨rfl, b1⟩
    rw [HW.out]
    have HF : Hid (Below w.heap.size w w1) := bel_trans B b1
    clear b1 hR1 B
    go_wp2
    go_ret
    exact ints_none HC.out (lit_end HF.out).1 (bel_alloc HF.out _)
  · have HW : Hid (worldB d = true) := hw
    have HOK : Hid (WOk d) := WOk.of hw
    cases h1 : inB page 0 5
    · have H1 : Hid (inB page 0 5 = false) := h1
      have HC : Hid (truW d page = []) := truW_no (by rw [hw, h1]; rfl)
      clear hw h1 X
      go_enter Tryz.func15, Tryz.ntmps15
      go_wp2_with fail
      refine (specWorldOk_any d p _ hbs hR1).mono ?_
      rintro e w1 ⟨rfl, b1⟩
      rw [HW.out]
      have HF : Hid (Below w.heap.size w w1) := bel_trans B b1
      clear b1 hR1 B
      go_wp2_with fail
      refine (specIn_h page 0 5 _).mono ?_
      rintro e w2 ⟨rfl, h⟩
      replace h := h.symm
      subst h
      rw [H1.out]
      go_wp2
      go_ret
      exact ints_none HC.out (lit_end HF.out).1 (bel_alloc HF.out _)
    · have H1 : Hid (inB page 0 5 = true) := h1
      obtain ⟨p0, p5⟩ : 0 ≤ page ∧ page ≤ 5 := by simpa [inB] using h1
      obtain ⟨pg, rfl⟩ : ∃ n : Nat, page = (n : Int) := ⟨page.toNat, by omega⟩
      have HC : Hid (truW d pg = truthL d pg) := truW_yes (by rw [hw, h1]; rfl)
      clear hw h1
      go_enter Tryz.func15, Tryz.ntmps15
      go_wp2_with fail
      refine (specWorldOk_any d p _ hbs hR1).mono ?_
      rintro e w1 ⟨rfl, b1⟩
      rw [HW.out]
      have HF : Hid (Below w.heap.size w w1) := bel_trans B b1
      obtain ⟨x0, x1, x2, xz⟩ := (X.below b1).at3
      clear b1 hR1 B X
      go_wp2_with fail
      refine (specIn_h (pg : Int) 0 5 _).mono ?_
      rintro e w2 ⟨rfl, h⟩
      replace h := h.symm
      subst h
      rw [H1.out]
      go_wp2_with fail
      refine (l7Truth_any d p pg _ (HR.out.below HF.out) HOK.out (by omega)).mono ?_
      rintro e w3 ⟨a3, k3, rfl, o3, b3⟩
      have HO : Hid (w3.ownsRow w.heap.size 3 1 (.slice a3 (truthL d pg).length k3) (truthL d pg).length ((truthL d pg).map (Value.int .i64))) := owns_base o3 HF.out.size
      have HG : Hid (Below w.heap.size w w3) := bel_trans HF.out b3
      obtain ⟨L, eL⟩ : ∃ L, truthL d pg = L := ⟨_, rfl⟩
      rw [eL] at HO HC ⊢
      clear o3 b3 x0 x1 x2 xz eL
      go_wp2
      go_ret
      exact ints_p HC.out (ints_of rfl HO.out HG.out)
end Go.Proofs.YtpfppeifppdmbaaGreat

/- What the specification's Memory answers. -/
namespace Go.Proofs.YtpfppeifppdmbaaGreat
open Go.RowKit
set_option linter.unusedVariables false

/-- The words of the first k pages. -/
def memL (d : WoD) : Nat → List Int
  | 0 => []
  | k + 1 => memL d k ++ truW d (k : Int)
/-- All words, if each page has its four. -/
def memW (d : WoD) : List Int := if allB 6 (fun q => decide ((truW d (q : Int)).length = 4)) then memL d 6 else []
theorem memL_len {d : WoD} : ∀ {k : Nat}, (∀ q : Nat, q < k → (truW d (q : Int)).length = 4) → (memL d k).length = 4 * k
  | 0, _ => rfl
  | k + 1, h => by
    have h1 := memL_len (d := d) (k := k) (fun q hq => h q (by omega))
    have h2 := h k (by omega)
    simp only [memL, List.length_append]
    omega
theorem memW_no {d : WoD} {q : Nat} (hq : q < 6) (h : ¬ (truW d (q : Int)).length = 4) : memW d = [] := by
  unfold memW
  rw [allB_bad hq (by simpa using h)]
  rfl
theorem memW_yes {d : WoD} (h : ∀ q : Nat, q < 6 → (truW d (q : Int)).length = 4) : memW d = memL d 6 := by
  unfold memW
  rw [allB_ok (fun i hi => by simpa using h i hi)]
  rfl
theorem memW_len (d : WoD) : (memW d).length ≤ 1048577 := by
  by_cases h : ∀ q : Nat, q < 6 → (truW d (q : Int)).length = 4
  · rw [memW_yes h, memL_len h]; omega
  · obtain ⟨q, hq, h1⟩ : ∃ q : Nat, q < 6 ∧ ¬ (truW d (q : Int)).length = 4 := by
      refine Classical.byContradiction (fun hn => h (fun q hq => Classical.byContradiction (fun h1 => hn ⟨q, hq, h1⟩)))
    rw [memW_no hq h1]; simp

set_option maxRecDepth 100000 in
set_option maxHeartbeats 4000000 in
theorem specMemory_any (d : WoD) (p : WoP) (w : World) (hbs : ∀ i, i < d.nn → ∀ j, j < (d.d i).nh → ((d.d i).h j).bs.length ≤ 1048577) (hR : WoR w d p) :
    Calls Tryz.prog 5 #[.agg (wcells d p)] w (IntsP (memW d) w) := by
  obtain ⟨i1, hi1, hz10, hz11, hz12⟩ := info_parts info_i64
  have HR : Hid (WoR w d p) := hR
  have HBS : Hid (∀ i, i < d.nn → ∀ j, j < (d.d i).nh → ((d.d i).h j).bs.length ≤ 1048577) := hbs
  have hX : Hid (Box ((w.alloc (.cells (wcells d p) 32)).alloc (.cells #[] 3)) w.heap.size (wcells d p) 32) := (Box.new w (wcells d p) 32).below (bel_alloc (Below.refl _ _) _)
  have HB : Hid (Below w.heap.size w ((w.alloc (.cells (wcells d p) 32)).alloc (.cells #[] 3))) := bel_alloc (bel_alloc (Below.refl _ _) _) _
  have HO : Hid (((w.alloc (.cells (wcells d p) 32)).alloc (.cells #[] 3)).ownsRow (w.heap.size + 1) 3 1 (.slice (some ⟨w.heap.size + 1, 0, none⟩) 0 0) 0 ((memL d 0).map (Value.int .i64))) := by
    have h := own_litE (w.alloc (.cells (wcells d p) 32)) 3 1 (w.heap.size + 1) (by simp)
    simp only [World.size_alloc] at h
    exact h
  clear hR hbs
  go_enter Tryz.func5, Tryz.ntmps5
  go_wp2
  go_loopw [3, 4] (fun v i wr => ∃ k : Nat, k ≤ 6 ∧ i = .int .i64 k ∧ (∀ q : Nat, q < k → (truW d (q : Int)).length = 4) ∧ ∃ (a : Option Addr) (c : Nat), v = .slice a (4 * k) c ∧ wr.ownsRow (w.heap.size + 1) 3 1 (.slice a (4 * k) c) (4 * k) ((memL d k).map (Value.int .i64)) ∧ Box wr w.heap.size (wcells d p) 32 ∧ Below w.heap.size w wr) (fun _ i _ => 6 - (intOf i).toNat)
  case atStart => exact ⟨0, by omega, rfl, fun q hq => absurd hq (Nat.not_lt_zero q), _, _, rfl, HO.out, hX.out, HB.out⟩
  case round =>
    obtain ⟨k, hk, rfl, hall, a, c, rfl, O, X, B⟩ := hrel
    have HA : Hid (∀ q : Nat, q < k → (truW d (q : Int)).length = 4) := hall
    clear hall hX HB HO
    by_cases hk6 : k < 6
    · have hi : (k : Int) < 6 := by omega
      obtain ⟨x0, x1, x2, xz⟩ := X.at3
      have hr := HR.out.below B
      go_wp2_with fail
      refine (specTruth_any d p (k : Int) _ HBS.out hr).mono ?_
      rintro e w1 ⟨a1, c1, rfl, o1, b1⟩
      have L1 : Hid (∀ j, (Value.slice a1 (truW d (k : Int)).length c1).ownBlock = some j → wr.heap.size ≤ j) := fun j hj => (o1.lt j hj).1
      replace X := X.below b1
      replace O := owns_below O b1
      replace B := bel_trans B b1
      clear b1 hr x0 x1 x2 xz
      obtain ⟨n, hn⟩ : ∃ n, (truW d (k : Int)).length = n := ⟨_, rfl⟩
      have HN : Hid ((truW d (k : Int)).length = n) := hn
      rw [hn] at o1 L1 ⊢
      by_cases h4 : n = 4
      · subst h4
        have hv := owns_vrow' o1 (by rw [List.length_map, hn]; omega)
        have hz : w.heap.size + 1 ≤ w1.heap.size := by have := X.lt; omega
        clear hn
        go_wp2_with (at_builtin; refine wpList_append_rowYtpfppeifppdmbaaGreat rfl (.tmp 18) (.tmp 19) 27 rfl (w.heap.size + 1) 3 i1 (.int .i64 0) 1 8 Tryz.underlying27 hi1 hz10 hz11 hz12 rfl (by decide) (.slice a (4 * k) c) (4 * k) ((memL d k).map (Value.int .i64)) (by rfl) O a1 4 c1 ((truW d (k : Int)).map (Value.int .i64)) (by rfl) (by rw [List.length_map, HN.out]) hv.2 (by intro u hu; obtain ⟨x, _, rfl⟩ := List.mem_map.1 hu; rfl) (by unfold maxLen; omega) (by omega) hz ?_)
        intro v1 w5 o5 g5
        have hlt : Hid (∀ j, (Value.slice a (4 * k) c).ownBlock = some j → w.heap.size + 1 ≤ j) := fun j h => (O.lt j h).1
        replace X := X.kept g5 (fun j hj => by have := hlt.out j hj; omega)
        replace B := B.grown g5 B.size (fun j hj => by have := hlt.out j hj; omega)
        obtain ⟨a5, c5, rfl⟩ := owns_slice o5
        have HO5 : Hid (w5.ownsRow (w.heap.size + 1) 3 1 (.slice a5 (4 * (k + 1)) c5) (4 * (k + 1)) ((memL d (k + 1)).map (Value.int .i64))) := by
          have h := o5
          rw [← List.map_append] at h
          exact h
        have HT : Hid (∀ q : Nat, q < k + 1 → (truW d (q : Int)).length = 4) := fun q hq => by
          by_cases e : q = k
          · subst e; exact HN.out
          · exact HA.out q (by omega)
        clear o5 g5 O o1 hv hz
        go_wp2
        go_roundw
        case rel => exact ⟨k + 1, by omega, by go_num, HT.out, a5, c5, rfl, HO5.out, X, B⟩
        case measure => simp [intOf]; omega
      · have e4 : ((n : Int) != 4) = true := by simp; omega
        have HV : Hid (memW d = []) := memW_no hk6 (by rw [hn]; exact h4)
        clear hn X O o1
        go_wp2
        go_ret
        rw [HV.out]
        exact ⟨_, _, rfl, own_litE w1 3 1 w.heap.size B.size, bel_alloc B _⟩
    · have hk66 : k = 6 := by omega
      subst hk66
      have HV : Hid (memW d = memL d 6 ∧ (memL d 6).length = 24) := ⟨memW_yes HA.out, memL_len HA.out⟩
      clear X
      go_wp2
      go_ret
      rw [HV.out.1]
      exact ints_of HV.out.2 (owns_base O (by omega)) B
end Go.Proofs.YtpfppeifppdmbaaGreat
