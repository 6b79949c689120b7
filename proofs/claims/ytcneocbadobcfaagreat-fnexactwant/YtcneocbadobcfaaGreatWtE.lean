/- What impl's copyHome and copyEach do: all of it new memory. -/
import Derived.Test.YtcneocbadobcfaaGreatWtC
import Derived.Test.YtcneocbadobcfaaGreatWtT
import Derived.Test.YtcneocbadobcfaaGreatCopyS
import Derived.Test.YtcneocbadobcfaaGreatFrmV
namespace Go.Proofs.YtcneocbadobcfaaGreat
open Go.RowKit
set_option linter.unusedVariables false

theorem copyInts_s (a : Option Addr) (ca : Nat) (xs : List Int) (w : World) (hsm : xs.length ≤ 1048577) (ha : Row .i64 w a xs) :
    Calls Tryz.prog 108 #[.slice a xs.length ca] w fun e w' => ∃ a' c', e = .returned (.slice a' xs.length c') ∧ w'.ownsRow w.heap.size 3 1 (.slice a' xs.length c') xs.length (xs.map (Value.int .i64)) ∧ Below w.heap.size w w' := by
  refine (copyInts_any a ca xs w hsm ha).mono ?_
  rintro e w1 ⟨v, rfl, o1, b1⟩
  obtain ⟨a1, c1, rfl⟩ := owns_slice o1
  exact ⟨a1, c1, rfl, o1, b1⟩

set_option maxRecDepth 100000 in
set_option maxHeartbeats 4000000 in
theorem copyHome_any (d : HD) (p : HP) (w : World) (hx : d.xs.length ≤ 1048577 ∧ d.bs.length ≤ 1048577 ∧ d.ws.length ≤ 1048577) (hal : Row .i64 w p.l.1 d.xs) (har : VRow w p.r.1 (bv d.bs)) (haq : VRow w p.q.1 (wv d.ws)) :
    Calls Tryz.prog 72 #[.agg #[.slice p.l.1 d.xs.length p.l.2, .int .i64 d.ow, .slice p.r.1 d.bs.length p.r.2, .bool d.bz, .int .i64 d.wh, .bool d.wo, .int .i64 d.ak, .slice p.q.1 d.ws.length p.q.2]] w fun e w' => ∃ a1 c1 a2 c2 a3 c3, e = .returned (.agg #[.slice a1 d.xs.length c1, .int .i64 d.ow, .slice a2 d.bs.length c2, .bool d.bz, .int .i64 d.wh, .bool d.wo, .int .i64 d.ak, .slice a3 d.ws.length c3]) ∧ w'.ownsRow w.heap.size 3 1 (.slice a1 d.xs.length c1) d.xs.length (d.xs.map (Value.int .i64)) ∧ w'.ownsRow w.heap.size 4 1 (.slice a2 d.bs.length c2) d.bs.length (bv d.bs) ∧ w'.ownsRow w.heap.size 90 2 (.slice a3 d.ws.length c3) d.ws.length (wv d.ws) ∧ Below w.heap.size w w' := by
  have B := bel_alloc (bel_alloc (Below.refl w.heap.size w) (.cells #[.slice p.l.1 d.xs.length p.l.2, .int .i64 d.ow, .slice p.r.1 d.bs.length p.r.2, .bool d.bz, .int .i64 d.wh, .bool d.wo, .int .i64 d.ak, .slice p.q.1 d.ws.length p.q.2] 93)) (.cells #[.slice none 0 0, .int .i64 0, .slice none 0 0, .bool false, .int .i64 0, .bool false, .int .i64 0, .slice none 0 0] 93)
  obtain ⟨X0, X1⟩ := Box.two w #[.slice p.l.1 d.xs.length p.l.2, .int .i64 d.ow, .slice p.r.1 d.bs.length p.r.2, .bool d.bz, .int .i64 d.wh, .bool d.wo, .int .i64 d.ak, .slice p.q.1 d.ws.length p.q.2] #[.slice none 0 0, .int .i64 0, .slice none 0 0, .bool false, .int .i64 0, .bool false, .int .i64 0, .slice none 0 0] 93 93
  go_enter Tryz.func72, Tryz.ntmps72
  go_wp2_with fail
  refine (copyInts_s p.l.1 p.l.2 d.xs _ hx.1 (hal.below B)).mono ?_
  rintro e w1 ⟨a1, c1, rfl, o1, b1⟩
  have hz1 : w.heap.size + 2 ≤ w1.heap.size := by have := b1.size; simp at this; omega
  replace B := bel_trans B b1
  replace X0 := X0.below b1
  replace X1 := X1.below b1
  have L1 : Hid (∀ j, (Value.slice a1 d.xs.length c1).ownBlock = some j → w.heap.size + 2 ≤ j) := fun j h => by have := (o1.lt j h).1; simp at this; omega
  replace o1 := owns_base o1 (b' := w.heap.size) (by first | omega | (simp; done) | (simp; omega))
  clear b1
  obtain ⟨x0, x1, x2, x3, x4, x5, x6, x7, zx⟩ := at8' X0
  have fz := X0.frozen 0
  replace X0 : Box (w1.setCell ⟨w.heap.size, 0, none⟩ (.slice a1 d.xs.length c1)) w.heap.size #[.slice a1 d.xs.length c1, .int .i64 d.ow, .slice p.r.1 d.bs.length p.r.2, .bool d.bz, .int .i64 d.wh, .bool d.wo, .int .i64 d.ak, .slice p.q.1 d.ws.length p.q.2] 93 := heap_setCell_same _ _ 0 _ _ _ X0
  replace X1 := X1.far ⟨w.heap.size, 0, none⟩ (.slice a1 d.xs.length c1) (by first | omega | (simp; done) | (simp; omega))
  replace B := bel_setCell B ⟨w.heap.size, 0, none⟩ (.slice a1 d.xs.length c1) (by first | omega | (simp; done) | (simp; omega))
  replace o1 := owns_setCell o1 (a := ⟨w.heap.size, 0, none⟩) (fun j hj he => by have := L1.out j hj; subst he; simp at this; omega) (.slice a1 d.xs.length c1)
  go_wp2_with fail
  refine (copyBools_any p.r.1 p.r.2 d.bs.length (bv d.bs) _ hx.2.1 (by rw [bv_length]; omega) (bv_oneW _) (har.below B)).mono ?_
  rintro e w2 ⟨a2, c2, rfl, o2, b2⟩
  have hz2 : w1.heap.size ≤ w2.heap.size := by have := b2.size; simp at this; omega
  clear x0 x1 x2 x3 x4 x5 x6 x7 zx
  replace B := bel_trans B b2
  replace X0 := X0.below b2
  replace X1 := X1.below b2
  replace o1 := owns_below o1 b2
  have L2 : Hid (∀ j, (Value.slice a2 d.bs.length c2).ownBlock = some j → w.heap.size + 2 ≤ j) := fun j h => by have := (o2.lt j h).1; simp at this; omega
  replace o2 := owns_base o2 (b' := w.heap.size) (by first | omega | (simp; done) | (simp; omega))
  clear b2
  obtain ⟨x0, x1, x2, x3, x4, x5, x6, x7, zx⟩ := at8' X0
  have fz := X0.frozen 2
  replace X0 : Box (w2.setCell ⟨w.heap.size, 2, none⟩ (.slice a2 d.bs.length c2)) w.heap.size #[.slice a1 d.xs.length c1, .int .i64 d.ow, .slice a2 d.bs.length c2, .bool d.bz, .int .i64 d.wh, .bool d.wo, .int .i64 d.ak, .slice p.q.1 d.ws.length p.q.2] 93 := heap_setCell_same _ _ 2 _ _ _ X0
  replace X1 := X1.far ⟨w.heap.size, 2, none⟩ (.slice a2 d.bs.length c2) (by first | omega | (simp; done) | (simp; omega))
  replace B := bel_setCell B ⟨w.heap.size, 2, none⟩ (.slice a2 d.bs.length c2) (by first | omega | (simp; done) | (simp; omega))
  replace o1 := owns_setCell o1 (a := ⟨w.heap.size, 2, none⟩) (fun j hj he => by have := L1.out j hj; subst he; simp at this; omega) (.slice a2 d.bs.length c2)
  replace o2 := owns_setCell o2 (a := ⟨w.heap.size, 2, none⟩) (fun j hj he => by have := L2.out j hj; subst he; simp at this; omega) (.slice a2 d.bs.length c2)
  go_wp2_with fail
  refine (copyWaits2_any p.q.1 p.q.2 d.ws.length (wv d.ws) _ hx.2.2 (wv_length _) (wv_oneW _) (haq.below B)).mono ?_
  rintro e w3 ⟨a3, c3, rfl, o3, b3⟩
  have hz3 : w2.heap.size ≤ w3.heap.size := by have := b3.size; simp at this; omega
  clear x0 x1 x2 x3 x4 x5 x6 x7 zx
  replace B := bel_trans B b3
  replace X0 := X0.below b3
  replace X1 := X1.below b3
  replace o1 := owns_below o1 b3
  replace o2 := owns_below o2 b3
  have L3 : Hid (∀ j, (Value.slice a3 d.ws.length c3).ownBlock = some j → w.heap.size + 2 ≤ j) := fun j h => by have := (o3.lt j h).1; simp at this; omega
  replace o3 := owns_base o3 (b' := w.heap.size) (by first | omega | (simp; done) | (simp; omega))
  clear b3
  obtain ⟨x0, x1, x2, x3, x4, x5, x6, x7, zx⟩ := at8' X0
  have fz := X0.frozen 7
  obtain ⟨y0, y1, y2, y3, y4, y5, y6, y7, zy⟩ := at8' X1
  have g0 := X1.frozen 0
  have g1 := X1.frozen 1
  have g2 := X1.frozen 2
  have g3 := X1.frozen 3
  have g4 := X1.frozen 4
  have g5 := X1.frozen 5
  have g6 := X1.frozen 6
  have g7 := X1.frozen 7
  have HB : Hid (Below w.heap.size w w3) := B
  have O1 : Hid _ := o1
  have O2 : Hid _ := o2
  have O3 : Hid _ := o3
  clear X0 X1 B o1 o2 o3
  go_wp2
  refine bodyPost_ret (v := .agg #[.slice a1 d.xs.length c1, .int .i64 d.ow, .slice a2 d.bs.length c2, .bool d.bz, .int .i64 d.wh, .bool d.wo, .int .i64 d.ak, .slice a3 d.ws.length c3]) (by simp [results, Tryz.results72, go_sem, y0, y1, y2, y3, y4, y5, y6, y7]) rfl ⟨a1, c1, a2, c2, a3, c3, rfl, ?_, ?_, ?_, ?_⟩
  · repeat refine owns_setCell ?_ ?_ _
    · exact O1.out
    all_goals (intro j h; have := L1.out j h; simp; omega)
  · repeat refine owns_setCell ?_ ?_ _
    · exact O2.out
    all_goals (intro j h; have := L2.out j h; simp; omega)
  · repeat refine owns_setCell ?_ ?_ _
    · exact O3.out
    all_goals (intro j h; have := L3.out j h; simp; omega)
  · repeat refine bel_setCell ?_ _ _ ?_
    · exact HB.out
    all_goals (simp; try omega)

set_option maxRecDepth 100000 in
set_option maxHeartbeats 4000000 in
theorem copyEachF_any (a : Option Addr) (ca n : Nat) (d : Nat → FD) (p : Nat → Pl) (w : World) (hx : ∀ i, i < n → (d i).xs.length ≤ 1048577) (ha : FR w a n d p) :
    Calls Tryz.prog 69 #[.slice a n ca, .func (.func 70) #[] #[]] w fun e w' => ∃ a' c' p', e = .returned (.slice a' n c') ∧ FO w' a' c' n d p' ∧ (∀ b, RS a' c' n (fun i => QF (p' i)) b → w.heap.size ≤ b) ∧ Below w.heap.size w w' := by
  have hn := ha.1
  have HX : Hid _ := hx
  have HA : Hid (FR w a n d p) := ha
  have h1 : ∀ v ∈ chunks n fun i => fcells (d i) (p i), v.oneCell' = true := chunks_one (fun i hi v hv => by simp [fcells] at hv; rcases hv with rfl | rfl | rfl <;> rfl)
  have hv := ha.2.1
  clear hx ha
  go_enter Tryz.func69, Tryz.ntmps69
  go_wp2_with fail
  refine (copyFrames_any a ca n _ _ hn (chunks_length n (fun i _ => rfl)) h1 hv).mono ?_
  rintro e w1 ⟨a', c', rfl, o1, b1⟩
  have HL : Hid (∀ g, blk (a', c') = some g → w.heap.size ≤ g) := owns_low o1
  have F0 : FTw w1 w.heap.size a' c' n 0 d (fun _ => (none, 0)) (fun i => fcells (d i) (p i)) := Tw.start (owns_base o1 (Nat.zero_le _))
  clear o1 h1 hv
  go_wp2
  go_loopw [12] (fun i wr => ∃ k : Nat, k ≤ n ∧ i = .int .i64 k ∧ ∃ p', FTw wr w.heap.size a' c' n k d p' (fun i => fcells (d i) (p i)) ∧ Below w.heap.size w wr) (fun i _ => n - (intOf i).toNat)
  case atStart => exact ⟨0, Nat.zero_le _, rfl, _, F0, b1⟩
  case round =>
    obtain ⟨k, hk, rfl, p', hF, hbr⟩ := hrel
    clear F0 b1
    by_cases hkn : k < n
    · have hi' : (k : Int) < (n : Int) := by omega
      obtain ⟨g, rfl⟩ := owns_addr hF.r.row (by omega)
      have har := HA.out.below hbr
      have HG : Hid (w.heap.size ≤ g) := HL.out g rfl
      have cc : ∀ t, t < 3 → wr.cell? ⟨g, k * 3 + t, none⟩ = (fcells (d k) (p k))[t]? := fun t ht => by
        have := owns_chunk hF.r.row (fun i hi => by split <;> rfl) hkn ht
        simpa using this
      have y0 := cc 0 (by decide)
      have y1 := cc 1 (by decide)
      have y2 := cc 2 (by decide)
      simp only [Nat.add_zero, fcells, List.getElem?_cons_zero, List.getElem?_cons_succ] at y0 y1 y2
      clear cc
      have hrow := har.2.2 k hkn
      have hlx := HX.out k hkn
      have bx := bel_alloc (Below.refl wr.heap.size wr) (.cells #[.int .i64 (d k).s, .slice (p k).1 (d k).xs.length (p k).2, .bool (d k).q] 50)
      go_wp2_with fail
      refine (copyFrame_any (d k).s (d k).q (p k).1 (p k).2 (d k).xs _ hlx (hrow.below bx)).mono ?_
      rintro e w2 ⟨v2, rfl, o2, b2⟩
      obtain ⟨a2, c2, rfl⟩ := owns_slice o2
      replace o2 := owns_base o2 (b' := wr.heap.size) (by simp)
      have B2 := bel_trans bx b2
      have R : Hid _ := frame_put hF (fun i _ => rfl) hkn B2 hbr.size o2
      have hr2 := owns_below hF.r.row B2
      have hg2 := HG.out
      have BB : Hid _ := bel_setCell (bel_setCell (bel_setCell (bel_trans hbr B2) ⟨g, k * 3, none⟩ (.int .i64 (d k).s) hg2) ⟨g, k * 3 + 1, none⟩ (.slice a2 (d k).xs.length c2) hg2) ⟨g, k * 3 + 2, none⟩ (.bool (d k).q) hg2
      have q0 := hr2.frozenAt (k * 3)
      have q1 := hr2.frozenAt (k * 3 + 1)
      have q2 := hr2.frozenAt (k * 3 + 2)
      obtain ⟨u0, g0⟩ := cellN hr2 hkn (t := 0) (by decide)
      obtain ⟨u1, g1⟩ := cellN hr2 hkn (t := 1) (by decide)
      obtain ⟨u2, g2⟩ := cellN hr2 hkn (t := 2) (by decide)
      rw [Nat.add_zero] at g0
      clear hF har y0 y1 y2 hr2 o2 b2 hbr bx B2 hg2 hrow hlx
      go_wp2
      go_roundw
      case rel => exact ⟨k + 1, by omega, by go_num, _, R.out, BB.out⟩
      case measure => simp [intOf]; omega
    · have : k = n := by omega
      subst this
      have R := hF.all
      have R2 := hF.low HL.out
      clear hF
      go_wp2
      go_ret
      exact ⟨_, _, p', rfl, R, R2, hbr⟩

set_option maxRecDepth 100000 in
set_option maxHeartbeats 4000000 in
theorem copyEachH_any (a : Option Addr) (ca n : Nat) (d : Nat → HD) (p : Nat → HP) (w : World) (hx : ∀ i, i < n → (d i).xs.length ≤ 1048577 ∧ (d i).bs.length ≤ 1048577 ∧ (d i).ws.length ≤ 1048577) (ha : HR2 w a n d p) :
    Calls Tryz.prog 71 #[.slice a n ca, .func (.func 72) #[] #[]] w fun e w' => ∃ a' c' p', e = .returned (.slice a' n c') ∧ HOw w' a' c' n d p' ∧ (∀ b, RS a' c' n (fun i => QH (p' i)) b → w.heap.size ≤ b) ∧ Below w.heap.size w w' := by
  have hn := ha.1
  have HX : Hid _ := hx
  have HA : Hid (HR2 w a n d p) := ha
  have h1 : ∀ v ∈ chunks n fun i => hcells (d i) (p i), v.oneCell' = true := chunks_one (fun i hi v hv => by simp [hcells] at hv; rcases hv with rfl | rfl | rfl | rfl | rfl | rfl | rfl | rfl <;> rfl)
  have hv := ha.2.1
  clear hx ha
  go_enter Tryz.func71, Tryz.ntmps71
  go_wp2_with fail
  refine (copyHomes_any a ca n _ _ hn (chunks_length n (fun i _ => rfl)) h1 hv).mono ?_
  rintro e w1 ⟨a', c', rfl, o1, b1⟩
  have HL : Hid (∀ g, blk (a', c') = some g → w.heap.size ≤ g) := owns_low o1
  have F0 : HTw w1 w.heap.size a' c' n 0 d (fun _ => ⟨(none, 0), (none, 0), (none, 0)⟩) (fun i => hcells (d i) (p i)) := Tw.start (owns_base o1 (Nat.zero_le _))
  clear o1 h1 hv
  go_wp2
  go_loopw [12] (fun i wr => ∃ k : Nat, k ≤ n ∧ i = .int .i64 k ∧ ∃ p', HTw wr w.heap.size a' c' n k d p' (fun i => hcells (d i) (p i)) ∧ Below w.heap.size w wr) (fun i _ => n - (intOf i).toNat)
  case atStart => exact ⟨0, Nat.zero_le _, rfl, _, F0, b1⟩
  case round =>
    obtain ⟨k, hk, rfl, p', hF, hbr⟩ := hrel
    clear F0 b1
    by_cases hkn : k < n
    · have hi' : (k : Int) < (n : Int) := by omega
      obtain ⟨g, rfl⟩ := owns_addr hF.r.row (by omega)
      have har := HA.out.below hbr
      have HG : Hid (w.heap.size ≤ g) := HL.out g rfl
      have cc : ∀ t, t < 8 → wr.cell? ⟨g, k * 8 + t, none⟩ = (hcells (d k) (p k))[t]? := fun t ht => by
        have := owns_chunk hF.r.row (fun i hi => by split <;> rfl) hkn ht
        simpa using this
      have y0 := cc 0 (by decide)
      have y1 := cc 1 (by decide)
      have y2 := cc 2 (by decide)
      have y3 := cc 3 (by decide)
      have y4 := cc 4 (by decide)
      have y5 := cc 5 (by decide)
      have y6 := cc 6 (by decide)
      have y7 := cc 7 (by decide)
      simp only [Nat.add_zero, hcells, List.getElem?_cons_zero, List.getElem?_cons_succ] at y0 y1 y2 y3 y4 y5 y6 y7
      clear cc
      obtain ⟨hr1, hr2', hr3⟩ := har.2.2 k hkn
      have hlx := HX.out k hkn
      have bx := bel_alloc (Below.refl wr.heap.size wr) (.cells #[.slice (p k).l.1 (d k).xs.length (p k).l.2, .int .i64 (d k).ow, .slice (p k).r.1 (d k).bs.length (p k).r.2, .bool (d k).bz, .int .i64 (d k).wh, .bool (d k).wo, .int .i64 (d k).ak, .slice (p k).q.1 (d k).ws.length (p k).q.2] 93)
      go_wp2_with fail
      refine (copyHome_any (d k) (p k) _ hlx (hr1.below bx) (hr2'.below bx) (hr3.below bx)).mono ?_
      rintro e w2 ⟨al, cl, ar, cr, aq, cq, rfl, o2, o3, o4, b2⟩
      replace o2 := owns_base o2 (b' := wr.heap.size) (by simp)
      replace o3 := owns_base o3 (b' := wr.heap.size) (by simp)
      replace o4 := owns_base o4 (b' := wr.heap.size) (by simp)
      have B2 := bel_trans bx b2
      have R : Hid _ := home_put hF (fun i _ => rfl) hkn B2 hbr.size o2 o3 o4
      have hr2 := owns_below hF.r.row B2
      have hg2 := HG.out
      have BB : Hid _ := bel_setCell (bel_setCell (bel_setCell (bel_setCell (bel_setCell (bel_setCell (bel_setCell (bel_setCell (bel_trans hbr B2) ⟨g, k * 8, none⟩ (.slice al (d k).xs.length cl) hg2) ⟨g, k * 8 + 1, none⟩ (.int .i64 (d k).ow) hg2) ⟨g, k * 8 + 2, none⟩ (.slice ar (d k).bs.length cr) hg2) ⟨g, k * 8 + 3, none⟩ (.bool (d k).bz) hg2) ⟨g, k * 8 + 4, none⟩ (.int .i64 (d k).wh) hg2) ⟨g, k * 8 + 5, none⟩ (.bool (d k).wo) hg2) ⟨g, k * 8 + 6, none⟩ (.int .i64 (d k).ak) hg2) ⟨g, k * 8 + 7, none⟩ (.slice aq (d k).ws.length cq) hg2
      have q0 := hr2.frozenAt (k * 8)
      have q1 := hr2.frozenAt (k * 8 + 1)
      have q2 := hr2.frozenAt (k * 8 + 2)
      have q3 := hr2.frozenAt (k * 8 + 3)
      have q4 := hr2.frozenAt (k * 8 + 4)
      have q5 := hr2.frozenAt (k * 8 + 5)
      have q6 := hr2.frozenAt (k * 8 + 6)
      have q7 := hr2.frozenAt (k * 8 + 7)
      obtain ⟨u0, g0⟩ := cellN hr2 hkn (t := 0) (by decide)
      obtain ⟨u1, g1⟩ := cellN hr2 hkn (t := 1) (by decide)
      obtain ⟨u2, g2⟩ := cellN hr2 hkn (t := 2) (by decide)
      obtain ⟨u3, g3⟩ := cellN hr2 hkn (t := 3) (by decide)
      obtain ⟨u4, g4⟩ := cellN hr2 hkn (t := 4) (by decide)
      obtain ⟨u5, g5⟩ := cellN hr2 hkn (t := 5) (by decide)
      obtain ⟨u6, g6⟩ := cellN hr2 hkn (t := 6) (by decide)
      obtain ⟨u7, g7⟩ := cellN hr2 hkn (t := 7) (by decide)
      rw [Nat.add_zero] at g0
      clear hF har y0 y1 y2 y3 y4 y5 y6 y7 hr2 o2 b2 hbr bx B2 hg2 hr1 hr2' hr3 hlx o3 o4
      go_wp2
      go_roundw
      case rel => exact ⟨k + 1, by omega, by go_num, _, R.out, BB.out⟩
      case measure => simp [intOf]; omega
    · have : k = n := by omega
      subst this
      have R := hF.all
      have R2 := hF.low HL.out
      clear hF
      go_wp2
      go_ret
      exact ⟨_, _, p', rfl, R, R2, hbr⟩

set_option maxRecDepth 100000 in
set_option maxHeartbeats 4000000 in
theorem copyEachS_any (a : Option Addr) (ca n : Nat) (b : Nat → Int) (y : Nat → List Say) (p : Nat → Pl) (ms : Nat → List M) (w : World) (hx : ∀ i, i < n → ∀ m ∈ ms i, m.xs.length ≤ 1048577) (ha : SR w a n b y p ms) :
    Calls Tryz.prog 73 #[.slice a n ca, .func (.func 74) #[] #[]] w fun e w' => ∃ a' c' p' ms', e = .returned (.slice a' n c') ∧ SO w' a' c' n b p' ms' ∧ (∀ i, i < n → (ms' i).map M.say = y i) ∧ (∀ b, RS a' c' n (fun i => QS (p' i) (ms' i)) b → w.heap.size ≤ b) ∧ Below w.heap.size w w' := by
  have hn := ha.1
  have HX : Hid _ := hx
  have HA : Hid (SR w a n b y p ms) := ha
  have h1 : ∀ v ∈ chunks n fun i => scells (b i) (p i) (y i).length, v.oneCell' = true := chunks_one (fun i hi v hv => by simp [scells] at hv; rcases hv with rfl | rfl <;> rfl)
  have hv := ha.2.1
  clear hx ha
  go_enter Tryz.func73, Tryz.ntmps73
  go_wp2_with fail
  refine (copySenders_any a ca n _ _ hn (chunks_length n (fun i _ => rfl)) h1 hv).mono ?_
  rintro e w1 ⟨a', c', rfl, o1, b1⟩
  have HL : Hid (∀ g, blk (a', c') = some g → w.heap.size ≤ g) := owns_low o1
  have F0 : STw w1 w.heap.size a' c' n 0 b (fun _ => (none, 0)) (fun _ => []) (fun i => scells (b i) (p i) (y i).length) := Tw.start (owns_base o1 (Nat.zero_le _))
  clear o1 h1 hv
  go_wp2
  go_loopw [12] (fun i wr => ∃ k : Nat, k ≤ n ∧ i = .int .i64 k ∧ ∃ p' ms', STw wr w.heap.size a' c' n k b p' ms' (fun i => scells (b i) (p i) (y i).length) ∧ (∀ i, i < k → (ms' i).map M.say = y i) ∧ Below w.heap.size w wr) (fun i _ => n - (intOf i).toNat)
  case atStart => exact ⟨0, Nat.zero_le _, rfl, _, _, F0, fun i hi => absurd hi (Nat.not_lt_zero i), b1⟩
  case round =>
    obtain ⟨k, hk, rfl, p', ms', hF, hY0, hbr⟩ := hrel
    have HY : Hid (∀ i, i < k → (ms' i).map M.say = y i) := hY0
    clear hY0
    clear F0 b1
    by_cases hkn : k < n
    · have hi' : (k : Int) < (n : Int) := by omega
      obtain ⟨g, rfl⟩ := owns_addr hF.r.row (by omega)
      have har := HA.out.below hbr
      have HG : Hid (w.heap.size ≤ g) := HL.out g rfl
      have cc : ∀ t, t < 2 → wr.cell? ⟨g, k * 2 + t, none⟩ = (scells (b k) (p k) (y k).length)[t]? := fun t ht => by
        have := owns_chunk hF.r.row (fun i hi => by split <;> rfl) hkn ht
        simpa using this
      have y0 := cc 0 (by decide)
      have y1 := cc 1 (by decide)
      simp only [Nat.add_zero, scells, List.getElem?_cons_zero, List.getElem?_cons_succ] at y0 y1
      clear cc
      obtain ⟨hm, hE⟩ := har.2.2 k hkn
      have HE : Hid ((ms k).map M.say = y k) := hE
      have hl2 : (y k).length = (ms k).length := by rw [← hE, List.length_map]
      rw [hl2] at y1
      have HL2 : Hid ((y k).length = (ms k).length) := hl2
      clear hl2 hE
      have hlx := HX.out k hkn
      have bx := bel_alloc (Below.refl wr.heap.size wr) (.cells #[.int .i64 (b k), .slice (p k).1 (ms k).length (p k).2] 54)
      go_wp2_with fail
      refine (copySender_any (b k) (p k).1 (p k).2 (ms k) _ (hm.below bx) hlx).mono ?_
      rintro e w2 ⟨a2, c2, ds, rfl, hds, o2, b2⟩
      replace o2 : Deep w2 wr.heap.size a2 c2 ds := ⟨owns_base o2.row (by simp), o2.lists.base (by simp)⟩
      have hl3 : ds.length = (ms k).length := by have := congrArg List.length hds; simpa using this
      have HY2 : Hid (∀ i, i < k + 1 → ((fun i => if i = k then ds else ms' i) i).map M.say = y i) := fun i hi => by
        by_cases e : i = k
        · subst e; simp only [if_pos]; exact hds.trans HE.out
        · simp only [if_neg e]; exact HY.out i (by omega)
      have B2 := bel_trans bx b2
      have R : Hid _ := sender_put hF (fun i _ => rfl) hkn B2 hbr.size o2 hl3
      have hr2 := owns_below hF.r.row B2
      have hg2 := HG.out
      have BB : Hid _ := bel_setCell (bel_setCell (bel_trans hbr B2) ⟨g, k * 2, none⟩ (.int .i64 (b k)) hg2) ⟨g, k * 2 + 1, none⟩ (.slice a2 (ms k).length c2) hg2
      have q0 := hr2.frozenAt (k * 2)
      have q1 := hr2.frozenAt (k * 2 + 1)
      obtain ⟨u0, g0⟩ := cellN hr2 hkn (t := 0) (by decide)
      obtain ⟨u1, g1⟩ := cellN hr2 hkn (t := 1) (by decide)
      rw [Nat.add_zero] at g0
      clear hF har y0 y1 hr2 o2 b2 hbr bx B2 hg2 hm hlx hds hl3
      go_wp2
      go_roundw
      case rel => exact ⟨k + 1, by omega, by go_num, _, _, R.out, HY2.out, BB.out⟩
      case measure => simp [intOf]; omega
    · have : k = n := by omega
      subst this
      have R := hF.all
      have R2 := hF.low HL.out
      clear hF
      go_wp2
      go_ret
      exact ⟨_, _, p', ms', rfl, R, HY.out, R2, hbr⟩
end Go.Proofs.YtcneocbadobcfaaGreat
