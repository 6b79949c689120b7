/- The law FnExactCoreHear over any impl.CoreHear that answers as it should (written by mk12h.py). -/
import Derived.Test.YtafikmpgmnhgcaaCo3a
import Derived.Test.YtafikmpgmnhgcaaCo3b
namespace Go.Proofs.Ytafikmpgmnhgcaa
open Go.ChangeShapes Go.WideShapes Go.ChangeAt Go.RowKit
set_option linter.unusedVariables false

namespace LawFnExactCoreHear
set_option maxRecDepth 100000 in
set_option maxHeartbeats 8000000 in
theorem walkG (HI : ∀ (d : CoD) (p : CoP) (k pg : Int) (o : Bool) (a : Option Addr) (c : Nat) (xs : List Int) (w : World), CoS d → CoR w d p → Row .i64 w a xs → xs.length ≤ 1048577 → Calls Try.prog 9 #[.agg (ccells d p), .agg #[.int .i64 k, .int .i64 pg, .bool o, .slice a xs.length c]] w (CoreP (hearD k pg d) w))
    (d : CoD) (p : CoP) (k pg : Int) (o : Bool) (am : Option Addr) (cm : Nat) (ms : List Int) (w : World) (hc : CoC w d p) (hcm : Came .i64 w am cm ms) :
    Calls Try.prog 3 #[.agg (ccells d p), .agg #[.int .i64 k, .int .i64 pg, .bool o, .slice am ms.length cm]] w fun e w' => e = .returned (.bool true) ∧ Below w.heap.size w w' := by
  have bA := bel_alloc (bel_alloc (Below.refl w.heap.size w) (.cells (ccells d p) 27)) (.cells #[.int .i64 k, .int .i64 pg, .bool o, .slice am ms.length cm] 29)
  obtain ⟨XA, XM⟩ := Box.two w (ccells d p) #[.int .i64 k, .int .i64 pg, .bool o, .slice am ms.length cm] 27 29
  have hnm : ms.length ≤ maxLen := Nat.le_trans hcm.1 hcm.2.1
  go_enter Try.func3, Try.ntmps3
  obtain ⟨x0, x1, x2, x3, xz⟩ := XA.at4
  go_wp2_with fail
  refine (szCore_tot d p 1048576 _ (by omega) (by omega) (hc.below bA)).mono ?_
  rintro e w1 ⟨r, rfl, hr0, bw1⟩
  have B := bel_trans bA bw1
  replace XA := XA.below bw1
  replace XM := XM.below bw1
  clear bw1 bA
  clear x0 x1 x2 x3 xz
  rcases hr0 with rfl | ⟨r0, r1⟩
  · clear hc hcm HI XA XM
    go_wp2
    go_ret
    exact ⟨rfl, B⟩
  have hz : cZ d ≤ 1048576 := by omega
  have hs : CoS d := cZ_sm hz
  have hd : ¬ (r < 0) := by omega
  have hr1 : r ≤ 1048576 := by omega
  have HR : Hid (CoR w d p) := hc.cr hs
  clear hc r1
  obtain ⟨y0, y1, y2, y3, yz⟩ := XM.at4
  go_wp2_with fail
  refine (szMsg_c k pg o am ms.length cm r _ r0 hr1 hnm).mono ?_
  rintro e w2 ⟨q, rfl, hq0, bw2⟩
  clear y0 y1 y2 y3 yz
  replace XA := XA.below bw2
  replace XM := XM.below bw2
  replace B := bel_trans B bw2
  clear bw2
  rcases hq0 with rfl | ⟨q1, q0⟩
  · clear hcm HI XA XM
    go_wp2
    go_ret
    exact ⟨rfl, B⟩
  have hms : ms.length ≤ 1048576 := by omega
  have hd2 : ¬ (q < 0) := by omega
  have HM : Hid (Row .i64 w am ms) := hcm.row (by omega)
  clear hcm q1 hnm
  have HG0 := hearD_sm hs k pg
  have HI' : Hid (∀ (p : CoP) (a : Option Addr) (c : Nat) (W : World), CoR W d p → Row .i64 W a ms → Calls Try.prog 9 #[.agg (ccells d p), .agg #[.int .i64 k, .int .i64 pg, .bool o, .slice a ms.length c]] W (CoreP (hearD k pg d) W)) := fun p a c W h1 h2 => HI d p k pg o a c ms W hs h1 h2 (by omega)
  have HS : Hid (∀ (p : CoP) (a : Option Addr) (c : Nat) (W : World), CoR W d p → Row .i64 W a ms → Calls Try.prog 6 #[.agg (ccells d p), .agg #[.int .i64 k, .int .i64 pg, .bool o, .slice a ms.length c]] W (CoreP (hearD k pg d) W)) := fun p a c W h1 h2 => specCoreHear_any d p k pg o _ W hs h1
  obtain ⟨g, eg⟩ : ∃ g, hearD k pg d = g := ⟨_, rfl⟩
  rw [eg] at HI' HS HG0
  have hg : CoS g := HG0
  clear eg HG0 HI
  have zw : w.heap.size + 1 < w2.heap.size := XM.lt
  go_wp2_with fail
  refine r8 hs (HR.out.below B) hms (HM.out.below B) XA XM HS ?_
  intro v24 v25 v26 v27 v28 s6 w3 hcut
  obtain ⟨AW, pW, rfl, hAW, hnW, XW, EW, lW0, bw3⟩ := hcut
  have lW : Hid (∀ b, QCo g pW b → w2.heap.size ≤ b ∧ b < w3.heap.size) := fun b hb => ⟨lW0 b hb, EW.lt hb⟩
  have zAW := XW.lt
  have z3 := bw3.size
  clear lW0 HS
  replace XA := XA.below bw3
  replace XM := XM.below bw3
  replace B := bel_trans B bw3
  clear bw3
  obtain ⟨x0, x1, x2, x3, xz⟩ := XA.at4
  go_wp2_with fail
  refine (toCore_own d p _ hs (HR.out.below B)).mono ?_
  rintro e w4 ⟨pX, rfl, EX, lX0, bw4⟩
  clear x0 x1 x2 x3 xz
  have lX : Hid (∀ b, QCo d pX b → w3.heap.size ≤ b ∧ b < w4.heap.size) := fun b hb => ⟨lX0 b hb, EX.lt hb⟩
  have zw4 := bw4.size
  clear lX0
  replace XA := XA.below bw4
  replace XM := XM.below bw4
  replace XW := XW.below bw4
  replace EW := EW.below bw4
  replace B := bel_trans B bw4
  clear bw4
  have bx := bel_alloc (Below.refl w4.heap.size w4) (.cells (ccells d pX) 35)
  have XX := Box.new w4 (ccells d pX) 35
  replace XA := XA.below bx
  replace XM := XM.below bx
  replace XW := XW.below bx
  replace EW := EW.below bx
  replace EX := EX.below bx
  replace B := bel_trans B bx
  clear bx
  obtain ⟨y0, y1, y2, y3, yz⟩ := XM.at4
  go_wp2_with fail
  refine (toMsg_any k pg o am cm ms _ hms (HM.out.below B)).mono ?_
  rintro e w5 ⟨vY, rfl, OY, bw5⟩
  clear y0 y1 y2 y3 yz
  obtain ⟨aY, cY, rfl⟩ := owns_slice OY
  have z5 : w4.heap.size < w5.heap.size := by have h := bw5.size; simp at h; omega
  have lY : Hid (∀ b, (Value.slice aY ms.length cY).ownBlock = some b → w4.heap.size < b ∧ b < w5.heap.size) := fun b hb => by have h := World.ownsRow.lt OY b hb; simp at h; omega
  replace XA := XA.below bw5
  replace XM := XM.below bw5
  replace XW := XW.below bw5
  replace EW := EW.below bw5
  replace EX := EX.below bw5
  replace XX := XX.below bw5
  replace B := bel_trans B bw5
  clear bw5
  have bx := bel_alloc (Below.refl w5.heap.size w5) (.cells #[.int .i64 k, .int .i64 pg, .bool o, .slice aY ms.length cY] 38)
  have XY := Box.new w5 #[.int .i64 k, .int .i64 pg, .bool o, .slice aY ms.length cY] 38
  replace XA := XA.below bx
  replace XM := XM.below bx
  replace XW := XW.below bx
  replace EW := EW.below bx
  replace EX := EX.below bx
  replace XX := XX.below bx
  replace OY := owns_below OY bx
  replace B := bel_trans B bx
  clear bx
  obtain ⟨x0, x1, x2, x3, xz⟩ := XX.at4
  obtain ⟨y0, y1, y2, y3, yz⟩ := XY.at4
  go_wp2_with fail
  refine (HI'.out pX aY cY _ (EX.cr hs) (owns_row' OY (by omega))).mono ?_
  rintro e w6 ⟨pG, rfl, EG, lG0, bw6⟩
  clear x0 x1 x2 x3 xz
  clear y0 y1 y2 y3 yz
  have z6 : w5.heap.size + 1 ≤ w6.heap.size := by have h := bw6.size; simp at h; omega
  have lG : Hid (∀ b, QCo g pG b → w5.heap.size + 1 ≤ b ∧ b < w6.heap.size) := fun b hb => ⟨by have h := lG0 b hb; simp at h; omega, EG.lt hb⟩
  clear lG0
  replace XA := XA.below bw6
  replace XM := XM.below bw6
  replace XW := XW.below bw6
  replace EW := EW.below bw6
  replace EX := EX.below bw6
  replace XX := XX.below bw6
  replace XY := XY.below bw6
  replace OY := owns_below OY bw6
  replace B := bel_trans B bw6
  clear bw6
  have bx := bel_alloc (Below.refl w6.heap.size w6) (.cells (ccells g pG) 35)
  have XG := Box.new w6 (ccells g pG) 35
  replace XA := XA.below bx
  replace XM := XM.below bx
  replace XW := XW.below bx
  replace EW := EW.below bx
  replace EX := EX.below bx
  replace XX := XX.below bx
  replace XY := XY.below bx
  replace EG := EG.below bx
  replace OY := owns_below OY bx
  replace B := bel_trans B bx
  clear bx
  obtain ⟨x0, x1, x2, x3, xz⟩ := XG.at4
  obtain ⟨y0, y1, y2, y3, yz⟩ := XW.at4
  go_wp2_with fail
  refine (eqCore_any g pG pW _ (EG.cr hg) (EW.cr hg)).mono ?_
  rintro e w7 ⟨rfl, bw7⟩
  clear x0 x1 x2 x3 xz
  clear y0 y1 y2 y3 yz
  replace XA := XA.below bw7
  replace XM := XM.below bw7
  replace XW := XW.below bw7
  replace EW := EW.below bw7
  replace EX := EX.below bw7
  replace XX := XX.below bw7
  replace XY := XY.below bw7
  replace EG := EG.below bw7
  replace XG := XG.below bw7
  replace OY := owns_below OY bw7
  replace B := bel_trans B bw7
  clear bw7
  obtain ⟨x0, x1, x2, x3, xz⟩ := XA.at4
  obtain ⟨y0, y1, y2, y3, yz⟩ := XX.at4
  go_wp2_with fail
  have bd : Below w7.heap.size w7 w7.drew := below_drewN (Below.refl _ _) 1
  have hR7 := (HR.out.below B).below bd
  have hX7 := (EX.cr hs).below bd
  go_region_held3 (fun W => W.cell? ⟨w.heap.size, 0, none⟩ = some (.slice p.r.1 d.h.xs.length p.r.2) ∧ W.cell? ⟨w.heap.size, 1, none⟩ = some (.int .i64 d.h.pc) ∧ W.cell? ⟨w.heap.size, 2, none⟩ = some (.int .i64 d.h.st) ∧ W.cell? ⟨w.heap.size, 3, none⟩ = some (.slice p.c.1 d.n p.c.2) ∧ W.cell? ⟨w4.heap.size, 0, none⟩ = some (.slice pX.r.1 d.h.xs.length pX.r.2) ∧ W.cell? ⟨w4.heap.size, 1, none⟩ = some (.int .i64 d.h.pc) ∧ W.cell? ⟨w4.heap.size, 2, none⟩ = some (.int .i64 d.h.st) ∧ W.cell? ⟨w4.heap.size, 3, none⟩ = some (.slice pX.c.1 d.n pX.c.2))
    (first | (with_reducible exact keep8 b9 ‹_›) | (with_reducible exact keep8 b8 ‹_›) | go_keep)
    (first | (go_at_call 7; refine (toCore_own d p _ hs hR7).mono ?_; rintro e w8 ⟨pE, rfl, EE, _, b8⟩) | (go_at_call 10; refine (eqCore_any d pX pE _ (hX7.below b8) (EE.cr hs)).mono ?_; rintro e w9 ⟨rfl, b9⟩))
  have bq := bel_trans (bel_undrew b8) b9
  clear b8 b9 EE hR7 hX7 bd
  clear x0 x1 x2 x3 xz
  clear y0 y1 y2 y3 yz
  replace XA := XA.below bq
  replace XM := XM.below bq
  replace XW := XW.below bq
  replace EW := EW.below bq
  replace EX := EX.below bq
  replace XX := XX.below bq
  replace XY := XY.below bq
  replace EG := EG.below bq
  replace XG := XG.below bq
  replace OY := owns_below OY bq
  replace B := bel_trans B bq
  clear bq
  obtain ⟨x0, x1, x2, x3, xz⟩ := XM.at4
  obtain ⟨y0, y1, y2, y3, yz⟩ := XY.at4
  go_wp2_with fail
  have bd : Below w9.heap.size w9 w9.drew := below_drewN (Below.refl _ _) 1
  have hR9 := (HM.out.below B).below bd
  have hY9 := (owns_row' OY (by omega)).below bd
  go_region_held3 (fun W => W.cell? ⟨w.heap.size + 1, 0, none⟩ = some (.int .i64 k) ∧ W.cell? ⟨w.heap.size + 1, 1, none⟩ = some (.int .i64 pg) ∧ W.cell? ⟨w.heap.size + 1, 2, none⟩ = some (.bool o) ∧ W.cell? ⟨w.heap.size + 1, 3, none⟩ = some (.slice am ms.length cm) ∧ W.cell? ⟨w5.heap.size, 0, none⟩ = some (.int .i64 k) ∧ W.cell? ⟨w5.heap.size, 1, none⟩ = some (.int .i64 pg) ∧ W.cell? ⟨w5.heap.size, 2, none⟩ = some (.bool o) ∧ W.cell? ⟨w5.heap.size, 3, none⟩ = some (.slice aY ms.length cY))
    (first | (with_reducible exact keep8 b11 ‹_›) | (with_reducible exact keep8 b10 ‹_›) | go_keep)
    (first | (go_at_call 8; refine (toMsg_any k pg o am cm ms _ hms hR9).mono ?_; rintro e w10 ⟨v10, rfl, o10, b10⟩; obtain ⟨a10, c10, rfl⟩ := owns_slice o10) | (go_at_call 11; refine (eqMsg_any k pg o aY a10 cY c10 ms _ (hY9.below b10) (owns_row' o10 (by omega))).mono ?_; rintro e w11 ⟨rfl, b11⟩))
  have bq := bel_trans (bel_undrew b10) b11
  clear b10 b11 o10 hR9 hY9 bd
  clear x0 x1 x2 x3 xz
  clear y0 y1 y2 y3 yz
  replace XA := XA.below bq
  replace XM := XM.below bq
  replace XW := XW.below bq
  replace EW := EW.below bq
  replace EX := EX.below bq
  replace XX := XX.below bq
  replace XY := XY.below bq
  replace EG := EG.below bq
  replace XG := XG.below bq
  replace OY := owns_below OY bq
  replace B := bel_trans B bq
  clear bq
  have hk1 := kCo_sm hz 1 (by omega)
  obtain ⟨x0, x1, x2, x3, xz⟩ := XX.at4
  go_wp2_with fail
  refine (markCore_all (QCo d pX) d pX 1 _ (by omega) (by omega) hs EX (fun b hb => hb)).mono ?_
  rintro e w12 ⟨rfl, _, k12⟩
  clear EX XX
  clear x0 x1 x2 x3 xz
  have zG := XG.lt
  have zY := XY.lt
  replace XA := XA.only k12 (fun e => by have := lX.out _ e; omega)
  replace XM := XM.only k12 (fun e => by have := lX.out _ e; omega)
  replace XW := XW.only k12 (fun e => by have := lX.out _ e; omega)
  replace XG := XG.only k12 (fun e => by have := lX.out _ e; omega)
  replace XY := XY.only k12 (fun e => by have := lX.out _ e; omega)
  replace EW := EW.sm (k12.sm (fun b hb he => by have := lW.out b hb; have := lX.out b he; omega))
  replace EG := EG.sm (k12.sm (fun b hb he => by have := lG.out b hb; have := lX.out b he; omega))
  replace OY := owns_only OY k12 (fun b hb he => by have := lY.out b hb; have := lX.out b he; omega)
  replace B := k12.bel B (fun b he => by have := lX.out b he; omega)
  clear k12
  generalize kCo 1 d = kx at hk1 ⊢
  obtain ⟨hk1, hk2⟩ := hk1
  obtain ⟨y0, y1, y2, y3, yz⟩ := XY.at4
  go_wp2_with fail
  refine (markMsg_c k pg o _ ms.length aY cY kx _ _ (by omega) (by omega) hms OY).mono ?_
  rintro e w13 ⟨rfl, g13⟩
  clear y0 y1 y2 y3 yz
  have k13 : Only w12 w13 (fun b => (Value.slice aY ms.length cY).ownBlock = some b) := (Only.refl _ _).grown g13 (fun j hj => hj)
  clear g13 OY XY
  replace XA := XA.only k13 (fun e => by have := lY.out _ e; omega)
  replace XM := XM.only k13 (fun e => by have := lY.out _ e; omega)
  replace XW := XW.only k13 (fun e => by have := lY.out _ e; omega)
  replace XG := XG.only k13 (fun e => by have := lY.out _ e; omega)
  replace EW := EW.sm (k13.sm (fun b hb he => by have := lW.out b hb; have := lY.out b he; omega))
  replace EG := EG.sm (k13.sm (fun b hb he => by have := lG.out b hb; have := lY.out b he; omega))
  replace B := k13.bel B (fun b he => by have := lY.out b he; omega)
  clear k13
  have hkd : decide (kx + (ms.length : Int) < 0) = false := by simp; omega
  obtain ⟨x0, x1, x2, x3, xz⟩ := XG.at4
  obtain ⟨y0, y1, y2, y3, yz⟩ := XW.at4
  go_wp2_with fail
  refine (eqCore_any g pG pW _ (EG.cr hg) (EW.cr hg)).mono ?_
  rintro e w14 ⟨rfl, bw14⟩
  clear x0 x1 x2 x3 xz
  clear y0 y1 y2 y3 yz
  replace XA := XA.below bw14
  replace XM := XM.below bw14
  replace XW := XW.below bw14
  replace EW := EW.below bw14
  replace EG := EG.below bw14
  replace XG := XG.below bw14
  replace B := bel_trans B bw14
  clear bw14
  have hgk := kCo_le hg 1 (by omega)
  obtain ⟨x0, x1, x2, x3, xz⟩ := XG.at4
  go_wp2_with fail
  refine (markCore_all (QCo g pG) g pG 1 _ (by omega) (by omega) hg EG (fun b hb => hb)).mono ?_
  rintro e w15 ⟨rfl, EM, k15⟩
  clear EG
  clear x0 x1 x2 x3 xz
  replace XA := XA.only k15 (fun e => by have := lG.out _ e; omega)
  replace XM := XM.only k15 (fun e => by have := lG.out _ e; omega)
  replace XW := XW.only k15 (fun e => by have := lG.out _ e; omega)
  replace XG := XG.only k15 (fun e => by have := lG.out _ e; omega)
  replace EW := EW.sm (k15.sm (fun b hb he => by have := lW.out b hb; have := lG.out b he; omega))
  replace B := k15.bel B (fun b he => by have := lG.out b he; omega)
  clear k15
  have HH : Hid (∀ W, ECo (mCo 1 g) pG W → Calls Try.prog 14 #[.agg (ccells g pG), .int .i64 1] W fun e w' => e = .returned (.int .i64 (kCo 1 g)) ∧ Below W.heap.size W w') := fun W h => heldCore_all g pG 1 W (by omega) (by omega) hg h
  generalize kCo 1 g = kg at hgk HH ⊢
  obtain ⟨hk3, hk4⟩ := hgk
  have hkd2 : decide (kg < 0) = false := by simp; omega
  obtain ⟨x0, x1, x2, x3, xz⟩ := XG.at4
  go_wp2_with fail
  refine (HH.out _ EM).mono ?_
  rintro e w16 ⟨rfl, bw16⟩
  clear x0 x1 x2 x3 xz
  replace XA := XA.below bw16
  replace XM := XM.below bw16
  replace XW := XW.below bw16
  replace EW := EW.below bw16
  replace XG := XG.below bw16
  replace EM := EM.below bw16
  replace B := bel_trans B bw16
  clear bw16
  go_wp2_with fail
  refine r31 hs (HR.out.below B) hms (HM.out.below B) XA XM HI' ?_
  intro v75 v76 v77 v78 v79 s13 w17 hcut
  obtain ⟨AH, pH, rfl, _, _, XH, EH, _, bw17⟩ := hcut
  replace XA := XA.below bw17
  replace XM := XM.below bw17
  replace XW := XW.below bw17
  replace EW := EW.below bw17
  replace XG := XG.below bw17
  replace EM := EM.below bw17
  replace B := bel_trans B bw17
  clear bw17
  obtain ⟨x0, x1, x2, x3, xz⟩ := XH.at4
  obtain ⟨y0, y1, y2, y3, yz⟩ := XW.at4
  go_wp2_with fail
  refine (eqCore_any g pH pW _ (EH.cr hg) (EW.cr hg)).mono ?_
  rintro e w18 ⟨rfl, bw18⟩
  clear x0 x1 x2 x3 xz
  clear y0 y1 y2 y3 yz
  replace XA := XA.below bw18
  replace XM := XM.below bw18
  replace XW := XW.below bw18
  replace EW := EW.below bw18
  replace XG := XG.below bw18
  replace EM := EM.below bw18
  replace XH := XH.below bw18
  replace EH := EH.below bw18
  replace B := bel_trans B bw18
  clear bw18
  obtain ⟨x0, x1, x2, x3, xz⟩ := XG.at4
  go_wp2_with fail
  refine (HH.out _ EM).mono ?_
  rintro e w19 ⟨rfl, bw19⟩
  clear x0 x1 x2 x3 xz
  replace XA := XA.below bw19
  replace XM := XM.below bw19
  replace XW := XW.below bw19
  replace EW := EW.below bw19
  replace XG := XG.below bw19
  replace EM := EM.below bw19
  replace XH := XH.below bw19
  replace EH := EH.below bw19
  replace B := bel_trans B bw19
  clear bw19
  clear EW EM EH XA XM XW XG XH
  go_wp2
  go_ret
  exact ⟨rfl, B⟩
end LawFnExactCoreHear
end Go.Proofs.Ytafikmpgmnhgcaa
