/- The law FnBlocks over any impl.BlockOf, BlockOk, At, PageOf, Decode that answer as they should (written by mk10f.py). -/
import Derived.Test.YtfbdgcoingagcaaBkO
import Derived.Test.YtfbdgcoingagcaaDrawL2
import Derived.Test.YtfbdgcoingagcaaOpen
namespace Go.Proofs.Ytfbdgcoingagcaa
open Go.ChangeShapes Go.WideShapes Go.ChangeAt Go.RowKit
set_option linter.unusedVariables false

namespace LawFnBlocks
theorem big_b (a : Option Addr) (n ca : Nat) (w : World) (hl : (n : Int) ≤ 1048576) :
    Calls Try.prog 8 #[.slice a n ca] w fun e w' => e = .returned (.bool false) ∧ w' = w := by
  go_enter Try.func8, Try.ntmps8
  go_wp2
  go_ret
  exact ⟨ret_bool (by simp; omega), rfl⟩
/-- A row of places, in one piece. -/
structure IRs (W : World) (a : Option Addr) (n : Nat) (d : Nat → XD) : Prop where
  r : IR W a n d
theorem keep16 {W W' : World} (b : Below W.heap.size W W') {a0 a1 b0 b1 b2 b3 b4 c0 c1 c2 c3 c4 d0 d1 : Addr} {u0 u1 v0 v1 v2 v3 v4 x0 x1 x2 x3 x4 y0 y1 : Value} {p q : Option Addr} {n m : Nat} {d e : Nat → XD}
    (h : W.cell? a0 = some u0 ∧ W.cell? a1 = some u1 ∧ W.cell? b0 = some v0 ∧ W.cell? b1 = some v1 ∧ W.cell? b2 = some v2 ∧ W.cell? b3 = some v3 ∧ W.cell? b4 = some v4 ∧ W.cell? c0 = some x0 ∧ W.cell? c1 = some x1 ∧ W.cell? c2 = some x2 ∧ W.cell? c3 = some x3 ∧ W.cell? c4 = some x4 ∧ W.cell? d0 = some y0 ∧ W.cell? d1 = some y1 ∧ IRs W p n d ∧ IRs W q m e) :
    W'.cell? a0 = some u0 ∧ W'.cell? a1 = some u1 ∧ W'.cell? b0 = some v0 ∧ W'.cell? b1 = some v1 ∧ W'.cell? b2 = some v2 ∧ W'.cell? b3 = some v3 ∧ W'.cell? b4 = some v4 ∧ W'.cell? c0 = some x0 ∧ W'.cell? c1 = some x1 ∧ W'.cell? c2 = some x2 ∧ W'.cell? c3 = some x3 ∧ W'.cell? c4 = some x4 ∧ W'.cell? d0 = some y0 ∧ W'.cell? d1 = some y1 ∧ IRs W' p n d ∧ IRs W' q m e := by
  obtain ⟨h0, h1, h2, h3, h4, h5, h6, h7, h8, h9, h10, h11, h12, h13, h14, h15⟩ := h
  exact ⟨cell_later b h0, cell_later b h1, cell_later b h2, cell_later b h3, cell_later b h4, cell_later b h5, cell_later b h6, cell_later b h7, cell_later b h8, cell_later b h9, cell_later b h10, cell_later b h11, cell_later b h12, cell_later b h13, ⟨h14.r.below b⟩, ⟨h15.r.below b⟩⟩

set_option linter.unusedVariables false
theorem got16 {W : World} {a0 a1 b0 b1 b2 b3 b4 c0 c1 c2 c3 c4 d0 d1 : Addr} {u0 u1 v0 v1 v2 v3 v4 x0 x1 x2 x3 x4 y0 y1 : Value} {p q : Option Addr} {n m : Nat} {d e : Nat → XD}
    (h : W.cell? a0 = some u0 ∧ W.cell? a1 = some u1 ∧ W.cell? b0 = some v0 ∧ W.cell? b1 = some v1 ∧ W.cell? b2 = some v2 ∧ W.cell? b3 = some v3 ∧ W.cell? b4 = some v4 ∧ W.cell? c0 = some x0 ∧ W.cell? c1 = some x1 ∧ W.cell? c2 = some x2 ∧ W.cell? c3 = some x3 ∧ W.cell? c4 = some x4 ∧ W.cell? d0 = some y0 ∧ W.cell? d1 = some y1 ∧ IRs W p n d ∧ IRs W q m e) : IR W p n d ∧ IR W q m e := by
  obtain ⟨h0, h1, h2, h3, h4, h5, h6, h7, h8, h9, h10, h11, h12, h13, h14, h15⟩ := h
  exact ⟨h14.r, h15.r⟩

set_option maxRecDepth 100000 in
set_option maxHeartbeats 8000000 in
theorem walkG (HIF : ∀ (p : Option Addr) (c : Nat) (xs : List Int) (st : Int) (w : World), Row .i64 w p xs → Calls Try.prog 10 #[.slice p xs.length c, .int .i64 st] w (BlkP xs st w))
    (HIK : ∀ (st : Int) (a : Option Addr) (c n : Nat) (d : Nat → XD) (w : World), IR w a n d → Calls Try.prog 18 #[.agg #[.int .i64 st, .slice a n c]] w fun e w' => e = .returned (.bool (blockB st n d)) ∧ Below w.heap.size w w')
    (HIA : ∀ (st : Int) (a : Option Addr) (c n : Nat) (d : Nat → XD) (pc : Int) (w : World), IR w a n d → Calls Try.prog 15 #[.agg #[.int .i64 st, .slice a n c], .int .i64 pc] w (AtP st n d pc w))
    (HIP : ∀ (st : Int) (a : Option Addr) (c n : Nat) (d : Nat → XD) (w : World), IR w a n d → Calls Try.prog 20 #[.agg #[.int .i64 st, .slice a n c]] w fun e w' => e = .returned (.int .i64 (if blockB st n d then st / 4 else -1)) ∧ Below w.heap.size w w')
    (HID : ∀ (v : Int) (w : World), Calls Try.prog 22 #[.int .i64 v] w fun e w' => e = .returned (.tuple #[.agg (decV v), .bool (decB v)]) ∧ Below w.heap.size w w')
    (a : Option Addr) (ca : Nat) (bs : List Int) (w : World) (hc : Came .u8 w a ca bs) :
    Calls Try.prog 3 #[.slice a bs.length ca] w fun e w' => e = .returned (.bool true) ∧ Below w.heap.size w w' := by
  have HOf : Hid (∀ (p : Option Addr) (c : Nat) (xs : List Int) (st : Int) (w : World), Row .i64 w p xs → Calls Try.prog 10 #[.slice p xs.length c, .int .i64 st] w (BlkP xs st w)) := HIF
  have HOk : Hid (∀ (st : Int) (a : Option Addr) (c n : Nat) (d : Nat → XD) (w : World), IR w a n d → Calls Try.prog 18 #[.agg #[.int .i64 st, .slice a n c]] w fun e w' => e = .returned (.bool (blockB st n d)) ∧ Below w.heap.size w w') := HIK
  have HAt : Hid (∀ (st : Int) (a : Option Addr) (c n : Nat) (d : Nat → XD) (pc : Int) (w : World), IR w a n d → Calls Try.prog 15 #[.agg #[.int .i64 st, .slice a n c], .int .i64 pc] w (AtP st n d pc w)) := HIA
  have HPg : Hid (∀ (st : Int) (a : Option Addr) (c n : Nat) (d : Nat → XD) (w : World), IR w a n d → Calls Try.prog 20 #[.agg #[.int .i64 st, .slice a n c]] w fun e w' => e = .returned (.int .i64 (if blockB st n d then st / 4 else -1)) ∧ Below w.heap.size w w') := HIP
  have HDc : Hid (∀ (v : Int) (w : World), Calls Try.prog 22 #[.int .i64 v] w fun e w' => e = .returned (.tuple #[.agg (decV v), .bool (decB v)]) ∧ Below w.heap.size w w') := HID
  clear HIF HIK HIA HIP HID
  by_cases hl : 1048576 < bs.length
  · have hn : bs.length ≤ maxLen := Nat.le_trans hc.1 hc.2.1
    have hl' : (1048576 : Int) < bs.length := by omega
    clear hc
    go_enter Try.func3, Try.ntmps3
    go_wp2
    go_ret
    exact ⟨rfl, Below.refl _ _⟩
  · have HR : Hid (Row .u8 w a bs) := hc.row (by omega)
    have hl' : (bs.length : Int) ≤ 1048576 := by omega
    clear hc hl
    have B := Below.refl w.heap.size w
    go_enter Try.func3, Try.ntmps3
    go_wp2_with fail
    refine (big_b a bs.length ca _ hl').mono ?_
    rintro e w0 ⟨rfl, h⟩
    replace h := h.symm
    subst h
    go_wp2_with fail
    refine (dDrawBlockOf_any a ca bs _ HR.out).mono ?_
    rintro e w1 ⟨al, cl, ys, st, rfl, hyl, RL, bw1⟩
    replace B := bel_trans B bw1
    clear bw1
    go_wp2_with fail
    refine (HOf.out al cl ys st _ RL).mono ?_
    rintro e w2 ⟨ab, cb, rfl, OB, bw2⟩
    have hN := ofN_le ys st
    obtain ⟨N, eN⟩ : ∃ N, ofN ys st = N := ⟨_, rfl⟩
    obtain ⟨S, eS⟩ : ∃ S, ofS ys st = S := ⟨_, rfl⟩
    obtain ⟨D, eD⟩ : ∃ D, ofD ys st = D := ⟨_, rfl⟩
    have EN : Hid (ofN ys st = N) := eN
    have ES : Hid (ofS ys st = S) := eS
    have ED : Hid (ofD ys st = D) := eD
    rw [eN] at hN OB ⊢
    rw [eD] at OB
    rw [eS]
    have IB := OB.ir (by omega)
    clear eN eS eD OB
    replace RL := RL.below bw2
    replace B := bel_trans B bw2
    clear bw2
    go_wp2_with fail
    have bx := bel_alloc (Below.refl w2.heap.size w2) (.cells #[.int .i64 S, .slice ab N cb] 29)
    have XB := Box.new w2 #[.int .i64 S, .slice ab N cb] 29
    replace RL := RL.below bx
    replace IB := IB.below bx
    replace B := bel_trans B bx
    clear bx
    refine (specBlockOf_any al cl ys st _ RL).mono ?_
    rintro e w3 ⟨ac, cc, rfl, OC, bw3⟩
    rw [EN.out, ED.out] at OC
    rw [EN.out, ES.out]
    have IC3 := OC.ir (by omega)
    clear OC
    replace XB := XB.below bw3
    replace RL := RL.below bw3
    replace IB := IB.below bw3
    replace B := bel_trans B bw3
    clear bw3
    obtain ⟨XB_0, XB_1, XB_z⟩ := XB.at2
    go_wp2_with fail
    clear XB_0 XB_1 XB_z
    have bx := bel_alloc (Below.refl w3.heap.size w3) (.cells #[.int .i64 S, .slice ac N cc] 29)
    have XC := Box.new w3 #[.int .i64 S, .slice ac N cc] 29
    replace XB := XB.below bx
    replace RL := RL.below bx
    replace IB := IB.below bx
    replace IC3 := IC3.below bx
    replace B := bel_trans B bx
    clear bx
    refine (sameIns_any ab ac cb cc N D _ IB IC3).mono ?_
    rintro e w4 ⟨rfl, bw4⟩
    replace XB := XB.below bw4
    replace XC := XC.below bw4
    replace RL := RL.below bw4
    replace IB := IB.below bw4
    replace IC3 := IC3.below bw4
    replace B := bel_trans B bw4
    clear bw4
    clear IC3 XC
    go_wp2_with fail
    refine (dDrawBlockOk_any a ca bs _ (HR.out.below B)).mono ?_
    rintro e w5 ⟨sx, ax, cx, nx, DX, rfl, hnx, OX, bw5⟩
    have IX := OX.ir (by omega)
    clear OX
    replace XB := XB.below bw5
    replace RL := RL.below bw5
    replace IB := IB.below bw5
    replace B := bel_trans B bw5
    clear bw5
    go_wp2_with fail
    have bx := bel_alloc (Below.refl w5.heap.size w5) (.cells #[.int .i64 sx, .slice ax nx cx] 29)
    have XX := Box.new w5 #[.int .i64 sx, .slice ax nx cx] 29
    replace XB := XB.below bx
    replace RL := RL.below bx
    replace IB := IB.below bx
    replace IX := IX.below bx
    replace B := bel_trans B bx
    clear bx
    refine (dDrawAt_any a ca bs _ (HR.out.below B)).mono ?_
    rintro e w6 ⟨sy, ay, cy, ny, DY, pc, rfl, hny, OY, bw6⟩
    have IY := OY.ir (by omega)
    clear OY
    replace XB := XB.below bw6
    replace XX := XX.below bw6
    replace RL := RL.below bw6
    replace IB := IB.below bw6
    replace IX := IX.below bw6
    replace B := bel_trans B bw6
    clear bw6
    obtain ⟨yy, hyy⟩ : ∃ y, atX sy ny DY pc = y := ⟨_, rfl⟩
    obtain ⟨zk, hzk⟩ : ∃ z, atB sy ny DY pc = z := ⟨_, rfl⟩
    obtain ⟨io, ir, ia, ib, inn⟩ := yy
    have HA1 : Hid (∀ W, IR W ay ny DY → Calls Try.prog 15 #[.agg #[.int .i64 sy, .slice ay ny cy], .int .i64 pc] W fun e w' => e = .returned (.tuple #[.agg (icells io ir ia ib inn), .bool zk]) ∧ Below W.heap.size W w') := fun W h => by have h1 := HAt.out sy ay cy ny DY pc W h; unfold AtP at h1; rw [hyy, hzk] at h1; exact h1
    have HA2 : Hid (∀ W, IR W ay ny DY → Calls Try.prog 16 #[.agg #[.int .i64 sy, .slice ay ny cy], .int .i64 pc] W fun e w' => e = .returned (.tuple #[.agg (icells io ir ia ib inn), .bool zk]) ∧ Below W.heap.size W w') := fun W h => by have h1 := specAt_any sy ay cy ny DY pc W h; unfold AtP at h1; rw [hyy, hzk] at h1; exact h1
    clear hyy hzk
    go_wp2_with fail
    have bx := bel_alloc (Below.refl w6.heap.size w6) (.cells #[.int .i64 sy, .slice ay ny cy] 29)
    have XY := Box.new w6 #[.int .i64 sy, .slice ay ny cy] 29
    replace XB := XB.below bx
    replace XX := XX.below bx
    replace RL := RL.below bx
    replace IB := IB.below bx
    replace IX := IX.below bx
    replace IY := IY.below bx
    replace B := bel_trans B bx
    clear bx
    refine (HA1.out _ IY).mono ?_
    rintro e w7 ⟨rfl, bw7⟩
    replace XB := XB.below bw7
    replace XX := XX.below bw7
    replace XY := XY.below bw7
    replace RL := RL.below bw7
    replace IB := IB.below bw7
    replace IX := IX.below bw7
    replace IY := IY.below bw7
    replace B := bel_trans B bw7
    clear bw7
    obtain ⟨XY_0, XY_1, XY_z⟩ := XY.at2
    go_wp2_with fail
    clear XY_0 XY_1 XY_z
    have bx := bel_alloc (Below.refl w7.heap.size w7) (.cells (icells io ir ia ib inn) 36)
    have XI := Box.new w7 (icells io ir ia ib inn) 36
    replace XB := XB.below bx
    replace XX := XX.below bx
    replace XY := XY.below bx
    replace RL := RL.below bx
    replace IB := IB.below bx
    replace IX := IX.below bx
    replace IY := IY.below bx
    replace B := bel_trans B bx
    clear bx
    refine (HA2.out _ IY).mono ?_
    rintro e w8 ⟨rfl, bw8⟩
    replace XB := XB.below bw8
    replace XX := XX.below bw8
    replace XY := XY.below bw8
    replace XI := XI.below bw8
    replace RL := RL.below bw8
    replace IB := IB.below bw8
    replace IX := IX.below bw8
    replace IY := IY.below bw8
    replace B := bel_trans B bw8
    clear bw8
    clear IY XY HA1 HA2
    go_wp2_with fail
    have bx := bel_alloc (Below.refl w8.heap.size w8) (.cells (icells io ir ia ib inn) 36)
    have XJ := Box.new w8 (icells io ir ia ib inn) 36
    replace XB := XB.below bx
    replace XX := XX.below bx
    replace XI := XI.below bx
    replace RL := RL.below bx
    replace IB := IB.below bx
    replace IX := IX.below bx
    replace B := bel_trans B bx
    clear bx
    refine (dDrawPageOf_any a ca bs _ (HR.out.below B)).mono ?_
    rintro e w9 ⟨sp, ap, cp, np, DP, rfl, hnp, OP, bw9⟩
    have IP := OP.ir (by omega)
    clear OP
    replace XB := XB.below bw9
    replace XX := XX.below bw9
    replace XI := XI.below bw9
    replace XJ := XJ.below bw9
    replace RL := RL.below bw9
    replace IB := IB.below bw9
    replace IX := IX.below bw9
    replace B := bel_trans B bw9
    clear bw9
    obtain ⟨bx1, hbx⟩ : ∃ z, blockB sx nx DX = z := ⟨_, rfl⟩
    obtain ⟨pg, hpg⟩ : ∃ z, (if blockB sp np DP then sp / 4 else -1) = z := ⟨_, rfl⟩
    have HX1 : Hid (∀ W, IR W ax nx DX → Calls Try.prog 18 #[.agg #[.int .i64 sx, .slice ax nx cx]] W fun e w' => e = .returned (.bool bx1) ∧ Below W.heap.size W w') := fun W h => by have h1 := HOk.out sx ax cx nx DX W h; rw [hbx] at h1; exact h1
    have HX2 : Hid (∀ W, IR W ax nx DX → Calls Try.prog 19 #[.agg #[.int .i64 sx, .slice ax nx cx]] W fun e w' => e = .returned (.bool bx1) ∧ Below W.heap.size W w') := fun W h => by have h1 := specBlockOk_any sx ax cx nx DX W h; rw [hbx] at h1; exact h1
    have HP1 : Hid (∀ W, IR W ap np DP → Calls Try.prog 20 #[.agg #[.int .i64 sp, .slice ap np cp]] W fun e w' => e = .returned (.int .i64 pg) ∧ Below W.heap.size W w') := fun W h => by have h1 := HPg.out sp ap cp np DP W h; rw [hpg] at h1; exact h1
    have HP2 : Hid (∀ W, IR W ap np DP → Calls Try.prog 21 #[.agg #[.int .i64 sp, .slice ap np cp]] W fun e w' => e = .returned (.int .i64 pg) ∧ Below W.heap.size W w') := fun W h => by have h1 := specPageOf_any sp ap cp np DP W h; rw [hpg] at h1; exact h1
    clear hbx hpg
    have bx := bel_alloc (Below.refl w9.heap.size w9) (.cells #[.int .i64 sp, .slice ap np cp] 29)
    have XP := Box.new w9 #[.int .i64 sp, .slice ap np cp] 29
    replace XB := XB.below bx
    replace XX := XX.below bx
    replace XI := XI.below bx
    replace XJ := XJ.below bx
    replace RL := RL.below bx
    replace IB := IB.below bx
    replace IX := IX.below bx
    replace IP := IP.below bx
    replace B := bel_trans B bx
    clear bx
    obtain ⟨XX_0, XX_1, XX_z⟩ := XX.at2
    obtain ⟨XI_0, XI_1, XI_2, XI_3, XI_4, XI_z⟩ := XI.at5i
    obtain ⟨XJ_0, XJ_1, XJ_2, XJ_3, XJ_4, XJ_z⟩ := XJ.at5i
    obtain ⟨XP_0, XP_1, XP_z⟩ := XP.at2
    go_wp2_with fail
    have heq := insv_eq io ir ia ib inn
    have bdr := below_drewN (Below.refl (w9.alloc (.cells #[.int .i64 sp, .slice ap np cp] 29)).heap.size (w9.alloc (.cells #[.int .i64 sp, .slice ap np cp] 29))) 1
    go_region_held3 (fun W => W.cell? ⟨w5.heap.size, 0, none⟩ = some (.int .i64 sx) ∧ W.cell? ⟨w5.heap.size, 1, none⟩ = some (.slice ax nx cx) ∧ W.cell? ⟨w7.heap.size, 0, none⟩ = some (.int .i64 io) ∧ W.cell? ⟨w7.heap.size, 1, none⟩ = some (.int .i64 ir) ∧ W.cell? ⟨w7.heap.size, 2, none⟩ = some (.int .i64 ia) ∧ W.cell? ⟨w7.heap.size, 3, none⟩ = some (.int .i64 ib) ∧ W.cell? ⟨w7.heap.size, 4, none⟩ = some (.int .i64 inn) ∧ W.cell? ⟨w8.heap.size, 0, none⟩ = some (.int .i64 io) ∧ W.cell? ⟨w8.heap.size, 1, none⟩ = some (.int .i64 ir) ∧ W.cell? ⟨w8.heap.size, 2, none⟩ = some (.int .i64 ia) ∧ W.cell? ⟨w8.heap.size, 3, none⟩ = some (.int .i64 ib) ∧ W.cell? ⟨w8.heap.size, 4, none⟩ = some (.int .i64 inn) ∧ W.cell? ⟨w9.heap.size, 0, none⟩ = some (.int .i64 sp) ∧ W.cell? ⟨w9.heap.size, 1, none⟩ = some (.slice ap np cp) ∧ IRs W ax nx DX ∧ IRs W ap np DP)
      (first | (with_reducible exact keep16 b13 ‹_›) | (with_reducible exact keep16 b12 ‹_›) | (with_reducible exact keep16 b11 ‹_›) | (with_reducible exact keep16 b10 ‹_›) | exact keep16 bdr ⟨XX_0, XX_1, XI_0, XI_1, XI_2, XI_3, XI_4, XJ_0, XJ_1, XJ_2, XJ_3, XJ_4, XP_0, XP_1, ⟨IX⟩, ⟨IP⟩⟩ | go_keep)
      (first | (go_at_call 18; refine (HX1.out _ (got16 ‹_›).1).mono ?_; rintro e w10 ⟨rfl, b10⟩) | (go_at_call 19; refine (HX2.out _ (got16 ‹_›).1).mono ?_; rintro e w11 ⟨rfl, b11⟩) | (go_at_call 20; refine (HP1.out _ (got16 ‹_›).2).mono ?_; rintro e w12 ⟨rfl, b12⟩) | (go_at_call 21; refine (HP2.out _ (got16 ‹_›).2).mono ?_; rintro e w13 ⟨rfl, b13⟩))
    have bb := bel_trans (bel_trans (bel_trans (bel_undrew b10) b11) b12) b13
    clear b10 b11 b12 b13 XX_0 XX_1 XX_z XI_0 XI_1 XI_2 XI_3 XI_4 XI_z XJ_0 XJ_1 XJ_2 XJ_3 XJ_4 XJ_z XP_0 XP_1 XP_z heq bdr
    clear XX XI XJ XP IX IP HX1 HX2 HP1 HP2
    replace XB := XB.below bb
    replace RL := RL.below bb
    replace IB := IB.below bb
    replace B := bel_trans B bb
    clear bb
    obtain ⟨XB_0, XB_1, XB_z⟩ := XB.at2
    by_cases hN0 : N = 0
    · subst hN0
      have HS0 : Hid (S = 0) := ES.out.symm.trans (ofS_no EN.out)
      clear RL IB XB
      go_wp2
      go_ret
      exact ⟨ret_bool (by rw [HS0.out]; rfl), B⟩
    have hNp : ¬ ((N : Int) = 0) := by omega
    have hNe : ((N : Int) == 0) = false := by simp; omega
    have hob : ofB ys st = true := ofB_of (k := 0) (by rw [EN.out]; omega)
    obtain ⟨h4, st0, st1⟩ := ofB_st hob
    obtain ⟨hS1, _, hN4, hblk⟩ := block_of hob
    rw [ES.out] at hS1
    rw [EN.out] at hN4 hblk
    rw [ED.out] at hblk
    subst hS1
    have HAK : Hid (∀ k, k < N → atB S N D (S + k) = true ∧ atX S N D (S + k) = D k) := fun k hk => by have h := at_of hob (k := k) (by rw [EN.out]; exact hk); rw [EN.out, ED.out] at h; exact h
    have HDK : Hid (∀ k, D k = dx (ys.getD ((S % 4).toNat + k) 0)) := fun k => by rw [← ED.out]; rfl
    have HBK : Hid (blockB S N D = true) := hblk
    obtain ⟨s, hs⟩ : ∃ s : Nat, S % 4 = (s : Int) := ⟨(S % 4).toNat, by omega⟩
    have HST : Hid ((S % 4).toNat = s) := by show _ = _; omega
    have hsN : s + N ≤ 4 := by have := HST.out; omega
    have H4 : Hid (ys.length = 4) := h4
    rw [h4]
    clear hob hN4 hblk ES ED EN hN0 h4
    have HB0 : Hid (Below w.heap.size w _) := B
    have HRL : Hid (Row .i64 _ al ys) := RL
    have HIB : Hid (IR _ ab N D) := IB
    have HXB : Hid (Box _ w2.heap.size #[.int .i64 S, .slice ab N cb] 29) := XB
    clear B RL IB XB
    go_wp2_with fail
    clear XB_0 XB_1 XB_z
    go_loopw [15] (fun i wr => ∃ k : Nat, k ≤ N ∧ i = .int .i64 k ∧ Box wr w2.heap.size #[.int .i64 S, .slice ab N cb] 29 ∧ IR wr ab N D ∧ Row .i64 wr al ys ∧ Below w.heap.size w wr) (fun i _ => N - (intOf i).toNat)
    case atStart => exact ⟨0, Nat.zero_le _, rfl, HXB.out, HIB.out, HRL.out, HB0.out⟩
    case round =>
      obtain ⟨k, hk, rfl, XB, IB, RL, B⟩ := hrel
      clear HB0 HRL HIB HXB
      obtain ⟨b0, b1, bz⟩ := XB.at2
      by_cases hlt : k < N
      · have hi : (k : Int) < (N : Int) := by omega
        obtain ⟨lb, lo, rfl, hcv⟩ := RL.2 (s + k) (by rw [H4.out]; omega)
        obtain ⟨v, hv⟩ : ∃ v, ys.getD (s + k) 0 = v := ⟨_, rfl⟩
        rw [hv] at hcv
        have hDk := HDK.out k
        rw [HST.out, hv] at hDk
        have hcz := lt_of_cell hcv
        obtain ⟨y, hy⟩ : ∃ y, dx v = y := ⟨_, rfl⟩
        rw [hy] at hDk
        obtain ⟨zo, zr, za, zb, zn⟩ := y
        have HDk : Hid (D k = ⟨zo, zr, za, zb, zn⟩) := hDk
        have HQ : Hid (∀ W, IR W ab N D → Calls Try.prog 15 #[.agg #[.int .i64 S, .slice ab N cb], .int .i64 (S + k)] W fun e w' => e = .returned (.tuple #[.agg (icells zo zr za zb zn), .bool true]) ∧ Below W.heap.size W w') := fun W h => by have h1 := HAt.out S ab cb N D (S + k) W h; unfold AtP at h1; rw [(HAK.out k hlt).1, (HAK.out k hlt).2, HDk.out] at h1; exact h1
        clear hDk hv
        have HXB : Hid (Box wr w2.heap.size #[.int .i64 S, .slice ab N cb] 29) := XB
        have HIB : Hid (IR wr ab N D) := IB
        have HRL : Hid (Row .i64 wr (some ⟨lb, lo, none⟩) ys) := RL
        have HB : Hid (Below w.heap.size w wr) := B
        clear XB IB RL B
        have hsk : (s : Int) + (k : Int) < 4 := by omega
        go_wp2_with fail
        refine (HDc.out v _).mono ?_
        rintro e v1 ⟨rfl, c1⟩
        rw [dx_cells, hy]
        generalize decB v = zd
        have cx := bel_alloc (Below.refl v1.heap.size v1) (.cells (icells zo zr za zb zn) 36)
        have XZ := Box.new v1 (icells zo zr za zb zn) 36
        have c1x := bel_trans c1 cx
        obtain ⟨b0, b1, bz⟩ := (HXB.out.below c1).at2
        have HI2 := HIB.out.below c1x
        clear c1 cx hcv hcz
        go_wp2_with fail
        refine (HQ.out _ HI2).mono ?_
        rintro e v2 ⟨rfl, c2⟩
        have XZ2 := XZ.below c2
        have cy := bel_alloc (Below.refl v2.heap.size v2) (.cells (icells zo zr za zb zn) 36)
        have cc := bel_trans (bel_trans c1x c2) cy
        have HN1 : Hid (Box _ w2.heap.size #[.int .i64 S, .slice ab N cb] 29) := HXB.out.below cc
        have HN2 : Hid (IR _ ab N D) := HIB.out.below cc
        have HN3 : Hid (Row .i64 _ (some ⟨lb, lo, none⟩) ys) := HRL.out.below cc
        have HN4 : Hid (Below w.heap.size w _) := bel_trans HB.out cc
        obtain ⟨z0, z1, z2, z3, z4, zz⟩ := XZ2.at5i
        have heq := insv_eq zo zr za zb zn
        clear XZ XZ2 c1x c2 cy cc b0 b1 bz HI2
        go_wp2
        go_roundw
        case rel => exact ⟨k + 1, by omega, by go_num, HN1.out, HN2.out, HN3.out, HN4.out⟩
        case measure => simp [intOf]; omega
      · have : k = N := by omega
        subst this
        have hi : ¬ ((k : Int) < (k : Int)) := by omega
        have HXB : Hid (Box wr w2.heap.size #[.int .i64 S, .slice ab k cb] 29) := XB
        have HIB : Hid (IR wr ab k D) := IB
        have HB : Hid (Below w.heap.size w wr) := B
        clear XB IB RL B
        go_wp2_with fail
        refine (HOk.out S ab cb k D _ HIB.out).mono ?_
        rintro e v1 ⟨rfl, c1⟩
        rw [HBK.out]
        clear b0 b1 bz
        obtain ⟨b0, b1, bz⟩ := (HXB.out.below c1).at2
        go_wp2_with fail
        refine (HPg.out S ab cb k D _ (HIB.out.below c1)).mono ?_
        rintro e v2 ⟨rfl, c2⟩
        rw [HBK.out]
        simp only [if_true]
        have HF : Hid (Below w.heap.size w v2) := bel_trans (bel_trans HB.out c1) c2
        clear c1 c2 b0 b1 bz
        go_wp2
        go_ret
        exact ⟨ret_bool (by simp), HF.out⟩
end LawFnBlocks
end Go.Proofs.Ytfbdgcoingagcaa
