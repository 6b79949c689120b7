/- The law FnExactCacheAdd over any impl.CacheAdd that answers as it should (written by mk11.py). -/
import Derived.Test.YtkamhinklhcbaaaCa4
import Derived.BigRegion
import Derived.Deep.RegionHeld3
import Derived.Test.YtkamhinklhcbaaaCaO
import Derived.Test.YtkamhinklhcbaaaBkZ
import Derived.Test.YtkamhinklhcbaaaBkM
namespace Go.Proofs.Ytkamhinklhcbaaa
open Go.ChangeShapes Go.WideShapes Go.ChangeAt Go.RowKit
set_option linter.unusedVariables false

structure KIs (W : World) (a : Option Addr) (n : Nat) (d : Nat → KD) (p : Nat → Pl) (ab : Option Addr) (nb : Nat) (xb : Nat → XD) : Prop where
  k : KR W a n d p
  i : IR W ab nb xb
theorem keepK {W W' : World} (b : Below W.heap.size W W') {a0 a1 : Addr} {u0 u1 : Value} {a : Option Addr} {n : Nat} {d : Nat → KD} {p : Nat → Pl} {ab : Option Addr} {nb : Nat} {xb : Nat → XD} (h : W.cell? a0 = some u0 ∧ W.cell? a1 = some u1 ∧ KIs W a n d p ab nb xb) : W'.cell? a0 = some u0 ∧ W'.cell? a1 = some u1 ∧ KIs W' a n d p ab nb xb :=
  ⟨cell_later b h.1, cell_later b h.2.1, ⟨h.2.2.k.below b, h.2.2.i.below b⟩⟩
theorem gotK {W : World} {a0 a1 : Addr} {u0 u1 : Value} {a : Option Addr} {n : Nat} {d : Nat → KD} {p : Nat → Pl} {ab : Option Addr} {nb : Nat} {xb : Nat → XD} (h : W.cell? a0 = some u0 ∧ W.cell? a1 = some u1 ∧ KIs W a n d p ab nb xb) : KR W a n d p ∧ IR W ab nb xb := ⟨h.2.2.k, h.2.2.i⟩
structure IIs (W : World) (ab aY : Option Addr) (nb : Nat) (xb : Nat → XD) : Prop where
  b : IR W ab nb xb
  y : IR W aY nb xb
theorem keepY {W W' : World} (b : Below W.heap.size W W') {a0 a1 b0 b1 : Addr} {u0 u1 v0 v1 : Value} {ab aY : Option Addr} {nb : Nat} {xb : Nat → XD} (h : W.cell? a0 = some u0 ∧ W.cell? a1 = some u1 ∧ W.cell? b0 = some v0 ∧ W.cell? b1 = some v1 ∧ IIs W ab aY nb xb) : W'.cell? a0 = some u0 ∧ W'.cell? a1 = some u1 ∧ W'.cell? b0 = some v0 ∧ W'.cell? b1 = some v1 ∧ IIs W' ab aY nb xb :=
  ⟨cell_later b h.1, cell_later b h.2.1, cell_later b h.2.2.1, cell_later b h.2.2.2.1, ⟨h.2.2.2.2.b.below b, h.2.2.2.2.y.below b⟩⟩
theorem gotY {W : World} {a0 a1 b0 b1 : Addr} {u0 u1 v0 v1 : Value} {ab aY : Option Addr} {nb : Nat} {xb : Nat → XD} (h : W.cell? a0 = some u0 ∧ W.cell? a1 = some u1 ∧ W.cell? b0 = some v0 ∧ W.cell? b1 = some v1 ∧ IIs W ab aY nb xb) : IR W ab nb xb ∧ IR W aY nb xb := ⟨h.2.2.2.2.b, h.2.2.2.2.y⟩
namespace LawFnExactCacheAdd
set_option maxRecDepth 100000 in
set_option maxHeartbeats 8000000 in
theorem walkG (HI : ∀ (a : Option Addr) (c n : Nat) (d : Nat → KD) (p : Nat → Pl) (y : KD) (ay : Option Addr) (cy : Nat) (w : World), n ≤ c → KR w a n d p → IR w ay y.n y.x → Calls Try.prog 10 #[.slice a n c, .agg #[.int .i64 y.st, .slice ay y.n cy]] w (RowP (addL (allL d n) y) w))
    (a : Option Addr) (ca n : Nat) (d : Nat → KD) (p : Nat → Pl) (st : Int) (ab : Option Addr) (cb nb : Nat) (xb : Nat → XD) (w : World) (hc : KC w a n d p) (hcb : IC w ab nb xb) :
    Calls Try.prog 6 #[.slice a n ca, .agg #[.int .i64 st, .slice ab nb cb]] w fun e w' => e = .returned (.bool true) ∧ Below w.heap.size w w' := by
  have HI' : Hid (∀ (a : Option Addr) (c : Nat) (p : Nat → Pl) (ay : Option Addr) (cy : Nat) (W : World), n ≤ c → KR W a n d p → IR W ay nb xb → Calls Try.prog 10 #[.slice a n c, .agg #[.int .i64 st, .slice ay nb cy]] W (RowP (addL (allL d n) ⟨st, nb, xb⟩) W)) := fun a c p ay cy W h0 h1 h2 => HI a c n d p ⟨st, nb, xb⟩ ay cy W h0 h1 h2
  have HS : Hid (∀ (a : Option Addr) (c : Nat) (p : Nat → Pl) (ay : Option Addr) (cy : Nat) (W : World), KR W a n d p → IR W ay nb xb → Calls Try.prog 12 #[.slice a n c, .agg #[.int .i64 st, .slice ay nb cy]] W (RowP (addL (allL d n) ⟨st, nb, xb⟩) W)) := fun a c p ay cy W h1 h2 => specCacheAdd_any a c n d p ⟨st, nb, xb⟩ ay cy W h1 h2
  clear HI
  have bA := bel_alloc (Below.refl w.heap.size w) (.cells #[.int .i64 st, .slice ab nb cb] 56)
  have XA := Box.new w #[.int .i64 st, .slice ab nb cb] 56
  go_enter Try.func6, Try.ntmps6
  go_wp2_with fail
  refine (szBlockS_tot a ca n d p 1048576 _ (by omega) (by omega) (hc.below bA)).mono ?_
  rintro e w1 ⟨r, rfl, hr0, bw1⟩
  have B := bel_trans bA bw1
  replace XA := XA.below bw1
  clear bw1 bA
  rcases hr0 with rfl | ⟨r0, r1⟩
  · clear hc hcb HI' HS XA
    go_wp2
    go_ret
    exact ⟨rfl, B⟩
  obtain ⟨hn, hx⟩ := bkZ_le (n := n) (d := d) (Z := 1048576) (by omega)
  have hd : ¬ (r < 0) := by omega
  have hr1 : r ≤ 1048576 := by omega
  have HR : Hid (KR w a n d p) := hc.kr (by omega) (fun i hi => by have := hx i hi; omega)
  have hnm := hcb.1
  clear hc r1
  obtain ⟨xa0, xa1, xaz⟩ := XA.at2
  go_wp2_with fail
  refine (szBlock_tot st ab nb cb r _ r0 hr1 hnm).mono ?_
  rintro e w2 ⟨q, rfl, hq0, bw2⟩
  clear xa0 xa1 xaz
  replace XA := XA.below bw2
  replace B := bel_trans B bw2
  clear bw2
  rcases hq0 with rfl | ⟨q0, q1⟩
  · clear hcb HI' HS XA
    go_wp2
    go_ret
    exact ⟨rfl, B⟩
  have hnb : nb ≤ 1048576 := by omega
  have hd2 : ¬ (q < 0) := by omega
  have HRB : Hid (IR w ab nb xb) := hcb.ir (by omega)
  clear hcb q1 hnm
  have hLn := addL_le (y := ⟨st, nb, xb⟩) (L := allL d n) (by rw [allL_length]; exact hn)
  have hLx := addL_n (y := ⟨st, nb, xb⟩) hx hnb
  obtain ⟨L, eL⟩ : ∃ L, addL (allL d n) ⟨st, nb, xb⟩ = L := ⟨_, rfl⟩
  rw [eL] at hLn hLx HI' HS
  obtain ⟨m, em⟩ : ∃ m, L.length = m := ⟨_, rfl⟩
  have HM : Hid (L.length = m) := em
  unfold RowP at HI' HS
  rw [em] at hLn hLx HI' HS
  have HLx : Hid (∀ i, i < m → (kd L i).n ≤ 1048576) := hLx
  clear eL em hLx
  have zw := B.size
  obtain ⟨xa0, xa1, xaz⟩ := XA.at2
  go_wp2_with fail
  obtain ⟨V1, hV1⟩ : ∃ V, V = w2 := ⟨_, rfl⟩
  have bd : Below w2.heap.size w2 w2.drew := below_drewN (Below.refl _ _) 1
  clear hV1 V1
  have hk0 := keepK bd ⟨xa0, xa1, ⟨HR.out.below B, HRB.out.below B⟩⟩
  go_region_held3 (fun W => W.cell? ⟨w.heap.size, 0, none⟩ = some (.int .i64 st) ∧ W.cell? ⟨w.heap.size, 1, none⟩ = some (.slice ab nb cb) ∧ KIs W a n d p ab nb xb)
    (first | (with_reducible exact keepK bC1 ‹_›) | (with_reducible exact keepK bT1 ‹_›) | (with_reducible exact keepK bS1 ‹_›) | exact hk0 | go_keep)
    (first | (go_at_call 25; refine (toBlockS_own a ca n d p _ hn hx (gotK ‹_›).1).mono ?_; rintro e wS1 ⟨aS, cS, pS, rfl, OS, _, bS1⟩; have KS := KO.kr OS (by omega) (fun i hi => by have := hx i hi; omega)) | (go_at_call 31; refine (toBlock_any st ab cb nb xb _ hnb (gotK ‹_›).2).mono ?_; rintro e wT1 ⟨aT, cT, rfl, OT, bT1⟩; have IT := OT.ir (by omega)) | (go_at_call 12; refine (HS.out aS cS pS aT cT _ (KS.below bT1) IT).mono ?_; rintro e w3 ⟨aW, cW, pW, rfl, OW, lW0, bC1⟩))
  have bq := bel_trans (bel_trans (bel_undrew bS1) bT1) bC1
  rw [HM.out] at OW lW0
  clear bS1 bT1 bC1 KS OS IT OT hk0 bd xa0 xa1 xaz
  replace XA := XA.below bq
  replace B := bel_trans B bq
  clear bq
  have lW : Hid (∀ b, RS aW cW m (fun i => QK (pW i)) b → b < w3.heap.size) := fun b hb => Rw.slt OW hb
  clear lW0
  have z3 := B.size
  have zA := XA.lt
  go_wp2_with fail
  refine (toBlockS_own a ca n d p _ hn hx (HR.out.below B)).mono ?_
  rintro e w4 ⟨aX, cX, pX, rfl, OX, lX0, bw4⟩
  have lX : Hid (∀ b, RS aX cX n (fun i => QK (pX i)) b → w3.heap.size ≤ b ∧ b < w4.heap.size) := fun b hb => ⟨lX0 b hb, Rw.slt OX hb⟩
  have z34 := bw4.size
  clear lX0
  replace XA := XA.below bw4
  replace OW := OW.below bw4
  replace B := bel_trans B bw4
  clear bw4
  obtain ⟨xa0, xa1, xaz⟩ := XA.at2
  go_wp2_with fail
  refine (toBlock_any st ab cb nb xb _ hnb (HRB.out.below B)).mono ?_
  rintro e w5 ⟨aY, cY, rfl, OY, bw5⟩
  have lY : Hid (∀ b, (Value.slice aY nb cY).ownBlock = some b → w4.heap.size ≤ b ∧ b < w5.heap.size) := fun b hb => World.ownsRow.lt OY b hb
  have z45 := bw5.size
  clear xa0 xa1 xaz
  replace XA := XA.below bw5
  replace OW := OW.below bw5
  replace OX := OX.below bw5
  replace B := bel_trans B bw5
  clear bw5
  go_wp2_with fail
  have bx := bel_alloc (Below.refl w5.heap.size w5) (.cells #[.int .i64 st, .slice aY nb cY] 27)
  have XY := Box.new w5 #[.int .i64 st, .slice aY nb cY] 27
  replace XA := XA.below bx
  replace OW := OW.below bx
  replace OX := OX.below bx
  replace OY := OY.below bx
  replace B := bel_trans B bx
  clear bx
  refine (HI'.out aX cX pX aY cY _ (KO.cap OX) (KO.kr OX (by omega) (fun i hi => by have := hx i hi; omega)) (OY.ir (by omega))).mono ?_
  rintro e w6 ⟨aG, cG, pG, rfl, OG, lG0, bw6⟩
  rw [HM.out] at OG lG0
  have z56 : w5.heap.size < w6.heap.size := by have h := bw6.size; (try simp at h); omega
  have lG : Hid (∀ b, RS aG cG m (fun i => QK (pG i)) b → w5.heap.size < b ∧ b < w6.heap.size) := fun b hb => ⟨by have h := lG0 b hb; (try simp at h); omega, Rw.slt OG hb⟩
  clear lG0
  replace XA := XA.below bw6
  replace OW := OW.below bw6
  replace OX := OX.below bw6
  replace OY := OY.below bw6
  replace XY := XY.below bw6
  replace B := bel_trans B bw6
  clear bw6
  go_wp2_with fail
  refine (eqBlockS_any aG aW cG cW m (kd L) pG pW _ (KO.kr OG (by omega) (fun i hi => by have := HLx.out i hi; omega)) (KO.kr OW (by omega) (fun i hi => by have := HLx.out i hi; omega))).mono ?_
  rintro e w7 ⟨rfl, bw7⟩
  replace XA := XA.below bw7
  replace OW := OW.below bw7
  replace OX := OX.below bw7
  replace OY := OY.below bw7
  replace XY := XY.below bw7
  replace OG := OG.below bw7
  replace B := bel_trans B bw7
  clear bw7
  go_wp2_with fail
  refine (toBlockS_own a ca n d p _ hn hx (HR.out.below B)).mono ?_
  rintro e w8 ⟨aE, cE, pE, rfl, OE, lE0, bw8⟩
  clear lE0
  replace XA := XA.below bw8
  replace OW := OW.below bw8
  replace OX := OX.below bw8
  replace OY := OY.below bw8
  replace XY := XY.below bw8
  replace OG := OG.below bw8
  replace B := bel_trans B bw8
  clear bw8
  go_wp2_with fail
  refine (eqBlockS_any aX aE cX cE n d pX pE _ (KO.kr OX (by omega) (fun i hi => by have := hx i hi; omega)) (KO.kr OE (by omega) (fun i hi => by have := hx i hi; omega))).mono ?_
  rintro e w9 ⟨rfl, bw9⟩
  clear OE
  replace XA := XA.below bw9
  replace OW := OW.below bw9
  replace OX := OX.below bw9
  replace OY := OY.below bw9
  replace XY := XY.below bw9
  replace OG := OG.below bw9
  replace B := bel_trans B bw9
  clear bw9
  obtain ⟨xa0, xa1, xaz⟩ := XA.at2
  obtain ⟨xy0, xy1, xyz⟩ := XY.at2
  go_wp2_with fail
  have bd : Below w9.heap.size w9 w9.drew := below_drewN (Below.refl _ _) 1
  have hk0 := keepY bd ⟨xa0, xa1, xy0, xy1, ⟨HRB.out.below B, OY.ir (by omega)⟩⟩
  go_region_held3 (fun W => W.cell? ⟨w.heap.size, 0, none⟩ = some (.int .i64 st) ∧ W.cell? ⟨w.heap.size, 1, none⟩ = some (.slice ab nb cb) ∧ W.cell? ⟨w5.heap.size, 0, none⟩ = some (.int .i64 st) ∧ W.cell? ⟨w5.heap.size, 1, none⟩ = some (.slice aY nb cY) ∧ IIs W ab aY nb xb)
    (first | (with_reducible exact keepY b11 ‹_›) | (with_reducible exact keepY b10 ‹_›) | exact hk0 | go_keep)
    (first | (go_at_call 31; refine (toBlock_any st ab cb nb xb _ hnb (gotY ‹_›).1).mono ?_; rintro e w10 ⟨aF, cF, rfl, OF, b10⟩; have iF := OF.ir (by omega)) | (go_at_call 32; refine (eqBlock_any st aY aF cY cF nb xb _ (gotY ‹_›).2 iF).mono ?_; rintro e w11 ⟨rfl, b11⟩))
  have bq := bel_trans (bel_undrew b10) b11
  clear b10 b11 OF iF hk0 bd xa0 xa1 xaz xy0 xy1 xyz
  replace XA := XA.below bq
  replace OW := OW.below bq
  replace OX := OX.below bq
  replace OY := OY.below bq
  replace XY := XY.below bq
  replace OG := OG.below bq
  replace B := bel_trans B bq
  clear bq
  go_wp2_with fail
  refine (markBlockS_all (fun b => RS aX cX n (fun i => QK (pX i)) b) n aX cX d pX 1 _ (by omega) (by omega) hn hx OX (fun b hb => hb)).mono ?_
  rintro e w12 ⟨rfl, _, k12⟩
  clear OX
  have zz : True := trivial
  replace OW := Rw.sm OW (k12.sm (fun b hb he => by have := lW.out b hb; have := lX.out b he; omega))
  replace OG := Rw.sm OG (k12.sm (fun b hb he => by have := lG.out b hb; have := lX.out b he; omega))
  replace OY : IOw _ _ aY cY nb xb := owns_sm OY (k12.sm (P := fun b => (Value.slice aY nb cY).ownBlock = some b) (fun b hb he => by have := lY.out b hb; have := lX.out b he; omega)) (fun j hj => hj)
  replace XA := XA.only k12 (fun e => by have := lX.out _ e; omega)
  replace XY := XY.only k12 (fun e => by have := lX.out _ e; omega)
  replace B := k12.bel B (fun b hb => by have := lX.out b hb; omega)
  clear k12
  have hk1 := kt_le (k0 := 1) (c := fun i => cK (d i)) (C := 5242881) (Nat.le_refl n) (fun i hi => by have := hx i hi; unfold cK; omega)
  have hk3 : n * 5242881 ≤ 1048576 * 5242881 := Nat.mul_le_mul_right _ hn
  generalize kt 1 (fun i => cK (d i)) n = kx at hk1 ⊢
  obtain ⟨hk1, hk2⟩ := hk1
  have hkm : kx ≤ 6000000000000 := by omega
  clear hk2 hk3
  obtain ⟨xy0, xy1, xyz⟩ := XY.at2
  go_wp2_with fail
  clear xy0 xy1 xyz
  refine (markBlock_any st _ nb aY cY xb kx _ (by omega) (by omega) (by omega) OY).mono ?_
  rintro e w13 ⟨rfl, _, k13⟩
  clear OY
  have kY : ∀ b, blk (aY, cY) = some b → w4.heap.size ≤ b ∧ b < w5.heap.size := fun b hb => lY.out b (blk_own (p := (aY, cY)) hb)
  replace OW := Rw.sm OW (k13.sm (fun b hb he => by have := lW.out b hb; have := kY b he; omega))
  replace OG := Rw.sm OG (k13.sm (fun b hb he => by have := lG.out b hb; have := kY b he; omega))
  replace XA := XA.only k13 (fun e => by have := kY _ e; omega)
  clear XY
  replace B := k13.bel B (fun b hb => by have := kY b hb; omega)
  clear k13 kY
  have hkd : decide (kx + 5 * (nb : Int) < 0) = false := by simp; omega
  go_wp2_with fail
  refine (eqBlockS_any aG aW cG cW m (kd L) pG pW _ (KO.kr OG (by omega) (fun i hi => by have := HLx.out i hi; omega)) (KO.kr OW (by omega) (fun i hi => by have := HLx.out i hi; omega))).mono ?_
  rintro e w14 ⟨rfl, bw14⟩
  replace XA := XA.below bw14
  replace OW := OW.below bw14
  replace OG := OG.below bw14
  replace B := bel_trans B bw14
  clear bw14
  go_wp2_with fail
  have HK2 : Hid (1 ≤ kt 1 (fun i => cK (kd L i)) m) := (kt_le (k0 := 1) (c := fun i => cK (kd L i)) (C := 5242881) (Nat.le_refl m) (fun i hi => by have := HLx.out i hi; unfold cK; omega)).1
  refine (markBlockS_all (fun b => RS aG cG m (fun i => QK (pG i)) b) m aG cG (kd L) pG 1 _ (by omega) (by omega) (by omega) HLx.out OG (fun b hb => hb)).mono ?_
  rintro e w15 ⟨rfl, OM, k15⟩
  clear OG
  replace OW := Rw.sm OW (k15.sm (fun b hb he => by have := lW.out b hb; have := lG.out b he; omega))
  replace XA := XA.only k15 (fun e => by have := lG.out _ e; omega)
  replace B := k15.bel B (fun b hb => by have := lG.out b hb; omega)
  clear k15
  have HH : Hid (∀ W, KO W aG cG m (fun i => mK (kt 1 (fun i => cK (kd L i)) i) (kd L i)) pG → Calls Try.prog 35 #[.slice aG m cG, .int .i64 1] W fun e w' => e = .returned (.int .i64 (kt 1 (fun i => cK (kd L i)) m)) ∧ Below W.heap.size W w') := fun W h => heldBlockS_all m aG cG (kd L) pG 1 W (by omega) (by omega) (by omega) HLx.out h
  obtain ⟨kg, hkg⟩ : ∃ q, kt 1 (fun i => cK (kd L i)) m = q := ⟨_, rfl⟩
  rw [hkg] at HH HK2 ⊢
  have hk2 : decide (kg < 0) = false := by have := HK2.out; simp; omega
  clear hkg
  go_wp2_with fail
  refine (HH.out _ OM).mono ?_
  rintro e w16 ⟨rfl, bw16⟩
  replace XA := XA.below bw16
  replace OW := OW.below bw16
  replace OM := OM.below bw16
  replace B := bel_trans B bw16
  clear bw16
  obtain ⟨xa0, xa1, xaz⟩ := XA.at2
  go_wp2_with fail
  obtain ⟨V2, hV2⟩ : ∃ V, V = w16 := ⟨_, rfl⟩
  have bd : Below w16.heap.size w16 w16.drew := below_drewN (Below.refl _ _) 1
  clear hV2 V2
  have hk0 := keepK bd ⟨xa0, xa1, ⟨HR.out.below B, HRB.out.below B⟩⟩
  go_region_held3 (fun W => W.cell? ⟨w.heap.size, 0, none⟩ = some (.int .i64 st) ∧ W.cell? ⟨w.heap.size, 1, none⟩ = some (.slice ab nb cb) ∧ KIs W a n d p ab nb xb)
    (first | (with_reducible exact keepK bC2 ‹_›) | (with_reducible exact keepK bT2 ‹_›) | (with_reducible exact keepK bS2 ‹_›) | exact hk0 | go_keep)
    (first | (go_at_call 25; refine (toBlockS_own a ca n d p _ hn hx (gotK ‹_›).1).mono ?_; rintro e wS2 ⟨aS, cS, pS, rfl, OS, _, bS2⟩; have KS := KO.kr OS (by omega) (fun i hi => by have := hx i hi; omega)) | (go_at_call 31; refine (toBlock_any st ab cb nb xb _ hnb (gotK ‹_›).2).mono ?_; rintro e wT2 ⟨aT, cT, rfl, OT, bT2⟩; have IT := OT.ir (by omega)) | (go_at_call 10; refine (HI'.out aS cS pS aT cT _ (KO.cap OS) (KS.below bT2) IT).mono ?_; rintro e w17 ⟨aH, cH, pH, rfl, OH, lH0, bC2⟩))
  have bq := bel_trans (bel_trans (bel_undrew bS2) bT2) bC2
  rw [HM.out] at OH lH0
  clear bS2 bT2 bC2 KS OS IT OT hk0 bd xa0 xa1 xaz
  replace XA := XA.below bq
  replace OW := OW.below bq
  replace OM := OM.below bq
  replace B := bel_trans B bq
  clear bq
  clear lH0
  go_wp2_with fail
  refine (eqBlockS_any aH aW cH cW m (kd L) pH pW _ (KO.kr OH (by omega) (fun i hi => by have := HLx.out i hi; omega)) (KO.kr OW (by omega) (fun i hi => by have := HLx.out i hi; omega))).mono ?_
  rintro e w18 ⟨rfl, bw18⟩
  replace XA := XA.below bw18
  replace OW := OW.below bw18
  replace OM := OM.below bw18
  replace OH := OH.below bw18
  replace B := bel_trans B bw18
  clear bw18
  go_wp2_with fail
  refine (HH.out _ OM).mono ?_
  rintro e w19 ⟨rfl, bw19⟩
  replace XA := XA.below bw19
  replace OW := OW.below bw19
  replace OM := OM.below bw19
  replace OH := OH.below bw19
  replace B := bel_trans B bw19
  clear bw19
  clear OW OM OH XA
  go_wp2
  go_ret
  exact ⟨rfl, B⟩
end LawFnExactCacheAdd
end Go.Proofs.Ytkamhinklhcbaaa
