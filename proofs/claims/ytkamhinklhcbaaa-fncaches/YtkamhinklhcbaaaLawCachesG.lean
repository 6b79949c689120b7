/- The law FnCaches over any impl.CacheAdd, CacheFind, CacheOk, Purge, BlockOk that answer as they should (written by mk11f.py). -/
import Derived.Test.YtkamhinklhcbaaaCaO
import Derived.Test.YtkamhinklhcbaaaCaB
import Derived.Test.YtkamhinklhcbaaaDrawS
import Derived.Test.YtkamhinklhcbaaaOpen
namespace Go.Proofs.Ytkamhinklhcbaaa
open Go.ChangeShapes Go.WideShapes Go.ChangeAt Go.RowKit
set_option linter.unusedVariables false

namespace LawFnCaches
theorem big_q (a : Option Addr) (n ca : Nat) (w : World) (hl : (n : Int) ≤ 1048576) :
    Calls Try.prog 8 #[.slice a n ca] w fun e w' => e = .returned (.bool false) ∧ w' = w := by
  go_enter Try.func8, Try.ntmps8
  go_wp2
  go_ret
  exact ⟨ret_bool (by simp; omega), rfl⟩

set_option maxRecDepth 100000 in
set_option maxHeartbeats 16000000 in
theorem walkG (HIA : ∀ (a : Option Addr) (c n : Nat) (d : Nat → KD) (p : Nat → Pl) (y : KD) (ay : Option Addr) (cy : Nat) (w : World), n ≤ c → KR w a n d p → IR w ay y.n y.x → Calls Try.prog 10 #[.slice a n c, .agg #[.int .i64 y.st, .slice ay y.n cy]] w (RowP (addL (allL d n) y) w))
    (HIF : ∀ (a : Option Addr) (c n : Nat) (d : Nat → KD) (p : Nat → Pl) (pc : Int) (w : World), KR w a n d p → Calls Try.prog 15 #[.slice a n c, .int .i64 pc] w (FndP d pc n w))
    (HIO : ∀ (a : Option Addr) (c n : Nat) (d : Nat → KD) (p : Nat → Pl) (f : Option Addr) (cf nf : Nat) (F : Nat → FD) (pf : Nat → Pl) (w : World), KR w a n d p → FR w f nf F pf → Calls Try.prog 19 #[.slice a n c, .slice f nf cf] w fun e w' => e = .returned (.bool (cacheB n d nf F)) ∧ Below w.heap.size w w')
    (HIP : ∀ (a : Option Addr) (c n : Nat) (d : Nat → KD) (p : Nat → Pl) (page : Int) (w : World), KR w a n d p → Calls Try.prog 18 #[.slice a n c, .int .i64 page] w (RowP (purL page d n) w))
    (HIB : ∀ (st : Int) (a : Option Addr) (c n : Nat) (d : Nat → XD) (w : World), IR w a n d → Calls Try.prog 22 #[.agg #[.int .i64 st, .slice a n c]] w fun e w' => e = .returned (.bool (blockB st n d)) ∧ Below w.heap.size w w')
    (a : Option Addr) (ca : Nat) (bs : List Int) (w : World) (hc : Came .u8 w a ca bs) :
    Calls Try.prog 3 #[.slice a bs.length ca] w fun e w' => e = .returned (.bool true) ∧ Below w.heap.size w w' := by
  have HIA' : Hid (∀ (a : Option Addr) (c n : Nat) (d : Nat → KD) (p : Nat → Pl) (y : KD) (ay : Option Addr) (cy : Nat) (w : World), n ≤ c → KR w a n d p → IR w ay y.n y.x → Calls Try.prog 10 #[.slice a n c, .agg #[.int .i64 y.st, .slice ay y.n cy]] w (RowP (addL (allL d n) y) w)) := HIA
  have HIF' : Hid (∀ (a : Option Addr) (c n : Nat) (d : Nat → KD) (p : Nat → Pl) (pc : Int) (w : World), KR w a n d p → Calls Try.prog 15 #[.slice a n c, .int .i64 pc] w (FndP d pc n w)) := HIF
  have HIO' : Hid (∀ (a : Option Addr) (c n : Nat) (d : Nat → KD) (p : Nat → Pl) (f : Option Addr) (cf nf : Nat) (F : Nat → FD) (pf : Nat → Pl) (w : World), KR w a n d p → FR w f nf F pf → Calls Try.prog 19 #[.slice a n c, .slice f nf cf] w fun e w' => e = .returned (.bool (cacheB n d nf F)) ∧ Below w.heap.size w w') := HIO
  have HIP' : Hid (∀ (a : Option Addr) (c n : Nat) (d : Nat → KD) (p : Nat → Pl) (page : Int) (w : World), KR w a n d p → Calls Try.prog 18 #[.slice a n c, .int .i64 page] w (RowP (purL page d n) w)) := HIP
  have HIB' : Hid (∀ (st : Int) (a : Option Addr) (c n : Nat) (d : Nat → XD) (w : World), IR w a n d → Calls Try.prog 22 #[.agg #[.int .i64 st, .slice a n c]] w fun e w' => e = .returned (.bool (blockB st n d)) ∧ Below w.heap.size w w') := HIB
  clear HIA HIF HIO HIP HIB
  by_cases hl : 1048576 < bs.length
  · have hn : bs.length ≤ maxLen := Nat.le_trans hc.1 hc.2.1
    have hl' : (1048576 : Int) < bs.length := by omega
    clear hc
    go_enter Try.func3, Try.ntmps3
    go_wp2
    go_ret
    exact ⟨rfl, Below.refl _ _⟩
  · have HR : Hid (Row .u8 w a bs) := hc.row (by omega)
    have hl' : (bs.length : Int) ≤ 1048576 := by omega
    clear hc hl
    have B := Below.refl w.heap.size w
    go_enter Try.func3, Try.ntmps3
    go_wp2_with fail
    refine (big_q a bs.length ca _ hl').mono ?_
    rintro e w0 ⟨rfl, h⟩
    replace h := h.symm
    subst h
    go_wp2_with fail
    refine (dDrawCacheAdd_any a ca bs _ HR.out).mono ?_
    rintro e w1 ⟨A, aA, cA, pA, y, ay, cy, rfl, hsA, hcA, hyn, RA, IY, bw1⟩
    have hAn : ∀ i, i < A.length → (kd A i).n ≤ 5 := fun i hi => hsA.2 _ (kd_in hi)
    have HMl : Hid ((addL (allL (kd A) A.length) y).length ≤ 1048576) := addL_le (by rw [allL_length]; have := hsA.1; omega)
    have HMx : Hid (∀ i, i < (addL (allL (kd A) A.length) y).length → (kd (addL (allL (kd A) A.length) y) i).n ≤ 5) := addL_n hAn hyn
    have HAdd : Hid (blockB y.st y.n y.x = true → (fnd (kd (addL (allL (kd A) A.length) y)) y.st (addL (allL (kd A) A.length) y).length).isSome = true) := fun h => fnd_added h
    have HSA : Hid (∀ (a : Option Addr) (c : Nat) (p : Nat → Pl) (ay : Option Addr) (cy : Nat) (W : World), KR W a A.length (kd A) p → IR W ay y.n y.x → Calls Try.prog 12 #[.slice a A.length c, .agg #[.int .i64 y.st, .slice ay y.n cy]] W (RowP (addL (allL (kd A) A.length) y) W)) := fun a c p ay cy W h1 h2 => specCacheAdd_any a c A.length (kd A) p y ay cy W h1 h2
    have HIA1 : Hid (∀ (a : Option Addr) (c : Nat) (p : Nat → Pl) (ay : Option Addr) (cy : Nat) (W : World), A.length ≤ c → KR W a A.length (kd A) p → IR W ay y.n y.x → Calls Try.prog 10 #[.slice a A.length c, .agg #[.int .i64 y.st, .slice ay y.n cy]] W (RowP (addL (allL (kd A) A.length) y) W)) := fun a c p ay cy W h0 h1 h2 => HIA'.out a c A.length (kd A) p y ay cy W h0 h1 h2
    obtain ⟨M, eM⟩ : ∃ M, addL (allL (kd A) A.length) y = M := ⟨_, rfl⟩
    rw [eM] at HMl HMx HAdd HSA HIA1
    unfold RowP at HSA HIA1
    clear eM hsA hAn
    replace B := bel_trans B bw1
    clear bw1
    go_wp2_with fail
    have bx := bel_alloc (Below.refl w1.heap.size w1) (.cells #[.int .i64 y.st, .slice ay y.n cy] 27)
    have XB := Box.new w1 #[.int .i64 y.st, .slice ay y.n cy] 27
    replace RA := RA.below bx
    replace IY := IY.below bx
    replace B := bel_trans B bx
    clear bx
    refine (HIA1.out aA cA pA ay cy _ hcA RA IY).mono ?_
    rintro e w2 ⟨aO, cO, pO, rfl, OO, _, bw2⟩
    have RO := KO.kr OO (by have := HMl.out; omega) (fun i hi => by have := HMx.out i hi; omega)
    clear OO
    replace RA := RA.below bw2
    replace IY := IY.below bw2
    replace XB := XB.below bw2
    replace B := bel_trans B bw2
    clear bw2
    obtain ⟨xb0, xb1, xbz⟩ := XB.at2
    go_wp2_with fail
    clear xb0 xb1 xbz
    refine (HSA.out aA cA pA ay cy _ RA IY).mono ?_
    rintro e w3 ⟨aP, cP, pP, rfl, OP, _, bw3⟩
    have RP := KO.kr OP (by have := HMl.out; omega) (fun i hi => by have := HMx.out i hi; omega)
    clear OP
    replace RA := RA.below bw3
    replace IY := IY.below bw3
    replace XB := XB.below bw3
    replace RO := RO.below bw3
    replace B := bel_trans B bw3
    clear bw3
    go_wp2_with fail
    refine (sameBlocks_any aO aP cO cP M.length (kd M) pO pP _ RO RP).mono ?_
    rintro e w4 ⟨rfl, bw4⟩
    clear RP RA HIA1 HSA
    replace IY := IY.below bw4
    replace XB := XB.below bw4
    replace RO := RO.below bw4
    replace B := bel_trans B bw4
    clear bw4
    go_wp2_with fail
    refine (dDrawCacheOk_any a ca bs _ (HR.out.below B)).mono ?_
    rintro e w5 ⟨C, aC, cC, pC, af, cf, nf, F, pf, rfl, hsC, RC, RF, bw5⟩
    have hCl := hsC.1
    have HCn : Hid (∀ i, i < C.length → (kd C i).n ≤ 5) := fun i hi => hsC.2 _ (kd_in hi)
    clear hsC
    replace IY := IY.below bw5
    replace XB := XB.below bw5
    replace RO := RO.below bw5
    replace B := bel_trans B bw5
    clear bw5
    go_wp2_with fail
    refine (dDrawCacheFind_any a ca bs _ (HR.out.below B)).mono ?_
    rintro e w6 ⟨E, aE, cE, pE, x1, rfl, hx1, _, RE, bw6⟩
    replace IY := IY.below bw6
    replace XB := XB.below bw6
    replace RO := RO.below bw6
    replace RC := RC.below bw6
    replace RF := RF.below bw6
    replace B := bel_trans B bw6
    clear bw6
    have HFE : Hid (∀ W, KR W aE E.length (kd E) pE → Calls Try.prog 15 #[.slice aE E.length cE, .int .i64 ((x1 : Int) - 1)] W (FndP (kd E) ((x1 : Int) - 1) E.length W)) := fun W h => HIF'.out aE cE E.length (kd E) pE _ W h
    have HSE : Hid (∀ W, KR W aE E.length (kd E) pE → Calls Try.prog 16 #[.slice aE E.length cE, .int .i64 ((x1 : Int) - 1)] W (FndP (kd E) ((x1 : Int) - 1) E.length W)) := fun W h => specCacheFind_any aE cE E.length (kd E) pE _ W h
    unfold FndP at HFE HSE
    obtain ⟨yy, hyy⟩ : ∃ q, fndX (kd E) ((x1 : Int) - 1) (fnd (kd E) ((x1 : Int) - 1) E.length) = q := ⟨_, rfl⟩
    obtain ⟨zz, hzz⟩ : ∃ q, (fnd (kd E) ((x1 : Int) - 1) E.length).isSome = q := ⟨_, rfl⟩
    rw [hyy, hzz] at HFE HSE
    clear hyy hzz
    obtain ⟨io, ir, ia, ib, inn⟩ := yy
    go_wp2_with fail
    refine (HFE.out _ RE).mono ?_
    rintro e w7 ⟨rfl, bw7⟩
    replace IY := IY.below bw7
    replace XB := XB.below bw7
    replace RO := RO.below bw7
    replace RC := RC.below bw7
    replace RF := RF.below bw7
    replace RE := RE.below bw7
    replace B := bel_trans B bw7
    clear bw7
    go_wp2_with fail
    have bx := bel_alloc (Below.refl w7.heap.size w7) (.cells (icells io ir ia ib inn) 38)
    have XI := Box.new w7 (icells io ir ia ib inn) 38
    replace IY := IY.below bx
    replace XB := XB.below bx
    replace RO := RO.below bx
    replace RC := RC.below bx
    replace RF := RF.below bx
    replace RE := RE.below bx
    replace B := bel_trans B bx
    clear bx
    refine (HSE.out _ RE).mono ?_
    rintro e w8 ⟨rfl, bw8⟩
    clear RE HFE HSE
    replace IY := IY.below bw8
    replace XB := XB.below bw8
    replace RO := RO.below bw8
    replace RC := RC.below bw8
    replace RF := RF.below bw8
    replace XI := XI.below bw8
    replace B := bel_trans B bw8
    clear bw8
    go_wp2_with fail
    have bx := bel_alloc (Below.refl w8.heap.size w8) (.cells (icells io ir ia ib inn) 38)
    have XJ := Box.new w8 (icells io ir ia ib inn) 38
    replace IY := IY.below bx
    replace XB := XB.below bx
    replace RO := RO.below bx
    replace RC := RC.below bx
    replace RF := RF.below bx
    replace XI := XI.below bx
    replace B := bel_trans B bx
    clear bx
    refine (dDrawPurge_any a ca bs _ (HR.out.below B)).mono ?_
    rintro e w9 ⟨Q, aQ, cQ, pQ, x2, rfl, hx2, hsQ, RQ, bw9⟩
    obtain ⟨page, hpage⟩ : ∃ q : Int, (x2 : Int) - 1 = q := ⟨_, rfl⟩
    have hpl : -1 ≤ page ∧ page ≤ 6 := by omega
    rw [hpage]
    clear hpage hx2
    have HLl : Hid ((purL page (kd Q) Q.length).length ≤ 7) := Nat.le_trans (purL_le page (kd Q) Q.length) hsQ.1
    have HLx : Hid (∀ i, i < (purL page (kd Q) Q.length).length → (kd (purL page (kd Q) Q.length) i).n ≤ 5) := purL_n (fun i hi => hsQ.2 _ (kd_in hi))
    have HNo : Hid (∀ i : Nat, i < 4 → fnd (kd (purL page (kd Q) Q.length)) (page * 4 + i) (purL page (kd Q) Q.length).length = none) := fun i hi => fnd_purged hi
    have HPQ : Hid (∀ W, KR W aQ Q.length (kd Q) pQ → Calls Try.prog 18 #[.slice aQ Q.length cQ, .int .i64 page] W (RowP (purL page (kd Q) Q.length) W)) := fun W h => HIP'.out aQ cQ Q.length (kd Q) pQ page W h
    have HSQ : Hid (∀ W, KR W aQ Q.length (kd Q) pQ → Calls Try.prog 21 #[.slice aQ Q.length cQ, .int .i64 page] W (RowP (purL page (kd Q) Q.length) W)) := fun W h => specPurge_any aQ cQ Q.length (kd Q) pQ page W h
    obtain ⟨P, eP⟩ : ∃ P, purL page (kd Q) Q.length = P := ⟨_, rfl⟩
    rw [eP] at HLl HLx HNo HPQ HSQ
    unfold RowP at HPQ HSQ
    clear eP hsQ
    replace IY := IY.below bw9
    replace XB := XB.below bw9
    replace RO := RO.below bw9
    replace RC := RC.below bw9
    replace RF := RF.below bw9
    replace XI := XI.below bw9
    replace XJ := XJ.below bw9
    replace B := bel_trans B bw9
    clear bw9
    go_wp2_with fail
    refine (HPQ.out _ RQ).mono ?_
    rintro e w10 ⟨aL, cL, pL, rfl, OL, _, bw10⟩
    have RL := KO.kr OL (by have := HLl.out; omega) (fun i hi => by have := HLx.out i hi; omega)
    clear OL
    replace IY := IY.below bw10
    replace XB := XB.below bw10
    replace RO := RO.below bw10
    replace RC := RC.below bw10
    replace RF := RF.below bw10
    replace XI := XI.below bw10
    replace XJ := XJ.below bw10
    replace RQ := RQ.below bw10
    replace B := bel_trans B bw10
    clear bw10
    obtain ⟨okc, hokc⟩ : ∃ q, cacheB C.length (kd C) nf F = q := ⟨_, rfl⟩
    have HOKC : Hid (cacheB C.length (kd C) nf F = okc) := hokc
    have HO1 : Hid (∀ W, KR W aC C.length (kd C) pC → FR W af nf F pf → Calls Try.prog 19 #[.slice aC C.length cC, .slice af nf cf] W fun e w' => e = .returned (.bool okc) ∧ Below W.heap.size W w') := fun W h1 h2 => by have h := HIO'.out aC cC C.length (kd C) pC af cf nf F pf W h1 h2; rw [hokc] at h; exact h
    have HO2 : Hid (∀ W, KR W aC C.length (kd C) pC → FR W af nf F pf → Calls Try.prog 20 #[.slice aC C.length cC, .slice af nf cf] W fun e w' => e = .returned (.bool okc) ∧ Below W.heap.size W w') := fun W h1 h2 => by have h := specCacheOk_any aC cC C.length (kd C) pC af cf nf F pf W h1 h2; rw [hokc] at h; exact h
    clear hokc
    go_wp2_with fail
    refine (HO1.out _ RC RF).mono ?_
    rintro e w11 ⟨rfl, bw11⟩
    replace IY := IY.below bw11
    replace XB := XB.below bw11
    replace RO := RO.below bw11
    replace RC := RC.below bw11
    replace RF := RF.below bw11
    replace XI := XI.below bw11
    replace XJ := XJ.below bw11
    replace RQ := RQ.below bw11
    replace RL := RL.below bw11
    replace B := bel_trans B bw11
    clear bw11
    go_wp2_with fail
    refine (HO2.out _ RC RF).mono ?_
    rintro e w12 ⟨rfl, bw12⟩
    replace IY := IY.below bw12
    replace XB := XB.below bw12
    replace RO := RO.below bw12
    replace RC := RC.below bw12
    replace RF := RF.below bw12
    replace XI := XI.below bw12
    replace XJ := XJ.below bw12
    replace RQ := RQ.below bw12
    replace RL := RL.below bw12
    replace B := bel_trans B bw12
    clear bw12
    obtain ⟨i0, i1, i2, i3, i4, iz⟩ := XI.at5i
    obtain ⟨j0, j1, j2, j3, j4, jz⟩ := XJ.at5i
    have heq := insv_eq io ir ia ib inn
    go_wp2_with fail
    clear i0 i1 i2 i3 i4 iz j0 j1 j2 j3 j4 jz heq XI XJ
    refine (HSQ.out _ RQ).mono ?_
    rintro e w13 ⟨aT, cT, pT, rfl, OT, _, bw13⟩
    have RT := KO.kr OT (by have := HLl.out; omega) (fun i hi => by have := HLx.out i hi; omega)
    clear OT
    replace IY := IY.below bw13
    replace XB := XB.below bw13
    replace RO := RO.below bw13
    replace RC := RC.below bw13
    replace RF := RF.below bw13
    replace RQ := RQ.below bw13
    replace RL := RL.below bw13
    replace B := bel_trans B bw13
    clear bw13
    go_wp2_with fail
    refine (sameBlocks_any aL aT cL cT P.length (kd P) pL pT _ RL RT).mono ?_
    rintro e w14 ⟨rfl, bw14⟩
    clear RT RQ HPQ HSQ
    replace IY := IY.below bw14
    replace XB := XB.below bw14
    replace RO := RO.below bw14
    replace RC := RC.below bw14
    replace RF := RF.below bw14
    replace RL := RL.below bw14
    replace B := bel_trans B bw14
    clear bw14
    have HS : Hid (Below w.heap.size w w14 ∧ Box w14 w1.heap.size #[.int .i64 y.st, .slice ay y.n cy] 27 ∧ IR w14 ay y.n y.x ∧ KR w14 aO M.length (kd M) pO ∧ KR w14 aC C.length (kd C) pC ∧ FR w14 af nf F pf ∧ KR w14 aL P.length (kd P) pL) := ⟨B, XB, IY, RO, RC, RF, RL⟩
    clear B XB IY RO RC RF RL
    have HCP : Hid (okc = true → cacheB (purL page (kd C) C.length).length (kd (purL page (kd C) C.length)) nf F = true) := fun h => cacheB_purged (HOKC.out.trans h)
    have HCl : Hid ((purL page (kd C) C.length).length ≤ 7) := Nat.le_trans (purL_le page (kd C) C.length) hCl
    have HCx : Hid (∀ i, i < (purL page (kd C) C.length).length → (kd (purL page (kd C) C.length) i).n ≤ 5) := purL_n HCn.out
    have HPC : Hid (∀ W, KR W aC C.length (kd C) pC → Calls Try.prog 18 #[.slice aC C.length cC, .int .i64 page] W (RowP (purL page (kd C) C.length) W)) := fun W h => HIP'.out aC cC C.length (kd C) pC page W h
    obtain ⟨PC, ePC⟩ : ∃ q, purL page (kd C) C.length = q := ⟨_, rfl⟩
    rw [ePC] at HCP HCl HCx HPC
    unfold RowP at HPC
    clear ePC
    have HF0 : Hid (∀ (k : Nat) W, k < 4 → KR W aL P.length (kd P) pL → Calls Try.prog 15 #[.slice aL P.length cL, .int .i64 (page * 4 + k)] W fun e w' => e = .returned (.tuple #[.agg (icells 0 0 0 0 0), .bool false]) ∧ Below W.heap.size W w') := fun k W hk h => by have h1 := HIF'.out aL cL P.length (kd P) pL (page * 4 + k) W h; unfold FndP at h1; rw [HNo.out k hk] at h1; exact h1
    obtain ⟨zb, hzb⟩ : ∃ q, blockB y.st y.n y.x = q := ⟨_, rfl⟩
    have HBO : Hid (∀ W, IR W ay y.n y.x → Calls Try.prog 22 #[.agg #[.int .i64 y.st, .slice ay y.n cy]] W fun e w' => e = .returned (.bool zb) ∧ Below W.heap.size W w') := fun W h => by have h1 := HIB'.out y.st ay cy y.n y.x W h; rw [hzb] at h1; exact h1
    rw [hzb] at HAdd
    clear hzb
    have HF1 : Hid (zb = true → ∃ X : XD, ∀ W, KR W aO M.length (kd M) pO → Calls Try.prog 15 #[.slice aO M.length cO, .int .i64 y.st] W fun e w' => e = .returned (.tuple #[.agg (icells X.op X.r X.a X.b X.n), .bool true]) ∧ Below W.heap.size W w') := fun hz => ⟨fndX (kd M) y.st (fnd (kd M) y.st M.length), fun W h => by have h1 := HIF'.out aO cO M.length (kd M) pO y.st W h; unfold FndP at h1; rw [HAdd.out hz] at h1; exact h1⟩
    go_wp2_with fail
    go_loopw [17] (fun i wr => ∃ k : Nat, k ≤ 4 ∧ i = .int .i64 k ∧ (Below w.heap.size w wr ∧ Box wr w1.heap.size #[.int .i64 y.st, .slice ay y.n cy] 27 ∧ IR wr ay y.n y.x ∧ KR wr aO M.length (kd M) pO ∧ KR wr aC C.length (kd C) pC ∧ FR wr af nf F pf ∧ KR wr aL P.length (kd P) pL)) (fun i _ => 4 - (intOf i).toNat)
    case atStart => exact ⟨0, by omega, rfl, HS.out⟩
    case round =>
      obtain ⟨k, hk, rfl, B, XB, IY, RO, RC, RF, RL⟩ := hrel
      clear HS
      obtain ⟨hp1, hp2⟩ := hpl
      by_cases hk4 : k < 4
      · have hk4i : (k : Int) < 4 := by omega
        by_cases hp0 : 0 ≤ page
        · by_cases hp6 : page < 6
          · go_wp2_with fail
            refine (HF0.out k _ hk4 RL).mono ?_
            rintro e v1 ⟨rfl, c1⟩
            have cx := bel_alloc c1 (.cells (icells 0 0 0 0 0) 38)
            have HN : Hid (Below w.heap.size w (v1.alloc (.cells (icells 0 0 0 0 0) 38)) ∧ Box (v1.alloc (.cells (icells 0 0 0 0 0) 38)) w1.heap.size #[.int .i64 y.st, .slice ay y.n cy] 27 ∧ IR (v1.alloc (.cells (icells 0 0 0 0 0) 38)) ay y.n y.x ∧ KR (v1.alloc (.cells (icells 0 0 0 0 0) 38)) aO M.length (kd M) pO ∧ KR (v1.alloc (.cells (icells 0 0 0 0 0) 38)) aC C.length (kd C) pC ∧ FR (v1.alloc (.cells (icells 0 0 0 0 0) 38)) af nf F pf ∧ KR (v1.alloc (.cells (icells 0 0 0 0 0) 38)) aL P.length (kd P) pL) := ⟨bel_trans B cx, XB.below cx, IY.below cx, RO.below cx, RC.below cx, RF.below cx, RL.below cx⟩
            clear c1 cx B XB IY RO RC RF RL
            go_wp2
            go_roundw
            case rel => exact ⟨k + 1, by omega, by go_num, HN.out⟩
            case measure => simp [intOf]; omega
          · have hp6' : 6 ≤ page := by omega
            clear RL
            obtain ⟨xb0, xb1, xbz⟩ := XB.at2
            go_wp2_with fail
            refine (HBO.out _ IY).mono ?_
            rintro e v1 ⟨rfl, c1⟩
            replace XB := XB.below c1
            replace RO := RO.below c1
            replace RC := RC.below c1
            replace RF := RF.below c1
            replace B := bel_trans B c1
            clear c1 IY xb0 xb1 xbz
            cases zb
            · clear XB RO
              go_wp2_with fail
              refine (HO1.out _ RC RF).mono ?_
              rintro e u1 ⟨rfl, d1⟩
              replace RC := RC.below d1
              replace RF := RF.below d1
              replace B := bel_trans B d1
              clear d1
              cases okc
              · clear RC RF
                go_wp2
                go_ret
                exact ⟨rfl, B⟩
              · go_wp2_with fail
                refine (HPC.out _ RC).mono ?_
                rintro e u2 ⟨aZ, cZ, pZ, rfl, OZ, _, d2⟩
                have RZ := KO.kr OZ (by have := HCl.out; omega) (fun i hi => by have := HCx.out i hi; omega)
                replace RF := RF.below d2
                replace B := bel_trans B d2
                clear d2 OZ RC
                go_wp2_with fail
                refine (HIO'.out aZ cZ PC.length (kd PC) pZ af cf nf F pf _ RZ RF).mono ?_
                rintro e u3 ⟨rfl, d3⟩
                rw [HCP.out (by trivial)]
                replace B := bel_trans B d3
                clear d3 RZ RF
                go_wp2
                go_ret
                exact ⟨rfl, B⟩
            · obtain ⟨X, HX⟩ := HF1.out rfl
              have HX' : Hid _ := HX
              clear HX
              obtain ⟨xb0, xb1, xbz⟩ := XB.at2
              go_wp2_with fail
              refine (HX'.out _ RO).mono ?_
              rintro e v2 ⟨rfl, c2⟩
              have cx := bel_alloc c2 (.cells (icells X.op X.r X.a X.b X.n) 38)
              replace RC := RC.below cx
              replace RF := RF.below cx
              replace B := bel_trans B cx
              clear c2 cx RO XB xb0 xb1 xbz
              go_wp2_with fail
              refine (HO1.out _ RC RF).mono ?_
              rintro e u1 ⟨rfl, d1⟩
              replace RC := RC.below d1
              replace RF := RF.below d1
              replace B := bel_trans B d1
              clear d1
              cases okc
              · clear RC RF
                go_wp2
                go_ret
                exact ⟨rfl, B⟩
              · go_wp2_with fail
                refine (HPC.out _ RC).mono ?_
                rintro e u2 ⟨aZ, cZ, pZ, rfl, OZ, _, d2⟩
                have RZ := KO.kr OZ (by have := HCl.out; omega) (fun i hi => by have := HCx.out i hi; omega)
                replace RF := RF.below d2
                replace B := bel_trans B d2
                clear d2 OZ RC
                go_wp2_with fail
                refine (HIO'.out aZ cZ PC.length (kd PC) pZ af cf nf F pf _ RZ RF).mono ?_
                rintro e u3 ⟨rfl, d3⟩
                rw [HCP.out (by trivial)]
                replace B := bel_trans B d3
                clear d3 RZ RF
                go_wp2
                go_ret
                exact ⟨rfl, B⟩
        · have hp0' : page < 0 := by omega
          clear RL
          obtain ⟨xb0, xb1, xbz⟩ := XB.at2
          go_wp2_with fail
          refine (HBO.out _ IY).mono ?_
          rintro e v1 ⟨rfl, c1⟩
          replace XB := XB.below c1
          replace RO := RO.below c1
          replace RC := RC.below c1
          replace RF := RF.below c1
          replace B := bel_trans B c1
          clear c1 IY xb0 xb1 xbz
          cases zb
          · clear XB RO
            go_wp2_with fail
            refine (HO1.out _ RC RF).mono ?_
            rintro e u1 ⟨rfl, d1⟩
            replace RC := RC.below d1
            replace RF := RF.below d1
            replace B := bel_trans B d1
            clear d1
            cases okc
            · clear RC RF
              go_wp2
              go_ret
              exact ⟨rfl, B⟩
            · go_wp2_with fail
              refine (HPC.out _ RC).mono ?_
              rintro e u2 ⟨aZ, cZ, pZ, rfl, OZ, _, d2⟩
              have RZ := KO.kr OZ (by have := HCl.out; omega) (fun i hi => by have := HCx.out i hi; omega)
              replace RF := RF.below d2
              replace B := bel_trans B d2
              clear d2 OZ RC
              go_wp2_with fail
              refine (HIO'.out aZ cZ PC.length (kd PC) pZ af cf nf F pf _ RZ RF).mono ?_
              rintro e u3 ⟨rfl, d3⟩
              rw [HCP.out (by trivial)]
              replace B := bel_trans B d3
              clear d3 RZ RF
              go_wp2
              go_ret
              exact ⟨rfl, B⟩
          · obtain ⟨X, HX⟩ := HF1.out rfl
            have HX' : Hid _ := HX
            clear HX
            obtain ⟨xb0, xb1, xbz⟩ := XB.at2
            go_wp2_with fail
            refine (HX'.out _ RO).mono ?_
            rintro e v2 ⟨rfl, c2⟩
            have cx := bel_alloc c2 (.cells (icells X.op X.r X.a X.b X.n) 38)
            replace RC := RC.below cx
            replace RF := RF.below cx
            replace B := bel_trans B cx
            clear c2 cx RO XB xb0 xb1 xbz
            go_wp2_with fail
            refine (HO1.out _ RC RF).mono ?_
            rintro e u1 ⟨rfl, d1⟩
            replace RC := RC.below d1
            replace RF := RF.below d1
            replace B := bel_trans B d1
            clear d1
            cases okc
            · clear RC RF
              go_wp2
              go_ret
              exact ⟨rfl, B⟩
            · go_wp2_with fail
              refine (HPC.out _ RC).mono ?_
              rintro e u2 ⟨aZ, cZ, pZ, rfl, OZ, _, d2⟩
              have RZ := KO.kr OZ (by have := HCl.out; omega) (fun i hi => by have := HCx.out i hi; omega)
              replace RF := RF.below d2
              replace B := bel_trans B d2
              clear d2 OZ RC
              go_wp2_with fail
              refine (HIO'.out aZ cZ PC.length (kd PC) pZ af cf nf F pf _ RZ RF).mono ?_
              rintro e u3 ⟨rfl, d3⟩
              rw [HCP.out (by trivial)]
              replace B := bel_trans B d3
              clear d3 RZ RF
              go_wp2
              go_ret
              exact ⟨rfl, B⟩
      · have hk4i : ¬ ((k : Int) < 4) := by omega
        clear RL
        obtain ⟨xb0, xb1, xbz⟩ := XB.at2
        go_wp2_with fail
        refine (HBO.out _ IY).mono ?_
        rintro e v1 ⟨rfl, c1⟩
        replace XB := XB.below c1
        replace RO := RO.below c1
        replace RC := RC.below c1
        replace RF := RF.below c1
        replace B := bel_trans B c1
        clear c1 IY xb0 xb1 xbz
        cases zb
        · clear XB RO
          go_wp2_with fail
          refine (HO1.out _ RC RF).mono ?_
          rintro e u1 ⟨rfl, d1⟩
          replace RC := RC.below d1
          replace RF := RF.below d1
          replace B := bel_trans B d1
          clear d1
          cases okc
          · clear RC RF
            go_wp2
            go_ret
            exact ⟨rfl, B⟩
          · go_wp2_with fail
            refine (HPC.out _ RC).mono ?_
            rintro e u2 ⟨aZ, cZ, pZ, rfl, OZ, _, d2⟩
            have RZ := KO.kr OZ (by have := HCl.out; omega) (fun i hi => by have := HCx.out i hi; omega)
            replace RF := RF.below d2
            replace B := bel_trans B d2
            clear d2 OZ RC
            go_wp2_with fail
            refine (HIO'.out aZ cZ PC.length (kd PC) pZ af cf nf F pf _ RZ RF).mono ?_
            rintro e u3 ⟨rfl, d3⟩
            rw [HCP.out (by trivial)]
            replace B := bel_trans B d3
            clear d3 RZ RF
            go_wp2
            go_ret
            exact ⟨rfl, B⟩
        · obtain ⟨X, HX⟩ := HF1.out rfl
          have HX' : Hid _ := HX
          clear HX
          obtain ⟨xb0, xb1, xbz⟩ := XB.at2
          go_wp2_with fail
          refine (HX'.out _ RO).mono ?_
          rintro e v2 ⟨rfl, c2⟩
          have cx := bel_alloc c2 (.cells (icells X.op X.r X.a X.b X.n) 38)
          replace RC := RC.below cx
          replace RF := RF.below cx
          replace B := bel_trans B cx
          clear c2 cx RO XB xb0 xb1 xbz
          go_wp2_with fail
          refine (HO1.out _ RC RF).mono ?_
          rintro e u1 ⟨rfl, d1⟩
          replace RC := RC.below d1
          replace RF := RF.below d1
          replace B := bel_trans B d1
          clear d1
          cases okc
          · clear RC RF
            go_wp2
            go_ret
            exact ⟨rfl, B⟩
          · go_wp2_with fail
            refine (HPC.out _ RC).mono ?_
            rintro e u2 ⟨aZ, cZ, pZ, rfl, OZ, _, d2⟩
            have RZ := KO.kr OZ (by have := HCl.out; omega) (fun i hi => by have := HCx.out i hi; omega)
            replace RF := RF.below d2
            replace B := bel_trans B d2
            clear d2 OZ RC
            go_wp2_with fail
            refine (HIO'.out aZ cZ PC.length (kd PC) pZ af cf nf F pf _ RZ RF).mono ?_
            rintro e u3 ⟨rfl, d3⟩
            rw [HCP.out (by trivial)]
            replace B := bel_trans B d3
            clear d3 RZ RF
            go_wp2
            go_ret
            exact ⟨rfl, B⟩
end LawFnCaches
end Go.Proofs.Ytkamhinklhcbaaa
