/- For every list of bytes the law FnMsgs returns true: a drawn message is read from its bytes as it was; bytes that are read are those of the message. Conditions: none. -/
import Derived.Test.YtbihhndpjpdbmaaMsR
import Derived.Test.YtbihhndpjpdbmaaDrawM3
import Derived.Test.YtbihhndpjpdbmaaDrawF
import Derived.Test.YtbihhndpjpdbmaaMsgBytes
import Derived.Test.YtbihhndpjpdbmaaImplOf
import Derived.Test.YtbihhndpjpdbmaaSpecOf
import Derived.Test.YtbihhndpjpdbmaaOpen
import Derived.Laws.BytesArg
import Derived.Laws.Strings
import Derived.Deep.RegionWith
import Derived.BigRegion
import Derived.Deep.RegionHeld3
import Derived.Deep.DeepCutAuto
namespace Go.Proofs.Ytbihhndpjpdbmaa
open Go.ChangeShapes Go.WideShapes Go.ChangeAt Go.RowKit
set_option linter.unusedVariables false

theorem bigM_any (a : Option Addr) (n ca : Nat) (w : World) (hl : (n : Int) ≤ 1048576) :
    Calls Try.prog 4 #[.slice a n ca] w fun e w' => e = .returned (.bool false) ∧ w' = w := by
  go_enter Try.func4, Try.ntmps4
  go_wp2
  go_ret
  exact ⟨ret_bool (by simp; omega), rfl⟩

theorem msgB_pos (k p : Int) (o : Bool) (xs : List Int) : msgOkB k p o xs = decide ((0 : Int) < (msgB k p o xs).length) := by
  unfold msgB
  split
  · rename_i h
    rw [h]
    symm
    apply decide_eq_true
    have h1 := (enc_len 2 k).1
    simp [numsOf, flatB]
    omega
  · rename_i h
    simp at h
    rw [h]
    simp

theorem keepMC {W W' : World} (b : Below W.heap.size W W') {a0 a1 a2 a3 : Addr} {u0 u1 u2 u3 : Value} {P Q : Prop}
    (h : W.cell? a0 = some u0 ∧ W.cell? a1 = some u1 ∧ W.cell? a2 = some u2 ∧ W.cell? a3 = some u3 ∧ P) (hq : Q) :
    W'.cell? a0 = some u0 ∧ W'.cell? a1 = some u1 ∧ W'.cell? a2 = some u2 ∧ W'.cell? a3 = some u3 ∧ Q :=
  ⟨cell_later b h.1, cell_later b h.2.1, cell_later b h.2.2.1, cell_later b h.2.2.2.1, hq⟩

theorem keep5 {W W' : World} (b : Below W.heap.size W W') {a0 a1 a2 a3 a4 : Addr} {u0 u1 u2 u3 u4 : Value}
    (h : W.cell? a0 = some u0 ∧ W.cell? a1 = some u1 ∧ W.cell? a2 = some u2 ∧ W.cell? a3 = some u3 ∧ W.cell? a4 = some u4) :
    W'.cell? a0 = some u0 ∧ W'.cell? a1 = some u1 ∧ W'.cell? a2 = some u2 ∧ W'.cell? a3 = some u3 ∧ W'.cell? a4 = some u4 :=
  ⟨cell_later b h.1, cell_later b h.2.1, cell_later b h.2.2.1, cell_later b h.2.2.2.1, cell_later b h.2.2.2.2⟩

theorem keep8C {W W' : World} (b : Below W.heap.size W W') {a0 a1 a2 a3 a4 a5 a6 a7 : Addr} {u0 u1 u2 u3 u4 u5 u6 u7 : Value} {P Q : Prop}
    (h : W.cell? a0 = some u0 ∧ W.cell? a1 = some u1 ∧ W.cell? a2 = some u2 ∧ W.cell? a3 = some u3 ∧ W.cell? a4 = some u4 ∧ W.cell? a5 = some u5 ∧ W.cell? a6 = some u6 ∧ W.cell? a7 = some u7 ∧ P) (hq : Q) :
    W'.cell? a0 = some u0 ∧ W'.cell? a1 = some u1 ∧ W'.cell? a2 = some u2 ∧ W'.cell? a3 = some u3 ∧ W'.cell? a4 = some u4 ∧ W'.cell? a5 = some u5 ∧ W'.cell? a6 = some u6 ∧ W'.cell? a7 = some u7 ∧ Q :=
  ⟨cell_later b h.1, cell_later b h.2.1, cell_later b h.2.2.1, cell_later b h.2.2.2.1, cell_later b h.2.2.2.2.1, cell_later b h.2.2.2.2.2.1, cell_later b h.2.2.2.2.2.2.1, cell_later b h.2.2.2.2.2.2.2.1, hq⟩

namespace LawFnMsgs
set_option maxRecDepth 100000 in
set_option maxHeartbeats 8000000 in
theorem walk (a : Option Addr) (ca : Nat) (bs : List Int) (w : World) (hc : Came .u8 w a ca bs) :
    Calls Try.prog 3 #[.slice a bs.length ca] w fun e w' => e = .returned (.bool true) ∧ Below w.heap.size w w' := by
  by_cases hl : 1048576 < bs.length
  · have hn : bs.length ≤ maxLen := Nat.le_trans hc.1 hc.2.1
    have hl' : (1048576 : Int) < bs.length := by omega
    clear hc
    go_enter Try.func3, Try.ntmps3
    go_wp2
    go_ret
    exact ⟨rfl, Below.refl _ _⟩
  · have hr := hc.row (by omega)
    have hl' : (bs.length : Int) ≤ 1048576 := by omega
    clear hc
    go_enter Try.func3, Try.ntmps3
    go_wp2_with fail
    refine (bigM_any a bs.length ca _ hl').mono ?_
    rintro e w0 ⟨rfl, h⟩
    subst h
    go_wp2_with fail
    refine (drawMB_any a ca bs _ hr).mono ?_
    rintro e w1 ⟨k, p, o, v1, xs, rfl, hxl, OM, B⟩
    replace hr := hr.below B
    obtain ⟨aM, cM, rfl⟩ := owns_slice OM
    have hpos := msgB_pos k p o xs
    have hml := msgB_len k p o xs
    have hmb := msgB_bytes k p o xs
    obtain ⟨M, hM⟩ : ∃ M, msgB k p o xs = M := ⟨_, rfl⟩
    obtain ⟨ok, hok⟩ : ∃ ok, msgOkB k p o xs = ok := ⟨_, rfl⟩
    have HM : Hid (msgB k p o xs = M) := hM
    have HOK : Hid (msgOkB k p o xs = ok) := hok
    rw [hM] at hpos hml hmb
    rw [hok] at hpos
    have HPOS : Hid (ok = decide ((0 : Int) < M.length)) := hpos
    clear hM hok hpos
    have hspec : Hid (∀ (a' : Option Addr) (c' : Nat) (W : World), Row .i64 W a' xs → Calls Try.prog 7 #[.agg #[.int .i64 k, .int .i64 p, .bool o, .slice a' xs.length c']] W fun e w' => ∃ v, e = .returned v ∧ w'.ownsRow W.heap.size 5 1 v M.length (M.map (Value.int .u8)) ∧ Below W.heap.size W w') := fun a' c' W h => by
      have := specBytes_any k p o a' c' xs W h
      rw [HM.out] at this
      exact this
    have himok : Hid (∀ (a' : Option Addr) (c' : Nat) (W : World), Row .i64 W a' xs → Calls Try.prog 8 #[.agg #[.int .i64 k, .int .i64 p, .bool o, .slice a' xs.length c']] W fun e w' => e = .returned (.bool ok) ∧ Below W.heap.size W w') := fun a' c' W h => by
      have := msgOk_any k p o a' c' xs W h
      rw [HOK.out] at this
      exact this
    go_wp2_with fail
    have bx := bel_alloc (Below.refl w1.heap.size w1) (.cells #[.int .i64 k, .int .i64 p, .bool o, .slice aM xs.length cM] 26)
    have XM := Box.new w1 #[.int .i64 k, .int .i64 p, .bool o, .slice aM xs.length cM] 26
    replace OM := owns_below OM bx
    replace hr := hr.below bx
    replace B := bel_trans B bx
    clear bx
    refine (msgBytes_any k p o aM cM xs _ (owns_row' OM (by omega))).mono ?_
    rw [HM.out]
    rintro e w2 ⟨vB, rfl, OB, b2⟩
    obtain ⟨aB, cB, rfl⟩ := owns_slice OB
    replace XM := XM.below b2
    replace OM := owns_below OM b2
    replace hr := hr.below b2
    replace B := bel_trans B b2
    clear b2
    obtain ⟨m0, m1, m2, m3, mz⟩ := XM.at4
    have qM := owns_row' OM (by omega)
    have qB := owns_row' OB (by omega)
    have hlb : (M.length : Int) ≤ 21 := by omega
    have cB0 := conv_row (show Row .u8 w2.drew aB M from qB) M.length cB rfl
    go_upto_region 5 with fail
    go_cut [32] (fun v wx => v = .bool false ∧ Below w2.heap.size w2 wx)
    case first =>
      first | (go_region_held (fun w' => w'.cell? ⟨w1.heap.size, 0, none⟩ = some (.int .i64 k) ∧ w'.cell? ⟨w1.heap.size, 1, none⟩ = some (.int .i64 p) ∧ w'.cell? ⟨w1.heap.size, 2, none⟩ = some (.bool o) ∧ w'.cell? ⟨w1.heap.size, 3, none⟩ = some (.slice aM xs.length cM) ∧ (convert 22 9 (.slice aB M.length cB)).run Try.prog w' = .ok (.string (strOfNums M)) w') (first | (with_reducible exact keepMC b4 ‹_› (conv_row (qB.below (bel_trans (bel_undrew b3) b4)) M.length cB rfl)) | (with_reducible exact keepMC b3 ‹_› (conv_row (qB.below (bel_undrew b3)) M.length cB rfl)) | exact ⟨m0, m1, m2, m3, cB0⟩ | go_keep) (first | (go_at_call 7; refine (hspec.out aM cM _ ?_).mono ?_; exact qM; rintro e w3 ⟨v3, rfl, o3, b3⟩; obtain ⟨a3, c3, rfl⟩ := owns_slice o3; have cb3 := conv_row (owns_row' o3 (by omega)) M.length c3 rfl) | (go_at_call 8; refine (himok.out aM cM _ ?_).mono ?_; exact qM.below (bel_undrew b3); rintro e w4 ⟨rfl, b4⟩) | fail)) | fail
      all_goals go_wp2_with fail
      all_goals go_meet
      all_goals exact ⟨by rw [HPOS.out]; simp, bel_trans (bel_undrew b3) b4⟩
    case rest =>
      obtain ⟨rfl, b5⟩ := hcut
      clear m0 m1 m2 m3 mz qM qB hspec himok cB0
      replace XM := XM.below b5
      replace OM := owns_below OM b5
      replace OB := owns_below OB b5
      replace hr := hr.below b5
      replace B := bel_trans B b5
      clear b5
      obtain ⟨aB', cB', heB, qB, hbc, hbm⟩ := owns_row OB (by omega)
      simp only [Value.slice.injEq] at heB
      obtain ⟨rfl, _, rfl⟩ := heB
      cases ok
      · have hM0 : M = [] := by have h := HPOS.out; have h2 := of_decide_eq_false h.symm; exact List.length_eq_zero_iff.1 (by omega)
        subst hM0
        clear HM HOK HPOS qB
        go_wp2_with fail
        clear XM OM OB
        refine (drawMOf_any a ca bs _ hr).mono ?_
        rintro e w10 ⟨aR, cR, rs, rfl, hrb, hrl, hrc, hrm, qR, b10⟩
        replace hr := hr.below b10
        replace B := bel_trans B b10
        clear b10
        go_wp2_with fail
        refine (implOf_any aR cR rs _ qR hrb hrc hrm).mono ?_
        rintro e w11 ⟨k1, p1, o1, ys, b1, v1, rfl, R1, O1, b11⟩
        have hyl := R1.len
        obtain ⟨a1, c1, rfl⟩ := owns_slice O1
        replace hr := hr.below b11
        replace qR := qR.below b11
        replace B := bel_trans B b11
        clear b11
        go_wp2_with fail
        have bx := bel_alloc (Below.refl w11.heap.size w11) (.cells #[.int .i64 k1, .int .i64 p1, .bool o1, .slice a1 ys.length c1] 26)
        have X1 := Box.new w11 #[.int .i64 k1, .int .i64 p1, .bool o1, .slice a1 ys.length c1] 26
        replace O1 := owns_below O1 bx
        replace hr := hr.below bx
        replace qR := qR.below bx
        replace B := bel_trans B bx
        clear bx
        refine (specOf_any aR cR rs _ qR hrb).mono ?_
        rintro e w12 ⟨k2, p2, o2, zs, b2, v2, rfl, R2, O2, b12⟩
        obtain ⟨rfl, rfl, rfl, rfl, rfl⟩ := R1.only R2
        obtain ⟨a2, c2, rfl⟩ := owns_slice O2
        clear R2 O2
        replace X1 := X1.below b12
        replace O1 := owns_below O1 b12
        replace hr := hr.below b12
        replace qR := qR.below b12
        replace B := bel_trans B b12
        clear b12
        go_wp2_with fail
        have bx := bel_alloc (Below.refl w12.heap.size w12) (.cells #[.int .i64 k1, .int .i64 p1, .bool o1, .slice a2 ys.length c2] 26)
        have X2 := Box.new w12 #[.int .i64 k1, .int .i64 p1, .bool o1, .slice a2 ys.length c2] 26
        replace X1 := X1.below bx
        replace O1 := owns_below O1 bx
        replace hr := hr.below bx
        replace qR := qR.below bx
        replace B := bel_trans B bx
        clear bx
        clear X2
        refine (drawMO_any a ca bs _ hr).mono ?_
        rintro e w13 ⟨k3, p3, o3, v3, us, rfl, hul, O3, b13⟩
        obtain ⟨a3, c3, rfl⟩ := owns_slice O3
        clear hr
        replace X1 := X1.below b13
        replace O1 := owns_below O1 b13
        replace qR := qR.below b13
        replace B := bel_trans B b13
        clear b13
        obtain ⟨ok3, hok3⟩ : ∃ ok3, msgOkB k3 p3 o3 us = ok3 := ⟨_, rfl⟩
        have HK3 : Hid (msgOkB k3 p3 o3 us = ok3) := hok3
        clear hok3
        have hi3 : Hid (∀ (W : World), Row .i64 W a3 us → Calls Try.prog 8 #[.agg #[.int .i64 k3, .int .i64 p3, .bool o3, .slice a3 us.length c3]] W fun e w' => e = .returned (.bool ok3) ∧ Below W.heap.size W w') := fun W h => by have := msgOk_any k3 p3 o3 a3 c3 us W h; rw [HK3.out] at this; exact this
        have hs3 : Hid (∀ (W : World), Row .i64 W a3 us → Calls Try.prog 14 #[.agg #[.int .i64 k3, .int .i64 p3, .bool o3, .slice a3 us.length c3]] W fun e w' => e = .returned (.bool ok3) ∧ Below W.heap.size W w') := fun W h => by have := specMsgOk_any k3 p3 o3 a3 c3 us W h; rw [HK3.out] at this; exact this
        go_wp2_with fail
        have bx := bel_alloc (Below.refl w13.heap.size w13) (.cells #[.int .i64 k3, .int .i64 p3, .bool o3, .slice a3 us.length c3] 26)
        have X3 := Box.new w13 #[.int .i64 k3, .int .i64 p3, .bool o3, .slice a3 us.length c3] 26
        replace X1 := X1.below bx
        replace O1 := owns_below O1 bx
        replace O3 := owns_below O3 bx
        replace qR := qR.below bx
        replace B := bel_trans B bx
        clear bx
        have q3 := owns_row' O3 (by omega)
        have q1 := owns_row' O1 (by omega)
        obtain ⟨x0, x1, x2, x3, xz⟩ := X3.at4
        obtain ⟨y0, y1, y2, y3, yz⟩ := X1.at4
        rcases R1 with ⟨rfl, hk1, hm1⟩ | ⟨rfl, rfl, rfl, rfl, rfl, _⟩
        · have hM1 : Hid (∀ (W : World), Row .i64 W a1 ys → Calls Try.prog 6 #[.agg #[.int .i64 k1, .int .i64 p1, .bool o1, .slice a1 ys.length c1]] W fun e w' => ∃ v, e = .returned v ∧ w'.ownsRow W.heap.size 5 1 v rs.length (rs.map (Value.int .u8)) ∧ Below W.heap.size W w') := fun W h => by have := msgBytes_any k1 p1 o1 a1 c1 ys W h; rw [hm1] at this; exact this
          clear hk1 hm1
          refine r15_T X3 q3 hi3 hs3 X1 q1 qR hM1 ?_
          intro v86 v87 v88 v89 v90 v91 v92 v93 v94 v95 v96 v97 v98 v99 v100 v101 v102 v103 v104 v105 v106 v107 v108 v109 v110 v111 v112 v113 v114 v115 W9 b9
          have B9 := bel_trans B b9
          go_wp2
          go_ret
          exact ⟨rfl, B9⟩
        · refine r15_F X3 q3 hi3 hs3 y0 ?_
          intro v86 v87 v88 v89 v90 v91 v92 v93 v94 v95 v96 v97 v98 v99 v100 v101 v102 v103 v104 v105 v106 v107 v108 v109 v110 v111 v112 v113 v114 v115 W9 b9
          have B9 := bel_trans B b9
          go_wp2
          go_ret
          exact ⟨rfl, B9⟩
      · have hM0 : (0 : Int) < M.length := of_decide_eq_true HPOS.out.symm
        go_wp2_with fail
        refine (implOf_any aB cB M _ qB hmb hbc hbm).mono ?_
        rintro e w6 ⟨k6, p6, o6, zs, b6, v6, rfl, R6, O6, bb6⟩
        have R0 : Res M k p o xs true := .inl ⟨rfl, HOK.out, HM.out⟩
        obtain ⟨rfl, rfl, rfl, rfl, rfl⟩ := R0.only R6
        obtain ⟨a6, c6, rfl⟩ := owns_slice O6
        clear R6 R0 qB
        replace XM := XM.below bb6
        replace OM := owns_below OM bb6
        replace OB := owns_below OB bb6
        replace hr := hr.below bb6
        replace B := bel_trans B bb6
        clear bb6
        obtain ⟨m0, m1, m2, m3, mz⟩ := XM.at4
        go_wp2_with fail
        clear m0 m1 m2 m3 mz
        have bx := bel_alloc (Below.refl w6.heap.size w6) (.cells #[.int .i64 k, .int .i64 p, .bool o, .slice a6 xs.length c6] 26)
        have XQ := Box.new w6 #[.int .i64 k, .int .i64 p, .bool o, .slice a6 xs.length c6] 26
        replace XM := XM.below bx
        replace OM := owns_below OM bx
        replace OB := owns_below OB bx
        replace O6 := owns_below O6 bx
        replace hr := hr.below bx
        replace B := bel_trans B bx
        clear bx
        refine (sameInts_any a6 aM c6 cM xs _ (owns_row' O6 (by omega)) (owns_row' OM (by omega))).mono ?_
        rintro e w7 ⟨rfl, d7, h7⟩
        replace hr := row_dr h7 hr
        replace B := bel_dr h7 B
        clear h7 XM XQ OM OB O6 HM HOK HPOS
        go_wp2_with fail
        refine (drawMOf_any a ca bs _ hr).mono ?_
        rintro e w10 ⟨aR, cR, rs, rfl, hrb, hrl, hrc, hrm, qR, b10⟩
        replace hr := hr.below b10
        replace B := bel_trans B b10
        clear b10
        go_wp2_with fail
        refine (implOf_any aR cR rs _ qR hrb hrc hrm).mono ?_
        rintro e w11 ⟨k1, p1, o1, ys, b1, v1, rfl, R1, O1, b11⟩
        have hyl := R1.len
        obtain ⟨a1, c1, rfl⟩ := owns_slice O1
        replace hr := hr.below b11
        replace qR := qR.below b11
        replace B := bel_trans B b11
        clear b11
        go_wp2_with fail
        have bx := bel_alloc (Below.refl w11.heap.size w11) (.cells #[.int .i64 k1, .int .i64 p1, .bool o1, .slice a1 ys.length c1] 26)
        have X1 := Box.new w11 #[.int .i64 k1, .int .i64 p1, .bool o1, .slice a1 ys.length c1] 26
        replace O1 := owns_below O1 bx
        replace hr := hr.below bx
        replace qR := qR.below bx
        replace B := bel_trans B bx
        clear bx
        refine (specOf_any aR cR rs _ qR hrb).mono ?_
        rintro e w12 ⟨k2, p2, o2, zs, b2, v2, rfl, R2, O2, b12⟩
        obtain ⟨rfl, rfl, rfl, rfl, rfl⟩ := R1.only R2
        obtain ⟨a2, c2, rfl⟩ := owns_slice O2
        clear R2 O2
        replace X1 := X1.below b12
        replace O1 := owns_below O1 b12
        replace hr := hr.below b12
        replace qR := qR.below b12
        replace B := bel_trans B b12
        clear b12
        go_wp2_with fail
        have bx := bel_alloc (Below.refl w12.heap.size w12) (.cells #[.int .i64 k1, .int .i64 p1, .bool o1, .slice a2 ys.length c2] 26)
        have X2 := Box.new w12 #[.int .i64 k1, .int .i64 p1, .bool o1, .slice a2 ys.length c2] 26
        replace X1 := X1.below bx
        replace O1 := owns_below O1 bx
        replace hr := hr.below bx
        replace qR := qR.below bx
        replace B := bel_trans B bx
        clear bx
        clear X2
        refine (drawMO_any a ca bs _ hr).mono ?_
        rintro e w13 ⟨k3, p3, o3, v3, us, rfl, hul, O3, b13⟩
        obtain ⟨a3, c3, rfl⟩ := owns_slice O3
        clear hr
        replace X1 := X1.below b13
        replace O1 := owns_below O1 b13
        replace qR := qR.below b13
        replace B := bel_trans B b13
        clear b13
        obtain ⟨ok3, hok3⟩ : ∃ ok3, msgOkB k3 p3 o3 us = ok3 := ⟨_, rfl⟩
        have HK3 : Hid (msgOkB k3 p3 o3 us = ok3) := hok3
        clear hok3
        have hi3 : Hid (∀ (W : World), Row .i64 W a3 us → Calls Try.prog 8 #[.agg #[.int .i64 k3, .int .i64 p3, .bool o3, .slice a3 us.length c3]] W fun e w' => e = .returned (.bool ok3) ∧ Below W.heap.size W w') := fun W h => by have := msgOk_any k3 p3 o3 a3 c3 us W h; rw [HK3.out] at this; exact this
        have hs3 : Hid (∀ (W : World), Row .i64 W a3 us → Calls Try.prog 14 #[.agg #[.int .i64 k3, .int .i64 p3, .bool o3, .slice a3 us.length c3]] W fun e w' => e = .returned (.bool ok3) ∧ Below W.heap.size W w') := fun W h => by have := specMsgOk_any k3 p3 o3 a3 c3 us W h; rw [HK3.out] at this; exact this
        go_wp2_with fail
        have bx := bel_alloc (Below.refl w13.heap.size w13) (.cells #[.int .i64 k3, .int .i64 p3, .bool o3, .slice a3 us.length c3] 26)
        have X3 := Box.new w13 #[.int .i64 k3, .int .i64 p3, .bool o3, .slice a3 us.length c3] 26
        replace X1 := X1.below bx
        replace O1 := owns_below O1 bx
        replace O3 := owns_below O3 bx
        replace qR := qR.below bx
        replace B := bel_trans B bx
        clear bx
        have q3 := owns_row' O3 (by omega)
        have q1 := owns_row' O1 (by omega)
        obtain ⟨x0, x1, x2, x3, xz⟩ := X3.at4
        obtain ⟨y0, y1, y2, y3, yz⟩ := X1.at4
        rcases R1 with ⟨rfl, hk1, hm1⟩ | ⟨rfl, rfl, rfl, rfl, rfl, _⟩
        · have hM1 : Hid (∀ (W : World), Row .i64 W a1 ys → Calls Try.prog 6 #[.agg #[.int .i64 k1, .int .i64 p1, .bool o1, .slice a1 ys.length c1]] W fun e w' => ∃ v, e = .returned v ∧ w'.ownsRow W.heap.size 5 1 v rs.length (rs.map (Value.int .u8)) ∧ Below W.heap.size W w') := fun W h => by have := msgBytes_any k1 p1 o1 a1 c1 ys W h; rw [hm1] at this; exact this
          clear hk1 hm1
          refine r15_T X3 q3 hi3 hs3 X1 q1 qR hM1 ?_
          intro v86 v87 v88 v89 v90 v91 v92 v93 v94 v95 v96 v97 v98 v99 v100 v101 v102 v103 v104 v105 v106 v107 v108 v109 v110 v111 v112 v113 v114 v115 W9 b9
          have B9 := bel_trans B b9
          go_wp2
          go_ret
          exact ⟨rfl, B9⟩
        · refine r15_F X3 q3 hi3 hs3 y0 ?_
          intro v86 v87 v88 v89 v90 v91 v92 v93 v94 v95 v96 v97 v98 v99 v100 v101 v102 v103 v104 v105 v106 v107 v108 v109 v110 v111 v112 v113 v114 v115 W9 b9
          have B9 := bel_trans B b9
          go_wp2
          go_ret
          exact ⟨rfl, B9⟩

set_option maxRecDepth 100000 in
theorem lifted (os : Os) (started : os.Started) (H : Type) (enc : TypeId × Value → H) :
    ReturnsInHanded {} Try.checked os 3 .any (Rows.fnMsgsSpec.pre6 enc Try.prog Try.f3 Rows.fnMsgsRow.domain false) (Rows.fnMsgsSpec.post enc Try.prog Try.f3 false true false false) := by
  refine returnsInHanded_of_change (C := Try.checked) own started (by kernel_rfl) Try.func3
    (ChangeSpec.witness6 (enc := enc) (C := Try.checked) false ⟨#[], #[.slice none 0 0], []⟩ 8 (by kernel_rfl) (by kernel_rfl) (by kernel_rfl) (by kernel_rfl)) ?_
  intro W base args ds gs before hval0 hW hcnd _
  have hval : ∀ (j : Nat) t v, Try.f3.params[j]? = some t → args[j]? = some v → Value.okWide Try.prog W .any base t v := hval0
  have hW' := hW
  obtain ⟨p, q, hA0, hV, rfl, hfz, hnd⟩ := hW
  have hA : DataW.TrodAll enc Try.prog W 0 (fun _ => true) true Try.f3.params.toList args.toList ds p := hA0
  rw [Try.params3] at hA hval
  obtain ⟨v0, vs0, d0, ds0, p0, q0, hargs, rfl, rfl, h0, r0⟩ := trodAll_cons hA
  obtain ⟨rfl, rfl, rfl⟩ := trodAll_nil r0
  obtain rfl : args = #[v0] := by cases args; simp_all
  obtain ⟨rfl, rfl⟩ := trodVars_none hV
  obtain ⟨a0, len0, cap0, rfl⟩ := okWide_slice Try.underlying22 (hval 0 22 v0 rfl rfl)
  have k0 := h0
  have lt0 : ∀ x ∈ p0, x.block < W.heap.size := by obtain ⟨m, hm⟩ := k0; exact DataW.trod_lt m _ _ _ hm
  obtain ⟨x0, rfl, w0⟩ : ∃ xs : List Int, xs.length = len0 ∧ Came .u8 W a0 cap0 xs := by
    obtain ⟨fuel, hf⟩ := h0
    rcases open_ints Try.underlying22 Try.underlying5 (by kernel_rfl) hf with ⟨hcs, _⟩ | ⟨x, l, c, zs, hcs, _, hl, hm, hz, _, hcell, hwz⟩
    · simp [Value.cells] at hcs
      obtain ⟨rfl, rfl, rfl⟩ := hcs
      exact ⟨[], rfl, came_nil _ _⟩
    · simp [Value.cells] at hcs
      obtain ⟨rfl, rfl, rfl⟩ := hcs
      have hc := came_of hl hm (by simpa using hz) hcell hwz
      exact ⟨_, hc.1, hc.2⟩
  clear hA0 hval0
  refine (walk a0 cap0 x0 W w0).mono fun e W' ⟨he, bel⟩ => ?_
  subst he
  exact ⟨_, rfl, _, _, _, [], _, [], hW', trodAll_mk1 (shut_bool Try.underlying4 _), (trodAll_cons_mk (Below.trod laidOut (by kernel_rfl) (of_decide_eq_true (by kernel_rfl)) k0 bel lt0) trodAll_mk0), rfl, bel.frame _, fun h => by cases h⟩

theorem over : Rows.fnMsgsRow.holds Try.pinned (OpenSpec.ofChange Rows.fnMsgsSpec) :=
  OpenClaim.holds_of_wide 3 Try.f3 rfl rfl rfl rfl rfl rfl rfl ⟨rfl, rfl, rfl, rfl, rfl⟩ rfl rfl rfl rfl rfl (by kernel_rfl) Try.func3 (by kernel_rfl)
    (of_decide_eq_true (by kernel_rfl)) (by unfold Func.isWrapper; first | (rw [if_pos (by decide +kernel)]; kernel_rfl) | (rw [if_neg (by decide +kernel)]; exact ⟨rfl, rfl⟩))
    (fun os started H enc _ => lifted os started H enc)
end LawFnMsgs

theorem fnMsgs_holds : Rows.FnMsgsSaid := LawFnMsgs.over
#print axioms fnMsgs_holds
end Go.Proofs.Ytbihhndpjpdbmaa
