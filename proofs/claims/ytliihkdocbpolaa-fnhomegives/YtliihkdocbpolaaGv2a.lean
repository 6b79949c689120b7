/- One round of FnHomeGives' loop over its queue. -/
import Derived.Test.YtliihkdocbpolaaGv2
import Derived.Deep.CutRange
namespace Go.Proofs.Ytliihkdocbpolaa
open Go.RowKit
set_option linter.unusedVariables false

set_option maxRecDepth 1000000 in
set_option maxHeartbeats 8000000 in
theorem g2_q {lo : Nat} {w : World} {hB sB wB who : Nat} {own : Bool} {wd : List Int} {c0 c1 c2 c6 c7 c8 c9 c18 c19 c20 c21 c22 c23 c24 c25 c26 c27 c28 c29 c30 c31 c32 c33 c34 c35 c36 c37 c38 c39 c40 c41 c42 c43 c44 c45 c46 c47 c48 c49 c50 c51 c52 c53 c151 c152 c153 c154 c155 c156 c157 c158 c159 c160 c161 c162 c163 c164 c165 c166 c167 c168 c169 c170 c171 c172 c173 c174 c175 c176 c177 c178 c179 c180 c181 c182 c183 c184 c185 c186 c187 c188 c189 : Value} {u11 u12 u13 u14 u15 u16 u17 u54 u55 u56 u57 u58 u59 u60 u61 u62 u63 u64 u65 u66 u67 u68 u69 u70 u71 u72 u73 u74 u75 u76 u77 u78 u79 u80 u81 u82 u83 u84 u85 u86 u87 u88 u89 u90 u91 u92 u93 u94 u95 u96 u97 u98 u99 u100 u101 u102 u103 u104 u105 u106 u107 u108 u109 u110 u111 u112 u113 u114 u115 u116 u117 u118 u119 u120 u121 u122 u123 u124 u125 u126 u127 u128 u129 u130 u131 u132 u133 u134 u135 u136 u137 u138 u139 u140 u141 u142 u143 u144 u145 u146 u147 u148 u149 u150 : Value} {gq off cq : Nat} {q : Int × M} {rest : List (Int × M)} {vl vr vq : Value} {H H' : Hm} {st : List Int} {TS : List (Int × Int × Bool)} {wr : World} {Q0 : Exit → Act → World → Prop}
    (hw3 : who < 3) (hlo : lo ≤ w.heap.size) (G : GL lo wr hB sB wB vl vr vq H st wd) (hQ : QAt wr (.slice (some ⟨gq, off, none⟩) (rest.length + 1) cq) (q :: rest)) (hrd : H.rd.length = 3) (hsl : st.length = 3) (T : Turn wB who own wd H st q rest H' TS) (h1c : H.bz = false → off = 0 ∧ cq = 1) (B : Below lo w wr) (hrd' : H'.rd.length = 3)
    (hpan : Hid (∀ (c : List PanicEntry) (a : Act) (d : Option Tmp) (v : Value) (w : World), Q0 (.panic c) (a.put d v) w → Q0 (.panic c) a w)) :
    Code.wp Try.prog ((Try.f3.body.bind (findL 18)).getD .skip) (Exit.then (fun a' w'' => WI2 lo w hB sB wB who own wd c0 c1 c2 c6 c7 c8 c9 c18 c19 c20 c21 c22 c23 c24 c25 c26 c27 c28 c29 c30 c31 c32 c33 c34 c35 c36 c37 c38 c39 c40 c41 c42 c43 c44 c45 c46 c47 c48 c49 c50 c51 c52 c53 c151 c152 c153 c154 c155 c156 c157 c158 c159 c160 c161 c162 c163 c164 c165 c166 c167 c168 c169 c170 c171 c172 c173 c174 c175 c176 c177 c178 c179 c180 c181 c182 c183 c184 c185 c186 c187 c188 c189 a' w'' ∧ mu2 hB a' w'' < mu2 hB ⟨#[c0, c1, c2, .pointer (some ⟨hB, 0, none⟩), .slice (some ⟨sB, 0, none⟩) 3 3, .slice (some ⟨wB, 0, none⟩) 4 4, c6, c7, c8, c9, .slice (some ⟨gq, off, none⟩) (rest.length + 1) cq, u11, u12, u13, u14, u15, u16, u17, c18, c19, c20, c21, c22, c23, c24, c25, c26, c27, c28, c29, c30, c31, c32, c33, c34, c35, c36, c37, c38, c39, c40, c41, c42, c43, c44, c45, c46, c47, c48, c49, c50, c51, c52, c53, u54, u55, u56, u57, u58, u59, u60, u61, u62, u63, u64, u65, u66, u67, u68, u69, u70, u71, u72, u73, u74, u75, u76, u77, u78, u79, u80, u81, u82, u83, u84, u85, u86, u87, u88, u89, u90, u91, u92, u93, u94, u95, u96, u97, u98, u99, u100, u101, u102, u103, u104, u105, u106, u107, u108, u109, u110, u111, u112, u113, u114, u115, u116, u117, u118, u119, u120, u121, u122, u123, u124, u125, u126, u127, u128, u129, u130, u131, u132, u133, u134, u135, u136, u137, u138, u139, u140, u141, u142, u143, u144, u145, u146, u147, u148, u149, u150, c151, c152, c153, c154, c155, c156, c157, c158, c159, c160, c161, c162, c163, c164, c165, c166, c167, c168, c169, c170, c171, c172, c173, c174, c175, c176, c177, c178, c179, c180, c181, c182, c183, c184, c185, c186, c187, c188, c189], []⟩ wr) Q0) ⟨#[c0, c1, c2, .pointer (some ⟨hB, 0, none⟩), .slice (some ⟨sB, 0, none⟩) 3 3, .slice (some ⟨wB, 0, none⟩) 4 4, c6, c7, c8, c9, .slice (some ⟨gq, off, none⟩) (rest.length + 1) cq, u11, u12, u13, u14, u15, u16, u17, c18, c19, c20, c21, c22, c23, c24, c25, c26, c27, c28, c29, c30, c31, c32, c33, c34, c35, c36, c37, c38, c39, c40, c41, c42, c43, c44, c45, c46, c47, c48, c49, c50, c51, c52, c53, u54, u55, u56, u57, u58, u59, u60, u61, u62, u63, u64, u65, u66, u67, u68, u69, u70, u71, u72, u73, u74, u75, u76, u77, u78, u79, u80, u81, u82, u83, u84, u85, u86, u87, u88, u89, u90, u91, u92, u93, u94, u95, u96, u97, u98, u99, u100, u101, u102, u103, u104, u105, u106, u107, u108, u109, u110, u111, u112, u113, u114, u115, u116, u117, u118, u119, u120, u121, u122, u123, u124, u125, u126, u127, u128, u129, u130, u131, u132, u133, u134, u135, u136, u137, u138, u139, u140, u141, u142, u143, u144, u145, u146, u147, u148, u149, u150, c151, c152, c153, c154, c155, c156, c157, c158, c159, c160, c161, c162, c163, c164, c165, c166, c167, c168, c169, c170, c171, c172, c173, c174, c175, c176, c177, c178, c179, c180, c181, c182, c183, c184, c185, c186, c187, c188, c189], []⟩ wr := by
  conv => arg 2; whnf
  obtain ⟨y0, y1, y2, y3, y4, _, hcq, hgz, hc1, hc2⟩ := hQ.cells
  have hloz : lo ≤ wr.heap.size := Nat.le_trans hlo B.size
  obtain ⟨al, cl, rfl⟩ := owns_slice G.l
  obtain ⟨bl, rfl⟩ := owns_addr G.l (by omega)
  obtain ⟨ar, cr, rfl⟩ := owns_slice G.r
  obtain ⟨aq, cqq, rfl⟩ := owns_slice G.q
  have hwl : Hid (wd.length = 4) := by have := G.d.1; show _ = _; simpa using this
  have b0 := bel_alloc (Below.refl wr.heap.size wr) (.cells #[.int .i64 q.1, .int .i64 q.2.k, .int .i64 q.2.p, .bool q.2.o, .slice q.2.a q.2.xs.length q.2.c] 36)
  have XQ := Box.new wr #[.int .i64 q.1, .int .i64 q.2.k, .int .i64 q.2.p, .bool q.2.o, .slice q.2.a q.2.xs.length q.2.c] 36
  have RX : Row .i64 wr (some ⟨bl, 0, none⟩) H.xs := owns_row' (xs := H.xs) (n := 4) G.l (by simp)
  have RR : VRow wr ar (bv H.rd) := owns_vrow' G.r (by rw [bv_length]; omega)
  have RM : Row .i64 wr q.2.a q.2.xs := by
    rcases T.qm with ⟨e1, e2⟩ | ⟨e1, e2⟩
    · rw [e1, e2]; exact Row.nil _ _ _
    · rw [e1, e2]
      have h9 := G.d
      have e3 := hwl.out
      rw [← e3] at h9
      exact owns_row' h9 (by omega)
  have hlq := own_lt G.q
  have HI : Hid (∀ W, Below wr.heap.size wr W → Calls Try.prog 7 #[.agg #[.slice (some ⟨bl, 0, none⟩) 4 cl, .int .i64 H.ow, .slice ar H.rd.length cr, .bool H.bz, .int .i64 H.wh, .bool H.wo, .int .i64 H.ak, .slice aq 0 cqq], .int .i64 3, .int .i64 0, .int .i64 q.1, .agg #[.int .i64 q.2.k, .int .i64 q.2.p, .bool q.2.o, .slice q.2.a q.2.xs.length q.2.c]] W (ImplP W H' TS wd)) := fun W bb => by
    rw [hrd]
    exact T.i bl 0 ar aq cl cr cqq W (RX.below bb) (RR.below bb) (fun b o s e => Nat.lt_of_lt_of_le (hlq b o s e) bb.size) (RM.below bb)
  have HS : Hid (∀ W, Below wr.heap.size wr W → Calls Try.prog 8 #[.agg #[.slice (some ⟨bl, 0, none⟩) 4 cl, .int .i64 H.ow, .slice ar H.rd.length cr, .bool H.bz, .int .i64 H.wh, .bool H.wo, .int .i64 H.ak, .slice aq 0 cqq], .int .i64 3, .int .i64 0, .int .i64 q.1, .agg #[.int .i64 q.2.k, .int .i64 q.2.p, .bool q.2.o, .slice q.2.a q.2.xs.length q.2.c]] W (SpecP W H')) := fun W bb => by
    rw [hrd]
    exact T.s (some ⟨bl, 0, none⟩) ar aq cl cr cqq W (RX.below bb) (RR.below bb) (RM.below bb)
  have hi0 : (0 : Int) < ((rest.length : Int) + 1) := by omega
  have GH0 := G.h
  obtain ⟨W0, hW0⟩ : ∃ W0, wr.alloc (.cells #[.int .i64 q.1, .int .i64 q.2.k, .int .i64 q.2.p, .bool q.2.o, .slice q.2.a q.2.xs.length q.2.c] 36) = W0 := ⟨_, rfl⟩
  rw [hW0] at b0 XQ
  have X0 := GH0.below b0
  have HG : Hid (GL lo wr hB sB wB (.slice (some ⟨bl, 0, none⟩) 4 cl) (.slice ar H.rd.length cr) (.slice aq 0 cqq) H st wd) := G
  have HQ1 : Hid (cq = 1 → QAt wr (.slice (some ⟨gq, off, none⟩) 0 0) rest) := hc1
  have HQ2 : Hid (2 ≤ cq → QAt wr (.slice (some ⟨gq, off + 5, none⟩) rest.length (cq - 1)) rest) := hc2
  have HT : Hid (Turn wB who own wd H st q rest H' TS) := T
  have H1C : Hid (H.bz = false → off = 0 ∧ cq = 1) := h1c
  have HB : Hid (Below lo w wr) := B
  have HRD : Hid (H.rd.length = 3) := hrd
  have HRD' : Hid (H'.rd.length = 3) := hrd'
  have HSL : Hid (st.length = 3) := hsl
  have hBz : Hid (hB < wr.heap.size) := G.h.lt
  have sBz : Hid (sB < wr.heap.size) := (G.s.lt sB rfl).2
  have HXQ : Hid (Box W0 wr.heap.size #[.int .i64 q.1, .int .i64 q.2.k, .int .i64 q.2.p, .bool q.2.o, .slice q.2.a q.2.xs.length q.2.c] 36) := XQ
  have HX0 : Hid (Box W0 hB _ 30) := X0
  have HB0 : Hid (Below wr.heap.size wr W0) := b0
  have hre : cq = 1 → rest.length = 0 := by omega
  clear hQ hc1 hc2 T h1c B hrd hrd' hsl G GH0 RX RR RM hlq XQ X0 b0
  go_upto_region 19 with fail
  go_cut [10] from 60 to 61 (fun s10 wx => W0 = wx ∧ QAt wr s10 rest ∧ (cq = 1 → s10 = .slice (some ⟨gq, off, none⟩) 0 0))
  case first =>
    by_cases hcc : cq = 1
    · have hr0 := hre hcc
      subst hcc
      have hr1 : rest = [] := List.length_eq_zero_iff.1 hr0
      subst hr1
      go_wp2_with fail
      all_goals go_meet
      all_goals exact ⟨rfl, HQ1.out (by simp), fun _ => rfl⟩
    · have h2 : 2 ≤ cq := by omega
      have h3 : ¬ (cq - 1 = 0) := by omega
      go_wp2_with fail
      all_goals go_meet
      all_goals first | exact ⟨rfl, HQ2.out h2, fun e => absurd e hcc⟩ | (exfalso; omega)
  case rest =>
  obtain ⟨hwx, hQA, hQ1⟩ := hcut
  subst hwx
  obtain ⟨vq1, hvq1⟩ : ∃ v, u10 = v := ⟨_, rfl⟩
  have HQA : Hid (QAt wr u10 rest) := hQA
  have HQ1' : Hid (cq = 1 → u10 = .slice (some ⟨gq, off, none⟩) 0 0) := hQ1
  clear hQA hQ1 hvq1 HQ1 HQ2 y0 y1 y2 y3 y4 hre
  have XQ := HXQ.out
  have X0 := HX0.out
  have z0 := XQ.cell 0
  have z1 := XQ.cell 1
  have z2 := XQ.cell 2
  have z3 := XQ.cell 3
  have z4 := XQ.cell 4
  have zz := XQ.lt
  obtain ⟨x0, x1, x2, x3, x4, x5, x6, x7, xz⟩ := at8' X0
  clear XQ X0
  go_wp2_with fail
  refine (HI.out _ HB0.out).mono ?_
  rintro e w1 ⟨ts, vl1, vr1, vq1, vt1, hts, htx, rfl, o1, o2, o3, o4, o5, b1⟩
  obtain ⟨al1, cl1, rfl⟩ := owns_slice o1
  obtain ⟨ar1, cr1, rfl⟩ := owns_slice o2
  obtain ⟨aq1, cq1, rfl⟩ := owns_slice o3
  obtain ⟨at3, ct, rfl⟩ := owns_slice o4
  have hz01 := HB0.out.size
  replace o1 := owns_base o1 hz01
  replace o2 := owns_base o2 hz01
  replace o3 := owns_base o3 hz01
  replace o4 := owns_base o4 hz01
  have o5' : Hid (∀ t ∈ ts, w1.ownsRow wr.heap.size 3 1 t.2.v t.2.xs.length (t.2.xs.map (Value.int .i64))) := fun t ht => owns_base (o5 t ht) hz01
  have hts' : Hid (ts.map tabs = TS) := hts
  have htx' : Hid (∀ t ∈ ts, t.2.k = 3 → t.2.xs = wd) := htx
  have bN := bel_alloc (Below.refl w1.heap.size w1) (.cells #[.slice al1 4 cl1, .int .i64 H'.ow, (.slice ar1 H'.rd.length cr1), .bool H'.bz, .int .i64 H'.wh, .bool H'.wo, .int .i64 H'.ak, .slice aq1 0 cq1] 30)
  have XN := Box.new w1 #[.slice al1 4 cl1, .int .i64 H'.ow, (.slice ar1 H'.rd.length cr1), .bool H'.bz, .int .i64 H'.wh, .bool H'.wo, .int .i64 H'.ak, .slice aq1 0 cq1] 30
  obtain ⟨W2, hW2⟩ : ∃ W2, w1.alloc (.cells #[.slice al1 4 cl1, .int .i64 H'.ow, (.slice ar1 H'.rd.length cr1), .bool H'.bz, .int .i64 H'.wh, .bool H'.wo, .int .i64 H'.ak, .slice aq1 0 cq1] 30) = W2 := ⟨_, rfl⟩
  rw [hW2] at bN XN
  have b02 : Below W0.heap.size W0 W2 := bel_trans b1 bN
  have B2 : Below wr.heap.size wr W2 := bel_trans HB0.out b02
  have XQ := HXQ.out.below b02
  have X0 := HX0.out.below b02
  have HXQ2 : Hid (Box W2 wr.heap.size #[.int .i64 q.1, .int .i64 q.2.k, .int .i64 q.2.p, .bool q.2.o, .slice q.2.a q.2.xs.length q.2.c] 36) := XQ
  have HX02 : Hid (Box W2 hB _ 30) := X0
  have HXN2 : Hid (Box W2 w1.heap.size #[.slice al1 4 cl1, .int .i64 H'.ow, (.slice ar1 H'.rd.length cr1), .bool H'.bz, .int .i64 H'.wh, .bool H'.wo, .int .i64 H'.ak, .slice aq1 0 cq1] 30) := XN
  have O1 : Hid (W2.ownsRow wr.heap.size 3 1 (.slice al1 4 cl1) 4 (H'.xs.map (Value.int .i64))) := owns_below o1 bN
  have O2 : Hid (W2.ownsRow wr.heap.size 4 1 (.slice ar1 H'.rd.length cr1) H'.rd.length (bv H'.rd)) := owns_below o2 bN
  have O3 : Hid (W2.ownsRow wr.heap.size 27 2 (.slice aq1 0 cq1) 0 []) := owns_below o3 bN
  have O4 : Hid (W2.ownsRow wr.heap.size 36 5 (.slice at3 ts.length ct) ts.length (tflat ts)) := owns_below o4 bN
  have O5 : Hid (∀ t ∈ ts, W2.ownsRow wr.heap.size 3 1 t.2.v t.2.xs.length (t.2.xs.map (Value.int .i64))) := fun t ht => owns_below (o5'.out t ht) bN
  have HB2 : Hid (Below wr.heap.size wr W2) := B2
  have hzN : Hid (w1.heap.size < W2.heap.size ∧ wr.heap.size < w1.heap.size) := ⟨XN.lt, by have := b1.size; have := HXQ.out.lt; omega⟩
  clear o1 o2 o3 o4 o5 o5' hts htx bN XN b1 b02 B2 z0 z1 z2 z3 z4 zz x0 x1 x2 x3 x4 x5 x6 x7 xz HI hz01 HXQ HX0
  have z0 := XQ.cell 0
  have z1 := XQ.cell 1
  have z2 := XQ.cell 2
  have z3 := XQ.cell 3
  have z4 := XQ.cell 4
  have zz := XQ.lt
  obtain ⟨x0, x1, x2, x3, x4, x5, x6, x7, xz⟩ := at8' X0
  clear XQ X0
  go_wp2_with fail
  refine (HS.out _ HB2.out).mono ?_
  rintro e w3 ⟨vl2, vr2, vq2, vt2, rfl, p1, p2, p3, b3⟩
  obtain ⟨al2, cl2, rfl⟩ := owns_slice p1
  obtain ⟨ar2, cr2, rfl⟩ := owns_slice p2
  obtain ⟨aq2, cq2, rfl⟩ := owns_slice p3
  have bM := bel_alloc (Below.refl w3.heap.size w3) (.cells #[.slice al2 4 cl2, .int .i64 H'.ow, (.slice ar2 H'.rd.length cr2), .bool H'.bz, .int .i64 H'.wh, .bool H'.wo, .int .i64 H'.ak, .slice aq2 0 cq2] 30)
  have XM := Box.new w3 #[.slice al2 4 cl2, .int .i64 H'.ow, (.slice ar2 H'.rd.length cr2), .bool H'.bz, .int .i64 H'.wh, .bool H'.wo, .int .i64 H'.ak, .slice aq2 0 cq2] 30
  obtain ⟨W4, hW4⟩ : ∃ W4, w3.alloc (.cells #[.slice al2 4 cl2, .int .i64 H'.ow, (.slice ar2 H'.rd.length cr2), .bool H'.bz, .int .i64 H'.wh, .bool H'.wo, .int .i64 H'.ak, .slice aq2 0 cq2] 30) = W4 := ⟨_, rfl⟩
  rw [hW4] at bM XM
  have b24 : Below W2.heap.size W2 W4 := bel_trans b3 bM
  have XN := HXN2.out.below b24
  have P1 := owns_below p1 bM
  have P2 := owns_below p2 bM
  have Q1 := owns_below O1.out b24
  have Q2 := owns_below O2.out b24
  have R1 : Row .i64 W4 al1 H'.xs := owns_row' (xs := H'.xs) (n := 4) Q1 (by simp)
  have R2 : Row .i64 W4 al2 H'.xs := owns_row' (xs := H'.xs) (n := 4) P1 (by simp)
  have R3 : VRow W4 ar1 (bv H'.rd) := owns_vrow' Q2 (by rw [bv_length, HRD'.out]; omega)
  have R4 : VRow W4 ar2 (bv H'.rd) := owns_vrow' P2 (by rw [bv_length, HRD'.out]; omega)
  have HSM : Hid (Calls Try.prog 9 #[.agg #[.slice al1 4 cl1, .int .i64 H'.ow, (.slice ar1 H'.rd.length cr1), .bool H'.bz, .int .i64 H'.wh, .bool H'.wo, .int .i64 H'.ak, .slice aq1 0 cq1], .agg #[.slice al2 4 cl2, .int .i64 H'.ow, (.slice ar2 H'.rd.length cr2), .bool H'.bz, .int .i64 H'.wh, .bool H'.wo, .int .i64 H'.ak, .slice aq2 0 cq2]] W4 fun e w' => e = .returned (.bool true) ∧ Below W4.heap.size W4 w') := sameHome_any H'.ow H'.wh H'.ak H'.bz H'.wo al1 al2 ar1 ar2 aq1 aq2 cl1 cl2 cr1 cr2 cq1 cq2 H'.xs H'.rd W4 R1 R2 R3 R4 (by rw [HRD'.out]; omega)
  have HB24 : Hid (Below W2.heap.size W2 W4) := b24
  have HXM4 : Hid (Box W4 w3.heap.size #[.slice al2 4 cl2, .int .i64 H'.ow, (.slice ar2 H'.rd.length cr2), .bool H'.bz, .int .i64 H'.wh, .bool H'.wo, .int .i64 H'.ak, .slice aq2 0 cq2] 30) := XM
  have HXN4 : Hid (Box W4 w1.heap.size #[.slice al1 4 cl1, .int .i64 H'.ow, (.slice ar1 H'.rd.length cr1), .bool H'.bz, .int .i64 H'.wh, .bool H'.wo, .int .i64 H'.ak, .slice aq1 0 cq1] 30) := XN
  clear z0 z1 z2 z3 z4 zz x0 x1 x2 x3 x4 x5 x6 x7 xz p1 p2 p3 b3 bM P1 P2 Q1 Q2 R1 R2 R3 R4 b24 HS HXQ2
  obtain ⟨x0, x1, x2, x3, x4, x5, x6, x7, xz⟩ := at8' XN
  obtain ⟨y0, y1, y2, y3, y4, y5, y6, y7, yz⟩ := at8' XM
  clear XN XM
  go_wp2_with fail
  refine HSM.out.mono ?_
  rintro e w5 ⟨rfl, b5⟩
  have B25 : Below W2.heap.size W2 w5 := bel_trans HB24.out b5
  have B5 : Below wr.heap.size wr w5 := bel_trans HB2.out B25
  have XN5 := HXN4.out.below b5
  have X05 := HX02.out.below B25
  clear x0 x1 x2 x3 x4 x5 x6 x7 xz y0 y1 y2 y3 y4 y5 y6 y7 yz HSM HXM4 HXN4 b5 HB24
  obtain ⟨x0, x1, x2, x3, x4, x5, x6, x7, xz⟩ := at8' XN5
  obtain ⟨y0, y1, y2, y3, y4, y5, y6, y7, yz⟩ := at8' X05
  have f0 := X05.frozen 0
  have f1 := X05.frozen 1
  have f2 := X05.frozen 2
  have f3 := X05.frozen 3
  have f4 := X05.frozen 4
  have f5 := X05.frozen 5
  have f6 := X05.frozen 6
  have f7 := X05.frozen 7
  have GV := HG.out.home B5 (H' := H') hloz (owns_below O1.out B25) (owns_below O2.out B25) (owns_below O3.out B25)
  have hnb : ∀ j, wr.heap.size ≤ j → hB ≠ j := fun j hj e => by have := hBz.out; omega
  have TV := set8_owns (owns_below O4.out B25) hB (fun j hj => hnb j ((O4.out.lt j hj).1)) (.slice al1 4 cl1) (.int .i64 H'.ow) (.slice ar1 H'.rd.length cr1) (.bool H'.bz) (.int .i64 H'.wh) (.bool H'.wo) (.int .i64 H'.ak) (.slice aq1 0 cq1)
  have LV : ∀ t ∈ ts, World.ownsRow _ wr.heap.size 3 1 t.2.v t.2.xs.length (t.2.xs.map (Value.int .i64)) := fun t ht => set8_owns (owns_below (O5.out t ht) B25) hB (fun j hj => hnb j (((O5.out t ht).lt j hj).1)) (.slice al1 4 cl1) (.int .i64 H'.ow) (.slice ar1 H'.rd.length cr1) (.bool H'.bz) (.int .i64 H'.wh) (.bool H'.wo) (.int .i64 H'.ak) (.slice aq1 0 cq1)
  have BV : Below lo w (set8 w5 hB (.slice al1 4 cl1) (.int .i64 H'.ow) (.slice ar1 H'.rd.length cr1) (.bool H'.bz) (.int .i64 H'.wh) (.bool H'.wo) (.int .i64 H'.ak) (.slice aq1 0 cq1)) := set8_below (HB.out.trans ⟨B5.os, B5.tape, B5.output, B5.size, fun i hi => B5.block i (by omega)⟩) hB HG.out.lh (.slice al1 4 cl1) (.int .i64 H'.ow) (.slice ar1 H'.rd.length cr1) (.bool H'.bz) (.int .i64 H'.wh) (.bool H'.wo) (.int .i64 H'.ak) (.slice aq1 0 cq1)
  have QV : QAt (set8 w5 hB (.slice al1 4 cl1) (.int .i64 H'.ow) (.slice ar1 H'.rd.length cr1) (.bool H'.bz) (.int .i64 H'.wh) (.bool H'.wo) (.int .i64 H'.ak) (.slice aq1 0 cq1)) u10 rest := (HQA.out.below B5).keep (fun g cs fr hg => by
    have hne : g ≠ hB := fun e => by
      have h9 := X05
      unfold Box at h9
      rw [e, h9] at hg
      simp at hg
    unfold set8
    repeat rw [Below.heap_setCell _ _ _ _ hne])
  obtain ⟨V, hV⟩ : ∃ V, set8 w5 hB (.slice al1 4 cl1) (.int .i64 H'.ow) (.slice ar1 H'.rd.length cr1) (.bool H'.bz) (.int .i64 H'.wh) (.bool H'.wo) (.int .i64 H'.ak) (.slice aq1 0 cq1) = V := ⟨_, rfl⟩
  rw [hV] at GV TV LV BV QV
  have hV2 := hV
  unfold set8 at hV2
  have hlV : lo ≤ V.heap.size := Nat.le_trans hlo BV.size
  have C3 : Hid (Ctx3 lo V sB wB at3 ct ts st wd u10) := by
    refine ⟨HG.out.sd, HSL.out, GV.s, GV.d, owns_base TV hloz, fun t ht => ⟨owns_base (LV t ht) hloz, fun e => by have := ((LV t ht).lt sB e).1; have := sBz.out; omega⟩, fun t ht => ?_, ?_, ?_, hlV⟩
    · have h9 := HT.out.k (tabs t) (by rw [← hts'.out]; exact List.mem_map_of_mem ht)
      refine ⟨h9.1, ?_⟩
      rcases h9.2 with h | h | h
      · exact .inl ⟨h, htx'.out t ht h⟩
      · exact .inr (.inl h)
      · exact .inr (.inr h)
    · rw [hts'.out]
      rcases HT.out.v with h | ⟨h, hb⟩
      · exact .inl h
      · obtain ⟨h0, h1⟩ := H1C.out hb
        exact .inr ⟨_, HQ1'.out h1⟩
    · have h9 := HT.out.n
      rw [← hts'.out, List.length_map] at h9
      exact h9
  have HGV : Hid (GL lo V hB sB wB _ _ _ H' st wd) := GV
  have HBV : Hid (Below lo w V) := BV
  have HQV : Hid (QAt V u10 rest) := QV
  have HR0 : Hid (Rel3 lo V sB wB ts st wd u10 u10 (.int .i64 ((0 : Nat) : Int)) V) := ⟨0, rfl, Nat.zero_le _, Only.refl _ _, GV.s, .inl ⟨rfl, rfl⟩⟩
  clear GV TV LV BV QV hV XN5 X05 B25 B5 hnb
  go_wp2_with fail
  refine g3_loop (v := u10) C3.out ?_ ?_ HR0.out
  · intro c a d v w h
    exact hpan.out c a d v w h
  · intro act wx hI
    unfold WX3 at hI
    obtain ⟨v10, hI⟩ := hI
    obtain ⟨u17, hI⟩ := hI
    obtain ⟨u85, hI⟩ := hI
    obtain ⟨u86, hI⟩ := hI
    obtain ⟨u87, hI⟩ := hI
    obtain ⟨u88, hI⟩ := hI
    obtain ⟨u89, hI⟩ := hI
    obtain ⟨u90, hI⟩ := hI
    obtain ⟨u91, hI⟩ := hI
    obtain ⟨u92, hI⟩ := hI
    obtain ⟨u93, hI⟩ := hI
    obtain ⟨u94, hI⟩ := hI
    obtain ⟨u95, hI⟩ := hI
    obtain ⟨u96, hI⟩ := hI
    obtain ⟨u97, hI⟩ := hI
    obtain ⟨u98, hI⟩ := hI
    obtain ⟨u99, hI⟩ := hI
    obtain ⟨u100, hI⟩ := hI
    obtain ⟨u101, hI⟩ := hI
    obtain ⟨u102, hI⟩ := hI
    obtain ⟨u103, hI⟩ := hI
    obtain ⟨u104, hI⟩ := hI
    obtain ⟨u105, hI⟩ := hI
    obtain ⟨u106, hI⟩ := hI
    obtain ⟨u107, hI⟩ := hI
    obtain ⟨u108, hI⟩ := hI
    obtain ⟨u109, hI⟩ := hI
    obtain ⟨u110, hI⟩ := hI
    obtain ⟨u111, hI⟩ := hI
    obtain ⟨u112, hI⟩ := hI
    obtain ⟨u113, hI⟩ := hI
    obtain ⟨u114, hI⟩ := hI
    obtain ⟨u115, hI⟩ := hI
    obtain ⟨u116, hI⟩ := hI
    obtain ⟨u117, hI⟩ := hI
    obtain ⟨u118, hI⟩ := hI
    obtain ⟨u119, hI⟩ := hI
    obtain ⟨u120, hI⟩ := hI
    obtain ⟨u121, hI⟩ := hI
    obtain ⟨u122, hI⟩ := hI
    obtain ⟨u123, hI⟩ := hI
    obtain ⟨u124, hI⟩ := hI
    obtain ⟨u125, hI⟩ := hI
    obtain ⟨u126, hI⟩ := hI
    obtain ⟨u127, hI⟩ := hI
    obtain ⟨u128, hI⟩ := hI
    obtain ⟨u129, hI⟩ := hI
    obtain ⟨u130, hI⟩ := hI
    obtain ⟨u131, hI⟩ := hI
    obtain ⟨u132, hI⟩ := hI
    obtain ⟨u133, hI⟩ := hI
    obtain ⟨u134, hI⟩ := hI
    obtain ⟨u135, hI⟩ := hI
    obtain ⟨u136, hI⟩ := hI
    obtain ⟨u137, hI⟩ := hI
    obtain ⟨u138, hI⟩ := hI
    obtain ⟨u139, hI⟩ := hI
    obtain ⟨u140, hI⟩ := hI
    obtain ⟨u141, hI⟩ := hI
    obtain ⟨u142, hI⟩ := hI
    obtain ⟨u143, hI⟩ := hI
    obtain ⟨u144, hI⟩ := hI
    obtain ⟨u145, hI⟩ := hI
    obtain ⟨u146, hI⟩ := hI
    obtain ⟨u147, hI⟩ := hI
    obtain ⟨u148, hI⟩ := hI
    obtain ⟨u149, hI⟩ := hI
    obtain ⟨u150, hI⟩ := hI
    obtain ⟨hrel, rfl⟩ := hI
    obtain ⟨j, hj, hjl, on, hs, hq⟩ := hrel
    have hjt : j = ts.length := by simp at hj; omega
    have htk : (ts.map tabs).take j = TS := by rw [hjt, ← hts'.out, List.take_of_length_le (by simp)]
    rw [htk] at hs hq
    have HGX : Hid (GL lo wx hB sB wB _ _ _ H' (stF st TS) wd) := HGV.out.only on hs
    have HBX : Hid (Below lo w wx) := HBV.out.trans ⟨on.os, on.tape, on.output, on.size, fun i hi => on.block i (by omega) (fun e => by have := (HG.out.s.lt sB rfl).1; omega)⟩
    have HV10 : Hid (∃ a n c, n = (rest ++ ansF wB wd TS).length ∧ v10 = .slice a n c) := by
      rcases hq with ⟨h0, h1⟩ | ⟨h0, h1⟩
      · obtain ⟨g, o, c, _, _, h2, _⟩ := HQV.out
        exact ⟨_, _, _, by rw [h0, List.append_nil], h1.trans h2⟩
      · obtain ⟨a, c, rfl⟩ := owns_slice h1
        have hr : rest = [] := by rcases HT.out.v with h | h; exact absurd h h0; exact h.1
        exact ⟨a, _, c, by rw [hr, List.nil_append], rfl⟩
    have HQX : Hid (QAt wx v10 (rest ++ ansF wB wd TS)) := by
      rcases hq with ⟨h0, h1⟩ | ⟨h0, h1⟩
      · rw [h0, List.append_nil, h1]
        exact HQV.out.keep (fun g cs fr hg => on.block g (Array.getElem?_eq_some_iff.1 hg).1 (fun e => by
          obtain ⟨_, cs2, fr2, h9⟩ := owns_block HGV.out.s (show (Value.slice (some ⟨sB, 0, none⟩) 3 3).ownBlock = some sB from rfl)
          rw [e, h9] at hg
          simp at hg))
      · have hr : rest = [] := by rcases HT.out.v with h | h; exact absurd h h0; exact h.1
        rw [hr, List.nil_append]
        obtain ⟨a, c, rfl⟩ := owns_slice h1
        obtain ⟨g, rfl⟩ := owns_addr h1 (List.length_pos_iff.2 h0)
        exact QAt.of_owns h1
    clear hs hq on hj
    go_wp2
    obtain ⟨a9, n9, c9, hn9, rfl⟩ := HV10.out
    refine ⟨?_, ?_⟩
    · unfold WI2
      refine ⟨_, _, _, _, _, _, _, _, _, _, _, _, _, _, _, _, _, _, _, _, _, _, _, _, _, _, _, _, _, _, _, _, _, _, _, _, _, _, _, _, _, _, _, _, _, _, _, _, _, _, _, _, _, _, _, _, _, _, _, _, _, _, _, _, _, _, _, _, _, _, _, _, _, _, _, _, _, _, _, _, _, _, _, _, _, _, _, _, _, _, _, _, _, _, _, _, _, _, _, _, _, _, _, _, _, ?_, rfl⟩
      exact ⟨_, _, _, H', stF st TS, _, HGX.out, HQX.out, HT.out.ph, fun hb hne => by rcases HT.out.nb with h | h; exact absurd h hne; (rw [hb] at h; cases h), HBX.out⟩
    · have m1 := muV_P HGX.out a9 n9 c9
      have m0 := muV_P HG.out (some ⟨gq, off, none⟩) (rest.length + 1) cq
      have m2 := HT.out.mu
      rw [← hn9, ← m1, ← m0] at m2
      exact m2
end Go.Proofs.Ytliihkdocbpolaa
