/- One way through a round of FnHomeGives' great loop. -/
import Derived.Test.YtliihkdocbpolaaGv1b
import Derived.BigQuiet
import Derived.Deep.QuietTactic
namespace Go.Proofs.Ytliihkdocbpolaa
open Go.RowKit
set_option linter.unusedVariables false

set_option maxRecDepth 1000000 in
set_option maxHeartbeats 8000000 in
theorem g1_qd {a : Option Addr} {ca : Nat} {bs : List Int} {w : World} {hB sB wB : Nat} {c1 c2 c21 c22 c23 c24 c25 : Value} {u7 u8 u9 u10 u11 u12 u13 u14 u15 u16 u17 u18 u19 u20 u26 u27 u28 u29 u30 u31 u32 u33 u34 u35 u36 u37 u38 u39 u40 u41 u42 u43 u44 u45 u46 u47 u48 u49 u50 u51 u52 u53 u54 u55 u56 u57 u58 u59 u60 u61 u62 u63 u64 u65 u66 u67 u68 u69 u70 u71 u72 u73 u74 u75 u76 u77 u78 u79 u80 u81 u82 u83 u84 u85 u86 u87 u88 u89 u90 u91 u92 u93 u94 u95 u96 u97 u98 u99 u100 u101 u102 u103 u104 u105 u106 u107 u108 u109 u110 u111 u112 u113 u114 u115 u116 u117 u118 u119 u120 u121 u122 u123 u124 u125 u126 u127 u128 u129 u130 u131 u132 u133 u134 u135 u136 u137 u138 u139 u140 u141 u142 u143 u144 u145 u146 u147 u148 u149 u150 u151 u152 u153 u154 u155 u156 u157 u158 u159 u160 u161 u162 u163 u164 u165 u166 u167 u168 u169 u170 u171 u172 u173 u174 u175 u176 u177 u178 u179 u180 u181 u182 u183 u184 u185 u186 u187 u188 u189 : Value} {i who : Nat} {vl vr vq : Value} {H : Hm} {st wd : List Int} {wr : World} {Q0 : Exit → Act → World → Prop}
    (hi : i < 30) (hr : Row .u8 w a bs) (hbs : ∀ x ∈ bs, 0 ≤ x ∧ x ≤ 255) (hl : bs.length ≤ 1048576) (G : GL w.heap.size wr hB sB wB vl vr vq H st wd) (hR : Rest H st wd) (hdw : wd.all wordB = true) (B : Below w.heap.size w wr) (hwho : atV bs i % 3 = (who : Int))
    (hpan : Hid (∀ (c : List PanicEntry) (a : Act) (d : Option Tmp) (v : Value) (w : World), Q0 (.panic c) (a.put d v) w → Q0 (.panic c) a w)) (hown : (atV bs i / 3 % 2 == 0) = false) (h2 : st.getD who 0 ≠ 2) :
    Code.wp Try.prog ((Try.f3.body.bind (findL 9)).getD .skip) (Exit.then (fun a' w'' => WI1 a ca bs w hB sB wB c1 c2 c21 c22 c23 c24 c25 a' w'' ∧ mu1 a' w'' < mu1 ⟨#[.slice a bs.length ca, c1, c2, .pointer (some ⟨hB, 0, none⟩), .slice (some ⟨sB, 0, none⟩) 3 3, .slice (some ⟨wB, 0, none⟩) 4 4, .int .i64 (i : Nat), u7, u8, u9, u10, u11, u12, u13, u14, u15, u16, u17, u18, u19, u20, c21, c22, c23, c24, c25, u26, u27, u28, u29, u30, u31, u32, u33, u34, u35, u36, u37, u38, u39, u40, u41, u42, u43, u44, u45, u46, u47, u48, u49, u50, u51, u52, u53, u54, u55, u56, u57, u58, u59, u60, u61, u62, u63, u64, u65, u66, u67, u68, u69, u70, u71, u72, u73, u74, u75, u76, u77, u78, u79, u80, u81, u82, u83, u84, u85, u86, u87, u88, u89, u90, u91, u92, u93, u94, u95, u96, u97, u98, u99, u100, u101, u102, u103, u104, u105, u106, u107, u108, u109, u110, u111, u112, u113, u114, u115, u116, u117, u118, u119, u120, u121, u122, u123, u124, u125, u126, u127, u128, u129, u130, u131, u132, u133, u134, u135, u136, u137, u138, u139, u140, u141, u142, u143, u144, u145, u146, u147, u148, u149, u150, u151, u152, u153, u154, u155, u156, u157, u158, u159, u160, u161, u162, u163, u164, u165, u166, u167, u168, u169, u170, u171, u172, u173, u174, u175, u176, u177, u178, u179, u180, u181, u182, u183, u184, u185, u186, u187, u188, u189], []⟩ wr) Q0) ⟨#[.slice a bs.length ca, c1, c2, .pointer (some ⟨hB, 0, none⟩), .slice (some ⟨sB, 0, none⟩) 3 3, .slice (some ⟨wB, 0, none⟩) 4 4, .int .i64 (i : Nat), u7, u8, u9, u10, u11, u12, u13, u14, u15, u16, u17, u18, u19, u20, c21, c22, c23, c24, c25, u26, u27, u28, u29, u30, u31, u32, u33, u34, u35, u36, u37, u38, u39, u40, u41, u42, u43, u44, u45, u46, u47, u48, u49, u50, u51, u52, u53, u54, u55, u56, u57, u58, u59, u60, u61, u62, u63, u64, u65, u66, u67, u68, u69, u70, u71, u72, u73, u74, u75, u76, u77, u78, u79, u80, u81, u82, u83, u84, u85, u86, u87, u88, u89, u90, u91, u92, u93, u94, u95, u96, u97, u98, u99, u100, u101, u102, u103, u104, u105, u106, u107, u108, u109, u110, u111, u112, u113, u114, u115, u116, u117, u118, u119, u120, u121, u122, u123, u124, u125, u126, u127, u128, u129, u130, u131, u132, u133, u134, u135, u136, u137, u138, u139, u140, u141, u142, u143, u144, u145, u146, u147, u148, u149, u150, u151, u152, u153, u154, u155, u156, u157, u158, u159, u160, u161, u162, u163, u164, u165, u166, u167, u168, u169, u170, u171, u172, u173, u174, u175, u176, u177, u178, u179, u180, u181, u182, u183, u184, u185, u186, u187, u188, u189], []⟩ wr := by
  conv => arg 2; whnf
  have hw3 : who < 3 := by omega
  have hsl := rest_len hR
  have hrr := hr.below B
  have hi' : (i : Int) < 30 := by omega
  have HRR : Hid (Row .u8 wr a bs) := hrr
  have HBS : Hid (∀ x ∈ bs, 0 ≤ x ∧ x ≤ 255) := hbs
  have HLB : Hid (bs.length ≤ 1048576) := hl
  have sc : wr.cell? ⟨sB, who, none⟩ = some (.int .i64 (st.getD who 0)) := by rw [G.s.cellAt who (by omega)]; simp [hsl, hw3]
  have sz : sB < wr.heap.size := (G.s.lt sB rfl).2
  have hwi : (who : Int) < 3 := by omega
  have HG : Hid (GL w.heap.size wr hB sB wB vl vr vq H st wd) := G
  have HB : Hid (Below w.heap.size w wr) := B
  have HR : Hid (Rest H st wd) := hR
  have HDW : Hid (wd.all wordB = true) := hdw
  have HSL : Hid (st.length = 3) := hsl
  clear G B hR hdw hr hrr hbs hl hsl
  go_wp2_with fail
  refine (at_any a ca bs i _ (by omega) HLB.out HRR.out HBS.out).mono ?_
  rintro e w1 ⟨x, rfl, hx, hx0, hx1, hw⟩
  subst hw
  rw [← hx] at hwho hown
  clear hx
  have hwm : x.tmod 3 = (who : Int) := by rw [← hwho]; exact Int.tmod_eq_emod_of_nonneg hx0
  have hdl : Hid (wd.length = 4) := by have := HG.out.d.1; show _ = _; simpa using this
  have hn2 : ((st.getD who 0) == 2) = false := by simpa using h2
  have hn2b : ¬ (st.getD who 0 = 2) := h2
  obtain ⟨sv, hsv⟩ : ∃ sv, st.getD who 0 = sv := ⟨_, rfl⟩
  rw [hsv] at sc hn2 hn2b
  have H2 : Hid (st.getD who 0 ≠ 2) := h2
  have b0 := bel_alloc (Below.refl w1.heap.size w1) (.cells #[.int .i64 (who : Int), .int .i64 1, .int .i64 0, .bool false, .slice none 0 0] 36)
  have XQ := Box.new w1 #[.int .i64 (who : Int), .int .i64 1, .int .i64 0, .bool false, .slice none 0 0] 36
  obtain ⟨W0, hW0⟩ : ∃ W0, w1.alloc (.cells #[.int .i64 (who : Int), .int .i64 1, .int .i64 0, .bool false, .slice none 0 0] 36) = W0 := ⟨_, rfl⟩
  rw [hW0] at b0 XQ
  have HREL : Hid (Rel2 w.heap.size w hB sB wB who false wd (.slice (some ⟨w1.heap.size, 0, none⟩) 1 1) W0) := by
    refine ⟨vl, vr, vq, H, st, [((who : Int), askM false)], HG.out.below b0, ?_, Ph.ask H st HR.out h2, fun _ _ => ⟨w1.heap.size, rfl⟩, bel_trans HB.out b0⟩
    refine ⟨w1.heap.size, 0, 1, _, _, rfl, Nat.le_refl _, XQ, fun j u hu => ?_⟩
    rw [Nat.zero_add]
    have hj : j < 5 := by have := (List.getElem?_eq_some_iff.1 hu).1; simpa [tflat, tcells] using this
    obtain rfl | rfl | rfl | rfl | rfl : j = 0 ∨ j = 1 ∨ j = 2 ∨ j = 3 ∨ j = 4 := by omega
    all_goals exact hu
  clear h2 hsv b0 XQ HG HB HR
  go_wp2_with fail
  refine g2_loop (own := false) hw3 (Nat.le_refl _) hdl.out HDW.out ?_ ?_ HREL.out
  · intro c a d v w h
    exact hpan.out c a d v w h
  · intro act wx hI
    unfold WX2 at hI
    obtain ⟨v10, hI⟩ := hI
    obtain ⟨u11, hI⟩ := hI
    obtain ⟨u12, hI⟩ := hI
    obtain ⟨u13, hI⟩ := hI
    obtain ⟨u14, hI⟩ := hI
    obtain ⟨u15, hI⟩ := hI
    obtain ⟨u16, hI⟩ := hI
    obtain ⟨u17, hI⟩ := hI
    obtain ⟨u54, hI⟩ := hI
    obtain ⟨u55, hI⟩ := hI
    obtain ⟨u56, hI⟩ := hI
    obtain ⟨u57, hI⟩ := hI
    obtain ⟨u58, hI⟩ := hI
    obtain ⟨u59, hI⟩ := hI
    obtain ⟨u60, hI⟩ := hI
    obtain ⟨u61, hI⟩ := hI
    obtain ⟨u62, hI⟩ := hI
    obtain ⟨u63, hI⟩ := hI
    obtain ⟨u64, hI⟩ := hI
    obtain ⟨u65, hI⟩ := hI
    obtain ⟨u66, hI⟩ := hI
    obtain ⟨u67, hI⟩ := hI
    obtain ⟨u68, hI⟩ := hI
    obtain ⟨u69, hI⟩ := hI
    obtain ⟨u70, hI⟩ := hI
    obtain ⟨u71, hI⟩ := hI
    obtain ⟨u72, hI⟩ := hI
    obtain ⟨u73, hI⟩ := hI
    obtain ⟨u74, hI⟩ := hI
    obtain ⟨u75, hI⟩ := hI
    obtain ⟨u76, hI⟩ := hI
    obtain ⟨u77, hI⟩ := hI
    obtain ⟨u78, hI⟩ := hI
    obtain ⟨u79, hI⟩ := hI
    obtain ⟨u80, hI⟩ := hI
    obtain ⟨u81, hI⟩ := hI
    obtain ⟨u82, hI⟩ := hI
    obtain ⟨u83, hI⟩ := hI
    obtain ⟨u84, hI⟩ := hI
    obtain ⟨u85, hI⟩ := hI
    obtain ⟨u86, hI⟩ := hI
    obtain ⟨u87, hI⟩ := hI
    obtain ⟨u88, hI⟩ := hI
    obtain ⟨u89, hI⟩ := hI
    obtain ⟨u90, hI⟩ := hI
    obtain ⟨u91, hI⟩ := hI
    obtain ⟨u92, hI⟩ := hI
    obtain ⟨u93, hI⟩ := hI
    obtain ⟨u94, hI⟩ := hI
    obtain ⟨u95, hI⟩ := hI
    obtain ⟨u96, hI⟩ := hI
    obtain ⟨u97, hI⟩ := hI
    obtain ⟨u98, hI⟩ := hI
    obtain ⟨u99, hI⟩ := hI
    obtain ⟨u100, hI⟩ := hI
    obtain ⟨u101, hI⟩ := hI
    obtain ⟨u102, hI⟩ := hI
    obtain ⟨u103, hI⟩ := hI
    obtain ⟨u104, hI⟩ := hI
    obtain ⟨u105, hI⟩ := hI
    obtain ⟨u106, hI⟩ := hI
    obtain ⟨u107, hI⟩ := hI
    obtain ⟨u108, hI⟩ := hI
    obtain ⟨u109, hI⟩ := hI
    obtain ⟨u110, hI⟩ := hI
    obtain ⟨u111, hI⟩ := hI
    obtain ⟨u112, hI⟩ := hI
    obtain ⟨u113, hI⟩ := hI
    obtain ⟨u114, hI⟩ := hI
    obtain ⟨u115, hI⟩ := hI
    obtain ⟨u116, hI⟩ := hI
    obtain ⟨u117, hI⟩ := hI
    obtain ⟨u118, hI⟩ := hI
    obtain ⟨u119, hI⟩ := hI
    obtain ⟨u120, hI⟩ := hI
    obtain ⟨u121, hI⟩ := hI
    obtain ⟨u122, hI⟩ := hI
    obtain ⟨u123, hI⟩ := hI
    obtain ⟨u124, hI⟩ := hI
    obtain ⟨u125, hI⟩ := hI
    obtain ⟨u126, hI⟩ := hI
    obtain ⟨u127, hI⟩ := hI
    obtain ⟨u128, hI⟩ := hI
    obtain ⟨u129, hI⟩ := hI
    obtain ⟨u130, hI⟩ := hI
    obtain ⟨u131, hI⟩ := hI
    obtain ⟨u132, hI⟩ := hI
    obtain ⟨u133, hI⟩ := hI
    obtain ⟨u134, hI⟩ := hI
    obtain ⟨u135, hI⟩ := hI
    obtain ⟨u136, hI⟩ := hI
    obtain ⟨u137, hI⟩ := hI
    obtain ⟨u138, hI⟩ := hI
    obtain ⟨u139, hI⟩ := hI
    obtain ⟨u140, hI⟩ := hI
    obtain ⟨u141, hI⟩ := hI
    obtain ⟨u142, hI⟩ := hI
    obtain ⟨u143, hI⟩ := hI
    obtain ⟨u144, hI⟩ := hI
    obtain ⟨u145, hI⟩ := hI
    obtain ⟨u146, hI⟩ := hI
    obtain ⟨u147, hI⟩ := hI
    obtain ⟨u148, hI⟩ := hI
    obtain ⟨u149, hI⟩ := hI
    obtain ⟨u150, hI⟩ := hI
    obtain ⟨hE, rfl⟩ := hI
    obtain ⟨vl', vr', vq', H', st', G', hR', hs0, B'⟩ := hE
    have hsl' := rest_len hR'
    have SC : Hid (∀ j, j < 3 → wx.cell? ⟨sB, j, none⟩ = some (.int .i64 (st'.getD j 0))) := fun j hj => by rw [G'.s.cellAt j (by omega)]; simp [hsl', hj]
    have sz' : sB < wx.heap.size := (G'.s.lt sB rfl).2
    have hb3 : wx.cell? ⟨hB, 3, none⟩ = some (.bool false) := by have h9 : wx.cell? ⟨hB, 3, none⟩ = some (.bool H'.bz) := G'.h.cell 3; rw [hR'.1] at h9; exact h9
    have hbz' := G'.h.lt
    have HG' : Hid (GL w.heap.size wx hB sB wB vl' vr' vq' H' st' wd) := G'
    have HR' : Hid (Rest H' st' wd) := hR'
    have HB' : Hid (Below w.heap.size w wx) := B'
    have HS0 : Hid (st'.getD who 0 ≠ 0) := hs0
    have HSL' : Hid (st'.length = 3) := hsl'
    clear G' hR' hs0 B' hsl' HREL sc sz hW0
    go_wp2_with fail
    go_loopw [18, 19, 20] (fun s18 s19 s20 wz => ∃ j : Nat, j ≤ 3 ∧ s20 = .int .i64 j ∧ s18 = .int .i64 (cH (st'.take j) : Int) ∧ s19 = .int .i64 (cW (st'.take j) : Int) ∧ wx = wz) (fun _ _ s20 _ => 3 - (intOf s20).toNat)
    case atStart => exact ⟨0, Nat.zero_le _, rfl, rfl, rfl, rfl⟩
    case round =>
      obtain ⟨j, hj3, rfl, rfl, rfl, hwz⟩ := hrel
      subst hwz
      have hcl := c_le (st'.take j)
      have htl : (st'.take j).length ≤ 3 := by rw [List.length_take]; omega
      by_cases hjl : j < 3
      · have hji : (j : Int) < 3 := by omega
        have sj := SC.out j hjl
        have HTK : Hid (st'.take (j + 1) = st'.take j ++ [st'.getD j 0]) := take_snoc _ _ _ (by have := HSL'.out; simp [this, hjl])
        obtain ⟨y, hy⟩ : ∃ y, st'.getD j 0 = y := ⟨_, rfl⟩
        rw [hy] at sj HTK
        have HH : Hid (cH (st'.take (j + 1)) = cH (st'.take j) + if 0 < y then 1 else 0) := by show _ = _; rw [HTK.out, cH_snoc]
        have HW : Hid (cW (st'.take (j + 1)) = cW (st'.take j) + if y = 2 then 1 else 0) := by show _ = _; rw [HTK.out, cW_snoc]
        obtain ⟨hn, hhn⟩ : ∃ n, cH (st'.take j) = n := ⟨_, rfl⟩
        obtain ⟨wn, hwn⟩ : ∃ n, cW (st'.take j) = n := ⟨_, rfl⟩
        rw [hhn] at HH hcl ⊢
        rw [hwn] at HW hcl ⊢
        clear hy hhn hwn
        have hcl1 : hn ≤ 3 := Nat.le_trans hcl.1 htl
        have hcl2 : wn ≤ 3 := Nat.le_trans hcl.2 htl
        clear hcl
        by_cases hy0 : 0 < y
        · by_cases hy2 : y = 2
          · subst hy2
            go_wp2_with fail
            go_roundw
            case rel => exact ⟨j + 1, by omega, by go_num, by rw [HH.out]; go_num, by rw [HW.out]; go_num, by first | rfl | trivial⟩
            case measure => simp [intOf]; omega
          · have hy2b : (y == 2) = false := by simpa using hy2
            go_wp2_with fail
            go_roundw
            case rel => exact ⟨j + 1, by omega, by go_num, by rw [HH.out, if_pos hy0]; go_num, by rw [HW.out, if_neg hy2]; go_num, by first | rfl | trivial⟩
            case measure => simp [intOf]; omega
        · have hy1 : y ≤ 0 := by omega
          have hy2 : ¬ y = 2 := by omega
          have hy2b : (y == 2) = false := by simpa using hy2
          go_wp2_with fail
          go_roundw
          case rel => exact ⟨j + 1, by omega, by go_num, by rw [HH.out, if_neg hy0]; go_num, by rw [HW.out, if_neg hy2]; go_num, by first | rfl | trivial⟩
          case measure => simp [intOf]; omega
      · have hje : j = 3 := by omega
        subst hje
        have htt : st'.take 3 = st' := List.take_of_length_le (by have := HSL'.out; omega)
        rw [htt]
        have sw := SC.out who hw3
        have hz0 := HS0.out
        obtain ⟨sv', hsv'⟩ : ∃ y, st'.getD who 0 = y := ⟨_, rfl⟩
        rw [hsv'] at sw hz0
        have hz1 : (sv' == 0) = false := by simpa using hz0
        have hz2 : ¬ sv' = 0 := hz0
        have HF : Hid (Rel1 w hB sB wB (.int .i64 ((i + 1 : Nat) : Int)) wx) := ⟨i + 1, vl', vr', vq', H', st', wd, rfl, by omega, HG'.out, HR'.out, HDW.out, HB'.out⟩
        rcases rest_counts HR'.out with hc | ⟨hc, hc'⟩
        · rw [hc]
          obtain ⟨hn, hhn⟩ : ∃ n, cH st' = n := ⟨_, rfl⟩
          rw [hhn]
          clear hhn hc hcl htt
          go_wp2_with fail
          refine ⟨?_, by simp [mu1, intOf]; omega⟩
          unfold WI1
          refine ⟨_, _, _, _, _, _, _, _, _, _, _, _, _, _, _, _, _, _, _, _, _, _, _, _, _, _, _, _, _, _, _, _, _, _, _, _, _, _, _, _, _, _, _, _, _, _, _, _, _, _, _, _, _, _, _, _, _, _, _, _, _, _, _, _, _, _, _, _, _, _, _, _, _, _, _, _, _, _, _, _, _, _, _, _, _, _, _, _, _, _, _, _, _, _, _, _, _, _, _, _, _, _, _, _, _, _, _, _, _, _, _, _, _, _, _, _, _, _, _, _, _, _, _, _, _, _, _, _, _, _, _, _, _, _, _, _, _, _, _, _, _, _, _, _, _, _, _, _, _, _, _, _, _, _, _, _, _, _, _, _, _, _, _, _, _, _, _, _, _, _, _, _, _, _, _, _, _, _, _, HF.out, rfl⟩
        · rw [hc, hc']
          clear hc hc' hcl htt
          go_wp2_with fail
          refine ⟨?_, by simp [mu1, intOf]; omega⟩
          unfold WI1
          refine ⟨_, _, _, _, _, _, _, _, _, _, _, _, _, _, _, _, _, _, _, _, _, _, _, _, _, _, _, _, _, _, _, _, _, _, _, _, _, _, _, _, _, _, _, _, _, _, _, _, _, _, _, _, _, _, _, _, _, _, _, _, _, _, _, _, _, _, _, _, _, _, _, _, _, _, _, _, _, _, _, _, _, _, _, _, _, _, _, _, _, _, _, _, _, _, _, _, _, _, _, _, _, _, _, _, _, _, _, _, _, _, _, _, _, _, _, _, _, _, _, _, _, _, _, _, _, _, _, _, _, _, _, _, _, _, _, _, _, _, _, _, _, _, _, _, _, _, _, _, _, _, _, _, _, _, _, _, _, _, _, _, _, _, _, _, _, _, _, _, _, _, _, _, _, _, _, _, _, _, _, HF.out, rfl⟩
end Go.Proofs.Ytliihkdocbpolaa
