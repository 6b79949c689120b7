/- Gv1 and Gv1a and Gv1b: see the heads of the parts. -/
import Derived.Test.YtliihkdocbpolaaGv2L
import Derived.BigQuiet
import Derived.Deep.QuietTactic
/- FnHomeGives' great loop, taken out of its code; what stands at each round. -/
namespace Go.Proofs.Ytliihkdocbpolaa
open Go.RowKit
set_option linter.unusedVariables false

def Rel1 (w : World) (hB sB wB : Nat) (v6 : Value) (w' : World) : Prop :=
  ∃ (i : Nat) (vl vr vq : Value) (H : Hm) (st wd : List Int), v6 = .int .i64 i ∧ i ≤ 30 ∧ GL w.heap.size w' hB sB wB vl vr vq H st wd ∧ Rest H st wd ∧ wd.all wordB = true ∧ Below w.heap.size w w'

set_option maxRecDepth 1000000 in
def WI1 (a : Option Addr) (ca : Nat) (bs : List Int) (w : World) (hB sB wB : Nat) (c1 c2 c21 c22 c23 c24 c25 : Value) (act : Act) (w' : World) : Prop :=
  ∃ v6 u7 u8 u9 u10 u11 u12 u13 u14 u15 u16 u17 u18 u19 u20 u26 u27 u28 u29 u30 u31 u32 u33 u34 u35 u36 u37 u38 u39 u40 u41 u42 u43 u44 u45 u46 u47 u48 u49 u50 u51 u52 u53 u54 u55 u56 u57 u58 u59 u60 u61 u62 u63 u64 u65 u66 u67 u68 u69 u70 u71 u72 u73 u74 u75 u76 u77 u78 u79 u80 u81 u82 u83 u84 u85 u86 u87 u88 u89 u90 u91 u92 u93 u94 u95 u96 u97 u98 u99 u100 u101 u102 u103 u104 u105 u106 u107 u108 u109 u110 u111 u112 u113 u114 u115 u116 u117 u118 u119 u120 u121 u122 u123 u124 u125 u126 u127 u128 u129 u130 u131 u132 u133 u134 u135 u136 u137 u138 u139 u140 u141 u142 u143 u144 u145 u146 u147 u148 u149 u150 u151 u152 u153 u154 u155 u156 u157 u158 u159 u160 u161 u162 u163 u164 u165 u166 u167 u168 u169 u170 u171 u172 u173 u174 u175 u176 u177 u178 u179 u180 u181 u182 u183 u184 u185 u186 u187 u188 u189 : Value, Rel1 w hB sB wB v6 w' ∧ act = ⟨#[.slice a bs.length ca, c1, c2, .pointer (some ⟨hB, 0, none⟩), .slice (some ⟨sB, 0, none⟩) 3 3, .slice (some ⟨wB, 0, none⟩) 4 4, v6, u7, u8, u9, u10, u11, u12, u13, u14, u15, u16, u17, u18, u19, u20, c21, c22, c23, c24, c25, u26, u27, u28, u29, u30, u31, u32, u33, u34, u35, u36, u37, u38, u39, u40, u41, u42, u43, u44, u45, u46, u47, u48, u49, u50, u51, u52, u53, u54, u55, u56, u57, u58, u59, u60, u61, u62, u63, u64, u65, u66, u67, u68, u69, u70, u71, u72, u73, u74, u75, u76, u77, u78, u79, u80, u81, u82, u83, u84, u85, u86, u87, u88, u89, u90, u91, u92, u93, u94, u95, u96, u97, u98, u99, u100, u101, u102, u103, u104, u105, u106, u107, u108, u109, u110, u111, u112, u113, u114, u115, u116, u117, u118, u119, u120, u121, u122, u123, u124, u125, u126, u127, u128, u129, u130, u131, u132, u133, u134, u135, u136, u137, u138, u139, u140, u141, u142, u143, u144, u145, u146, u147, u148, u149, u150, u151, u152, u153, u154, u155, u156, u157, u158, u159, u160, u161, u162, u163, u164, u165, u166, u167, u168, u169, u170, u171, u172, u173, u174, u175, u176, u177, u178, u179, u180, u181, u182, u183, u184, u185, u186, u187, u188, u189], []⟩
def mu1 (act : Act) (_ : World) : Nat := 30 - (intOf (act.tmps.getD 6 undef)).toNat

theorem rest_two {H : Hm} {st wd : List Int} (h : Rest H st wd) {who : Nat} (hw : who < 3) (h2 : st.getD who 0 = 2) (wd' : List Int) : Rest H st wd' := by
  obtain ⟨h1, h2', h3, h4, h5, hc⟩ := h
  refine ⟨h1, h2', h3, h4, h5, ?_⟩
  rcases hc with ⟨_, _, b0, b1, b2, _, rfl⟩ | h
  · exfalso
    obtain rfl | rfl | rfl : who = 0 ∨ who = 1 ∨ who = 2 := by omega
    all_goals (revert h2; cases b0 <;> cases b1 <;> cases b2 <;> decide)
  · exact .inr h
theorem rest_len {H : Hm} {st wd : List Int} (h : Rest H st wd) : st.length = 3 := by
  obtain ⟨_, _, _, _, _, ⟨_, _, b0, b1, b2, _, rfl⟩ | ⟨o, _, _, _, rfl⟩⟩ := h <;> simp

def cH (l : List Int) : Nat := (l.filter fun x => decide (0 < x)).length
def cW (l : List Int) : Nat := (l.filter fun x => x == 2).length
theorem cH_snoc (l : List Int) (x : Int) : cH (l ++ [x]) = cH l + if 0 < x then 1 else 0 := by
  unfold cH
  rw [List.filter_append, List.length_append]
  by_cases h : 0 < x <;> simp [h]
theorem cW_snoc (l : List Int) (x : Int) : cW (l ++ [x]) = cW l + if x = 2 then 1 else 0 := by
  unfold cW
  rw [List.filter_append, List.length_append]
  by_cases h : x = 2 <;> simp [h]
theorem c_le (l : List Int) : cH l ≤ l.length ∧ cW l ≤ l.length := ⟨List.length_filter_le _ _, List.length_filter_le _ _⟩
theorem rest_counts {H : Hm} {st wd : List Int} (h : Rest H st wd) : cW st = 0 ∨ (cW st = 1 ∧ cH st = 1) := by
  obtain ⟨_, _, _, _, _, ⟨_, _, b0, b1, b2, _, rfl⟩ | ⟨o, ho, _, _, rfl⟩⟩ := h
  · left
    cases b0 <;> cases b1 <;> cases b2 <;> rfl
  · right
    obtain rfl | rfl | rfl : o = 0 ∨ o = 1 ∨ o = 2 := by omega
    all_goals exact ⟨rfl, rfl⟩
end Go.Proofs.Ytliihkdocbpolaa

/- One way through a round of FnHomeGives' great loop. -/
namespace Go.Proofs.Ytliihkdocbpolaa
open Go.RowKit
set_option linter.unusedVariables false

set_option maxRecDepth 1000000 in
set_option maxHeartbeats 8000000 in
theorem g1_wa {a : Option Addr} {ca : Nat} {bs : List Int} {w : World} {hB sB wB : Nat} {c1 c2 c21 c22 c23 c24 c25 : Value} {u7 u8 u9 u10 u11 u12 u13 u14 u15 u16 u17 u18 u19 u20 u26 u27 u28 u29 u30 u31 u32 u33 u34 u35 u36 u37 u38 u39 u40 u41 u42 u43 u44 u45 u46 u47 u48 u49 u50 u51 u52 u53 u54 u55 u56 u57 u58 u59 u60 u61 u62 u63 u64 u65 u66 u67 u68 u69 u70 u71 u72 u73 u74 u75 u76 u77 u78 u79 u80 u81 u82 u83 u84 u85 u86 u87 u88 u89 u90 u91 u92 u93 u94 u95 u96 u97 u98 u99 u100 u101 u102 u103 u104 u105 u106 u107 u108 u109 u110 u111 u112 u113 u114 u115 u116 u117 u118 u119 u120 u121 u122 u123 u124 u125 u126 u127 u128 u129 u130 u131 u132 u133 u134 u135 u136 u137 u138 u139 u140 u141 u142 u143 u144 u145 u146 u147 u148 u149 u150 u151 u152 u153 u154 u155 u156 u157 u158 u159 u160 u161 u162 u163 u164 u165 u166 u167 u168 u169 u170 u171 u172 u173 u174 u175 u176 u177 u178 u179 u180 u181 u182 u183 u184 u185 u186 u187 u188 u189 : Value} {i who : Nat} {vl vr vq : Value} {H : Hm} {st wd : List Int} {wr : World} {Q0 : Exit → Act → World → Prop}
    (hi : i < 30) (hr : Row .u8 w a bs) (hbs : ∀ x ∈ bs, 0 ≤ x ∧ x ≤ 255) (hl : bs.length ≤ 1048576) (G : GL w.heap.size wr hB sB wB vl vr vq H st wd) (hR : Rest H st wd) (hdw : wd.all wordB = true) (B : Below w.heap.size w wr) (hwho : atV bs i % 3 = (who : Int))
    (hpan : Hid (∀ (c : List PanicEntry) (a : Act) (d : Option Tmp) (v : Value) (w : World), Q0 (.panic c) (a.put d v) w → Q0 (.panic c) a w)) (hown : (atV bs i / 3 % 2 == 0) = true) (h2 : st.getD who 0 = 2) :
    Code.wp Try.prog ((Try.f3.body.bind (findL 9)).getD .skip) (Exit.then (fun a' w'' => WI1 a ca bs w hB sB wB c1 c2 c21 c22 c23 c24 c25 a' w'' ∧ mu1 a' w'' < mu1 ⟨#[.slice a bs.length ca, c1, c2, .pointer (some ⟨hB, 0, none⟩), .slice (some ⟨sB, 0, none⟩) 3 3, .slice (some ⟨wB, 0, none⟩) 4 4, .int .i64 (i : Nat), u7, u8, u9, u10, u11, u12, u13, u14, u15, u16, u17, u18, u19, u20, c21, c22, c23, c24, c25, u26, u27, u28, u29, u30, u31, u32, u33, u34, u35, u36, u37, u38, u39, u40, u41, u42, u43, u44, u45, u46, u47, u48, u49, u50, u51, u52, u53, u54, u55, u56, u57, u58, u59, u60, u61, u62, u63, u64, u65, u66, u67, u68, u69, u70, u71, u72, u73, u74, u75, u76, u77, u78, u79, u80, u81, u82, u83, u84, u85, u86, u87, u88, u89, u90, u91, u92, u93, u94, u95, u96, u97, u98, u99, u100, u101, u102, u103, u104, u105, u106, u107, u108, u109, u110, u111, u112, u113, u114, u115, u116, u117, u118, u119, u120, u121, u122, u123, u124, u125, u126, u127, u128, u129, u130, u131, u132, u133, u134, u135, u136, u137, u138, u139, u140, u141, u142, u143, u144, u145, u146, u147, u148, u149, u150, u151, u152, u153, u154, u155, u156, u157, u158, u159, u160, u161, u162, u163, u164, u165, u166, u167, u168, u169, u170, u171, u172, u173, u174, u175, u176, u177, u178, u179, u180, u181, u182, u183, u184, u185, u186, u187, u188, u189], []⟩ wr) Q0) ⟨#[.slice a bs.length ca, c1, c2, .pointer (some ⟨hB, 0, none⟩), .slice (some ⟨sB, 0, none⟩) 3 3, .slice (some ⟨wB, 0, none⟩) 4 4, .int .i64 (i : Nat), u7, u8, u9, u10, u11, u12, u13, u14, u15, u16, u17, u18, u19, u20, c21, c22, c23, c24, c25, u26, u27, u28, u29, u30, u31, u32, u33, u34, u35, u36, u37, u38, u39, u40, u41, u42, u43, u44, u45, u46, u47, u48, u49, u50, u51, u52, u53, u54, u55, u56, u57, u58, u59, u60, u61, u62, u63, u64, u65, u66, u67, u68, u69, u70, u71, u72, u73, u74, u75, u76, u77, u78, u79, u80, u81, u82, u83, u84, u85, u86, u87, u88, u89, u90, u91, u92, u93, u94, u95, u96, u97, u98, u99, u100, u101, u102, u103, u104, u105, u106, u107, u108, u109, u110, u111, u112, u113, u114, u115, u116, u117, u118, u119, u120, u121, u122, u123, u124, u125, u126, u127, u128, u129, u130, u131, u132, u133, u134, u135, u136, u137, u138, u139, u140, u141, u142, u143, u144, u145, u146, u147, u148, u149, u150, u151, u152, u153, u154, u155, u156, u157, u158, u159, u160, u161, u162, u163, u164, u165, u166, u167, u168, u169, u170, u171, u172, u173, u174, u175, u176, u177, u178, u179, u180, u181, u182, u183, u184, u185, u186, u187, u188, u189], []⟩ wr := by
  conv => arg 2; whnf
  have hw3 : who < 3 := by omega
  have hsl := rest_len hR
  have hrr := hr.below B
  have hi' : (i : Int) < 30 := by omega
  have HRR : Hid (Row .u8 wr a bs) := hrr
  have HBS : Hid (∀ x ∈ bs, 0 ≤ x ∧ x ≤ 255) := hbs
  have HLB : Hid (bs.length ≤ 1048576) := hl
  have sc : wr.cell? ⟨sB, who, none⟩ = some (.int .i64 (st.getD who 0)) := by rw [G.s.cellAt who (by omega)]; simp [hsl, hw3]
  have sz : sB < wr.heap.size := (G.s.lt sB rfl).2
  have hwi : (who : Int) < 3 := by omega
  have HG : Hid (GL w.heap.size wr hB sB wB vl vr vq H st wd) := G
  have HB : Hid (Below w.heap.size w wr) := B
  have HR : Hid (Rest H st wd) := hR
  have HDW : Hid (wd.all wordB = true) := hdw
  have HSL : Hid (st.length = 3) := hsl
  clear G B hR hdw hr hrr hbs hl hsl
  go_wp2_with fail
  refine (at_any a ca bs i _ (by omega) HLB.out HRR.out HBS.out).mono ?_
  rintro e w1 ⟨x, rfl, hx, hx0, hx1, hw⟩
  subst hw
  rw [← hx] at hwho hown
  clear hx
  have hwm : x.tmod 3 = (who : Int) := by rw [← hwho]; exact Int.tmod_eq_emod_of_nonneg hx0
  rw [h2] at sc
  obtain ⟨km, hkm⟩ : ∃ km : Nat, x % 4 = (km : Int) := ⟨(x % 4).toNat, by omega⟩
  have hk4 : km < 4 := by omega
  have hk4i : (km : Int) < 4 := by omega
  have hdl : wd.length = 4 := by have := HG.out.d.1; simpa using this
  have dc : w1.cell? ⟨wB, km, none⟩ = some (.int .i64 (wd.getD km 0)) := by rw [HG.out.d.cellAt km (by omega)]; simp [hdl, hk4]
  have df : w1.frozen? ⟨wB, km, none⟩ = false := HG.out.d.frozenAt km
  have dz : wB < w1.heap.size := (HG.out.d.lt wB rfl).2
  have HG2 : Hid (GL w.heap.size (w1.setCell ⟨wB, km, none⟩ (.int .i64 i)) hB sB wB vl vr vq H st (wd.set km (i : Int))) := HG.out.setW km i
  have HB2 : Hid (Below w.heap.size w (w1.setCell ⟨wB, km, none⟩ (.int .i64 i))) := Below.setCell (p := ⟨wB, km, none⟩) HB.out (HG.out.d.lt wB rfl).1 _
  have HR2 : Hid (Rest H st (wd.set km (i : Int))) := rest_two HR.out hw3 h2 _
  have HD2 : Hid ((wd.set km (i : Int)).all wordB = true) := by
    show _ = _
    rw [List.all_eq_true]
    intro y hy
    rcases List.mem_or_eq_of_mem_set hy with h | h
    · exact List.all_eq_true.1 HDW.out y h
    · rw [h]; exact decide_eq_true (by omega)
  clear HG HB HR HDW h2 hdl HRR HBS HLB HSL
  go_wp2
  refine ⟨?_, by simp [mu1, intOf]; omega⟩
  unfold WI1
  refine ⟨_, _, _, _, _, _, _, _, _, _, _, _, _, _, _, _, _, _, _, _, _, _, _, _, _, _, _, _, _, _, _, _, _, _, _, _, _, _, _, _, _, _, _, _, _, _, _, _, _, _, _, _, _, _, _, _, _, _, _, _, _, _, _, _, _, _, _, _, _, _, _, _, _, _, _, _, _, _, _, _, _, _, _, _, _, _, _, _, _, _, _, _, _, _, _, _, _, _, _, _, _, _, _, _, _, _, _, _, _, _, _, _, _, _, _, _, _, _, _, _, _, _, _, _, _, _, _, _, _, _, _, _, _, _, _, _, _, _, _, _, _, _, _, _, _, _, _, _, _, _, _, _, _, _, _, _, _, _, _, _, _, _, _, _, _, _, _, _, _, _, _, _, _, _, _, _, _, _, _, ?_, rfl⟩
  exact ⟨i + 1, vl, vr, vq, H, st, wd.set km (i : Int), by go_num, by omega, HG2.out, HR2.out, HD2.out, HB2.out⟩
end Go.Proofs.Ytliihkdocbpolaa

/- One way through a round of FnHomeGives' great loop. -/
namespace Go.Proofs.Ytliihkdocbpolaa
open Go.RowKit
set_option linter.unusedVariables false

set_option maxRecDepth 1000000 in
set_option maxHeartbeats 8000000 in
theorem g1_wb {a : Option Addr} {ca : Nat} {bs : List Int} {w : World} {hB sB wB : Nat} {c1 c2 c21 c22 c23 c24 c25 : Value} {u7 u8 u9 u10 u11 u12 u13 u14 u15 u16 u17 u18 u19 u20 u26 u27 u28 u29 u30 u31 u32 u33 u34 u35 u36 u37 u38 u39 u40 u41 u42 u43 u44 u45 u46 u47 u48 u49 u50 u51 u52 u53 u54 u55 u56 u57 u58 u59 u60 u61 u62 u63 u64 u65 u66 u67 u68 u69 u70 u71 u72 u73 u74 u75 u76 u77 u78 u79 u80 u81 u82 u83 u84 u85 u86 u87 u88 u89 u90 u91 u92 u93 u94 u95 u96 u97 u98 u99 u100 u101 u102 u103 u104 u105 u106 u107 u108 u109 u110 u111 u112 u113 u114 u115 u116 u117 u118 u119 u120 u121 u122 u123 u124 u125 u126 u127 u128 u129 u130 u131 u132 u133 u134 u135 u136 u137 u138 u139 u140 u141 u142 u143 u144 u145 u146 u147 u148 u149 u150 u151 u152 u153 u154 u155 u156 u157 u158 u159 u160 u161 u162 u163 u164 u165 u166 u167 u168 u169 u170 u171 u172 u173 u174 u175 u176 u177 u178 u179 u180 u181 u182 u183 u184 u185 u186 u187 u188 u189 : Value} {i who : Nat} {vl vr vq : Value} {H : Hm} {st wd : List Int} {wr : World} {Q0 : Exit → Act → World → Prop}
    (hi : i < 30) (hr : Row .u8 w a bs) (hbs : ∀ x ∈ bs, 0 ≤ x ∧ x ≤ 255) (hl : bs.length ≤ 1048576) (G : GL w.heap.size wr hB sB wB vl vr vq H st wd) (hR : Rest H st wd) (hdw : wd.all wordB = true) (B : Below w.heap.size w wr) (hwho : atV bs i % 3 = (who : Int))
    (hpan : Hid (∀ (c : List PanicEntry) (a : Act) (d : Option Tmp) (v : Value) (w : World), Q0 (.panic c) (a.put d v) w → Q0 (.panic c) a w)) (hown : (atV bs i / 3 % 2 == 0) = false) (h2 : st.getD who 0 = 2) :
    Code.wp Try.prog ((Try.f3.body.bind (findL 9)).getD .skip) (Exit.then (fun a' w'' => WI1 a ca bs w hB sB wB c1 c2 c21 c22 c23 c24 c25 a' w'' ∧ mu1 a' w'' < mu1 ⟨#[.slice a bs.length ca, c1, c2, .pointer (some ⟨hB, 0, none⟩), .slice (some ⟨sB, 0, none⟩) 3 3, .slice (some ⟨wB, 0, none⟩) 4 4, .int .i64 (i : Nat), u7, u8, u9, u10, u11, u12, u13, u14, u15, u16, u17, u18, u19, u20, c21, c22, c23, c24, c25, u26, u27, u28, u29, u30, u31, u32, u33, u34, u35, u36, u37, u38, u39, u40, u41, u42, u43, u44, u45, u46, u47, u48, u49, u50, u51, u52, u53, u54, u55, u56, u57, u58, u59, u60, u61, u62, u63, u64, u65, u66, u67, u68, u69, u70, u71, u72, u73, u74, u75, u76, u77, u78, u79, u80, u81, u82, u83, u84, u85, u86, u87, u88, u89, u90, u91, u92, u93, u94, u95, u96, u97, u98, u99, u100, u101, u102, u103, u104, u105, u106, u107, u108, u109, u110, u111, u112, u113, u114, u115, u116, u117, u118, u119, u120, u121, u122, u123, u124, u125, u126, u127, u128, u129, u130, u131, u132, u133, u134, u135, u136, u137, u138, u139, u140, u141, u142, u143, u144, u145, u146, u147, u148, u149, u150, u151, u152, u153, u154, u155, u156, u157, u158, u159, u160, u161, u162, u163, u164, u165, u166, u167, u168, u169, u170, u171, u172, u173, u174, u175, u176, u177, u178, u179, u180, u181, u182, u183, u184, u185, u186, u187, u188, u189], []⟩ wr) Q0) ⟨#[.slice a bs.length ca, c1, c2, .pointer (some ⟨hB, 0, none⟩), .slice (some ⟨sB, 0, none⟩) 3 3, .slice (some ⟨wB, 0, none⟩) 4 4, .int .i64 (i : Nat), u7, u8, u9, u10, u11, u12, u13, u14, u15, u16, u17, u18, u19, u20, c21, c22, c23, c24, c25, u26, u27, u28, u29, u30, u31, u32, u33, u34, u35, u36, u37, u38, u39, u40, u41, u42, u43, u44, u45, u46, u47, u48, u49, u50, u51, u52, u53, u54, u55, u56, u57, u58, u59, u60, u61, u62, u63, u64, u65, u66, u67, u68, u69, u70, u71, u72, u73, u74, u75, u76, u77, u78, u79, u80, u81, u82, u83, u84, u85, u86, u87, u88, u89, u90, u91, u92, u93, u94, u95, u96, u97, u98, u99, u100, u101, u102, u103, u104, u105, u106, u107, u108, u109, u110, u111, u112, u113, u114, u115, u116, u117, u118, u119, u120, u121, u122, u123, u124, u125, u126, u127, u128, u129, u130, u131, u132, u133, u134, u135, u136, u137, u138, u139, u140, u141, u142, u143, u144, u145, u146, u147, u148, u149, u150, u151, u152, u153, u154, u155, u156, u157, u158, u159, u160, u161, u162, u163, u164, u165, u166, u167, u168, u169, u170, u171, u172, u173, u174, u175, u176, u177, u178, u179, u180, u181, u182, u183, u184, u185, u186, u187, u188, u189], []⟩ wr := by
  conv => arg 2; whnf
  have hw3 : who < 3 := by omega
  have hsl := rest_len hR
  have hrr := hr.below B
  have hi' : (i : Int) < 30 := by omega
  have HRR : Hid (Row .u8 wr a bs) := hrr
  have HBS : Hid (∀ x ∈ bs, 0 ≤ x ∧ x ≤ 255) := hbs
  have HLB : Hid (bs.length ≤ 1048576) := hl
  have sc : wr.cell? ⟨sB, who, none⟩ = some (.int .i64 (st.getD who 0)) := by rw [G.s.cellAt who (by omega)]; simp [hsl, hw3]
  have sz : sB < wr.heap.size := (G.s.lt sB rfl).2
  have hwi : (who : Int) < 3 := by omega
  have HG : Hid (GL w.heap.size wr hB sB wB vl vr vq H st wd) := G
  have HB : Hid (Below w.heap.size w wr) := B
  have HR : Hid (Rest H st wd) := hR
  have HDW : Hid (wd.all wordB = true) := hdw
  have HSL : Hid (st.length = 3) := hsl
  clear G B hR hdw hr hrr hbs hl hsl
  go_wp2_with fail
  refine (at_any a ca bs i _ (by omega) HLB.out HRR.out HBS.out).mono ?_
  rintro e w1 ⟨x, rfl, hx, hx0, hx1, hw⟩
  subst hw
  rw [← hx] at hwho hown
  clear hx
  have hwm : x.tmod 3 = (who : Int) := by rw [← hwho]; exact Int.tmod_eq_emod_of_nonneg hx0
  rw [h2] at sc
  obtain ⟨km, hkm⟩ : ∃ km : Nat, x % 4 = (km : Int) := ⟨(x % 4).toNat, by omega⟩
  have hk4 : km < 4 := by omega
  have hk4i : (km : Int) < 4 := by omega
  have hdl : wd.length = 4 := by have := HG.out.d.1; simpa using this
  have dc : w1.cell? ⟨wB, km, none⟩ = some (.int .i64 (wd.getD km 0)) := by rw [HG.out.d.cellAt km (by omega)]; simp [hdl, hk4]
  have df : w1.frozen? ⟨wB, km, none⟩ = false := HG.out.d.frozenAt km
  have dz : wB < w1.heap.size := (HG.out.d.lt wB rfl).2
  have HG2 : Hid (GL w.heap.size (w1.setCell ⟨wB, km, none⟩ (.int .i64 i)) hB sB wB vl vr vq H st (wd.set km (i : Int))) := HG.out.setW km i
  have HB2 : Hid (Below w.heap.size w (w1.setCell ⟨wB, km, none⟩ (.int .i64 i))) := Below.setCell (p := ⟨wB, km, none⟩) HB.out (HG.out.d.lt wB rfl).1 _
  have HR2 : Hid (Rest H st (wd.set km (i : Int))) := rest_two HR.out hw3 h2 _
  have HD2 : Hid ((wd.set km (i : Int)).all wordB = true) := by
    show _ = _
    rw [List.all_eq_true]
    intro y hy
    rcases List.mem_or_eq_of_mem_set hy with h | h
    · exact List.all_eq_true.1 HDW.out y h
    · rw [h]; exact decide_eq_true (by omega)
  clear HG HB HR HDW h2 hdl HRR HBS HLB HSL
  go_wp2
  refine ⟨?_, by simp [mu1, intOf]; omega⟩
  unfold WI1
  refine ⟨_, _, _, _, _, _, _, _, _, _, _, _, _, _, _, _, _, _, _, _, _, _, _, _, _, _, _, _, _, _, _, _, _, _, _, _, _, _, _, _, _, _, _, _, _, _, _, _, _, _, _, _, _, _, _, _, _, _, _, _, _, _, _, _, _, _, _, _, _, _, _, _, _, _, _, _, _, _, _, _, _, _, _, _, _, _, _, _, _, _, _, _, _, _, _, _, _, _, _, _, _, _, _, _, _, _, _, _, _, _, _, _, _, _, _, _, _, _, _, _, _, _, _, _, _, _, _, _, _, _, _, _, _, _, _, _, _, _, _, _, _, _, _, _, _, _, _, _, _, _, _, _, _, _, _, _, _, _, _, _, _, _, _, _, _, _, _, _, _, _, _, _, _, _, _, _, _, _, _, ?_, rfl⟩
  exact ⟨i + 1, vl, vr, vq, H, st, wd.set km (i : Int), by go_num, by omega, HG2.out, HR2.out, HD2.out, HB2.out⟩
end Go.Proofs.Ytliihkdocbpolaa
