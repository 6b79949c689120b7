/- FnHomeGives' great loop. -/
import Derived.Test.YtliihkdocbpolaaGv1b
import Derived.Test.YtliihkdocbpolaaGv1c
import Derived.Test.YtliihkdocbpolaaGv1d
namespace Go.Proofs.Ytliihkdocbpolaa
open Go.RowKit
set_option linter.unusedVariables false

set_option maxRecDepth 1000000 in
set_option maxHeartbeats 8000000 in
theorem g1_x {a : Option Addr} {ca : Nat} {bs : List Int} {w : World} {hB sB wB : Nat} {c1 c2 c21 c22 c23 c24 c25 : Value} {u7 u8 u9 u10 u11 u12 u13 u14 u15 u16 u17 u18 u19 u20 u26 u27 u28 u29 u30 u31 u32 u33 u34 u35 u36 u37 u38 u39 u40 u41 u42 u43 u44 u45 u46 u47 u48 u49 u50 u51 u52 u53 u54 u55 u56 u57 u58 u59 u60 u61 u62 u63 u64 u65 u66 u67 u68 u69 u70 u71 u72 u73 u74 u75 u76 u77 u78 u79 u80 u81 u82 u83 u84 u85 u86 u87 u88 u89 u90 u91 u92 u93 u94 u95 u96 u97 u98 u99 u100 u101 u102 u103 u104 u105 u106 u107 u108 u109 u110 u111 u112 u113 u114 u115 u116 u117 u118 u119 u120 u121 u122 u123 u124 u125 u126 u127 u128 u129 u130 u131 u132 u133 u134 u135 u136 u137 u138 u139 u140 u141 u142 u143 u144 u145 u146 u147 u148 u149 u150 u151 u152 u153 u154 u155 u156 u157 u158 u159 u160 u161 u162 u163 u164 u165 u166 u167 u168 u169 u170 u171 u172 u173 u174 u175 u176 u177 u178 u179 u180 u181 u182 u183 u184 u185 u186 u187 u188 u189 : Value} {i : Nat} {wr : World} {Q0 : Exit → Act → World → Prop} (hi : i = 30) (hrel : Rel1 w hB sB wB (.int .i64 (i : Nat)) wr) (hexit : Hid (∀ act w'', WI1 a ca bs w hB sB wB c1 c2 c21 c22 c23 c24 c25 act w'' → Q0 (.exit 0) act w'')) :
    Code.wp Try.prog ((Try.f3.body.bind (findL 9)).getD .skip) (Exit.then (fun a' w'' => WI1 a ca bs w hB sB wB c1 c2 c21 c22 c23 c24 c25 a' w'' ∧ mu1 a' w'' < mu1 ⟨#[.slice a bs.length ca, c1, c2, .pointer (some ⟨hB, 0, none⟩), .slice (some ⟨sB, 0, none⟩) 3 3, .slice (some ⟨wB, 0, none⟩) 4 4, .int .i64 (i : Nat), u7, u8, u9, u10, u11, u12, u13, u14, u15, u16, u17, u18, u19, u20, c21, c22, c23, c24, c25, u26, u27, u28, u29, u30, u31, u32, u33, u34, u35, u36, u37, u38, u39, u40, u41, u42, u43, u44, u45, u46, u47, u48, u49, u50, u51, u52, u53, u54, u55, u56, u57, u58, u59, u60, u61, u62, u63, u64, u65, u66, u67, u68, u69, u70, u71, u72, u73, u74, u75, u76, u77, u78, u79, u80, u81, u82, u83, u84, u85, u86, u87, u88, u89, u90, u91, u92, u93, u94, u95, u96, u97, u98, u99, u100, u101, u102, u103, u104, u105, u106, u107, u108, u109, u110, u111, u112, u113, u114, u115, u116, u117, u118, u119, u120, u121, u122, u123, u124, u125, u126, u127, u128, u129, u130, u131, u132, u133, u134, u135, u136, u137, u138, u139, u140, u141, u142, u143, u144, u145, u146, u147, u148, u149, u150, u151, u152, u153, u154, u155, u156, u157, u158, u159, u160, u161, u162, u163, u164, u165, u166, u167, u168, u169, u170, u171, u172, u173, u174, u175, u176, u177, u178, u179, u180, u181, u182, u183, u184, u185, u186, u187, u188, u189], []⟩ wr) Q0) ⟨#[.slice a bs.length ca, c1, c2, .pointer (some ⟨hB, 0, none⟩), .slice (some ⟨sB, 0, none⟩) 3 3, .slice (some ⟨wB, 0, none⟩) 4 4, .int .i64 (i : Nat), u7, u8, u9, u10, u11, u12, u13, u14, u15, u16, u17, u18, u19, u20, c21, c22, c23, c24, c25, u26, u27, u28, u29, u30, u31, u32, u33, u34, u35, u36, u37, u38, u39, u40, u41, u42, u43, u44, u45, u46, u47, u48, u49, u50, u51, u52, u53, u54, u55, u56, u57, u58, u59, u60, u61, u62, u63, u64, u65, u66, u67, u68, u69, u70, u71, u72, u73, u74, u75, u76, u77, u78, u79, u80, u81, u82, u83, u84, u85, u86, u87, u88, u89, u90, u91, u92, u93, u94, u95, u96, u97, u98, u99, u100, u101, u102, u103, u104, u105, u106, u107, u108, u109, u110, u111, u112, u113, u114, u115, u116, u117, u118, u119, u120, u121, u122, u123, u124, u125, u126, u127, u128, u129, u130, u131, u132, u133, u134, u135, u136, u137, u138, u139, u140, u141, u142, u143, u144, u145, u146, u147, u148, u149, u150, u151, u152, u153, u154, u155, u156, u157, u158, u159, u160, u161, u162, u163, u164, u165, u166, u167, u168, u169, u170, u171, u172, u173, u174, u175, u176, u177, u178, u179, u180, u181, u182, u183, u184, u185, u186, u187, u188, u189], []⟩ wr := by
  conv => arg 2; whnf
  have hi' : (30 : Int) ≤ (i : Int) := by omega
  have HR : Hid (Rel1 w hB sB wB (.int .i64 (i : Nat)) wr) := hrel
  clear hrel hi
  go_wp2
  refine hexit.out _ _ ?_
  unfold WI1
  exact ⟨_, _, _, _, _, _, _, _, _, _, _, _, _, _, _, _, _, _, _, _, _, _, _, _, _, _, _, _, _, _, _, _, _, _, _, _, _, _, _, _, _, _, _, _, _, _, _, _, _, _, _, _, _, _, _, _, _, _, _, _, _, _, _, _, _, _, _, _, _, _, _, _, _, _, _, _, _, _, _, _, _, _, _, _, _, _, _, _, _, _, _, _, _, _, _, _, _, _, _, _, _, _, _, _, _, _, _, _, _, _, _, _, _, _, _, _, _, _, _, _, _, _, _, _, _, _, _, _, _, _, _, _, _, _, _, _, _, _, _, _, _, _, _, _, _, _, _, _, _, _, _, _, _, _, _, _, _, _, _, _, _, _, _, _, _, _, _, _, _, _, _, _, _, _, _, _, _, _, _, HR.out, rfl⟩

set_option maxRecDepth 1000000 in
set_option maxHeartbeats 8000000 in
theorem g1_round {a : Option Addr} {ca : Nat} {bs : List Int} {w : World} {hB sB wB : Nat} {c1 c2 c21 c22 c23 c24 c25 : Value} {Q0 : Exit → Act → World → Prop} (hr : Row .u8 w a bs) (hbs : ∀ x ∈ bs, 0 ≤ x ∧ x ≤ 255) (hl : bs.length ≤ 1048576) (hpan : Hid (∀ (c : List PanicEntry) (a : Act) (d : Option Tmp) (v : Value) (w : World), Q0 (.panic c) (a.put d v) w → Q0 (.panic c) a w)) (hexit : Hid (∀ act w'', WI1 a ca bs w hB sB wB c1 c2 c21 c22 c23 c24 c25 act w'' → Q0 (.exit 0) act w'')) (act : Act) (wr : World) (hI : WI1 a ca bs w hB sB wB c1 c2 c21 c22 c23 c24 c25 act wr) :
    Code.wp Try.prog ((Try.f3.body.bind (findL 9)).getD .skip) (Exit.then (fun a' w'' => WI1 a ca bs w hB sB wB c1 c2 c21 c22 c23 c24 c25 a' w'' ∧ mu1 a' w'' < mu1 act wr) Q0) act wr := by
  unfold WI1 at hI
  obtain ⟨v6, hI⟩ := hI
  obtain ⟨u7, hI⟩ := hI
  obtain ⟨u8, hI⟩ := hI
  obtain ⟨u9, hI⟩ := hI
  obtain ⟨u10, hI⟩ := hI
  obtain ⟨u11, hI⟩ := hI
  obtain ⟨u12, hI⟩ := hI
  obtain ⟨u13, hI⟩ := hI
  obtain ⟨u14, hI⟩ := hI
  obtain ⟨u15, hI⟩ := hI
  obtain ⟨u16, hI⟩ := hI
  obtain ⟨u17, hI⟩ := hI
  obtain ⟨u18, hI⟩ := hI
  obtain ⟨u19, hI⟩ := hI
  obtain ⟨u20, hI⟩ := hI
  obtain ⟨u26, hI⟩ := hI
  obtain ⟨u27, hI⟩ := hI
  obtain ⟨u28, hI⟩ := hI
  obtain ⟨u29, hI⟩ := hI
  obtain ⟨u30, hI⟩ := hI
  obtain ⟨u31, hI⟩ := hI
  obtain ⟨u32, hI⟩ := hI
  obtain ⟨u33, hI⟩ := hI
  obtain ⟨u34, hI⟩ := hI
  obtain ⟨u35, hI⟩ := hI
  obtain ⟨u36, hI⟩ := hI
  obtain ⟨u37, hI⟩ := hI
  obtain ⟨u38, hI⟩ := hI
  obtain ⟨u39, hI⟩ := hI
  obtain ⟨u40, hI⟩ := hI
  obtain ⟨u41, hI⟩ := hI
  obtain ⟨u42, hI⟩ := hI
  obtain ⟨u43, hI⟩ := hI
  obtain ⟨u44, hI⟩ := hI
  obtain ⟨u45, hI⟩ := hI
  obtain ⟨u46, hI⟩ := hI
  obtain ⟨u47, hI⟩ := hI
  obtain ⟨u48, hI⟩ := hI
  obtain ⟨u49, hI⟩ := hI
  obtain ⟨u50, hI⟩ := hI
  obtain ⟨u51, hI⟩ := hI
  obtain ⟨u52, hI⟩ := hI
  obtain ⟨u53, hI⟩ := hI
  obtain ⟨u54, hI⟩ := hI
  obtain ⟨u55, hI⟩ := hI
  obtain ⟨u56, hI⟩ := hI
  obtain ⟨u57, hI⟩ := hI
  obtain ⟨u58, hI⟩ := hI
  obtain ⟨u59, hI⟩ := hI
  obtain ⟨u60, hI⟩ := hI
  obtain ⟨u61, hI⟩ := hI
  obtain ⟨u62, hI⟩ := hI
  obtain ⟨u63, hI⟩ := hI
  obtain ⟨u64, hI⟩ := hI
  obtain ⟨u65, hI⟩ := hI
  obtain ⟨u66, hI⟩ := hI
  obtain ⟨u67, hI⟩ := hI
  obtain ⟨u68, hI⟩ := hI
  obtain ⟨u69, hI⟩ := hI
  obtain ⟨u70, hI⟩ := hI
  obtain ⟨u71, hI⟩ := hI
  obtain ⟨u72, hI⟩ := hI
  obtain ⟨u73, hI⟩ := hI
  obtain ⟨u74, hI⟩ := hI
  obtain ⟨u75, hI⟩ := hI
  obtain ⟨u76, hI⟩ := hI
  obtain ⟨u77, hI⟩ := hI
  obtain ⟨u78, hI⟩ := hI
  obtain ⟨u79, hI⟩ := hI
  obtain ⟨u80, hI⟩ := hI
  obtain ⟨u81, hI⟩ := hI
  obtain ⟨u82, hI⟩ := hI
  obtain ⟨u83, hI⟩ := hI
  obtain ⟨u84, hI⟩ := hI
  obtain ⟨u85, hI⟩ := hI
  obtain ⟨u86, hI⟩ := hI
  obtain ⟨u87, hI⟩ := hI
  obtain ⟨u88, hI⟩ := hI
  obtain ⟨u89, hI⟩ := hI
  obtain ⟨u90, hI⟩ := hI
  obtain ⟨u91, hI⟩ := hI
  obtain ⟨u92, hI⟩ := hI
  obtain ⟨u93, hI⟩ := hI
  obtain ⟨u94, hI⟩ := hI
  obtain ⟨u95, hI⟩ := hI
  obtain ⟨u96, hI⟩ := hI
  obtain ⟨u97, hI⟩ := hI
  obtain ⟨u98, hI⟩ := hI
  obtain ⟨u99, hI⟩ := hI
  obtain ⟨u100, hI⟩ := hI
  obtain ⟨u101, hI⟩ := hI
  obtain ⟨u102, hI⟩ := hI
  obtain ⟨u103, hI⟩ := hI
  obtain ⟨u104, hI⟩ := hI
  obtain ⟨u105, hI⟩ := hI
  obtain ⟨u106, hI⟩ := hI
  obtain ⟨u107, hI⟩ := hI
  obtain ⟨u108, hI⟩ := hI
  obtain ⟨u109, hI⟩ := hI
  obtain ⟨u110, hI⟩ := hI
  obtain ⟨u111, hI⟩ := hI
  obtain ⟨u112, hI⟩ := hI
  obtain ⟨u113, hI⟩ := hI
  obtain ⟨u114, hI⟩ := hI
  obtain ⟨u115, hI⟩ := hI
  obtain ⟨u116, hI⟩ := hI
  obtain ⟨u117, hI⟩ := hI
  obtain ⟨u118, hI⟩ := hI
  obtain ⟨u119, hI⟩ := hI
  obtain ⟨u120, hI⟩ := hI
  obtain ⟨u121, hI⟩ := hI
  obtain ⟨u122, hI⟩ := hI
  obtain ⟨u123, hI⟩ := hI
  obtain ⟨u124, hI⟩ := hI
  obtain ⟨u125, hI⟩ := hI
  obtain ⟨u126, hI⟩ := hI
  obtain ⟨u127, hI⟩ := hI
  obtain ⟨u128, hI⟩ := hI
  obtain ⟨u129, hI⟩ := hI
  obtain ⟨u130, hI⟩ := hI
  obtain ⟨u131, hI⟩ := hI
  obtain ⟨u132, hI⟩ := hI
  obtain ⟨u133, hI⟩ := hI
  obtain ⟨u134, hI⟩ := hI
  obtain ⟨u135, hI⟩ := hI
  obtain ⟨u136, hI⟩ := hI
  obtain ⟨u137, hI⟩ := hI
  obtain ⟨u138, hI⟩ := hI
  obtain ⟨u139, hI⟩ := hI
  obtain ⟨u140, hI⟩ := hI
  obtain ⟨u141, hI⟩ := hI
  obtain ⟨u142, hI⟩ := hI
  obtain ⟨u143, hI⟩ := hI
  obtain ⟨u144, hI⟩ := hI
  obtain ⟨u145, hI⟩ := hI
  obtain ⟨u146, hI⟩ := hI
  obtain ⟨u147, hI⟩ := hI
  obtain ⟨u148, hI⟩ := hI
  obtain ⟨u149, hI⟩ := hI
  obtain ⟨u150, hI⟩ := hI
  obtain ⟨u151, hI⟩ := hI
  obtain ⟨u152, hI⟩ := hI
  obtain ⟨u153, hI⟩ := hI
  obtain ⟨u154, hI⟩ := hI
  obtain ⟨u155, hI⟩ := hI
  obtain ⟨u156, hI⟩ := hI
  obtain ⟨u157, hI⟩ := hI
  obtain ⟨u158, hI⟩ := hI
  obtain ⟨u159, hI⟩ := hI
  obtain ⟨u160, hI⟩ := hI
  obtain ⟨u161, hI⟩ := hI
  obtain ⟨u162, hI⟩ := hI
  obtain ⟨u163, hI⟩ := hI
  obtain ⟨u164, hI⟩ := hI
  obtain ⟨u165, hI⟩ := hI
  obtain ⟨u166, hI⟩ := hI
  obtain ⟨u167, hI⟩ := hI
  obtain ⟨u168, hI⟩ := hI
  obtain ⟨u169, hI⟩ := hI
  obtain ⟨u170, hI⟩ := hI
  obtain ⟨u171, hI⟩ := hI
  obtain ⟨u172, hI⟩ := hI
  obtain ⟨u173, hI⟩ := hI
  obtain ⟨u174, hI⟩ := hI
  obtain ⟨u175, hI⟩ := hI
  obtain ⟨u176, hI⟩ := hI
  obtain ⟨u177, hI⟩ := hI
  obtain ⟨u178, hI⟩ := hI
  obtain ⟨u179, hI⟩ := hI
  obtain ⟨u180, hI⟩ := hI
  obtain ⟨u181, hI⟩ := hI
  obtain ⟨u182, hI⟩ := hI
  obtain ⟨u183, hI⟩ := hI
  obtain ⟨u184, hI⟩ := hI
  obtain ⟨u185, hI⟩ := hI
  obtain ⟨u186, hI⟩ := hI
  obtain ⟨u187, hI⟩ := hI
  obtain ⟨u188, hI⟩ := hI
  obtain ⟨u189, hI⟩ := hI
  obtain ⟨hrel, rfl⟩ := hI
  have HREL := hrel
  obtain ⟨i, vl, vr, vq, H, st, wd, rfl, hi30, G, hR, hdw, B⟩ := hrel
  by_cases h30 : i = 30
  · exact g1_x h30 HREL hexit
  · have hi : i < 30 := by omega
    obtain ⟨who, hwho⟩ : ∃ who : Nat, atV bs i % 3 = (who : Int) := ⟨(atV bs i % 3).toNat, by omega⟩
    by_cases h2 : st.getD who 0 = 2
    · cases hown : (atV bs i / 3 % 2 == 0)
      · exact g1_wb hi hr hbs hl G hR hdw B hwho hpan hown h2
      · exact g1_wa hi hr hbs hl G hR hdw B hwho hpan hown h2
    · cases hown : (atV bs i / 3 % 2 == 0)
      · exact g1_qd hi hr hbs hl G hR hdw B hwho hpan hown h2
      · exact g1_qc hi hr hbs hl G hR hdw B hwho hpan hown h2

set_option maxRecDepth 1000000 in
theorem g1_loop {a : Option Addr} {ca : Nat} {bs : List Int} {w : World} {hB sB wB : Nat} {c1 c2 c21 c22 c23 c24 c25 : Value} {Q0 : Exit → Act → World → Prop} (hr : Row .u8 w a bs) (hbs : ∀ x ∈ bs, 0 ≤ x ∧ x ≤ 255) (hl : bs.length ≤ 1048576) (hpan : Hid (∀ (c : List PanicEntry) (a : Act) (d : Option Tmp) (v : Value) (w : World), Q0 (.panic c) (a.put d v) w → Q0 (.panic c) a w)) (hexit : Hid (∀ act w'', WI1 a ca bs w hB sB wB c1 c2 c21 c22 c23 c24 c25 act w'' → Q0 (.exit 0) act w'')) {v6 u7 u8 u9 u10 u11 u12 u13 u14 u15 u16 u17 u18 u19 u20 u26 u27 u28 u29 u30 u31 u32 u33 u34 u35 u36 u37 u38 u39 u40 u41 u42 u43 u44 u45 u46 u47 u48 u49 u50 u51 u52 u53 u54 u55 u56 u57 u58 u59 u60 u61 u62 u63 u64 u65 u66 u67 u68 u69 u70 u71 u72 u73 u74 u75 u76 u77 u78 u79 u80 u81 u82 u83 u84 u85 u86 u87 u88 u89 u90 u91 u92 u93 u94 u95 u96 u97 u98 u99 u100 u101 u102 u103 u104 u105 u106 u107 u108 u109 u110 u111 u112 u113 u114 u115 u116 u117 u118 u119 u120 u121 u122 u123 u124 u125 u126 u127 u128 u129 u130 u131 u132 u133 u134 u135 u136 u137 u138 u139 u140 u141 u142 u143 u144 u145 u146 u147 u148 u149 u150 u151 u152 u153 u154 u155 u156 u157 u158 u159 u160 u161 u162 u163 u164 u165 u166 u167 u168 u169 u170 u171 u172 u173 u174 u175 u176 u177 u178 u179 u180 u181 u182 u183 u184 u185 u186 u187 u188 u189 : Value} {w' : World} (hrel : Rel1 w hB sB wB v6 w') :
    Code.wp Try.prog (Code.loop ((Try.f3.body.bind (findL 9)).getD .skip)) Q0 ⟨#[.slice a bs.length ca, c1, c2, .pointer (some ⟨hB, 0, none⟩), .slice (some ⟨sB, 0, none⟩) 3 3, .slice (some ⟨wB, 0, none⟩) 4 4, v6, u7, u8, u9, u10, u11, u12, u13, u14, u15, u16, u17, u18, u19, u20, c21, c22, c23, c24, c25, u26, u27, u28, u29, u30, u31, u32, u33, u34, u35, u36, u37, u38, u39, u40, u41, u42, u43, u44, u45, u46, u47, u48, u49, u50, u51, u52, u53, u54, u55, u56, u57, u58, u59, u60, u61, u62, u63, u64, u65, u66, u67, u68, u69, u70, u71, u72, u73, u74, u75, u76, u77, u78, u79, u80, u81, u82, u83, u84, u85, u86, u87, u88, u89, u90, u91, u92, u93, u94, u95, u96, u97, u98, u99, u100, u101, u102, u103, u104, u105, u106, u107, u108, u109, u110, u111, u112, u113, u114, u115, u116, u117, u118, u119, u120, u121, u122, u123, u124, u125, u126, u127, u128, u129, u130, u131, u132, u133, u134, u135, u136, u137, u138, u139, u140, u141, u142, u143, u144, u145, u146, u147, u148, u149, u150, u151, u152, u153, u154, u155, u156, u157, u158, u159, u160, u161, u162, u163, u164, u165, u166, u167, u168, u169, u170, u171, u172, u173, u174, u175, u176, u177, u178, u179, u180, u181, u182, u183, u184, u185, u186, u187, u188, u189], []⟩ w' := by
  refine wp_loop (WI1 a ca bs w hB sB wB c1 c2 c21 c22 c23 c24 c25) mu1 ?_ (fun act w'' hI => g1_round hr hbs hl hpan hexit act w'' hI)
  unfold WI1
  exact ⟨_, _, _, _, _, _, _, _, _, _, _, _, _, _, _, _, _, _, _, _, _, _, _, _, _, _, _, _, _, _, _, _, _, _, _, _, _, _, _, _, _, _, _, _, _, _, _, _, _, _, _, _, _, _, _, _, _, _, _, _, _, _, _, _, _, _, _, _, _, _, _, _, _, _, _, _, _, _, _, _, _, _, _, _, _, _, _, _, _, _, _, _, _, _, _, _, _, _, _, _, _, _, _, _, _, _, _, _, _, _, _, _, _, _, _, _, _, _, _, _, _, _, _, _, _, _, _, _, _, _, _, _, _, _, _, _, _, _, _, _, _, _, _, _, _, _, _, _, _, _, _, _, _, _, _, _, _, _, _, _, _, _, _, _, _, _, _, _, _, _, _, _, _, _, _, _, _, _, _, hrel, rfl⟩

/-- A new home of three. -/
theorem new3 {w : World} {e : Ending} {w' : World} (h : NewP 3 w e w') : ∃ al cl ar cr, e = .returned (.agg #[.slice al 4 cl, .int .i64 (-1), .slice ar 3 cr, .bool false, .int .i64 0, .bool false, .int .i64 0, .slice none 0 0]) ∧
    w'.ownsRow w.heap.size 3 1 (.slice al 4 cl) 4 ([0, 0, 0, 0].map (Value.int .i64)) ∧ w'.ownsRow w.heap.size 4 1 (.slice ar 3 cr) 3 (bv [false, false, false]) ∧ Below w.heap.size w w' := by
  obtain ⟨al, cl, ar, cr, h1, h2, h3, h4⟩ := h
  exact ⟨al, cl, ar, cr, h1, h2, h3, h4⟩

/-- What stands at the start. -/
theorem rel_start {w w1 : World} {al ar : Option Addr} {cl cr : Nat} (o1 : w1.ownsRow w.heap.size 3 1 (.slice al 4 cl) 4 ([0, 0, 0, 0].map (Value.int .i64))) (o2 : w1.ownsRow w.heap.size 4 1 (.slice ar 3 cr) 3 (bv [false, false, false])) (b : Below w.heap.size w w1) :
    Rel1 w w1.heap.size (w1.heap.size + 1) (w1.heap.size + 1 + 1) (.int .i64 ((0 : Nat) : Int)) (((w1.alloc (.cells #[.slice al 4 cl, .int .i64 (-1), .slice ar 3 cr, .bool false, .int .i64 0, .bool false, .int .i64 0, .slice none 0 0] 30)).alloc (.cells #[.int .i64 0, .int .i64 0, .int .i64 0] 3)).alloc (.cells (madeCells #[.int .i64 0] 4) 3)) := by
  have hz := b.size
  have b1 := bel_alloc (Below.refl w1.heap.size w1) (.cells #[.slice al 4 cl, .int .i64 (-1), .slice ar 3 cr, .bool false, .int .i64 0, .bool false, .int .i64 0, .slice none 0 0] 30)
  have X1 := Box.new w1 #[.slice al 4 cl, .int .i64 (-1), .slice ar 3 cr, .bool false, .int .i64 0, .bool false, .int .i64 0, .slice none 0 0] 30
  have z1 : (w1.alloc (.cells #[.slice al 4 cl, .int .i64 (-1), .slice ar 3 cr, .bool false, .int .i64 0, .bool false, .int .i64 0, .slice none 0 0] 30)).heap.size = w1.heap.size + 1 := by simp
  generalize w1.alloc (.cells #[.slice al 4 cl, .int .i64 (-1), .slice ar 3 cr, .bool false, .int .i64 0, .bool false, .int .i64 0, .slice none 0 0] 30) = W1 at b1 X1 z1 ⊢
  have b2 := bel_alloc (Below.refl W1.heap.size W1) (.cells #[.int .i64 0, .int .i64 0, .int .i64 0] 3)
  have o3 : (W1.alloc (.cells #[.int .i64 0, .int .i64 0, .int .i64 0] 3)).ownsRow w.heap.size 3 1 (.slice (some ⟨W1.heap.size, 0, none⟩) 3 3) 3 ([0, 0, 0].map (Value.int .i64)) := World.ownsRow_lit W1 #[.int .i64 0, .int .i64 0, .int .i64 0] 3 (by omega) (by simp [maxLen]) (by simp)
  have z2 : (W1.alloc (.cells #[.int .i64 0, .int .i64 0, .int .i64 0] 3)).heap.size = w1.heap.size + 1 + 1 := by simp [z1]
  rw [z1] at o3
  generalize W1.alloc (.cells #[.int .i64 0, .int .i64 0, .int .i64 0] 3) = W2 at b2 o3 z2 ⊢
  have b3 := bel_alloc (Below.refl W2.heap.size W2) (.cells (madeCells #[.int .i64 0] 4) 3)
  have o4 := owns_made W2 (.int .i64 0) w.heap.size 4 3 (by omega) (by decide)
  rw [z2] at o4
  have b13 := bel_trans b1 (bel_trans b2 b3)
  refine ⟨0, .slice al 4 cl, .slice ar 3 cr, .slice none 0 0, ⟨0, 0, 0, 0, -1, [false, false, false], false, 0, false, 0⟩, [0, 0, 0], [0, 0, 0, 0], rfl, by omega, ⟨hz, (X1.below b2).below b3, owns_below o1 b13, owns_below o2 b13, World.ownsRow_nil _ _ _ _, owns_below o3 b3, o4, fun e => ?_, fun e => ?_, by omega⟩, ⟨rfl, rfl, rfl, rfl, rfl, .inl ⟨rfl, rfl, false, false, false, rfl, rfl⟩⟩, rfl, bel_trans b b13⟩
  · have := (o1.lt _ e).2
    omega
  · have := (o1.lt _ e).2
    omega
end Go.Proofs.Ytliihkdocbpolaa
