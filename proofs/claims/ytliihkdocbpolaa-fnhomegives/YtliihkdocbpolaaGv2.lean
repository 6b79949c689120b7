/- Gv3L and Gv2: see the heads of the parts. -/
import Derived.Test.YtliihkdocbpolaaGv3a
import Derived.Test.YtliihkdocbpolaaGv3b
import Derived.Test.YtliihkdocbpolaaGv3c
import Derived.Test.YtliihkdocbpolaaGv3d
import Derived.Test.YtliihkdocbpolaaGv3e
import Derived.Test.YtliihkdocbpolaaGv3f
import Derived.Test.YtliihkdocbpolaaGv3g
import Derived.Test.YtliihkdocbpolaaGv3h
import Derived.Test.YtliihkdocbpolaaGvP
/- FnHomeGives' innermost loop. -/
namespace Go.Proofs.Ytliihkdocbpolaa
open Go.RowKit
set_option linter.unusedVariables false

set_option maxRecDepth 1000000 in
set_option maxHeartbeats 8000000 in
theorem g3_x {lo : Nat} {W : World} {sB wB : Nat} {at3 : Option Addr} {ct : Nat} {ts : List (Int × M)} {st wd : List Int} {v : Value} {c0 c1 c2 c3 c6 c7 c8 c9 c11 c12 c14 c15 c18 c19 c20 c21 c22 c23 c24 c25 c26 c27 c28 c29 c30 c31 c32 c33 c34 c35 c36 c37 c38 c39 c40 c41 c42 c43 c44 c45 c46 c47 c48 c49 c50 c51 c52 c53 c54 c55 c56 c57 c58 c59 c60 c61 c62 c63 c64 c65 c66 c67 c68 c69 c70 c71 c72 c73 c74 c75 c76 c77 c78 c79 c80 c81 c82 c83 c84 c151 c152 c153 c154 c155 c156 c157 c158 c159 c160 c161 c162 c163 c164 c165 c166 c167 c168 c169 c170 c171 c172 c173 c174 c175 c176 c177 c178 c179 c180 c181 c182 c183 c184 c185 c186 c187 c188 c189 : Value} {v10 u17 u85 u86 u87 u88 u89 u90 u91 u92 u93 u94 u95 u96 u97 u98 u99 u100 u101 u102 u103 u104 u105 u106 u107 u108 u109 u110 u111 u112 u113 u114 u115 u116 u117 u118 u119 u120 u121 u122 u123 u124 u125 u126 u127 u128 u129 u130 u131 u132 u133 u134 u135 u136 u137 u138 u139 u140 u141 u142 u143 u144 u145 u146 u147 u148 u149 u150 : Value} {j : Nat} {wr : World} {Q0 : Exit → Act → World → Prop} (hj : j = ts.length) (hn : ts.length ≤ 100) (hrel : Rel3 lo W sB wB ts st wd v v10 (.int .i64 (j : Nat)) wr) (hexit : Hid (∀ act w'', WX3 lo W sB wB at3 ct ts st wd v c0 c1 c2 c3 c6 c7 c8 c9 c11 c12 c14 c15 c18 c19 c20 c21 c22 c23 c24 c25 c26 c27 c28 c29 c30 c31 c32 c33 c34 c35 c36 c37 c38 c39 c40 c41 c42 c43 c44 c45 c46 c47 c48 c49 c50 c51 c52 c53 c54 c55 c56 c57 c58 c59 c60 c61 c62 c63 c64 c65 c66 c67 c68 c69 c70 c71 c72 c73 c74 c75 c76 c77 c78 c79 c80 c81 c82 c83 c84 c151 c152 c153 c154 c155 c156 c157 c158 c159 c160 c161 c162 c163 c164 c165 c166 c167 c168 c169 c170 c171 c172 c173 c174 c175 c176 c177 c178 c179 c180 c181 c182 c183 c184 c185 c186 c187 c188 c189 act w'' → Q0 (.exit 4) act w'')) :
    Code.wp Try.prog ((Try.f3.body.bind (findL 28)).getD .skip) (Exit.then (fun a' w'' => WI3 lo W sB wB at3 ct ts st wd v c0 c1 c2 c3 c6 c7 c8 c9 c11 c12 c14 c15 c18 c19 c20 c21 c22 c23 c24 c25 c26 c27 c28 c29 c30 c31 c32 c33 c34 c35 c36 c37 c38 c39 c40 c41 c42 c43 c44 c45 c46 c47 c48 c49 c50 c51 c52 c53 c54 c55 c56 c57 c58 c59 c60 c61 c62 c63 c64 c65 c66 c67 c68 c69 c70 c71 c72 c73 c74 c75 c76 c77 c78 c79 c80 c81 c82 c83 c84 c151 c152 c153 c154 c155 c156 c157 c158 c159 c160 c161 c162 c163 c164 c165 c166 c167 c168 c169 c170 c171 c172 c173 c174 c175 c176 c177 c178 c179 c180 c181 c182 c183 c184 c185 c186 c187 c188 c189 a' w'' ∧ mu3 ts.length a' w'' < mu3 ts.length ⟨#[c0, c1, c2, c3, .slice (some ⟨sB, 0, none⟩) 3 3, .slice (some ⟨wB, 0, none⟩) 4 4, c6, c7, c8, c9, v10, c11, c12, .slice at3 ts.length ct, c14, c15, .int .i64 (j : Nat), u17, c18, c19, c20, c21, c22, c23, c24, c25, c26, c27, c28, c29, c30, c31, c32, c33, c34, c35, c36, c37, c38, c39, c40, c41, c42, c43, c44, c45, c46, c47, c48, c49, c50, c51, c52, c53, c54, c55, c56, c57, c58, c59, c60, c61, c62, c63, c64, c65, c66, c67, c68, c69, c70, c71, c72, c73, c74, c75, c76, c77, c78, c79, c80, c81, c82, c83, c84, u85, u86, u87, u88, u89, u90, u91, u92, u93, u94, u95, u96, u97, u98, u99, u100, u101, u102, u103, u104, u105, u106, u107, u108, u109, u110, u111, u112, u113, u114, u115, u116, u117, u118, u119, u120, u121, u122, u123, u124, u125, u126, u127, u128, u129, u130, u131, u132, u133, u134, u135, u136, u137, u138, u139, u140, u141, u142, u143, u144, u145, u146, u147, u148, u149, u150, c151, c152, c153, c154, c155, c156, c157, c158, c159, c160, c161, c162, c163, c164, c165, c166, c167, c168, c169, c170, c171, c172, c173, c174, c175, c176, c177, c178, c179, c180, c181, c182, c183, c184, c185, c186, c187, c188, c189], []⟩ wr) Q0) ⟨#[c0, c1, c2, c3, .slice (some ⟨sB, 0, none⟩) 3 3, .slice (some ⟨wB, 0, none⟩) 4 4, c6, c7, c8, c9, v10, c11, c12, .slice at3 ts.length ct, c14, c15, .int .i64 (j : Nat), u17, c18, c19, c20, c21, c22, c23, c24, c25, c26, c27, c28, c29, c30, c31, c32, c33, c34, c35, c36, c37, c38, c39, c40, c41, c42, c43, c44, c45, c46, c47, c48, c49, c50, c51, c52, c53, c54, c55, c56, c57, c58, c59, c60, c61, c62, c63, c64, c65, c66, c67, c68, c69, c70, c71, c72, c73, c74, c75, c76, c77, c78, c79, c80, c81, c82, c83, c84, u85, u86, u87, u88, u89, u90, u91, u92, u93, u94, u95, u96, u97, u98, u99, u100, u101, u102, u103, u104, u105, u106, u107, u108, u109, u110, u111, u112, u113, u114, u115, u116, u117, u118, u119, u120, u121, u122, u123, u124, u125, u126, u127, u128, u129, u130, u131, u132, u133, u134, u135, u136, u137, u138, u139, u140, u141, u142, u143, u144, u145, u146, u147, u148, u149, u150, c151, c152, c153, c154, c155, c156, c157, c158, c159, c160, c161, c162, c163, c164, c165, c166, c167, c168, c169, c170, c171, c172, c173, c174, c175, c176, c177, c178, c179, c180, c181, c182, c183, c184, c185, c186, c187, c188, c189], []⟩ wr := by
  conv => arg 2; whnf
  have hi : (ts.length : Int) ≤ (j : Int) := by omega
  have HR : Hid (Rel3 lo W sB wB ts st wd v v10 (.int .i64 (j : Nat)) wr) := hrel
  clear hrel
  subst hj
  go_wp2
  refine hexit.out _ _ ?_
  unfold WX3
  exact ⟨_, _, _, _, _, _, _, _, _, _, _, _, _, _, _, _, _, _, _, _, _, _, _, _, _, _, _, _, _, _, _, _, _, _, _, _, _, _, _, _, _, _, _, _, _, _, _, _, _, _, _, _, _, _, _, _, _, _, _, _, _, _, _, _, _, _, _, _, HR.out, rfl⟩

set_option maxRecDepth 1000000 in
set_option maxHeartbeats 8000000 in
theorem g3_round {lo : Nat} {W : World} {sB wB : Nat} {at3 : Option Addr} {ct : Nat} {ts : List (Int × M)} {st wd : List Int} {v : Value} {c0 c1 c2 c3 c6 c7 c8 c9 c11 c12 c14 c15 c18 c19 c20 c21 c22 c23 c24 c25 c26 c27 c28 c29 c30 c31 c32 c33 c34 c35 c36 c37 c38 c39 c40 c41 c42 c43 c44 c45 c46 c47 c48 c49 c50 c51 c52 c53 c54 c55 c56 c57 c58 c59 c60 c61 c62 c63 c64 c65 c66 c67 c68 c69 c70 c71 c72 c73 c74 c75 c76 c77 c78 c79 c80 c81 c82 c83 c84 c151 c152 c153 c154 c155 c156 c157 c158 c159 c160 c161 c162 c163 c164 c165 c166 c167 c168 c169 c170 c171 c172 c173 c174 c175 c176 c177 c178 c179 c180 c181 c182 c183 c184 c185 c186 c187 c188 c189 : Value} {Q0 : Exit → Act → World → Prop} (C : Ctx3 lo W sB wB at3 ct ts st wd v) (hpan : Hid (∀ (c : List PanicEntry) (a : Act) (d : Option Tmp) (v : Value) (w : World), Q0 (.panic c) (a.put d v) w → Q0 (.panic c) a w)) (hexit : Hid (∀ act w'', WX3 lo W sB wB at3 ct ts st wd v c0 c1 c2 c3 c6 c7 c8 c9 c11 c12 c14 c15 c18 c19 c20 c21 c22 c23 c24 c25 c26 c27 c28 c29 c30 c31 c32 c33 c34 c35 c36 c37 c38 c39 c40 c41 c42 c43 c44 c45 c46 c47 c48 c49 c50 c51 c52 c53 c54 c55 c56 c57 c58 c59 c60 c61 c62 c63 c64 c65 c66 c67 c68 c69 c70 c71 c72 c73 c74 c75 c76 c77 c78 c79 c80 c81 c82 c83 c84 c151 c152 c153 c154 c155 c156 c157 c158 c159 c160 c161 c162 c163 c164 c165 c166 c167 c168 c169 c170 c171 c172 c173 c174 c175 c176 c177 c178 c179 c180 c181 c182 c183 c184 c185 c186 c187 c188 c189 act w'' → Q0 (.exit 4) act w'')) (act : Act) (wr : World) (hI : WI3 lo W sB wB at3 ct ts st wd v c0 c1 c2 c3 c6 c7 c8 c9 c11 c12 c14 c15 c18 c19 c20 c21 c22 c23 c24 c25 c26 c27 c28 c29 c30 c31 c32 c33 c34 c35 c36 c37 c38 c39 c40 c41 c42 c43 c44 c45 c46 c47 c48 c49 c50 c51 c52 c53 c54 c55 c56 c57 c58 c59 c60 c61 c62 c63 c64 c65 c66 c67 c68 c69 c70 c71 c72 c73 c74 c75 c76 c77 c78 c79 c80 c81 c82 c83 c84 c151 c152 c153 c154 c155 c156 c157 c158 c159 c160 c161 c162 c163 c164 c165 c166 c167 c168 c169 c170 c171 c172 c173 c174 c175 c176 c177 c178 c179 c180 c181 c182 c183 c184 c185 c186 c187 c188 c189 act wr) :
    Code.wp Try.prog ((Try.f3.body.bind (findL 28)).getD .skip) (Exit.then (fun a' w'' => WI3 lo W sB wB at3 ct ts st wd v c0 c1 c2 c3 c6 c7 c8 c9 c11 c12 c14 c15 c18 c19 c20 c21 c22 c23 c24 c25 c26 c27 c28 c29 c30 c31 c32 c33 c34 c35 c36 c37 c38 c39 c40 c41 c42 c43 c44 c45 c46 c47 c48 c49 c50 c51 c52 c53 c54 c55 c56 c57 c58 c59 c60 c61 c62 c63 c64 c65 c66 c67 c68 c69 c70 c71 c72 c73 c74 c75 c76 c77 c78 c79 c80 c81 c82 c83 c84 c151 c152 c153 c154 c155 c156 c157 c158 c159 c160 c161 c162 c163 c164 c165 c166 c167 c168 c169 c170 c171 c172 c173 c174 c175 c176 c177 c178 c179 c180 c181 c182 c183 c184 c185 c186 c187 c188 c189 a' w'' ∧ mu3 ts.length a' w'' < mu3 ts.length act wr) Q0) act wr := by
  unfold WI3 at hI
  obtain ⟨v10, hI⟩ := hI
  obtain ⟨v16, hI⟩ := hI
  obtain ⟨u17, hI⟩ := hI
  obtain ⟨u85, hI⟩ := hI
  obtain ⟨u86, hI⟩ := hI
  obtain ⟨u87, hI⟩ := hI
  obtain ⟨u88, hI⟩ := hI
  obtain ⟨u89, hI⟩ := hI
  obtain ⟨u90, hI⟩ := hI
  obtain ⟨u91, hI⟩ := hI
  obtain ⟨u92, hI⟩ := hI
  obtain ⟨u93, hI⟩ := hI
  obtain ⟨u94, hI⟩ := hI
  obtain ⟨u95, hI⟩ := hI
  obtain ⟨u96, hI⟩ := hI
  obtain ⟨u97, hI⟩ := hI
  obtain ⟨u98, hI⟩ := hI
  obtain ⟨u99, hI⟩ := hI
  obtain ⟨u100, hI⟩ := hI
  obtain ⟨u101, hI⟩ := hI
  obtain ⟨u102, hI⟩ := hI
  obtain ⟨u103, hI⟩ := hI
  obtain ⟨u104, hI⟩ := hI
  obtain ⟨u105, hI⟩ := hI
  obtain ⟨u106, hI⟩ := hI
  obtain ⟨u107, hI⟩ := hI
  obtain ⟨u108, hI⟩ := hI
  obtain ⟨u109, hI⟩ := hI
  obtain ⟨u110, hI⟩ := hI
  obtain ⟨u111, hI⟩ := hI
  obtain ⟨u112, hI⟩ := hI
  obtain ⟨u113, hI⟩ := hI
  obtain ⟨u114, hI⟩ := hI
  obtain ⟨u115, hI⟩ := hI
  obtain ⟨u116, hI⟩ := hI
  obtain ⟨u117, hI⟩ := hI
  obtain ⟨u118, hI⟩ := hI
  obtain ⟨u119, hI⟩ := hI
  obtain ⟨u120, hI⟩ := hI
  obtain ⟨u121, hI⟩ := hI
  obtain ⟨u122, hI⟩ := hI
  obtain ⟨u123, hI⟩ := hI
  obtain ⟨u124, hI⟩ := hI
  obtain ⟨u125, hI⟩ := hI
  obtain ⟨u126, hI⟩ := hI
  obtain ⟨u127, hI⟩ := hI
  obtain ⟨u128, hI⟩ := hI
  obtain ⟨u129, hI⟩ := hI
  obtain ⟨u130, hI⟩ := hI
  obtain ⟨u131, hI⟩ := hI
  obtain ⟨u132, hI⟩ := hI
  obtain ⟨u133, hI⟩ := hI
  obtain ⟨u134, hI⟩ := hI
  obtain ⟨u135, hI⟩ := hI
  obtain ⟨u136, hI⟩ := hI
  obtain ⟨u137, hI⟩ := hI
  obtain ⟨u138, hI⟩ := hI
  obtain ⟨u139, hI⟩ := hI
  obtain ⟨u140, hI⟩ := hI
  obtain ⟨u141, hI⟩ := hI
  obtain ⟨u142, hI⟩ := hI
  obtain ⟨u143, hI⟩ := hI
  obtain ⟨u144, hI⟩ := hI
  obtain ⟨u145, hI⟩ := hI
  obtain ⟨u146, hI⟩ := hI
  obtain ⟨u147, hI⟩ := hI
  obtain ⟨u148, hI⟩ := hI
  obtain ⟨u149, hI⟩ := hI
  obtain ⟨u150, hI⟩ := hI
  obtain ⟨hrel, rfl⟩ := hI
  have HREL := hrel
  obtain ⟨j, rfl, hj, on, hs, hq⟩ := hrel
  by_cases hjl : j = ts.length
  · exact g3_x hjl C.n HREL hexit
  · obtain ⟨t, ht⟩ : ∃ t, ts[j]? = some t := ⟨_, List.getElem?_eq_getElem (by omega)⟩
    rcases (C.k t (List.mem_of_getElem? ht)).2 with ⟨hk, _⟩ | hk | hk
    · cases ho : t.2.o
      · exact g3_data1 C ht on hs hq hpan hk ho
      · exact g3_data2 C ht on hs hq hpan hk ho
    · rcases hq with hA | hB
      · exact g3_c C ht on hs (.inl hA) hpan hk hA
      · exact g3_d C ht on hs (.inr hB) hpan hk hB.2
    · cases ho : t.2.o
      · rcases hq with hA | hB
        · exact g3_e C ht on hs (.inl hA) hpan hk ho hA
        · exact g3_g C ht on hs (.inr hB) hpan hk ho hB.2
      · rcases hq with hA | hB
        · exact g3_f C ht on hs (.inl hA) hpan hk ho hA
        · exact g3_h C ht on hs (.inr hB) hpan hk ho hB.2

set_option maxRecDepth 1000000 in
theorem g3_loop {lo : Nat} {W : World} {sB wB : Nat} {at3 : Option Addr} {ct : Nat} {ts : List (Int × M)} {st wd : List Int} {v : Value} {c0 c1 c2 c3 c6 c7 c8 c9 c11 c12 c14 c15 c18 c19 c20 c21 c22 c23 c24 c25 c26 c27 c28 c29 c30 c31 c32 c33 c34 c35 c36 c37 c38 c39 c40 c41 c42 c43 c44 c45 c46 c47 c48 c49 c50 c51 c52 c53 c54 c55 c56 c57 c58 c59 c60 c61 c62 c63 c64 c65 c66 c67 c68 c69 c70 c71 c72 c73 c74 c75 c76 c77 c78 c79 c80 c81 c82 c83 c84 c151 c152 c153 c154 c155 c156 c157 c158 c159 c160 c161 c162 c163 c164 c165 c166 c167 c168 c169 c170 c171 c172 c173 c174 c175 c176 c177 c178 c179 c180 c181 c182 c183 c184 c185 c186 c187 c188 c189 : Value} {Q0 : Exit → Act → World → Prop} (C : Ctx3 lo W sB wB at3 ct ts st wd v) (hpan : Hid (∀ (c : List PanicEntry) (a : Act) (d : Option Tmp) (v : Value) (w : World), Q0 (.panic c) (a.put d v) w → Q0 (.panic c) a w)) (hexit : Hid (∀ act w'', WX3 lo W sB wB at3 ct ts st wd v c0 c1 c2 c3 c6 c7 c8 c9 c11 c12 c14 c15 c18 c19 c20 c21 c22 c23 c24 c25 c26 c27 c28 c29 c30 c31 c32 c33 c34 c35 c36 c37 c38 c39 c40 c41 c42 c43 c44 c45 c46 c47 c48 c49 c50 c51 c52 c53 c54 c55 c56 c57 c58 c59 c60 c61 c62 c63 c64 c65 c66 c67 c68 c69 c70 c71 c72 c73 c74 c75 c76 c77 c78 c79 c80 c81 c82 c83 c84 c151 c152 c153 c154 c155 c156 c157 c158 c159 c160 c161 c162 c163 c164 c165 c166 c167 c168 c169 c170 c171 c172 c173 c174 c175 c176 c177 c178 c179 c180 c181 c182 c183 c184 c185 c186 c187 c188 c189 act w'' → Q0 (.exit 4) act w'')) {v10 v16 u17 u85 u86 u87 u88 u89 u90 u91 u92 u93 u94 u95 u96 u97 u98 u99 u100 u101 u102 u103 u104 u105 u106 u107 u108 u109 u110 u111 u112 u113 u114 u115 u116 u117 u118 u119 u120 u121 u122 u123 u124 u125 u126 u127 u128 u129 u130 u131 u132 u133 u134 u135 u136 u137 u138 u139 u140 u141 u142 u143 u144 u145 u146 u147 u148 u149 u150 : Value} {w' : World} (hrel : Rel3 lo W sB wB ts st wd v v10 v16 w') :
    Code.wp Try.prog (Code.loop ((Try.f3.body.bind (findL 28)).getD .skip)) Q0 ⟨#[c0, c1, c2, c3, .slice (some ⟨sB, 0, none⟩) 3 3, .slice (some ⟨wB, 0, none⟩) 4 4, c6, c7, c8, c9, v10, c11, c12, .slice at3 ts.length ct, c14, c15, v16, u17, c18, c19, c20, c21, c22, c23, c24, c25, c26, c27, c28, c29, c30, c31, c32, c33, c34, c35, c36, c37, c38, c39, c40, c41, c42, c43, c44, c45, c46, c47, c48, c49, c50, c51, c52, c53, c54, c55, c56, c57, c58, c59, c60, c61, c62, c63, c64, c65, c66, c67, c68, c69, c70, c71, c72, c73, c74, c75, c76, c77, c78, c79, c80, c81, c82, c83, c84, u85, u86, u87, u88, u89, u90, u91, u92, u93, u94, u95, u96, u97, u98, u99, u100, u101, u102, u103, u104, u105, u106, u107, u108, u109, u110, u111, u112, u113, u114, u115, u116, u117, u118, u119, u120, u121, u122, u123, u124, u125, u126, u127, u128, u129, u130, u131, u132, u133, u134, u135, u136, u137, u138, u139, u140, u141, u142, u143, u144, u145, u146, u147, u148, u149, u150, c151, c152, c153, c154, c155, c156, c157, c158, c159, c160, c161, c162, c163, c164, c165, c166, c167, c168, c169, c170, c171, c172, c173, c174, c175, c176, c177, c178, c179, c180, c181, c182, c183, c184, c185, c186, c187, c188, c189], []⟩ w' := by
  refine wp_loop (WI3 lo W sB wB at3 ct ts st wd v c0 c1 c2 c3 c6 c7 c8 c9 c11 c12 c14 c15 c18 c19 c20 c21 c22 c23 c24 c25 c26 c27 c28 c29 c30 c31 c32 c33 c34 c35 c36 c37 c38 c39 c40 c41 c42 c43 c44 c45 c46 c47 c48 c49 c50 c51 c52 c53 c54 c55 c56 c57 c58 c59 c60 c61 c62 c63 c64 c65 c66 c67 c68 c69 c70 c71 c72 c73 c74 c75 c76 c77 c78 c79 c80 c81 c82 c83 c84 c151 c152 c153 c154 c155 c156 c157 c158 c159 c160 c161 c162 c163 c164 c165 c166 c167 c168 c169 c170 c171 c172 c173 c174 c175 c176 c177 c178 c179 c180 c181 c182 c183 c184 c185 c186 c187 c188 c189) (mu3 ts.length) ?_ (fun act w'' hI => g3_round C hpan hexit act w'' hI)
  unfold WI3
  exact ⟨_, _, _, _, _, _, _, _, _, _, _, _, _, _, _, _, _, _, _, _, _, _, _, _, _, _, _, _, _, _, _, _, _, _, _, _, _, _, _, _, _, _, _, _, _, _, _, _, _, _, _, _, _, _, _, _, _, _, _, _, _, _, _, _, _, _, _, _, _, hrel, rfl⟩
end Go.Proofs.Ytliihkdocbpolaa

/- FnHomeGives' loop over its queue, taken out of its code; what stands at each round. -/
namespace Go.Proofs.Ytliihkdocbpolaa
open Go.RowKit
set_option linter.unusedVariables false

/-- A queue that is read. -/
def QAt (w : World) (v : Value) (qs : List (Int × M)) : Prop :=
  ∃ g off c cs fr, v = .slice (some ⟨g, off, none⟩) qs.length c ∧ qs.length ≤ c ∧ w.heap[g]? = some (.cells cs 36 fr) ∧ ∀ i u, (tflat qs)[i]? = some u → cs[off + i]? = some u

theorem QAt.keep {w w' : World} {v : Value} {qs : List (Int × M)} (h : QAt w v qs) (hk : ∀ (g : Nat) (cs : Array Value) (fr : Nat × Nat), w.heap[g]? = some (.cells cs 36 fr) → w'.heap[g]? = w.heap[g]?) : QAt w' v qs := by
  obtain ⟨g, off, c, cs, fr, h1, h2, h3, h4⟩ := h
  exact ⟨g, off, c, cs, fr, h1, h2, (hk g cs fr h3).trans h3, h4⟩
theorem QAt.below {w w' : World} {v : Value} {qs : List (Int × M)} (h : QAt w v qs) (b : Below w.heap.size w w') : QAt w' v qs :=
  h.keep (fun g cs fr hg => b.block g (Array.getElem?_eq_some_iff.1 hg).1)
theorem QAt.of_owns {w : World} {lo g c : Nat} {qs : List (Int × M)} (h : w.ownsRow lo 36 5 (.slice (some ⟨g, 0, none⟩) qs.length c) qs.length (tflat qs)) : QAt w (.slice (some ⟨g, 0, none⟩) qs.length c) qs := by
  rcases h.2 with ⟨h', _⟩ | ⟨g', cap', cur, h', _, hg, hnc, _, _, htake⟩
  · simp at h'
  · simp only [Value.slice.injEq, Option.some.injEq, Addr.mk.injEq, and_true, true_and] at h'
    obtain ⟨rfl, rfl⟩ := h'
    refine ⟨g, 0, c, cur, _, rfl, hnc, hg, fun i u hu => ?_⟩
    rw [← htake, List.getElem?_take] at hu
    split at hu
    · rw [Nat.zero_add, ← hu]; simp
    · cases hu
theorem QAt.cells {w : World} {g off n c : Nat} {q : Int × M} {rest : List (Int × M)} (h : QAt w (.slice (some ⟨g, off, none⟩) n c) (q :: rest)) :
    w.cell? ⟨g, off, none⟩ = some (.int .i64 q.1) ∧ w.cell? ⟨g, off + 1, none⟩ = some (.int .i64 q.2.k) ∧ w.cell? ⟨g, off + 2, none⟩ = some (.int .i64 q.2.p) ∧ w.cell? ⟨g, off + 3, none⟩ = some (.bool q.2.o) ∧ w.cell? ⟨g, off + 4, none⟩ = some (.slice q.2.a q.2.xs.length q.2.c) ∧ n = rest.length + 1 ∧ rest.length + 1 ≤ c ∧ g < w.heap.size ∧
    (c = 1 → QAt w (.slice (some ⟨g, off, none⟩) 0 0) rest) ∧ (2 ≤ c → QAt w (.slice (some ⟨g, off + 5, none⟩) rest.length (c - 1)) rest) := by
  obtain ⟨g', off', c', cs, fr, h1, h2, h3, h4⟩ := h
  simp only [Value.slice.injEq, Option.some.injEq, Addr.mk.injEq, and_true] at h1
  obtain ⟨⟨rfl, rfl⟩, hn, rfl⟩ := h1
  simp at hn h2
  have key : ∀ i u, (tcells q)[i]? = some u → w.cell? ⟨g, off + i, none⟩ = some u := fun i u hu => by
    have hi := (List.getElem?_eq_some_iff.1 hu).1
    have := h4 i u (by rw [tflat_cons, List.getElem?_append_left hi]; exact hu)
    rw [cell_of_row w g (off + i) cs _ fr h3]
    exact this
  refine ⟨by simpa using key 0 _ rfl, key 1 _ rfl, key 2 _ rfl, key 3 _ rfl, key 4 _ rfl, hn, h2, (Array.getElem?_eq_some_iff.1 h3).1, fun hc => ?_, fun hc => ?_⟩
  · have hr : rest = [] := List.length_eq_zero_iff.1 (by omega)
    subst hr
    exact ⟨g, off, 0, cs, fr, rfl, Nat.le_refl _, h3, fun i u hu => by simp [tflat] at hu⟩
  · refine ⟨g, off + 5, c - 1, cs, fr, rfl, by omega, h3, fun i u hu => ?_⟩
    have := h4 (5 + i) u (by rw [tflat_cons, List.getElem?_append_right (by simp [tcells])]; simpa [tcells] using hu)
    rw [Nat.add_assoc]
    exact this

/-- What stands at each round. -/
def Rel2 (lo : Nat) (w : World) (hB sB wB who : Nat) (own : Bool) (wd : List Int) (v10 : Value) (w' : World) : Prop :=
  ∃ vl vr vq H st qs, GL lo w' hB sB wB vl vr vq H st wd ∧ QAt w' v10 qs ∧ Ph wB who own wd H st qs ∧ (H.bz = false → qs ≠ [] → ∃ g, v10 = .slice (some ⟨g, 0, none⟩) 1 1) ∧ Below lo w w'

set_option maxRecDepth 1000000 in
def WI2 (lo : Nat) (w : World) (hB sB wB who : Nat) (own : Bool) (wd : List Int) (c0 c1 c2 c6 c7 c8 c9 c18 c19 c20 c21 c22 c23 c24 c25 c26 c27 c28 c29 c30 c31 c32 c33 c34 c35 c36 c37 c38 c39 c40 c41 c42 c43 c44 c45 c46 c47 c48 c49 c50 c51 c52 c53 c151 c152 c153 c154 c155 c156 c157 c158 c159 c160 c161 c162 c163 c164 c165 c166 c167 c168 c169 c170 c171 c172 c173 c174 c175 c176 c177 c178 c179 c180 c181 c182 c183 c184 c185 c186 c187 c188 c189 : Value) (act : Act) (w' : World) : Prop :=
  ∃ v10 u11 u12 u13 u14 u15 u16 u17 u54 u55 u56 u57 u58 u59 u60 u61 u62 u63 u64 u65 u66 u67 u68 u69 u70 u71 u72 u73 u74 u75 u76 u77 u78 u79 u80 u81 u82 u83 u84 u85 u86 u87 u88 u89 u90 u91 u92 u93 u94 u95 u96 u97 u98 u99 u100 u101 u102 u103 u104 u105 u106 u107 u108 u109 u110 u111 u112 u113 u114 u115 u116 u117 u118 u119 u120 u121 u122 u123 u124 u125 u126 u127 u128 u129 u130 u131 u132 u133 u134 u135 u136 u137 u138 u139 u140 u141 u142 u143 u144 u145 u146 u147 u148 u149 u150 : Value, Rel2 lo w hB sB wB who own wd v10 w' ∧ act = ⟨#[c0, c1, c2, .pointer (some ⟨hB, 0, none⟩), .slice (some ⟨sB, 0, none⟩) 3 3, .slice (some ⟨wB, 0, none⟩) 4 4, c6, c7, c8, c9, v10, u11, u12, u13, u14, u15, u16, u17, c18, c19, c20, c21, c22, c23, c24, c25, c26, c27, c28, c29, c30, c31, c32, c33, c34, c35, c36, c37, c38, c39, c40, c41, c42, c43, c44, c45, c46, c47, c48, c49, c50, c51, c52, c53, u54, u55, u56, u57, u58, u59, u60, u61, u62, u63, u64, u65, u66, u67, u68, u69, u70, u71, u72, u73, u74, u75, u76, u77, u78, u79, u80, u81, u82, u83, u84, u85, u86, u87, u88, u89, u90, u91, u92, u93, u94, u95, u96, u97, u98, u99, u100, u101, u102, u103, u104, u105, u106, u107, u108, u109, u110, u111, u112, u113, u114, u115, u116, u117, u118, u119, u120, u121, u122, u123, u124, u125, u126, u127, u128, u129, u130, u131, u132, u133, u134, u135, u136, u137, u138, u139, u140, u141, u142, u143, u144, u145, u146, u147, u148, u149, u150, c151, c152, c153, c154, c155, c156, c157, c158, c159, c160, c161, c162, c163, c164, c165, c166, c167, c168, c169, c170, c171, c172, c173, c174, c175, c176, c177, c178, c179, c180, c181, c182, c183, c184, c185, c186, c187, c188, c189], []⟩
/-- What stands behind the loop. -/
def End2 (lo : Nat) (w : World) (hB sB wB who : Nat) (wd : List Int) (w' : World) : Prop :=
  ∃ vl vr vq H st, GL lo w' hB sB wB vl vr vq H st wd ∧ Rest H st wd ∧ st.getD who 0 ≠ 0 ∧ Below lo w w'
set_option maxRecDepth 1000000 in
def WX2 (lo : Nat) (w : World) (hB sB wB who : Nat) (own : Bool) (wd : List Int) (c0 c1 c2 c6 c7 c8 c9 c18 c19 c20 c21 c22 c23 c24 c25 c26 c27 c28 c29 c30 c31 c32 c33 c34 c35 c36 c37 c38 c39 c40 c41 c42 c43 c44 c45 c46 c47 c48 c49 c50 c51 c52 c53 c151 c152 c153 c154 c155 c156 c157 c158 c159 c160 c161 c162 c163 c164 c165 c166 c167 c168 c169 c170 c171 c172 c173 c174 c175 c176 c177 c178 c179 c180 c181 c182 c183 c184 c185 c186 c187 c188 c189 : Value) (act : Act) (w' : World) : Prop :=
  ∃ v10 u11 u12 u13 u14 u15 u16 u17 u54 u55 u56 u57 u58 u59 u60 u61 u62 u63 u64 u65 u66 u67 u68 u69 u70 u71 u72 u73 u74 u75 u76 u77 u78 u79 u80 u81 u82 u83 u84 u85 u86 u87 u88 u89 u90 u91 u92 u93 u94 u95 u96 u97 u98 u99 u100 u101 u102 u103 u104 u105 u106 u107 u108 u109 u110 u111 u112 u113 u114 u115 u116 u117 u118 u119 u120 u121 u122 u123 u124 u125 u126 u127 u128 u129 u130 u131 u132 u133 u134 u135 u136 u137 u138 u139 u140 u141 u142 u143 u144 u145 u146 u147 u148 u149 u150 : Value, End2 lo w hB sB wB who wd w' ∧ act = ⟨#[c0, c1, c2, .pointer (some ⟨hB, 0, none⟩), .slice (some ⟨sB, 0, none⟩) 3 3, .slice (some ⟨wB, 0, none⟩) 4 4, c6, c7, c8, c9, v10, u11, u12, u13, u14, u15, u16, u17, c18, c19, c20, c21, c22, c23, c24, c25, c26, c27, c28, c29, c30, c31, c32, c33, c34, c35, c36, c37, c38, c39, c40, c41, c42, c43, c44, c45, c46, c47, c48, c49, c50, c51, c52, c53, u54, u55, u56, u57, u58, u59, u60, u61, u62, u63, u64, u65, u66, u67, u68, u69, u70, u71, u72, u73, u74, u75, u76, u77, u78, u79, u80, u81, u82, u83, u84, u85, u86, u87, u88, u89, u90, u91, u92, u93, u94, u95, u96, u97, u98, u99, u100, u101, u102, u103, u104, u105, u106, u107, u108, u109, u110, u111, u112, u113, u114, u115, u116, u117, u118, u119, u120, u121, u122, u123, u124, u125, u126, u127, u128, u129, u130, u131, u132, u133, u134, u135, u136, u137, u138, u139, u140, u141, u142, u143, u144, u145, u146, u147, u148, u149, u150, c151, c152, c153, c154, c155, c156, c157, c158, c159, c160, c161, c162, c163, c164, c165, c166, c167, c168, c169, c170, c171, c172, c173, c174, c175, c176, c177, c178, c179, c180, c181, c182, c183, c184, c185, c186, c187, c188, c189], []⟩

def muV (v : Value) (b : Option Value) : Nat := match v with
  | .slice _ n _ => if n = 0 then 0 else (match b with
    | some (.bool true) => n
    | _ => 10 + n)
  | _ => 0
def mu2 (hB : Nat) (act : Act) (w : World) : Nat := muV (act.tmps.getD 10 undef) (w.cell? ⟨hB, 3, none⟩)
theorem muV_P {lo : Nat} {w : World} {hB sB wB : Nat} {vl vr vq : Value} {H : Hm} {st wd : List Int} (g : GL lo w hB sB wB vl vr vq H st wd) (a : Option Addr) (n c : Nat) : muV (.slice a n c) (w.cell? ⟨hB, 3, none⟩) = muP H n := by
  have h3 : w.cell? ⟨hB, 3, none⟩ = some (.bool H.bz) := g.h.cell 3
  rw [h3]
  unfold muV muP
  cases H.bz <;> simp

theorem own_lt {w : World} {base e size n c : Nat} {a : Option Addr} {xs : List Value} (h : w.ownsRow base e size (.slice a n c) n xs) : ∀ b off s, a = some ⟨b, off, s⟩ → b < w.heap.size := by
  intro b off s ha
  rcases h.2 with ⟨h', _⟩ | ⟨g', cap', cur, h', _, hg, _⟩
  · simp only [Value.slice.injEq] at h'
    rw [h'.1] at ha
    cases ha
  · simp only [Value.slice.injEq] at h'
    rw [h'.1] at ha
    simp only [Option.some.injEq, Addr.mk.injEq] at ha
    rw [← ha.1]
    exact (Array.getElem?_eq_some_iff.1 hg).1
end Go.Proofs.Ytliihkdocbpolaa
