/- One way through a round of FnHomeGives' innermost loop. -/
import Derived.Test.YtliihkdocbpolaaGv3a
import Derived.Deep.AppendLies
import Derived.BigQuiet
import Derived.Deep.QuietTactic
namespace Go.Proofs.Ytliihkdocbpolaa
open Go.RowKit
set_option linter.unusedVariables false

set_option maxRecDepth 1000000 in
set_option maxHeartbeats 8000000 in
theorem g3_data2 {lo : Nat} {W : World} {sB wB : Nat} {at3 : Option Addr} {ct : Nat} {ts : List (Int × M)} {st wd : List Int} {v : Value} {c0 c1 c2 c3 c6 c7 c8 c9 c11 c12 c14 c15 c18 c19 c20 c21 c22 c23 c24 c25 c26 c27 c28 c29 c30 c31 c32 c33 c34 c35 c36 c37 c38 c39 c40 c41 c42 c43 c44 c45 c46 c47 c48 c49 c50 c51 c52 c53 c54 c55 c56 c57 c58 c59 c60 c61 c62 c63 c64 c65 c66 c67 c68 c69 c70 c71 c72 c73 c74 c75 c76 c77 c78 c79 c80 c81 c82 c83 c84 c151 c152 c153 c154 c155 c156 c157 c158 c159 c160 c161 c162 c163 c164 c165 c166 c167 c168 c169 c170 c171 c172 c173 c174 c175 c176 c177 c178 c179 c180 c181 c182 c183 c184 c185 c186 c187 c188 c189 : Value} {v10 u17 u85 u86 u87 u88 u89 u90 u91 u92 u93 u94 u95 u96 u97 u98 u99 u100 u101 u102 u103 u104 u105 u106 u107 u108 u109 u110 u111 u112 u113 u114 u115 u116 u117 u118 u119 u120 u121 u122 u123 u124 u125 u126 u127 u128 u129 u130 u131 u132 u133 u134 u135 u136 u137 u138 u139 u140 u141 u142 u143 u144 u145 u146 u147 u148 u149 u150 : Value} {j : Nat} {t : Int × M} {wr : World} {Q0 : Exit → Act → World → Prop} (C : Ctx3 lo W sB wB at3 ct ts st wd v) (ht : ts[j]? = some t) (on : Only W wr (fun x => x = sB))
    (hs : wr.ownsRow lo 3 1 (.slice (some ⟨sB, 0, none⟩) 3 3) 3 ((stF st ((ts.map tabs).take j)).map (Value.int .i64)))
    (hq : (ansF wB wd ((ts.map tabs).take j) = [] ∧ v10 = v) ∨ (ansF wB wd ((ts.map tabs).take j) ≠ [] ∧ wr.ownsRow W.heap.size 36 5 v10 (ansF wB wd ((ts.map tabs).take j)).length (tflat (ansF wB wd ((ts.map tabs).take j)))))
    (hpan : Hid (∀ (c : List PanicEntry) (a : Act) (d : Option Tmp) (v : Value) (w : World), Q0 (.panic c) (a.put d v) w → Q0 (.panic c) a w)) (hk : t.2.k = 3) (ho : t.2.o = true) :
    Code.wp Try.prog ((Try.f3.body.bind (findL 28)).getD .skip) (Exit.then (fun a' w'' => WI3 lo W sB wB at3 ct ts st wd v c0 c1 c2 c3 c6 c7 c8 c9 c11 c12 c14 c15 c18 c19 c20 c21 c22 c23 c24 c25 c26 c27 c28 c29 c30 c31 c32 c33 c34 c35 c36 c37 c38 c39 c40 c41 c42 c43 c44 c45 c46 c47 c48 c49 c50 c51 c52 c53 c54 c55 c56 c57 c58 c59 c60 c61 c62 c63 c64 c65 c66 c67 c68 c69 c70 c71 c72 c73 c74 c75 c76 c77 c78 c79 c80 c81 c82 c83 c84 c151 c152 c153 c154 c155 c156 c157 c158 c159 c160 c161 c162 c163 c164 c165 c166 c167 c168 c169 c170 c171 c172 c173 c174 c175 c176 c177 c178 c179 c180 c181 c182 c183 c184 c185 c186 c187 c188 c189 a' w'' ∧ mu3 ts.length a' w'' < mu3 ts.length ⟨#[c0, c1, c2, c3, .slice (some ⟨sB, 0, none⟩) 3 3, .slice (some ⟨wB, 0, none⟩) 4 4, c6, c7, c8, c9, v10, c11, c12, .slice at3 ts.length ct, c14, c15, .int .i64 (j : Nat), u17, c18, c19, c20, c21, c22, c23, c24, c25, c26, c27, c28, c29, c30, c31, c32, c33, c34, c35, c36, c37, c38, c39, c40, c41, c42, c43, c44, c45, c46, c47, c48, c49, c50, c51, c52, c53, c54, c55, c56, c57, c58, c59, c60, c61, c62, c63, c64, c65, c66, c67, c68, c69, c70, c71, c72, c73, c74, c75, c76, c77, c78, c79, c80, c81, c82, c83, c84, u85, u86, u87, u88, u89, u90, u91, u92, u93, u94, u95, u96, u97, u98, u99, u100, u101, u102, u103, u104, u105, u106, u107, u108, u109, u110, u111, u112, u113, u114, u115, u116, u117, u118, u119, u120, u121, u122, u123, u124, u125, u126, u127, u128, u129, u130, u131, u132, u133, u134, u135, u136, u137, u138, u139, u140, u141, u142, u143, u144, u145, u146, u147, u148, u149, u150, c151, c152, c153, c154, c155, c156, c157, c158, c159, c160, c161, c162, c163, c164, c165, c166, c167, c168, c169, c170, c171, c172, c173, c174, c175, c176, c177, c178, c179, c180, c181, c182, c183, c184, c185, c186, c187, c188, c189], []⟩ wr) Q0) ⟨#[c0, c1, c2, c3, .slice (some ⟨sB, 0, none⟩) 3 3, .slice (some ⟨wB, 0, none⟩) 4 4, c6, c7, c8, c9, v10, c11, c12, .slice at3 ts.length ct, c14, c15, .int .i64 (j : Nat), u17, c18, c19, c20, c21, c22, c23, c24, c25, c26, c27, c28, c29, c30, c31, c32, c33, c34, c35, c36, c37, c38, c39, c40, c41, c42, c43, c44, c45, c46, c47, c48, c49, c50, c51, c52, c53, c54, c55, c56, c57, c58, c59, c60, c61, c62, c63, c64, c65, c66, c67, c68, c69, c70, c71, c72, c73, c74, c75, c76, c77, c78, c79, c80, c81, c82, c83, c84, u85, u86, u87, u88, u89, u90, u91, u92, u93, u94, u95, u96, u97, u98, u99, u100, u101, u102, u103, u104, u105, u106, u107, u108, u109, u110, u111, u112, u113, u114, u115, u116, u117, u118, u119, u120, u121, u122, u123, u124, u125, u126, u127, u128, u129, u130, u131, u132, u133, u134, u135, u136, u137, u138, u139, u140, u141, u142, u143, u144, u145, u146, u147, u148, u149, u150, c151, c152, c153, c154, c155, c156, c157, c158, c159, c160, c161, c162, c163, c164, c165, c166, c167, c168, c169, c170, c171, c172, c173, c174, c175, c176, c177, c178, c179, c180, c181, c182, c183, c184, c185, c186, c187, c188, c189], []⟩ wr := by
  conv => arg 2; whnf
  have hj : j < ts.length := (List.getElem?_eq_some_iff.1 ht).1
  have hi : (j : Int) < (ts.length : Int) := by omega
  have hmem : t ∈ ts := List.mem_of_getElem? ht
  obtain ⟨⟨hto0, hto1⟩, _⟩ := C.k t hmem
  obtain ⟨tn, hto⟩ : ∃ tn : Nat, t.1 = (tn : Int) := ⟨t.1.toNat, by omega⟩
  have htl : tn < 3 := by omega
  have htn : (tn : Int) < 3 := by omega
  obtain ⟨gt, rfl⟩ := owns_addr C.t (by omega)
  have ot := owns_only C.t on (fun x hx e => owns_types C.t C.s (by decide) hx (by rw [e]; rfl))
  obtain ⟨y0, y1, y2, y3, y4x⟩ := told_atG ot ht
  rw [hto] at y0
  rw [hk] at y1
  have y4 : wr.cell? ⟨gt, j * 5 + 4, none⟩ = some (.slice t.2.a t.2.xs.length t.2.c) := y4x
  clear y4x
  have HTK : Hid ((ts.map tabs).take (j + 1) = (ts.map tabs).take j ++ [tabs t]) := take_snoc _ _ _ (by rw [List.getElem?_map, ht]; rfl)
  have HTA : Hid (tabs t = ((tn : Int), 3, t.2.o)) := by show _ = _; unfold tabs; rw [hto, hk]
  have hsl : (stF st ((ts.map tabs).take j)).length = 3 := by rw [stF_length]; exact C.sl
  obtain ⟨sts, hsts⟩ : ∃ l, stF st ((ts.map tabs).take j) = l := ⟨_, rfl⟩
  have HST : Hid (stF st ((ts.map tabs).take j) = sts) := hsts
  obtain ⟨ans, hans⟩ : ∃ l, ansF wB wd ((ts.map tabs).take j) = l := ⟨_, rfl⟩
  have HAN : Hid (ansF wB wd ((ts.map tabs).take j) = ans) := hans
  rw [hsts] at hs hsl
  rw [hans] at hq
  have sc : wr.cell? ⟨sB, tn, none⟩ = some (.int .i64 (sts.getD tn 0)) := by rw [hs.cellAt tn (by omega)]; simp [hsl, htl]
  have sf : wr.frozen? ⟨sB, tn, none⟩ = false := hs.frozenAt tn
  have sz : sB < wr.heap.size := (hs.lt sB rfl).2
  have hn100 : ts.length ≤ 100 := C.n
  rw [ho] at y3
  have HO : Hid (t.2.o = true) := ho
  have hxs : t.2.xs = wd := by rcases (C.k t hmem).2 with h | h | h; exact h.2; omega; omega
  obtain ⟨ol, old⟩ := C.l t hmem
  have ol2 := owns_only ol on (fun x hx e => old (by rw [hx, e]))
  have od2 := owns_only C.d on (fun x hx e => C.sd (by simp [Value.ownBlock] at hx; omega))
  have hwl : wd.length = 4 := by have := C.d.1; simpa using this
  rw [hxs, hwl] at y4
  have RL : Row .i64 wr t.2.a wd := by rw [← hxs]; exact owns_row' ol2 (by rw [hxs]; omega)
  have RD : Row .i64 wr (some ⟨wB, 0, none⟩) wd := by have h9 := od2; rw [← hwl] at h9; exact owns_row' h9 (by omega)
  have bT := bel_alloc (Below.refl wr.heap.size wr) (.cells #[.int .i64 tn, .int .i64 3, .int .i64 t.2.p, .bool true, .slice t.2.a 4 t.2.c] 36)
  have XT := Box.new wr #[.int .i64 tn, .int .i64 3, .int .i64 t.2.p, .bool true, .slice t.2.a 4 t.2.c] 36
  have H1 : Hid (∀ n : Nat, Calls Try.prog 10 #[.slice t.2.a 4 t.2.c, .slice (some ⟨wB, 0, none⟩) 4 4] (wr.alloc (.cells #[.int .i64 tn, .int .i64 3, .int .i64 t.2.p, .bool true, .slice t.2.a 4 t.2.c] 36)) fun e w' => e = .returned (.bool true) ∧ ∃ n, w' = (wr.alloc (.cells #[.int .i64 tn, .int .i64 3, .int .i64 t.2.p, .bool true, .slice t.2.a 4 t.2.c] 36)).drewN n) := fun _ => by
    have h9 := sameIntsG_any t.2.a (some ⟨wB, 0, none⟩) t.2.c 4 wd _ (RL.below bT) (RD.below bT)
    rw [hwl] at h9
    exact h9
  obtain ⟨W0, hW0⟩ : ∃ W0, wr.alloc (.cells #[.int .i64 tn, .int .i64 3, .int .i64 t.2.p, .bool true, .slice t.2.a 4 t.2.c] 36) = W0 := ⟨_, rfl⟩
  have HW0 : Hid (wr.alloc (.cells #[.int .i64 tn, .int .i64 3, .int .i64 t.2.p, .bool true, .slice t.2.a 4 t.2.c] 36) = W0) := hW0
  rw [hW0] at bT XT H1
  have hs0 := owns_below hs bT
  have sc0 : W0.cell? ⟨sB, tn, none⟩ = some (.int .i64 (sts.getD tn 0)) := (bT.cell (p := ⟨sB, tn, none⟩) sz).trans sc
  have sf0 : W0.frozen? ⟨sB, tn, none⟩ = false := hs0.frozenAt tn
  have z0 : W0.cell? ⟨wr.heap.size, 0, none⟩ = some (.int .i64 (tn : Int)) := XT.cell 0
  have z1 : W0.cell? ⟨wr.heap.size, 1, none⟩ = some (.int .i64 3) := XT.cell 1
  have z3 : W0.cell? ⟨wr.heap.size, 3, none⟩ = some (.bool true) := XT.cell 3
  have z4 : W0.cell? ⟨wr.heap.size, 4, none⟩ = some (.slice t.2.a 4 t.2.c) := XT.cell 4
  have zz := XT.lt
  have hne : wr.heap.size ≠ sB := by omega
  have HQ : Hid ((ans = [] ∧ v10 = v) ∨ (ans ≠ [] ∧ W0.ownsRow W.heap.size 36 5 v10 ans.length (tflat ans))) := hq.imp id (fun h => ⟨h.1, owns_below h.2 bT⟩)
  have ON : Hid (Only W W0 (fun x => x = sB)) := ⟨bT.os.trans on.os, bT.tape.trans on.tape, bT.output.trans on.output, Nat.le_trans on.size bT.size, fun i hi hn => (bT.block i (Nat.lt_of_lt_of_le hi on.size)).trans (on.block i hi hn)⟩
  have HS0 : Hid (W0.ownsRow lo 3 1 (.slice (some ⟨sB, 0, none⟩) 3 3) 3 (sts.map (Value.int .i64))) := hs0
  clear hs hq on ot hs0 XT ol old ol2 od2 RL RD bT sc sf hans hsts hk ho hmem hto hxs hwl hsl hto0 hto1 ht C
  go_wp2_with fail
  refine (H1.out 0).mono ?_
  rintro e w1 ⟨rfl, d1, rfl⟩
  go_wp2
  refine ⟨?_, by simp [mu3, intOf]; omega⟩
  unfold WI3
  refine ⟨_, _, _, _, _, _, _, _, _, _, _, _, _, _, _, _, _, _, _, _, _, _, _, _, _, _, _, _, _, _, _, _, _, _, _, _, _, _, _, _, _, _, _, _, _, _, _, _, _, _, _, _, _, _, _, _, _, _, _, _, _, _, _, _, _, _, _, _, _, ?_, rfl⟩
  have hst : stF st ((ts.map tabs).take (j + 1)) = sts.set tn 2 := by rw [HTK.out, stF_snoc, HST.out, HTA.out, HO.out]; simp [st1]
  have han : ansF wB wd ((ts.map tabs).take (j + 1)) = ans := by rw [HTK.out, ansF_snoc, HAN.out, HTA.out]; simp [ans1]
  refine ⟨j + 1, by go_num, by omega, ?_, ?_, ?_⟩
  · exact ((ON.out.setCell ⟨sB, tn, none⟩ _ rfl).setCell ⟨sB, tn, none⟩ _ rfl).below (below_drewN (Below.refl _ _) d1)
  · rw [hst]
    have h1 := ((HS0.out.stored tn (.int .i64 1)).1.stored tn (.int .i64 2)).1
    rw [← List.map_set, ← List.map_set, List.set_set] at h1
    exact h1
  · rw [han]
    exact HQ.out.imp id (fun h => ⟨h.1, owns_setCell (owns_setCell h.2 (fun x hx e => by have := owns_types h.2 HS0.out (by decide) hx; exact this (by rw [← e]; rfl)) _) (fun x hx e => by have := owns_types h.2 HS0.out (by decide) hx; exact this (by rw [← e]; rfl)) _⟩)
end Go.Proofs.Ytliihkdocbpolaa
