/- One way through a round of FnHomeGives' innermost loop. -/
import Derived.Test.YtliihkdocbpolaaGv3a
import Derived.Deep.AppendLies
import Derived.BigQuiet
import Derived.Deep.QuietTactic
namespace Go.Proofs.Ytliihkdocbpolaa
open Go.RowKit
set_option linter.unusedVariables false

set_option maxRecDepth 1000000 in
set_option maxHeartbeats 8000000 in
theorem g3_e {lo : Nat} {W : World} {sB wB : Nat} {at3 : Option Addr} {ct : Nat} {ts : List (Int × M)} {st wd : List Int} {v : Value} {c0 c1 c2 c3 c6 c7 c8 c9 c11 c12 c14 c15 c18 c19 c20 c21 c22 c23 c24 c25 c26 c27 c28 c29 c30 c31 c32 c33 c34 c35 c36 c37 c38 c39 c40 c41 c42 c43 c44 c45 c46 c47 c48 c49 c50 c51 c52 c53 c54 c55 c56 c57 c58 c59 c60 c61 c62 c63 c64 c65 c66 c67 c68 c69 c70 c71 c72 c73 c74 c75 c76 c77 c78 c79 c80 c81 c82 c83 c84 c151 c152 c153 c154 c155 c156 c157 c158 c159 c160 c161 c162 c163 c164 c165 c166 c167 c168 c169 c170 c171 c172 c173 c174 c175 c176 c177 c178 c179 c180 c181 c182 c183 c184 c185 c186 c187 c188 c189 : Value} {v10 u17 u85 u86 u87 u88 u89 u90 u91 u92 u93 u94 u95 u96 u97 u98 u99 u100 u101 u102 u103 u104 u105 u106 u107 u108 u109 u110 u111 u112 u113 u114 u115 u116 u117 u118 u119 u120 u121 u122 u123 u124 u125 u126 u127 u128 u129 u130 u131 u132 u133 u134 u135 u136 u137 u138 u139 u140 u141 u142 u143 u144 u145 u146 u147 u148 u149 u150 : Value} {j : Nat} {t : Int × M} {wr : World} {Q0 : Exit → Act → World → Prop} (C : Ctx3 lo W sB wB at3 ct ts st wd v) (ht : ts[j]? = some t) (on : Only W wr (fun x => x = sB))
    (hs : wr.ownsRow lo 3 1 (.slice (some ⟨sB, 0, none⟩) 3 3) 3 ((stF st ((ts.map tabs).take j)).map (Value.int .i64)))
    (hq : (ansF wB wd ((ts.map tabs).take j) = [] ∧ v10 = v) ∨ (ansF wB wd ((ts.map tabs).take j) ≠ [] ∧ wr.ownsRow W.heap.size 36 5 v10 (ansF wB wd ((ts.map tabs).take j)).length (tflat (ansF wB wd ((ts.map tabs).take j)))))
    (hpan : Hid (∀ (c : List PanicEntry) (a : Act) (d : Option Tmp) (v : Value) (w : World), Q0 (.panic c) (a.put d v) w → Q0 (.panic c) a w)) (hk : t.2.k = 6) (ho : t.2.o = false) (hqA : ansF wB wd ((ts.map tabs).take j) = [] ∧ v10 = v) :
    Code.wp Try.prog ((Try.f3.body.bind (findL 28)).getD .skip) (Exit.then (fun a' w'' => WI3 lo W sB wB at3 ct ts st wd v c0 c1 c2 c3 c6 c7 c8 c9 c11 c12 c14 c15 c18 c19 c20 c21 c22 c23 c24 c25 c26 c27 c28 c29 c30 c31 c32 c33 c34 c35 c36 c37 c38 c39 c40 c41 c42 c43 c44 c45 c46 c47 c48 c49 c50 c51 c52 c53 c54 c55 c56 c57 c58 c59 c60 c61 c62 c63 c64 c65 c66 c67 c68 c69 c70 c71 c72 c73 c74 c75 c76 c77 c78 c79 c80 c81 c82 c83 c84 c151 c152 c153 c154 c155 c156 c157 c158 c159 c160 c161 c162 c163 c164 c165 c166 c167 c168 c169 c170 c171 c172 c173 c174 c175 c176 c177 c178 c179 c180 c181 c182 c183 c184 c185 c186 c187 c188 c189 a' w'' ∧ mu3 ts.length a' w'' < mu3 ts.length ⟨#[c0, c1, c2, c3, .slice (some ⟨sB, 0, none⟩) 3 3, .slice (some ⟨wB, 0, none⟩) 4 4, c6, c7, c8, c9, v10, c11, c12, .slice at3 ts.length ct, c14, c15, .int .i64 (j : Nat), u17, c18, c19, c20, c21, c22, c23, c24, c25, c26, c27, c28, c29, c30, c31, c32, c33, c34, c35, c36, c37, c38, c39, c40, c41, c42, c43, c44, c45, c46, c47, c48, c49, c50, c51, c52, c53, c54, c55, c56, c57, c58, c59, c60, c61, c62, c63, c64, c65, c66, c67, c68, c69, c70, c71, c72, c73, c74, c75, c76, c77, c78, c79, c80, c81, c82, c83, c84, u85, u86, u87, u88, u89, u90, u91, u92, u93, u94, u95, u96, u97, u98, u99, u100, u101, u102, u103, u104, u105, u106, u107, u108, u109, u110, u111, u112, u113, u114, u115, u116, u117, u118, u119, u120, u121, u122, u123, u124, u125, u126, u127, u128, u129, u130, u131, u132, u133, u134, u135, u136, u137, u138, u139, u140, u141, u142, u143, u144, u145, u146, u147, u148, u149, u150, c151, c152, c153, c154, c155, c156, c157, c158, c159, c160, c161, c162, c163, c164, c165, c166, c167, c168, c169, c170, c171, c172, c173, c174, c175, c176, c177, c178, c179, c180, c181, c182, c183, c184, c185, c186, c187, c188, c189], []⟩ wr) Q0) ⟨#[c0, c1, c2, c3, .slice (some ⟨sB, 0, none⟩) 3 3, .slice (some ⟨wB, 0, none⟩) 4 4, c6, c7, c8, c9, v10, c11, c12, .slice at3 ts.length ct, c14, c15, .int .i64 (j : Nat), u17, c18, c19, c20, c21, c22, c23, c24, c25, c26, c27, c28, c29, c30, c31, c32, c33, c34, c35, c36, c37, c38, c39, c40, c41, c42, c43, c44, c45, c46, c47, c48, c49, c50, c51, c52, c53, c54, c55, c56, c57, c58, c59, c60, c61, c62, c63, c64, c65, c66, c67, c68, c69, c70, c71, c72, c73, c74, c75, c76, c77, c78, c79, c80, c81, c82, c83, c84, u85, u86, u87, u88, u89, u90, u91, u92, u93, u94, u95, u96, u97, u98, u99, u100, u101, u102, u103, u104, u105, u106, u107, u108, u109, u110, u111, u112, u113, u114, u115, u116, u117, u118, u119, u120, u121, u122, u123, u124, u125, u126, u127, u128, u129, u130, u131, u132, u133, u134, u135, u136, u137, u138, u139, u140, u141, u142, u143, u144, u145, u146, u147, u148, u149, u150, c151, c152, c153, c154, c155, c156, c157, c158, c159, c160, c161, c162, c163, c164, c165, c166, c167, c168, c169, c170, c171, c172, c173, c174, c175, c176, c177, c178, c179, c180, c181, c182, c183, c184, c185, c186, c187, c188, c189], []⟩ wr := by
  conv => arg 2; whnf
  have hj : j < ts.length := (List.getElem?_eq_some_iff.1 ht).1
  have hi : (j : Int) < (ts.length : Int) := by omega
  have hmem : t ∈ ts := List.mem_of_getElem? ht
  obtain ⟨⟨hto0, hto1⟩, _⟩ := C.k t hmem
  obtain ⟨tn, hto⟩ : ∃ tn : Nat, t.1 = (tn : Int) := ⟨t.1.toNat, by omega⟩
  have htl : tn < 3 := by omega
  have htn : (tn : Int) < 3 := by omega
  obtain ⟨gt, rfl⟩ := owns_addr C.t (by omega)
  have ot := owns_only C.t on (fun x hx e => owns_types C.t C.s (by decide) hx (by rw [e]; rfl))
  obtain ⟨y0, y1, y2, y3, y4x⟩ := told_atG ot ht
  rw [hto] at y0
  rw [hk] at y1
  have y4 : wr.cell? ⟨gt, j * 5 + 4, none⟩ = some (.slice t.2.a t.2.xs.length t.2.c) := y4x
  clear y4x
  have HTK : Hid ((ts.map tabs).take (j + 1) = (ts.map tabs).take j ++ [tabs t]) := take_snoc _ _ _ (by rw [List.getElem?_map, ht]; rfl)
  have HTA : Hid (tabs t = ((tn : Int), 6, t.2.o)) := by show _ = _; unfold tabs; rw [hto, hk]
  have hsl : (stF st ((ts.map tabs).take j)).length = 3 := by rw [stF_length]; exact C.sl
  obtain ⟨sts, hsts⟩ : ∃ l, stF st ((ts.map tabs).take j) = l := ⟨_, rfl⟩
  have HST : Hid (stF st ((ts.map tabs).take j) = sts) := hsts
  obtain ⟨ans, hans⟩ : ∃ l, ansF wB wd ((ts.map tabs).take j) = l := ⟨_, rfl⟩
  have HAN : Hid (ansF wB wd ((ts.map tabs).take j) = ans) := hans
  rw [hsts] at hs hsl
  rw [hans] at hq hqA
  have sc : wr.cell? ⟨sB, tn, none⟩ = some (.int .i64 (sts.getD tn 0)) := by rw [hs.cellAt tn (by omega)]; simp [hsl, htl]
  have sf : wr.frozen? ⟨sB, tn, none⟩ = false := hs.frozenAt tn
  have sz : sB < wr.heap.size := (hs.lt sB rfl).2
  have hn100 : ts.length ≤ 100 := C.n
  rw [ho] at y3
  have HO : Hid (t.2.o = false) := ho
  obtain ⟨i0, hi0, hz0, hz1, hz2⟩ := info_parts info_told
  have hwl : Hid (wd.length = 4) := by have := C.d.1; show _ = _; simpa using this
  have HX : Hid (tcells ((tn : Int), backM wB wd) = [.int .i64 tn, .int .i64 7, .int .i64 0, .bool false, .slice (some ⟨wB, 0, none⟩) 4 4]) := by show _ = _; simp [tcells, backM, M.v, hwl.out]
  have bT := bel_alloc (Below.refl wr.heap.size wr) (.cells #[.int .i64 tn, .int .i64 6, .int .i64 t.2.p, .bool false, .slice t.2.a t.2.xs.length t.2.c] 36)
  have XT := Box.new wr #[.int .i64 tn, .int .i64 6, .int .i64 t.2.p, .bool false, .slice t.2.a t.2.xs.length t.2.c] 36
  obtain ⟨W0, hW0⟩ : ∃ W0, wr.alloc (.cells #[.int .i64 tn, .int .i64 6, .int .i64 t.2.p, .bool false, .slice t.2.a t.2.xs.length t.2.c] 36) = W0 := ⟨_, rfl⟩
  rw [hW0] at bT XT
  have hs0 := owns_below hs bT
  have sc0 : W0.cell? ⟨sB, tn, none⟩ = some (.int .i64 (sts.getD tn 0)) := (bT.cell (p := ⟨sB, tn, none⟩) sz).trans sc
  have sf0 : W0.frozen? ⟨sB, tn, none⟩ = false := hs0.frozenAt tn
  have z0 : W0.cell? ⟨wr.heap.size, 0, none⟩ = some (.int .i64 (tn : Int)) := XT.cell 0
  have z1 : W0.cell? ⟨wr.heap.size, 1, none⟩ = some (.int .i64 6) := XT.cell 1
  have z3 : W0.cell? ⟨wr.heap.size, 3, none⟩ = some (.bool false) := XT.cell 3
  have zz := XT.lt
  have hne : wr.heap.size ≠ sB := by omega
  have on0 : Only W W0 (fun x => x = sB) := on.below bT
  have on1 := on0.setCell ⟨sB, tn, none⟩ (.int .i64 1) rfl
  have hs1 := (hs0.stored tn (.int .i64 1)).1
  rw [← List.map_set] at hs1
  have XT1 := XT.far ⟨sB, tn, none⟩ (.int .i64 1) hne
  obtain ⟨W1, hW1⟩ : ∃ W1, (W0.setCell ⟨sB, tn, none⟩ (.int .i64 1)) = W1 := ⟨_, rfl⟩
  rw [hW1] at on1 hs1 XT1
  have zb0 : W1.cell? ⟨wr.heap.size, 0, none⟩ = some (.int .i64 (tn : Int)) := XT1.cell 0
  have zb3 : W1.cell? ⟨wr.heap.size, 3, none⟩ = some (.bool false) := XT1.cell 3
  have zbz := XT1.lt
  have b2 := bel_alloc (Below.refl W1.heap.size W1) (.cells #[.int .i64 tn, .int .i64 7, .int .i64 0, .bool false, .slice (some ⟨wB, 0, none⟩) 4 4] 36)
  have XN := Box.new W1 #[.int .i64 tn, .int .i64 7, .int .i64 0, .bool false, .slice (some ⟨wB, 0, none⟩) 4 4] 36
  have hnew := World.news_of_block XN
  have hs2 := owns_below hs1 b2
  have on2 := on1.below b2
  have hst : Hid (stF st ((ts.map tabs).take (j + 1)) = sts.set tn 1) := by show _ = _; rw [HTK.out, stF_snoc, HST.out, HTA.out, HO.out]; simp [st1]
  have han : Hid (ansF wB wd ((ts.map tabs).take (j + 1)) = ans ++ [((tn : Int), backM wB wd)]) := by show _ = _; rw [HTK.out, ansF_snoc, HAN.out, HTA.out]; simp [ans1]
  have hwz : Hid (W.heap.size ≤ W1.heap.size) := on1.size
  have hal : ans = [] := hqA.1
  have hv0 := C.v0
  have hvx : v10 = v := hqA.2
  obtain ⟨ad, hv⟩ : ∃ ad, v = .slice (some ad) 0 0 := by
    rcases hv0 with h0 | h0
    · exfalso
      have h1 := ansF_take wB wd _ (j + 1) h0
      rw [han.out] at h1
      simp at h1
    · exact h0
  rw [hv] at hvx
  subst hvx
  have HAL : Hid (ans = []) := hal
  clear hal hv0 hqA hv
  have HS2 : Hid (World.ownsRow _ lo 3 1 (.slice (some ⟨sB, 0, none⟩) 3 3) 3 ((sts.set tn 1).map (Value.int .i64))) := hs2
  have ON2 : Hid (Only W _ (fun x => x = sB)) := on2
  clear hs on ot hs0 XT bT sc sf hans hsts hk hmem hto hsl hto0 hto1 ht on0 on1 hs1 hs2 on2 b2 XN XT1 hq ho
  clear C
  go_wp2_with (at_builtin; refine wpList_append_grows _ rfl (.tmp 143) (.tmp 149) 37 rfl 36 i0 (.agg #[.int .i64 0, .int .i64 0, .int .i64 0, .bool false, .slice none 0 0]) 5 56 Try.underlying37 hi0 hz0 hz1 hz2 rfl (by decide) (some ad) 0 0 [] (by rfl) (by intro h; cases h) (by simp) (by simp) ⟨W1.heap.size, 0, none⟩ 1 1 [.int .i64 tn, .int .i64 7, .int .i64 0, .bool false, .slice (some ⟨wB, 0, none⟩) 4 4] (by rfl) (by simp) hnew (by intro u hu; simp at hu; rcases hu with rfl | rfl | rfl | rfl | rfl <;> rfl) (by omega) (by unfold maxLen; omega) (by omega) ?_)
  intro v5 w5 o5 g5
  have o6 : Hid (w5.ownsRow W.heap.size 36 5 v5 (ans ++ [((tn : Int), backM wB wd)]).length (tflat (ans ++ [((tn : Int), backM wB wd)]))) := by
    show World.ownsRow _ _ _ _ _ _ _
    rw [HAL.out]
    simp only [List.nil_append, List.length_cons, List.length_nil, tflat_cons, HX.out]
    exact owns_base (by simpa [tflat] using o5) (by have := hwz.out; simp; omega)
  have ON5 : Hid (Only W w5 (fun x => x = sB)) := ON2.out.grown g5 (fun j hj => by cases hj)
  have HS5 : Hid (World.ownsRow w5 lo 3 1 (.slice (some ⟨sB, 0, none⟩) 3 3) 3 ((sts.set tn 1).map (Value.int .i64))) := owns_ne HS2.out g5 (fun j hj h => by cases h)
  clear o5 g5 hnew
  go_wp2
  refine ⟨?_, by simp [mu3, intOf]; omega⟩
  unfold WI3
  refine ⟨_, _, _, _, _, _, _, _, _, _, _, _, _, _, _, _, _, _, _, _, _, _, _, _, _, _, _, _, _, _, _, _, _, _, _, _, _, _, _, _, _, _, _, _, _, _, _, _, _, _, _, _, _, _, _, _, _, _, _, _, _, _, _, _, _, _, _, _, _, ?_, rfl⟩
  refine ⟨j + 1, by go_num, by omega, ON5.out, ?_, .inr ⟨?_, ?_⟩⟩
  · rw [hst.out]; exact HS5.out
  · rw [han.out]; simp
  · rw [han.out]; exact o6.out
end Go.Proofs.Ytliihkdocbpolaa
