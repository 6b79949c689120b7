/- One way through a round of FnInOrder's loop. -/
import Derived.Test.YtbofjbjnbagbnaaInB
import Derived.Test.YtbofjbjnbagbnaaInO3
import Derived.Deep.AppendLies
import Derived.Deep.RegionHeld3
import Derived.BigQuiet
import Derived.Deep.QuietTactic
namespace Go.Proofs.Ytbofjbjnbagbnaa
open Go.RowKit
set_option linter.unusedVariables false

set_option maxRecDepth 1000000 in
set_option maxHeartbeats 8000000 in
theorem inc_0 {a : Option Addr} {ca : Nat} {bs : List Int} {w : World} {sB rB : Nat} {c1 c2 c19 c20 c21 c22 c23 c24 c25 c26 c123 c124 c125 c126 c127 c128 c129 c130 c131 c132 c133 c134 c135 c136 c137 c138 c139 c140 c141 c142 c143 c144 c145 c146 c147 c148 c149 c150 c151 c152 c153 : Value} {v5 v6 v7 u9 u10 u11 u12 u13 u14 u15 u16 u17 u18 u27 u28 u29 u30 u31 u32 u33 u34 u35 u36 u37 u38 u39 u40 u41 u42 u43 u44 u45 u46 u47 u48 u49 u50 u51 u52 u53 u54 u55 u56 u57 u58 u59 u60 u61 u62 u63 u64 u65 u66 u67 u68 u69 u70 u71 u72 u73 u74 u75 u76 u77 u78 u79 u80 u81 u82 u83 u84 u85 u86 u87 u88 u89 u90 u91 u92 u93 u94 u95 u96 u97 u98 u99 u100 u101 u102 u103 u104 u105 u106 u107 u108 u109 u110 u111 u112 u113 u114 u115 u116 u117 u118 u119 u120 u121 u122 : Value} {k : Nat} {aq : Option Addr} {cq : Nat} {S : St} {wr : World} {Q0 : Exit → Act → World → Prop}
    (hk : k < 60) (ok : S.Ok) (hP : S.P.length ≤ k) (hN : S.ns.length ≤ k) (hL : Lies wr w.heap.size sB rB v5 v6 v7 aq cq S) (hB : Below w.heap.size w wr) (hr : Row .u8 w a bs) (hbs : ∀ x ∈ bs, 0 ≤ x ∧ x ≤ 255) (hl : bs.length ≤ 1048576)
    (hpan : Hid (∀ (c : List PanicEntry) (a : Act) (d : Option Tmp) (v : Value) (w : World), Q0 (.panic c) (a.put d v) w → Q0 (.panic c) a w)) (hj : atV bs k % 4 = 0) :
    Code.wp Try.prog ((Try.f3.body.bind firstLoop).getD .skip) (Exit.then (fun a' w'' => WI a ca bs w sB rB c1 c2 c19 c20 c21 c22 c23 c24 c25 c26 c123 c124 c125 c126 c127 c128 c129 c130 c131 c132 c133 c134 c135 c136 c137 c138 c139 c140 c141 c142 c143 c144 c145 c146 c147 c148 c149 c150 c151 c152 c153 a' w'' ∧ Wmu a' w'' < Wmu ⟨#[.slice a bs.length ca, c1, c2, .pointer (some ⟨sB, 0, none⟩), .pointer (some ⟨rB, 0, none⟩), v5, v6, v7, .int .i64 (k : Nat), u9, u10, u11, u12, u13, u14, u15, u16, u17, u18, c19, c20, c21, c22, c23, c24, c25, c26, u27, u28, u29, u30, u31, u32, u33, u34, u35, u36, u37, u38, u39, u40, u41, u42, u43, u44, u45, u46, u47, u48, u49, u50, u51, u52, u53, u54, u55, u56, u57, u58, u59, u60, u61, u62, u63, u64, u65, u66, u67, u68, u69, u70, u71, u72, u73, u74, u75, u76, u77, u78, u79, u80, u81, u82, u83, u84, u85, u86, u87, u88, u89, u90, u91, u92, u93, u94, u95, u96, u97, u98, u99, u100, u101, u102, u103, u104, u105, u106, u107, u108, u109, u110, u111, u112, u113, u114, u115, u116, u117, u118, u119, u120, u121, u122, c123, c124, c125, c126, c127, c128, c129, c130, c131, c132, c133, c134, c135, c136, c137, c138, c139, c140, c141, c142, c143, c144, c145, c146, c147, c148, c149, c150, c151, c152, c153], []⟩ wr) Q0) ⟨#[.slice a bs.length ca, c1, c2, .pointer (some ⟨sB, 0, none⟩), .pointer (some ⟨rB, 0, none⟩), v5, v6, v7, .int .i64 (k : Nat), u9, u10, u11, u12, u13, u14, u15, u16, u17, u18, c19, c20, c21, c22, c23, c24, c25, c26, u27, u28, u29, u30, u31, u32, u33, u34, u35, u36, u37, u38, u39, u40, u41, u42, u43, u44, u45, u46, u47, u48, u49, u50, u51, u52, u53, u54, u55, u56, u57, u58, u59, u60, u61, u62, u63, u64, u65, u66, u67, u68, u69, u70, u71, u72, u73, u74, u75, u76, u77, u78, u79, u80, u81, u82, u83, u84, u85, u86, u87, u88, u89, u90, u91, u92, u93, u94, u95, u96, u97, u98, u99, u100, u101, u102, u103, u104, u105, u106, u107, u108, u109, u110, u111, u112, u113, u114, u115, u116, u117, u118, u119, u120, u121, u122, c123, c124, c125, c126, c127, c128, c129, c130, c131, c132, c133, c134, c135, c136, c137, c138, c139, c140, c141, c142, c143, c144, c145, c146, c147, c148, c149, c150, c151, c152, c153], []⟩ wr := by
  conv => arg 2; whnf
  have hrr := hr.below hB
  have hi : (k : Int) < 60 := by omega
  go_wp2_with fail
  refine (at_any a ca bs k _ (by omega) hl hrr hbs).mono ?_
  rintro e w1 ⟨x, rfl, hx, hx0, hx1, hw⟩
  subst hw
  rw [← hx] at hj
  clear hrr hr hbs hx
  have j0 : (x % 4 == 0) = true := by simp; omega
  clear hj
  obtain ⟨s0, s1, sz⟩ := hL.s.at2
  obtain ⟨okq, hokq⟩ : ∃ b, senderB S.b (S.qs ++ [⟨1, x / 4 % 6, false, none, 0, []⟩]) = b := ⟨_, rfl⟩
  have HOQ : Hid (senderB S.b (S.qs ++ [⟨1, x / 4 % 6, false, none, 0, []⟩]) = okq) := hokq
  have hx6 : 0 ≤ x / 4 % 6 ∧ x / 4 % 6 ≤ 5 := by omega
  clear hokq
  go_wp2_with fail
  have bx := bel_alloc (Below.refl w1.heap.size w1) (.cells #[.int .i64 1, .int .i64 (x / 4 % 6), .bool false, .slice none 0 0] 33)
  have X10 := Box.new w1 #[.int .i64 1, .int .i64 (x / 4 % 6), .bool false, .slice none 0 0] 33
  have hL1 := hL.below bx
  have hB1 := bel_trans hB bx
  refine (implQueue_any S.b aq cq S.qs ⟨1, x / 4 % 6, false, none, 0, []⟩ _ (hL1.mrow ok) (by have := ok.q30; omega) (owns_cap hL1.q) ok.xs0 (by simp) (Row.nil _ _ _)).mono ?_
  intro e w2 hpost
  obtain ⟨a2, c2, ds, rfl, hds, hD, b2⟩ := hpost
  rw [HOQ.out] at hds ⊢
  have h6 := old_new hL1.a hD.row (Nat.le_refl _)
  have h7 := old_new hL1.g hD.row (Nat.le_refl _)
  have hz1 := hB1.size
  have o2 := owns_base hD.row hz1
  have hL2 := hL1.below b2
  have hB2 := bel_trans hB1 b2
  replace X10 := X10.below b2
  clear hL1 hB1 bx b2 hD s0 s1 sz hL hB
  obtain ⟨s0, s1, sz⟩ := hL2.s.at2
  obtain ⟨x0, x1, x2, x3, xz⟩ := X10.at4
  go_wp2_with fail
  have bx := bel_alloc (Below.refl w2.heap.size w2) (.cells #[.int .i64 S.b, .slice a2 ds.length c2] 26)
  have X11 := Box.new w2 #[.int .i64 S.b, .slice a2 ds.length c2] 26
  have hL3 := hL2.below bx
  have hB3 := bel_trans hB2 bx
  replace X10 := X10.below bx
  replace o2 := owns_below o2 bx
  refine (specQueue_any S.b aq cq S.qs ⟨1, x / 4 % 6, false, none, 0, []⟩ _ (hL3.mrow ok) (by have := ok.q30; omega) ok.xs0 (by simp) (Row.nil _ _ _)).mono ?_
  intro e w3 hpost
  obtain ⟨a3, c3, ds3, rfl, hds3, hD3, b3⟩ := hpost
  rw [HOQ.out]
  clear hds3 hD3 s0 s1 sz x0 x1 x2 x3 xz
  have hL4 := hL3.below b3
  have hB4 := bel_trans hB3 b3
  replace X10 := X10.below b3
  replace X11 := X11.below b3
  replace o2 := owns_below o2 b3
  clear hL3 hB3 hL2 hB2 bx b3
  cases okq
  · have LL : Hid (Lies (w3.alloc (.cells #[.int .i64 S.b, .slice a3 ds3.length c3] 26)) w.heap.size sB rB v5 v6 v7 aq cq S) := hL4.below (bel_alloc (Below.refl _ _) _)
    have BB : Hid (Below w.heap.size w (w3.alloc (.cells #[.int .i64 S.b, .slice a3 ds3.length c3] 26))) := bel_alloc hB4 _
    have OK : Hid S.Ok := ok
    clear hL4 hB4 X10 X11 ok hds o2 h6 h7
    go_wp2
    refine ⟨?_, by simp [Wmu, intOf]; omega⟩
    unfold WI
    refine ⟨_, _, _, _, _, _, _, _, _, _, _, _, _, _, _, _, _, _, _, _, _, _, _, _, _, _, _, _, _, _, _, _, _, _, _, _, _, _, _, _, _, _, _, _, _, _, _, _, _, _, _, _, _, _, _, _, _, _, _, _, _, _, _, _, _, _, _, _, _, _, _, _, _, _, _, _, _, _, _, _, _, _, _, _, _, _, _, _, _, _, _, _, _, _, _, _, _, _, _, _, _, _, _, _, _, _, _, _, _, _, ?_, rfl⟩
    exact ⟨k + 1, aq, cq, S, by go_num, by omega, OK.out, by omega, by omega, LL.out, BB.out⟩
  · have OK2 : Hid (St.Ok { S with P := S.P ++ [x / 4 % 6], qs := ds, aa := S.aa ++ [⟨1, x / 4 % 6, false, none, 0, []⟩] }) := ok.queue (x / 4 % 6) hx6 ⟨1, x / 4 % 6, false, none, 0, []⟩ rfl ds (by simpa using hds) HOQ.out
    have hal : S.aa.length ≤ 60 := by have := ok.al; omega
    have hL5 := hL4.resend (b' := S.b) o2 h6 h7
    have hB5 := bel_setCell (bel_setCell hB4 ⟨sB, 0, none⟩ (.int .i64 S.b) hL4.ls) ⟨sB, 1, none⟩ (.slice a2 ds.length c2) hL4.ls
    obtain ⟨W5, hW5⟩ : ∃ W5, (w3.setCell ⟨sB, 0, none⟩ (.int .i64 S.b)).setCell ⟨sB, 1, none⟩ (.slice a2 ds.length c2) = W5 := ⟨_, rfl⟩
    rw [hW5] at hL5 hB5
    have hz5 : W5.heap.size = w3.heap.size := by rw [← hW5]; simp
    have b4 := bel_alloc (bel_alloc (Below.refl W5.heap.size W5) (.cells #[.int .i64 S.b, .slice a3 ds3.length c3] 26)) (.cells #[.int .i64 1, .int .i64 (x / 4 % 6), .bool false, .slice none 0 0] 33)
    have hL6 := hL5.below b4
    have hB6 := bel_trans hB5 b4
    have XN := (Box.two W5 #[.int .i64 S.b, .slice a3 ds3.length c3] #[.int .i64 1, .int .i64 (x / 4 % 6), .bool false, .slice none 0 0] 26 33).2
    rw [hz5] at XN
    have hnew := World.news_of_block XN
    have hbz := hB6.size
    rw [← hW5] at hL6 hB6 hnew hbz
    have o6 := hL6.a
    obtain ⟨s0, s1, sz⟩ := hL4.s.at2
    have f0 := hL4.s.frozen 0
    have f1 := hL4.s.frozen 1
    obtain ⟨x0, x1, x2, x3, xz⟩ := X10.at4
    obtain ⟨t0, t1, tz⟩ := X11.at2
    obtain ⟨i0, hi0, hz0, hz1', hz2⟩ := info_parts info_msg
    have n10 := box_box hL4.s X10 (by decide)
    clear ok hds hL4 hB4 hL5 hB5 b4 XN hW5 hz5 X10 X11 o2 h6 h7 j0
    go_wp2_with (at_builtin; refine wpList_append_lies _ rfl (.tmp 67) (.tmp 69) 24 rfl w.heap.size 33 i0 (.agg #[.int .i64 0, .int .i64 0, .bool false, .slice none 0 0]) 4 48 Try.underlying24 hi0 hz0 hz1' hz2 rfl (by decide) v6 S.aa.length (flat S.aa) rfl o6 ⟨w3.heap.size + 1, 0, none⟩ 1 1 (M.cells ⟨1, x / 4 % 6, false, none, 0, []⟩) rfl rfl hnew (msg_one' ⟨1, x / 4 % 6, false, none, 0, []⟩) (by omega) (by unfold maxLen; omega) (by omega) hbz _ rfl ?_)
    intro g6 c6 w5 o7 gr5 at5 lt5
    have LL := hL6.grow6 (m := ⟨1, x / 4 % 6, false, none, 0, []⟩) o7 gr5 (by simpa using at5)
    have BB := bel_grown hB6 o6 (Nat.le_refl _) gr5
    have HLL : Hid (Lies w5 w.heap.size sB rB v5 (.slice (some ⟨g6, 0, none⟩) (S.aa.length + 1) c6) v7 a2 c2 { S with P := S.P ++ [x / 4 % 6], qs := ds, aa := S.aa ++ [⟨1, x / 4 % 6, false, none, 0, []⟩] }) := ⟨LL.ls, LL.lr, LL.s, LL.r, LL.q, LL.n, LL.a, LL.g, LL.daq, LL.dgq, LL.dag⟩
    have HBB : Hid (Below w.heap.size w w5) := BB
    clear LL BB hL6 hB6 o6 o7 gr5 at5 hnew s0 s1 sz x0 x1 x2 x3 xz t0 t1 tz f0 f1
    go_wp2
    refine ⟨?_, by simp [Wmu, intOf]; omega⟩
    unfold WI
    refine ⟨_, _, _, _, _, _, _, _, _, _, _, _, _, _, _, _, _, _, _, _, _, _, _, _, _, _, _, _, _, _, _, _, _, _, _, _, _, _, _, _, _, _, _, _, _, _, _, _, _, _, _, _, _, _, _, _, _, _, _, _, _, _, _, _, _, _, _, _, _, _, _, _, _, _, _, _, _, _, _, _, _, _, _, _, _, _, _, _, _, _, _, _, _, _, _, _, _, _, _, _, _, _, _, _, _, _, _, _, _, _, ?_, rfl⟩
    exact ⟨k + 1, a2, c2, _, by go_num, by omega, OK2.out, by simp; omega, by show S.ns.length ≤ _; omega, HLL.out, HBB.out⟩
end Go.Proofs.Ytbofjbjnbagbnaa
