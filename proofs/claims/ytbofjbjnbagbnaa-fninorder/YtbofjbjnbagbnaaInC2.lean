/- One way through a round of FnInOrder's loop. -/
import Derived.Test.YtbofjbjnbagbnaaInB
import Derived.Test.YtbofjbjnbagbnaaInO3
import Derived.Deep.AppendLies
import Derived.Deep.RegionHeld3
import Derived.BigQuiet
import Derived.Deep.QuietTactic
namespace Go.Proofs.Ytbofjbjnbagbnaa
open Go.RowKit
set_option linter.unusedVariables false

set_option maxRecDepth 1000000 in
set_option maxHeartbeats 8000000 in
theorem inc_2 {a : Option Addr} {ca : Nat} {bs : List Int} {w : World} {sB rB : Nat} {c1 c2 c19 c20 c21 c22 c23 c24 c25 c26 c123 c124 c125 c126 c127 c128 c129 c130 c131 c132 c133 c134 c135 c136 c137 c138 c139 c140 c141 c142 c143 c144 c145 c146 c147 c148 c149 c150 c151 c152 c153 : Value} {v5 v6 v7 u9 u10 u11 u12 u13 u14 u15 u16 u17 u18 u27 u28 u29 u30 u31 u32 u33 u34 u35 u36 u37 u38 u39 u40 u41 u42 u43 u44 u45 u46 u47 u48 u49 u50 u51 u52 u53 u54 u55 u56 u57 u58 u59 u60 u61 u62 u63 u64 u65 u66 u67 u68 u69 u70 u71 u72 u73 u74 u75 u76 u77 u78 u79 u80 u81 u82 u83 u84 u85 u86 u87 u88 u89 u90 u91 u92 u93 u94 u95 u96 u97 u98 u99 u100 u101 u102 u103 u104 u105 u106 u107 u108 u109 u110 u111 u112 u113 u114 u115 u116 u117 u118 u119 u120 u121 u122 : Value} {k : Nat} {aq : Option Addr} {cq : Nat} {S : St} {wr : World} {Q0 : Exit → Act → World → Prop}
    (hk : k < 60) (ok : S.Ok) (hP : S.P.length ≤ k) (hN : S.ns.length ≤ k) (hL : Lies wr w.heap.size sB rB v5 v6 v7 aq cq S) (hB : Below w.heap.size w wr) (hr : Row .u8 w a bs) (hbs : ∀ x ∈ bs, 0 ≤ x ∧ x ≤ 255) (hl : bs.length ≤ 1048576)
    (hpan : Hid (∀ (c : List PanicEntry) (a : Act) (d : Option Tmp) (v : Value) (w : World), Q0 (.panic c) (a.put d v) w → Q0 (.panic c) a w)) (hj : atV bs k % 4 = 2) :
    Code.wp Try.prog ((Try.f3.body.bind firstLoop).getD .skip) (Exit.then (fun a' w'' => WI a ca bs w sB rB c1 c2 c19 c20 c21 c22 c23 c24 c25 c26 c123 c124 c125 c126 c127 c128 c129 c130 c131 c132 c133 c134 c135 c136 c137 c138 c139 c140 c141 c142 c143 c144 c145 c146 c147 c148 c149 c150 c151 c152 c153 a' w'' ∧ Wmu a' w'' < Wmu ⟨#[.slice a bs.length ca, c1, c2, .pointer (some ⟨sB, 0, none⟩), .pointer (some ⟨rB, 0, none⟩), v5, v6, v7, .int .i64 (k : Nat), u9, u10, u11, u12, u13, u14, u15, u16, u17, u18, c19, c20, c21, c22, c23, c24, c25, c26, u27, u28, u29, u30, u31, u32, u33, u34, u35, u36, u37, u38, u39, u40, u41, u42, u43, u44, u45, u46, u47, u48, u49, u50, u51, u52, u53, u54, u55, u56, u57, u58, u59, u60, u61, u62, u63, u64, u65, u66, u67, u68, u69, u70, u71, u72, u73, u74, u75, u76, u77, u78, u79, u80, u81, u82, u83, u84, u85, u86, u87, u88, u89, u90, u91, u92, u93, u94, u95, u96, u97, u98, u99, u100, u101, u102, u103, u104, u105, u106, u107, u108, u109, u110, u111, u112, u113, u114, u115, u116, u117, u118, u119, u120, u121, u122, c123, c124, c125, c126, c127, c128, c129, c130, c131, c132, c133, c134, c135, c136, c137, c138, c139, c140, c141, c142, c143, c144, c145, c146, c147, c148, c149, c150, c151, c152, c153], []⟩ wr) Q0) ⟨#[.slice a bs.length ca, c1, c2, .pointer (some ⟨sB, 0, none⟩), .pointer (some ⟨rB, 0, none⟩), v5, v6, v7, .int .i64 (k : Nat), u9, u10, u11, u12, u13, u14, u15, u16, u17, u18, c19, c20, c21, c22, c23, c24, c25, c26, u27, u28, u29, u30, u31, u32, u33, u34, u35, u36, u37, u38, u39, u40, u41, u42, u43, u44, u45, u46, u47, u48, u49, u50, u51, u52, u53, u54, u55, u56, u57, u58, u59, u60, u61, u62, u63, u64, u65, u66, u67, u68, u69, u70, u71, u72, u73, u74, u75, u76, u77, u78, u79, u80, u81, u82, u83, u84, u85, u86, u87, u88, u89, u90, u91, u92, u93, u94, u95, u96, u97, u98, u99, u100, u101, u102, u103, u104, u105, u106, u107, u108, u109, u110, u111, u112, u113, u114, u115, u116, u117, u118, u119, u120, u121, u122, c123, c124, c125, c126, c127, c128, c129, c130, c131, c132, c133, c134, c135, c136, c137, c138, c139, c140, c141, c142, c143, c144, c145, c146, c147, c148, c149, c150, c151, c152, c153], []⟩ wr := by
  conv => arg 2; whnf
  have hrr := hr.below hB
  have hi : (k : Int) < 60 := by omega
  go_wp2_with fail
  refine (at_any a ca bs k _ (by omega) hl hrr hbs).mono ?_
  rintro e w1 ⟨x, rfl, hx, hx0, hx1, hw⟩
  subst hw
  rw [← hx] at hj
  clear hrr hr hbs hx
  have j0 : (x % 4 == 0) = false := by simp; omega
  have j1 : (x % 4 == 1) = false := by simp; omega
  have j2 : (x % 4 == 2) = true := by simp; omega
  by_cases hz : S.ns.length = 0
  · obtain ⟨av, cv, rfl⟩ := owns_slice hL.n
    have hz2 : (S.ns.length : Int) ≤ 0 := by omega
    clear hz
    have HL : Hid (Lies w1 w.heap.size sB rB (.slice av S.ns.length cv) v6 v7 aq cq S) := hL
    have OK : Hid S.Ok := ok
    have HB : Hid (Below w.heap.size w w1) := hB
    clear hL ok hB hj
    go_wp2
    refine ⟨?_, by simp [Wmu, intOf]; omega⟩
    unfold WI
    refine ⟨_, _, _, _, _, _, _, _, _, _, _, _, _, _, _, _, _, _, _, _, _, _, _, _, _, _, _, _, _, _, _, _, _, _, _, _, _, _, _, _, _, _, _, _, _, _, _, _, _, _, _, _, _, _, _, _, _, _, _, _, _, _, _, _, _, _, _, _, _, _, _, _, _, _, _, _, _, _, _, _, _, _, _, _, _, _, _, _, _, _, _, _, _, _, _, _, _, _, _, _, _, _, _, _, _, _, _, _, _, _, ?_, rfl⟩
    exact ⟨k + 1, aq, cq, S, by go_num, by omega, OK.out, by omega, by omega, HL.out, HB.out⟩
  have hz2 : (0 : Int) < S.ns.length := by omega
  obtain ⟨n, hn⟩ : ∃ n : Nat, x / 4 % (S.ns.length : Int) = (n : Int) := ⟨(x / 4 % (S.ns.length : Int)).toNat, by have := Int.emod_nonneg (x / 4) (show (S.ns.length : Int) ≠ 0 by omega); omega⟩
  have hnl : n < S.ns.length := by have := Int.emod_lt_of_pos (x / 4) (show (0 : Int) < S.ns.length by omega); omega
  obtain ⟨t, ht⟩ : ∃ t, S.ns[n]? = some t := ⟨_, List.getElem?_eq_getElem hnl⟩
  have HT : Hid (S.ns[n]? = some t) := ht
  obtain ⟨g5, c5, rfl, hg5, hg5l⟩ := hL.n.form (by omega)
  obtain ⟨y0, y1, y2, y3, y4, y5, y6, y7⟩ := packet_at hL.n ht
  clear ht
  have r0 := hL.r.cell 0
  have rz := hL.r.lt
  have hg : S.g ≤ 60 := by have := ok.gp; omega
  clear hz
  go_wp2_with fail
  have bx := bel_alloc (Below.refl w1.heap.size w1) (.cells #[.int .i64 0, .int .i64 0, .bool false, .int .i64 t.1, .int .i64 t.2.k, .int .i64 t.2.p, .bool t.2.o, .slice t.2.a t.2.xs.length t.2.c] 37)
  have X16 := Box.new w1 #[.int .i64 0, .int .i64 0, .bool false, .int .i64 t.1, .int .i64 t.2.k, .int .i64 t.2.p, .bool t.2.o, .slice t.2.a t.2.xs.length t.2.c] 37
  refine (arrived_any S.g t.1 _ (by omega) (by omega)).mono ?_
  rintro e w2 ⟨rfl, b2⟩
  have hL2 := hL.below (bel_trans bx b2)
  have hB2 := bel_trans hB (bel_trans bx b2)
  replace X16 := X16.below b2
  have z16 : w1.heap.size < w2.heap.size := X16.lt
  clear bx b2 y0 y1 y2 y3 y4 y5 y6 y7 r0 rz hL hB
  rcases Decidable.em ((t.1 : Int) = S.g) with htg | htg
  · rw [if_pos htg, decide_eq_true htg]
    have htg2 : t.1 = S.g := by omega
    have OK2 : Hid (St.Ok { S with g := S.g + 1, gg := S.gg ++ [t.2] }) := ok.come (List.mem_of_getElem? HT.out) htg2
    have hgl : S.gg.length ≤ 60 := by have := ok.gl; omega
    have hL3 : Lies (w2.setCell ⟨rB, 0, none⟩ (.int .i64 ((S.g : Int) + 1))) w.heap.size sB rB (.slice (some ⟨g5, 0, none⟩) S.ns.length c5) v6 v7 aq cq { S with g := S.g + 1 } := hL2.got (S.g + 1)
    have hB3 := bel_setCell hB2 ⟨rB, 0, none⟩ (.int .i64 ((S.g : Int) + 1)) hL2.lr
    obtain ⟨W3, hW3⟩ : ∃ W3, w2.setCell ⟨rB, 0, none⟩ (.int .i64 ((S.g : Int) + 1)) = W3 := ⟨_, rfl⟩
    rw [hW3] at hL3 hB3
    have hz3 : W3.heap.size = w2.heap.size := by rw [← hW3]; simp
    have b4 := bel_alloc (bel_alloc (Below.refl W3.heap.size W3) (.cells #[.int .i64 ((S.g : Int) + 1)] 28)) (.cells #[.int .i64 t.2.k, .int .i64 t.2.p, .bool t.2.o, .slice t.2.a t.2.xs.length t.2.c] 33)
    have hL4 := hL3.below b4
    have hB4 := bel_trans hB3 b4
    have XN := (Box.two W3 #[.int .i64 ((S.g : Int) + 1)] #[.int .i64 t.2.k, .int .i64 t.2.p, .bool t.2.o, .slice t.2.a t.2.xs.length t.2.c] 28 33).2
    rw [hz3] at XN
    have hnew := World.news_of_block XN
    have hbz := hB4.size
    rw [← hW3] at hL4 hB4 hnew hbz
    have o7 := hL4.g
    have q0 := hL2.r.cell 0
    have qz := hL2.r.lt
    have qf := hL2.r.frozen 0
    have p4 := X16.cell 4
    have p5 := X16.cell 5
    have p6 := X16.cell 6
    have p7 := X16.cell 7
    obtain ⟨i0, hi0, hz0, hz1, hz2⟩ := info_parts info_msg
    have HL4 := hL4
    clear ok htg htg2 hj j0 j1 j2 hL2 hB2 hL3 hB3 b4 XN hW3 hz3 hL4
    go_wp2_with (at_builtin; refine wpList_append_lies _ rfl (.tmp 118) (.tmp 121) 24 rfl w.heap.size 33 i0 (.agg #[.int .i64 0, .int .i64 0, .bool false, .slice none 0 0]) 4 48 Try.underlying24 hi0 hz0 hz1 hz2 rfl (by decide) v7 S.gg.length (flat S.gg) rfl o7 ⟨w2.heap.size + 1, 0, none⟩ 1 1 t.2.cells rfl rfl hnew (msg_one' t.2) (by omega) (by unfold maxLen; omega) (by omega) hbz _ rfl ?_)
    intro g7 c7 w5 o5 gr5 at5 lt5
    have LL := HL4.grow7 o5 gr5 (by simpa using at5)
    have BB := bel_grown hB4 o7 (Nat.le_refl _) gr5
    have HLL : Hid (Lies w5 w.heap.size sB rB (.slice (some ⟨g5, 0, none⟩) S.ns.length c5) v6 (.slice (some ⟨g7, 0, none⟩) (S.gg.length + 1) c7) aq cq { S with g := S.g + 1, gg := S.gg ++ [t.2] }) := LL
    have HBB : Hid (Below w.heap.size w w5) := BB
    clear LL BB HL4 hB4 o7 o5 gr5 at5 hnew q0 qz qf p4 p5 p6 p7 X16
    go_wp2
    refine ⟨?_, by simp [Wmu, intOf]; omega⟩
    unfold WI
    refine ⟨_, _, _, _, _, _, _, _, _, _, _, _, _, _, _, _, _, _, _, _, _, _, _, _, _, _, _, _, _, _, _, _, _, _, _, _, _, _, _, _, _, _, _, _, _, _, _, _, _, _, _, _, _, _, _, _, _, _, _, _, _, _, _, _, _, _, _, _, _, _, _, _, _, _, _, _, _, _, _, _, _, _, _, _, _, _, _, _, _, _, _, _, _, _, _, _, _, _, _, _, _, _, _, _, _, _, _, _, _, _, ?_, rfl⟩
    exact ⟨k + 1, aq, cq, _, by go_num, by omega, OK2.out, by show S.P.length ≤ _; omega, by show S.ns.length ≤ _; omega, HLL.out, HBB.out⟩
  · rw [if_neg htg, decide_eq_false htg]
    have LL : Hid (Lies (w2.alloc (.cells #[.int .i64 S.g] 28)) w.heap.size sB rB (.slice (some ⟨g5, 0, none⟩) S.ns.length c5) v6 v7 aq cq S) := hL2.below (bel_alloc (Below.refl _ _) _)
    have BB : Hid (Below w.heap.size w (w2.alloc (.cells #[.int .i64 S.g] 28))) := bel_alloc hB2 _
    have OK : Hid S.Ok := ok
    clear hL2 hB2 X16 ok htg
    go_wp2
    refine ⟨?_, by simp [Wmu, intOf]; omega⟩
    unfold WI
    refine ⟨_, _, _, _, _, _, _, _, _, _, _, _, _, _, _, _, _, _, _, _, _, _, _, _, _, _, _, _, _, _, _, _, _, _, _, _, _, _, _, _, _, _, _, _, _, _, _, _, _, _, _, _, _, _, _, _, _, _, _, _, _, _, _, _, _, _, _, _, _, _, _, _, _, _, _, _, _, _, _, _, _, _, _, _, _, _, _, _, _, _, _, _, _, _, _, _, _, _, _, _, _, _, _, _, _, _, _, _, _, _, ?_, rfl⟩
    exact ⟨k + 1, aq, cq, S, by go_num, by omega, OK.out, by omega, by omega, LL.out, BB.out⟩
end Go.Proofs.Ytbofjbjnbagbnaa
