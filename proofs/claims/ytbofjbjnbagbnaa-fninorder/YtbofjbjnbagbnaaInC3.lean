/- One way through a round of FnInOrder's loop. -/
import Derived.Test.YtbofjbjnbagbnaaInB
import Derived.Test.YtbofjbjnbagbnaaInO3
import Derived.Deep.AppendLies
import Derived.Deep.RegionHeld3
import Derived.BigQuiet
import Derived.Deep.QuietTactic
namespace Go.Proofs.Ytbofjbjnbagbnaa
open Go.RowKit
set_option linter.unusedVariables false

set_option maxRecDepth 1000000 in
set_option maxHeartbeats 8000000 in
theorem inc_3 {a : Option Addr} {ca : Nat} {bs : List Int} {w : World} {sB rB : Nat} {c1 c2 c19 c20 c21 c22 c23 c24 c25 c26 c123 c124 c125 c126 c127 c128 c129 c130 c131 c132 c133 c134 c135 c136 c137 c138 c139 c140 c141 c142 c143 c144 c145 c146 c147 c148 c149 c150 c151 c152 c153 : Value} {v5 v6 v7 u9 u10 u11 u12 u13 u14 u15 u16 u17 u18 u27 u28 u29 u30 u31 u32 u33 u34 u35 u36 u37 u38 u39 u40 u41 u42 u43 u44 u45 u46 u47 u48 u49 u50 u51 u52 u53 u54 u55 u56 u57 u58 u59 u60 u61 u62 u63 u64 u65 u66 u67 u68 u69 u70 u71 u72 u73 u74 u75 u76 u77 u78 u79 u80 u81 u82 u83 u84 u85 u86 u87 u88 u89 u90 u91 u92 u93 u94 u95 u96 u97 u98 u99 u100 u101 u102 u103 u104 u105 u106 u107 u108 u109 u110 u111 u112 u113 u114 u115 u116 u117 u118 u119 u120 u121 u122 : Value} {k : Nat} {aq : Option Addr} {cq : Nat} {S : St} {wr : World} {Q0 : Exit → Act → World → Prop}
    (hk : k < 60) (ok : S.Ok) (hP : S.P.length ≤ k) (hN : S.ns.length ≤ k) (hL : Lies wr w.heap.size sB rB v5 v6 v7 aq cq S) (hB : Below w.heap.size w wr) (hr : Row .u8 w a bs) (hbs : ∀ x ∈ bs, 0 ≤ x ∧ x ≤ 255) (hl : bs.length ≤ 1048576)
    (hpan : Hid (∀ (c : List PanicEntry) (a : Act) (d : Option Tmp) (v : Value) (w : World), Q0 (.panic c) (a.put d v) w → Q0 (.panic c) a w)) (hj : atV bs k % 4 = 3) :
    Code.wp Try.prog ((Try.f3.body.bind firstLoop).getD .skip) (Exit.then (fun a' w'' => WI a ca bs w sB rB c1 c2 c19 c20 c21 c22 c23 c24 c25 c26 c123 c124 c125 c126 c127 c128 c129 c130 c131 c132 c133 c134 c135 c136 c137 c138 c139 c140 c141 c142 c143 c144 c145 c146 c147 c148 c149 c150 c151 c152 c153 a' w'' ∧ Wmu a' w'' < Wmu ⟨#[.slice a bs.length ca, c1, c2, .pointer (some ⟨sB, 0, none⟩), .pointer (some ⟨rB, 0, none⟩), v5, v6, v7, .int .i64 (k : Nat), u9, u10, u11, u12, u13, u14, u15, u16, u17, u18, c19, c20, c21, c22, c23, c24, c25, c26, u27, u28, u29, u30, u31, u32, u33, u34, u35, u36, u37, u38, u39, u40, u41, u42, u43, u44, u45, u46, u47, u48, u49, u50, u51, u52, u53, u54, u55, u56, u57, u58, u59, u60, u61, u62, u63, u64, u65, u66, u67, u68, u69, u70, u71, u72, u73, u74, u75, u76, u77, u78, u79, u80, u81, u82, u83, u84, u85, u86, u87, u88, u89, u90, u91, u92, u93, u94, u95, u96, u97, u98, u99, u100, u101, u102, u103, u104, u105, u106, u107, u108, u109, u110, u111, u112, u113, u114, u115, u116, u117, u118, u119, u120, u121, u122, c123, c124, c125, c126, c127, c128, c129, c130, c131, c132, c133, c134, c135, c136, c137, c138, c139, c140, c141, c142, c143, c144, c145, c146, c147, c148, c149, c150, c151, c152, c153], []⟩ wr) Q0) ⟨#[.slice a bs.length ca, c1, c2, .pointer (some ⟨sB, 0, none⟩), .pointer (some ⟨rB, 0, none⟩), v5, v6, v7, .int .i64 (k : Nat), u9, u10, u11, u12, u13, u14, u15, u16, u17, u18, c19, c20, c21, c22, c23, c24, c25, c26, u27, u28, u29, u30, u31, u32, u33, u34, u35, u36, u37, u38, u39, u40, u41, u42, u43, u44, u45, u46, u47, u48, u49, u50, u51, u52, u53, u54, u55, u56, u57, u58, u59, u60, u61, u62, u63, u64, u65, u66, u67, u68, u69, u70, u71, u72, u73, u74, u75, u76, u77, u78, u79, u80, u81, u82, u83, u84, u85, u86, u87, u88, u89, u90, u91, u92, u93, u94, u95, u96, u97, u98, u99, u100, u101, u102, u103, u104, u105, u106, u107, u108, u109, u110, u111, u112, u113, u114, u115, u116, u117, u118, u119, u120, u121, u122, c123, c124, c125, c126, c127, c128, c129, c130, c131, c132, c133, c134, c135, c136, c137, c138, c139, c140, c141, c142, c143, c144, c145, c146, c147, c148, c149, c150, c151, c152, c153], []⟩ wr := by
  conv => arg 2; whnf
  have hrr := hr.below hB
  have hi : (k : Int) < 60 := by omega
  go_wp2_with fail
  refine (at_any a ca bs k _ (by omega) hl hrr hbs).mono ?_
  rintro e w1 ⟨x, rfl, hx, hx0, hx1, hw⟩
  subst hw
  rw [← hx] at hj
  clear hrr hr hbs hx
  have j0 : (x % 4 == 0) = false := by simp; omega
  have j1 : (x % 4 == 1) = false := by simp; omega
  have j2 : (x % 4 == 2) = false := by simp; omega
  obtain ⟨s0, s1, sz⟩ := hL.s.at2
  have r0 := hL.r.cell 0
  have rz := hL.r.lt
  have hq := hL.mrow ok
  have hg : S.g ≤ 60 := by have := ok.gp; omega
  go_wp2_with fail
  refine (implAcked_any S.b aq cq S.qs (S.g - x / 4 % 2) _ hq (by have := ok.q30; omega) (owns_cap hL.q) ok.xs0).mono ?_
  rintro e w2 ⟨aq2, cq2, ds, rfl, hds, hD, b2⟩
  obtain ⟨b', hb', ok2⟩ := ok.ack (S.g - x / 4 % 2) (by omega) ds hds
  rw [hb']
  clear hb' hds
  have h6 := old_new hL.a hD.row (Nat.le_refl _)
  have h7 := old_new hL.g hD.row (Nat.le_refl _)
  have hz := hB.size
  have hL2 := hL.below b2
  have hB2 := bel_trans hB b2
  have LL : Hid (Lies ((w2.setCell ⟨sB, 0, none⟩ (.int .i64 b')).setCell ⟨sB, 1, none⟩ (.slice aq2 ds.length cq2)) w.heap.size sB rB v5 v6 v7 aq2 cq2 { S with b := b', qs := ds }) := hL2.resend (owns_base hD.row hz) h6 h7
  have BB : Hid (Below w.heap.size w ((w2.setCell ⟨sB, 0, none⟩ (.int .i64 b')).setCell ⟨sB, 1, none⟩ (.slice aq2 ds.length cq2))) := bel_setCell (bel_setCell hB2 _ _ hL.ls) _ _ hL.ls
  obtain ⟨t0, t1, tz⟩ := hL2.s.at2
  have f0 := hL2.s.frozen 0
  have f1 := hL2.s.frozen 1
  have OK2 : Hid (St.Ok { S with b := b', qs := ds }) := ok2
  clear hL hL2 hB hB2 hD b2 ok2 s0 s1 sz r0 rz hq h6 h7 ok hj j0 j1 j2
  go_wp2
  refine ⟨?_, by simp [Wmu, intOf]; omega⟩
  unfold WI
  refine ⟨_, _, _, _, _, _, _, _, _, _, _, _, _, _, _, _, _, _, _, _, _, _, _, _, _, _, _, _, _, _, _, _, _, _, _, _, _, _, _, _, _, _, _, _, _, _, _, _, _, _, _, _, _, _, _, _, _, _, _, _, _, _, _, _, _, _, _, _, _, _, _, _, _, _, _, _, _, _, _, _, _, _, _, _, _, _, _, _, _, _, _, _, _, _, _, _, _, _, _, _, _, _, _, _, _, _, _, _, _, _, ?_, rfl⟩
  exact ⟨k + 1, aq2, cq2, _, by go_num, by omega, OK2.out, by show S.P.length ≤ _; omega, by show S.ns.length ≤ _; omega, LL.out, BB.out⟩
end Go.Proofs.Ytbofjbjnbagbnaa
