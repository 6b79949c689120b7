/- One way through a round of FnInOrder's loop. -/
import Derived.Test.YtbofjbjnbagbnaaInB
import Derived.Test.YtbofjbjnbagbnaaInO3
import Derived.Deep.AppendLies
import Derived.Deep.RegionHeld3
import Derived.BigQuiet
import Derived.Deep.QuietTactic
namespace Go.Proofs.Ytbofjbjnbagbnaa
open Go.RowKit
set_option linter.unusedVariables false

set_option maxRecDepth 1000000 in
set_option maxHeartbeats 8000000 in
theorem inc_1 {a : Option Addr} {ca : Nat} {bs : List Int} {w : World} {sB rB : Nat} {c1 c2 c19 c20 c21 c22 c23 c24 c25 c26 c123 c124 c125 c126 c127 c128 c129 c130 c131 c132 c133 c134 c135 c136 c137 c138 c139 c140 c141 c142 c143 c144 c145 c146 c147 c148 c149 c150 c151 c152 c153 : Value} {v5 v6 v7 u9 u10 u11 u12 u13 u14 u15 u16 u17 u18 u27 u28 u29 u30 u31 u32 u33 u34 u35 u36 u37 u38 u39 u40 u41 u42 u43 u44 u45 u46 u47 u48 u49 u50 u51 u52 u53 u54 u55 u56 u57 u58 u59 u60 u61 u62 u63 u64 u65 u66 u67 u68 u69 u70 u71 u72 u73 u74 u75 u76 u77 u78 u79 u80 u81 u82 u83 u84 u85 u86 u87 u88 u89 u90 u91 u92 u93 u94 u95 u96 u97 u98 u99 u100 u101 u102 u103 u104 u105 u106 u107 u108 u109 u110 u111 u112 u113 u114 u115 u116 u117 u118 u119 u120 u121 u122 : Value} {k : Nat} {aq : Option Addr} {cq : Nat} {S : St} {wr : World} {Q0 : Exit → Act → World → Prop}
    (hk : k < 60) (ok : S.Ok) (hP : S.P.length ≤ k) (hN : S.ns.length ≤ k) (hL : Lies wr w.heap.size sB rB v5 v6 v7 aq cq S) (hB : Below w.heap.size w wr) (hr : Row .u8 w a bs) (hbs : ∀ x ∈ bs, 0 ≤ x ∧ x ≤ 255) (hl : bs.length ≤ 1048576)
    (hpan : Hid (∀ (c : List PanicEntry) (a : Act) (d : Option Tmp) (v : Value) (w : World), Q0 (.panic c) (a.put d v) w → Q0 (.panic c) a w)) (hj : atV bs k % 4 = 1) :
    Code.wp Try.prog ((Try.f3.body.bind firstLoop).getD .skip) (Exit.then (fun a' w'' => WI a ca bs w sB rB c1 c2 c19 c20 c21 c22 c23 c24 c25 c26 c123 c124 c125 c126 c127 c128 c129 c130 c131 c132 c133 c134 c135 c136 c137 c138 c139 c140 c141 c142 c143 c144 c145 c146 c147 c148 c149 c150 c151 c152 c153 a' w'' ∧ Wmu a' w'' < Wmu ⟨#[.slice a bs.length ca, c1, c2, .pointer (some ⟨sB, 0, none⟩), .pointer (some ⟨rB, 0, none⟩), v5, v6, v7, .int .i64 (k : Nat), u9, u10, u11, u12, u13, u14, u15, u16, u17, u18, c19, c20, c21, c22, c23, c24, c25, c26, u27, u28, u29, u30, u31, u32, u33, u34, u35, u36, u37, u38, u39, u40, u41, u42, u43, u44, u45, u46, u47, u48, u49, u50, u51, u52, u53, u54, u55, u56, u57, u58, u59, u60, u61, u62, u63, u64, u65, u66, u67, u68, u69, u70, u71, u72, u73, u74, u75, u76, u77, u78, u79, u80, u81, u82, u83, u84, u85, u86, u87, u88, u89, u90, u91, u92, u93, u94, u95, u96, u97, u98, u99, u100, u101, u102, u103, u104, u105, u106, u107, u108, u109, u110, u111, u112, u113, u114, u115, u116, u117, u118, u119, u120, u121, u122, c123, c124, c125, c126, c127, c128, c129, c130, c131, c132, c133, c134, c135, c136, c137, c138, c139, c140, c141, c142, c143, c144, c145, c146, c147, c148, c149, c150, c151, c152, c153], []⟩ wr) Q0) ⟨#[.slice a bs.length ca, c1, c2, .pointer (some ⟨sB, 0, none⟩), .pointer (some ⟨rB, 0, none⟩), v5, v6, v7, .int .i64 (k : Nat), u9, u10, u11, u12, u13, u14, u15, u16, u17, u18, c19, c20, c21, c22, c23, c24, c25, c26, u27, u28, u29, u30, u31, u32, u33, u34, u35, u36, u37, u38, u39, u40, u41, u42, u43, u44, u45, u46, u47, u48, u49, u50, u51, u52, u53, u54, u55, u56, u57, u58, u59, u60, u61, u62, u63, u64, u65, u66, u67, u68, u69, u70, u71, u72, u73, u74, u75, u76, u77, u78, u79, u80, u81, u82, u83, u84, u85, u86, u87, u88, u89, u90, u91, u92, u93, u94, u95, u96, u97, u98, u99, u100, u101, u102, u103, u104, u105, u106, u107, u108, u109, u110, u111, u112, u113, u114, u115, u116, u117, u118, u119, u120, u121, u122, c123, c124, c125, c126, c127, c128, c129, c130, c131, c132, c133, c134, c135, c136, c137, c138, c139, c140, c141, c142, c143, c144, c145, c146, c147, c148, c149, c150, c151, c152, c153], []⟩ wr := by
  conv => arg 2; whnf
  have hrr := hr.below hB
  have hi : (k : Int) < 60 := by omega
  go_wp2_with fail
  refine (at_any a ca bs k _ (by omega) hl hrr hbs).mono ?_
  rintro e w1 ⟨x, rfl, hx, hx0, hx1, hw⟩
  subst hw
  rw [← hx] at hj
  clear hrr hr hbs hx
  have j0 : (x % 4 == 0) = false := by simp; omega
  have j1 : (x % 4 == 1) = true := by simp; omega
  obtain ⟨s0, s1, sz⟩ := hL.s.at2
  by_cases hz : S.qs.length = 0
  · have hz2 : (S.qs.length : Int) ≤ 0 := by omega
    clear hz
    have HL : Hid (Lies w1 w.heap.size sB rB v5 v6 v7 aq cq S) := hL
    have OK : Hid S.Ok := ok
    have HB : Hid (Below w.heap.size w w1) := hB
    clear hL ok hB hj
    go_wp2
    refine ⟨?_, by simp [Wmu, intOf]; omega⟩
    unfold WI
    refine ⟨_, _, _, _, _, _, _, _, _, _, _, _, _, _, _, _, _, _, _, _, _, _, _, _, _, _, _, _, _, _, _, _, _, _, _, _, _, _, _, _, _, _, _, _, _, _, _, _, _, _, _, _, _, _, _, _, _, _, _, _, _, _, _, _, _, _, _, _, _, _, _, _, _, _, _, _, _, _, _, _, _, _, _, _, _, _, _, _, _, _, _, _, _, _, _, _, _, _, _, _, _, _, _, _, _, _, _, _, _, _, ?_, rfl⟩
    exact ⟨k + 1, aq, cq, S, by go_num, by omega, OK.out, by omega, by omega, HL.out, HB.out⟩
  have hz2 : (0 : Int) < S.qs.length := by omega
  obtain ⟨n, hn⟩ : ∃ n : Nat, x / 4 % (S.qs.length : Int) = (n : Int) := ⟨(x / 4 % (S.qs.length : Int)).toNat, by have := Int.emod_nonneg (x / 4) (show (S.qs.length : Int) ≠ 0 by omega); omega⟩
  have hnl : n < S.qs.length := by have := Int.emod_lt_of_pos (x / 4) (show (0 : Int) < S.qs.length by omega); omega
  have hnl2 : (n : Int) < S.qs.length := by omega
  obtain ⟨m, hm⟩ : ∃ m, S.qs[n]? = some m := ⟨_, List.getElem?_eq_getElem hnl⟩
  have HM : Hid (S.qs[n]? = some m) := hm
  obtain ⟨⟨gq, oq, rfl, y0, y1, y2, y3⟩, _⟩ := (hL.mrow ok).2 n m hm
  clear hm
  have OK2 : Hid (St.Ok { S with ns := S.ns ++ [(S.b + n, m)] }) := ok.send HM.out
  have hb60 : S.b ≤ 60 := by have := ok.qb; omega
  have hq30 : S.qs.length ≤ 30 := ok.q30
  clear hz ok hj
  have hwr : IntKind.i64.wrap ((S.b : Int) + n) = S.b + n := by rw [IntKind.wrap_i64]; omega
  have b4 : Below w1.heap.size w1 (w1.alloc (.cells #[.int .i64 0, .int .i64 0, .bool false, .int .i64 ((S.b : Int) + n), .int .i64 m.k, .int .i64 m.p, .bool m.o, .slice m.a m.xs.length m.c] 37)).drew := below_drewN (bel_alloc (Below.refl _ w1) _) 1
  have HL4 := hL.below b4
  have hB4 := bel_trans hB b4
  have hnew : ∀ j u, (pcells (S.b + n, m))[j]? = some u → (w1.alloc (.cells #[.int .i64 0, .int .i64 0, .bool false, .int .i64 ((S.b : Int) + n), .int .i64 m.k, .int .i64 m.p, .bool m.o, .slice m.a m.xs.length m.c] 37)).drew.cell? ((⟨w1.heap.size, 0, none⟩ : Addr).add j) = some u := World.news_of_block (Box.new w1 #[.int .i64 0, .int .i64 0, .bool false, .int .i64 ((S.b : Int) + n), .int .i64 m.k, .int .i64 m.p, .bool m.o, .slice m.a m.xs.length m.c] 37)
  have hbz := hB4.size
  have o5 := HL4.n
  obtain ⟨i0, hi0, hz0, hz1, hz2'⟩ := info_parts info_packet
  clear hL hB b4
  go_wp2_with fail
  refine wp_region_held_drew (S := (fun w' => w'.cell? ⟨sB, 0, none⟩ = some (.int .i64 S.b) ∧ w'.cell? ⟨sB, 1, none⟩ = some (.slice (some ⟨gq, oq, none⟩) S.qs.length cq) ∧ w'.cell? ⟨gq, oq + n * 4, none⟩ = some (.int .i64 m.k) ∧ w'.cell? ⟨gq, oq + n * 4 + 1, none⟩ = some (.int .i64 m.p) ∧ w'.cell? ⟨gq, oq + n * 4 + 2, none⟩ = some (.bool m.o) ∧ w'.cell? ⟨gq, oq + n * 4 + 3, none⟩ = some (.slice m.a m.xs.length m.c))) (by kernel_rfl) ?_ (fun hHeld => ?_)
  · exact ⟨s0, s1, y0, y1, y2, y3⟩
  refine wpAnyH_take (i := 0) (oi := { dst := some 83, op := Op.move (Operand.tmp 5), type := 29, pos := "laws.go:385", after := #[], guard := none }) (v := ?v0) rfl (by kernel_rfl) (by kernel_rfl) (by kernel_rfl) (fun c a w h => hpan.out c _ _ _ w h) (Or.inl ⟨by rfl, ?hy0⟩) (by assumption) ?rest0
  case hy0 => intro w hSw; (try dsimp only at hSw); go_simp; try (with_reducible rfl)
  simp only [Act.put, List.setIfInBounds_toArray, List.set_cons_zero, List.set_cons_succ]
  refine wpAnyH_take (i := 1) (oi := { dst := some 84, op := Op.fieldAddr 26 (Operand.tmp 3) 0, type := 0, pos := "laws.go:385", after := #[], guard := none }) (v := ?v1) rfl (by kernel_rfl) (by kernel_rfl) (by kernel_rfl) (fun c a w h => hpan.out c _ _ _ w h) (Or.inl ⟨by rfl, ?hy1⟩) (by assumption) ?rest1
  case hy1 => intro w hSw; (try dsimp only at hSw); go_simp; try (with_reducible rfl)
  simp only [Act.put, List.setIfInBounds_toArray, List.set_cons_zero, List.set_cons_succ]
  refine wpAnyH_take (i := 2) (oi := { dst := some 85, op := Op.load 3 (Operand.tmp 84), type := 3, pos := "laws.go:385", after := #[{ on := 1, ground := Ground.data }], guard := none }) (v := ?v2) rfl (by kernel_rfl) (by kernel_rfl) (by kernel_rfl) (fun c a w h => hpan.out c _ _ _ w h) (Or.inl ⟨by rfl, ?hy2⟩) (by assumption) ?rest2
  case hy2 => intro w hSw; (try dsimp only at hSw); go_simp; try (with_reducible rfl)
  simp only [Act.put, List.setIfInBounds_toArray, List.set_cons_zero, List.set_cons_succ]
  refine wpAnyH_take (i := 3) (oi := { dst := some 86, op := Op.move (Operand.tmp 15), type := 3, pos := "laws.go:385", after := #[], guard := none }) (v := ?v3) rfl (by kernel_rfl) (by kernel_rfl) (by kernel_rfl) (fun c a w h => hpan.out c _ _ _ w h) (Or.inl ⟨by rfl, ?hy3⟩) (by assumption) ?rest3
  case hy3 => intro w hSw; (try dsimp only at hSw); go_simp; try (with_reducible rfl)
  simp only [Act.put, List.setIfInBounds_toArray, List.set_cons_zero, List.set_cons_succ]
  refine wpAnyH_take (i := 4) (oi := { dst := some 87, op := Op.binOp BinOp.add 3 (Operand.tmp 85) (Operand.tmp 86) 3, type := 3, pos := "laws.go:385", after := #[{ on := 2, ground := Ground.data }, { on := 3, ground := Ground.data }], guard := none }) (v := ?v4) rfl (by kernel_rfl) (by kernel_rfl) (by kernel_rfl) (fun c a w h => hpan.out c _ _ _ w h) (Or.inl ⟨by rfl, ?hy4⟩) (by assumption) ?rest4
  case hy4 => intro w hSw; (try dsimp only at hSw); go_simp; try (with_reducible rfl)
  simp only [Act.put, List.setIfInBounds_toArray, List.set_cons_zero, List.set_cons_succ]
  refine wpAnyH_take (i := 5) (oi := { dst := some 88, op := Op.fieldAddr 26 (Operand.tmp 3) 1, type := 0, pos := "laws.go:385", after := #[], guard := none }) (v := ?v5) rfl (by kernel_rfl) (by kernel_rfl) (by kernel_rfl) (fun c a w h => hpan.out c _ _ _ w h) (Or.inl ⟨by rfl, ?hy5⟩) (by assumption) ?rest5
  case hy5 => intro w hSw; (try dsimp only at hSw); go_simp; try (with_reducible rfl)
  simp only [Act.put, List.setIfInBounds_toArray, List.set_cons_zero, List.set_cons_succ]
  refine wpAnyH_take (i := 6) (oi := { dst := some 89, op := Op.load 24 (Operand.tmp 88), type := 24, pos := "laws.go:385", after := #[{ on := 5, ground := Ground.data }], guard := none }) (v := ?v6) rfl (by kernel_rfl) (by kernel_rfl) (by kernel_rfl) (fun c a w h => hpan.out c _ _ _ w h) (Or.inl ⟨by rfl, ?hy6⟩) (by assumption) ?rest6
  case hy6 => intro w hSw; (try dsimp only at hSw); go_simp; try (with_reducible rfl)
  simp only [Act.put, List.setIfInBounds_toArray, List.set_cons_zero, List.set_cons_succ]
  refine wpAnyH_take (i := 7) (oi := { dst := some 90, op := Op.move (Operand.tmp 15), type := 3, pos := "laws.go:385", after := #[], guard := none }) (v := ?v7) rfl (by kernel_rfl) (by kernel_rfl) (by kernel_rfl) (fun c a w h => hpan.out c _ _ _ w h) (Or.inl ⟨by rfl, ?hy7⟩) (by assumption) ?rest7
  case hy7 => intro w hSw; (try dsimp only at hSw); go_simp; try (with_reducible rfl)
  simp only [Act.put, List.setIfInBounds_toArray, List.set_cons_zero, List.set_cons_succ]
  refine wpAnyH_take (i := 8) (oi := { dst := some 91, op := Op.indexAddr 24 (Operand.tmp 89) (Operand.tmp 90), type := 0, pos := "laws.go:385", after := #[{ on := 6, ground := Ground.data }, { on := 7, ground := Ground.data }], guard := none }) (v := ?v8) rfl (by kernel_rfl) (by kernel_rfl) (by kernel_rfl) (fun c a w h => hpan.out c _ _ _ w h) (Or.inl ⟨by rfl, ?hy8⟩) (by assumption) ?rest8
  case hy8 => intro w hSw; (try dsimp only at hSw); go_simp; try (with_reducible rfl)
  simp only [Act.put, List.setIfInBounds_toArray, List.set_cons_zero, List.set_cons_succ]
  refine wpAnyH_take (i := 9) (oi := { dst := some 92, op := Op.load 33 (Operand.tmp 91), type := 33, pos := "laws.go:385", after := #[{ on := 8, ground := Ground.data }], guard := none }) (v := ?v9) rfl (by kernel_rfl) (by kernel_rfl) (by kernel_rfl) (fun c a w h => hpan.out c _ _ _ w h) (Or.inl ⟨by rfl, ?hy9⟩) (by assumption) ?rest9
  case hy9 => intro w hSw; (try dsimp only at hSw); go_simp; try (with_reducible rfl)
  simp only [Act.put, List.setIfInBounds_toArray, List.set_cons_zero, List.set_cons_succ]
  refine wpAnyH_take (i := 10) (oi := { dst := some 93, op := Op.build 37 #[(3, Operand.tmp 87), (4, Operand.tmp 92)], type := 37, pos := "laws.go:385", after := #[{ on := 4, ground := Ground.data }, { on := 9, ground := Ground.data }], guard := none }) (v := ?v10) rfl (by kernel_rfl) (by kernel_rfl) (by kernel_rfl) (fun c a w h => hpan.out c _ _ _ w h) (Or.inl ⟨by rfl, ?hy10⟩) (by assumption) ?rest10
  case hy10 => intro w hSw; (try dsimp only at hSw); go_simp; try (with_reducible rfl)
  simp only [Act.put, List.setIfInBounds_toArray, List.set_cons_zero, List.set_cons_succ]
  refine wpAnyH_ready (rs := [11]) (by kernel_rfl) (by simp) ?_
  refine AllReadyH.cons (o := { dst := some 94, op := Op.buildSlice 29 1 #[(0, Operand.tmp 93)], type := 29, pos := "laws.go:385", after := #[{ on := 10, ground := Ground.data }], guard := none }) rfl (fun K2 hK2 => ?_) AllReadyH.nil
  go_simp
  refine hK2.out _ _ ?_ (fun hHeld2 => ?_)
  · exact keep6 (bel_alloc (Below.refl _ _) _) hHeld
  clear hK2 K2 hHeld
  try simp only [Act.put, List.setIfInBounds_toArray, List.set_cons_zero, List.set_cons_succ]
  refine wpAnyH_ready (rs := [12]) (by kernel_rfl) (by simp) ?_
  refine AllReadyH.cons (o := { dst := some 95, op := Op.call { callee := Callee.builtin Builtin.append, args := #[Operand.tmp 83, Operand.tmp 94], argTypes := #[29, 29] }, type := 29, pos := "laws.go:385", after := #[{ on := 0, ground := Ground.data }, { on := 11, ground := Ground.data }], guard := none }) rfl (fun K2 hK2 => ?_) AllReadyH.nil
  refine step_append_lies _ rfl (.tmp 83) (.tmp 94) 29 rfl w.heap.size 37 i0 (.agg #[.int .i64 0, .int .i64 0, .bool false, .int .i64 0, .int .i64 0, .int .i64 0, .bool false, .slice none 0 0]) 8 80 Try.underlying29 hi0 hz0 hz1 hz2' rfl (by decide) v5 S.ns.length (pflat S.ns) rfl o5 ⟨w1.heap.size, 0, none⟩ 1 1 (pcells (S.b + n, m)) rfl rfl hnew (pk_one (S.b + n, m)) (by omega) (by unfold maxLen; omega) (by omega) hbz _ rfl ?_
  intro g5 c5 w5 o6 gr5 at5 lt5
  have LL := HL4.grow5 o6 gr5
  have BB := bel_grown hB4 o5 (Nat.le_refl _) gr5
  refine hK2.out _ _ ?_ (fun hHeld => ?_)
  · have h1 := LL.s.at2
    obtain ⟨⟨gq2, oq2, e2, z0, z1, z2, z3⟩, _⟩ := (LL.mrow OK2.out).2 n m HM.out
    simp only [Option.some.injEq, Addr.mk.injEq, and_true] at e2
    obtain ⟨rfl, rfl⟩ := e2
    exact ⟨h1.1, h1.2.1, z0, z1, z2, z3⟩
  clear hK2 K2 hHeld2
  try simp only [Act.put, List.setIfInBounds_toArray, List.set_cons_zero, List.set_cons_succ]
  refine wpAnyH_take (i := 13) (oi := { dst := some 5, op := Op.assign (Operand.tmp 95), type := 29, pos := "laws.go:385", after := #[{ on := 12, ground := Ground.data }, { on := 12, ground := Ground.chain }, { on := 0, ground := Ground.phase }, { on := 1, ground := Ground.phase }, { on := 2, ground := Ground.phase }, { on := 3, ground := Ground.phase }, { on := 4, ground := Ground.phase }, { on := 5, ground := Ground.phase }, { on := 6, ground := Ground.phase }, { on := 7, ground := Ground.phase }, { on := 8, ground := Ground.phase }, { on := 9, ground := Ground.phase }, { on := 10, ground := Ground.phase }, { on := 11, ground := Ground.phase }, { on := 12, ground := Ground.phase }], guard := none }) (v := ?v13) rfl (by kernel_rfl) (by kernel_rfl) (by kernel_rfl) (fun c a w h => hpan.out c _ _ _ w h) (Or.inl ⟨by rfl, ?hy13⟩) (by assumption) ?rest13
  case hy13 => intro w hSw; (try dsimp only at hSw); go_simp; try (with_reducible rfl)
  simp only [Act.put, List.setIfInBounds_toArray, List.set_cons_zero, List.set_cons_succ]
  refine wpAnyH_done (by kernel_rfl) ?_ _
  have HLL : Hid (Lies w5 w.heap.size sB rB (.slice (some ⟨g5, 0, none⟩) (S.ns.length + 1) c5) v6 v7 (some ⟨gq, oq, none⟩) cq { S with ns := S.ns ++ [(S.b + n, m)] }) := LL
  have HBB : Hid (Below w.heap.size w w5) := BB
  clear LL BB HL4 hB4 o5 o6 gr5 at5 hnew hHeld s0 s1 sz y0 y1 y2 y3
  go_wp2
  refine ⟨?_, by simp [Wmu, intOf]; omega⟩
  unfold WI
  refine ⟨_, _, _, _, _, _, _, _, _, _, _, _, _, _, _, _, _, _, _, _, _, _, _, _, _, _, _, _, _, _, _, _, _, _, _, _, _, _, _, _, _, _, _, _, _, _, _, _, _, _, _, _, _, _, _, _, _, _, _, _, _, _, _, _, _, _, _, _, _, _, _, _, _, _, _, _, _, _, _, _, _, _, _, _, _, _, _, _, _, _, _, _, _, _, _, _, _, _, _, _, _, _, _, _, _, _, _, _, _, _, ?_, rfl⟩
  exact ⟨k + 1, _, cq, _, by go_num, by omega, OK2.out, by show S.P.length ≤ _; omega, by simp; omega, HLL.out, HBB.out⟩
end Go.Proofs.Ytbofjbjnbagbnaa
