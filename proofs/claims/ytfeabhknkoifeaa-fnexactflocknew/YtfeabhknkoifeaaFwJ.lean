/- The drawn regions of the program's FlockNew (written by mk13i.py). -/
import Derived.Test.YtfeabhknkoifeaaFwI
import Derived.Test.YtfeabhknkoifeaaNdN0
import Derived.Test.YtfeabhknkoifeaaReg
import Derived.Deep.RegionHeld3
namespace Go.Proofs.Ytfeabhknkoifeaa
open Go.RowKit
set_option linter.unusedVariables false

set_option maxRecDepth 100000 in
set_option maxHeartbeats 4000000 in
theorem fireg_7 {u2 u3 u4 u5 u6 u7 u9 u11 u12 u13 u14 u15 u16 u17 u18 u19 u20 u21 u22 u23 u24 u25 u26 u27 u28 u29 u30 u31 u32 u33 u34 u35 u36 u37 u38 u39 u40 u41 u42 u43 u44 u45 u46 u47 u48 u49 u50 u51 u52 u53 u54 u55 u56 u57 u58 u59 u60 u61 u62 u63 u64 u65 u66 u67 u68 u69 u70 u71 u72 u73 u74 : Value} {n i P B G c g c1 gl cl cm mb mo : Nat} {mem : List Int} {zs : List Value} {w : World} {Q0 : Exit → Act → World → Prop} (hpan : Hid (∀ (c : List PanicEntry) (a : Act) (d : Option Tmp) (v : Value) (w : World), Q0 (.panic c) (a.put d v) w → Q0 (.panic c) a w)) (hn : n ≤ 4) (hi : i < n) (hP : P < 6) (h24 : mem.length = 24) (hcm : 24 ≤ cm) (hcx : cm ≤ maxLen) (hrem : (P : Int).tmod (n : Int) = (i : Int)) (hM : Row .i64 w (some ⟨mb, mo, none⟩) mem)
    (x1 : w.cell? ⟨B, 1, none⟩ = some (.slice (some ⟨G, 0, none⟩) n c)) (y2 : w.cell? ⟨G, i * 5 + 2, none⟩ = some (.slice (some ⟨g, 0, none⟩) 6 c1)) (l2 : w.cell? ⟨g, P * 8, none⟩ = some (.slice (some ⟨gl, 0, none⟩) 4 cl)) (hB : B ≠ gl) (hG : G ≠ gl) (hg : g ≠ gl) (ol : w.ownsRow 0 3 1 (.slice (some ⟨gl, 0, none⟩) 4 cl) 4 zs)
    (hK : Hid (∀ (v30 v31 v32 v33 v34 v35 v36 v37 v38 v39 v40 v41 v42 v43 v44 v45 v46 : Value) (w5 : World), Only w w5 (fun b => b = gl) → w5.ownsRow 0 3 1 (.slice (some ⟨gl, 0, none⟩) 4 cl) 4 ((pgW mem P).map (Value.int .i64)) → Q0 .normal ⟨(.int .i64 (n : Int) :: .slice (some ⟨mb, mo, none⟩) 24 cm :: u2 :: u3 :: u4 :: u5 :: u6 :: u7 :: .pointer (some ⟨B, 0, none⟩) :: u9 :: .int .i64 (P : Int) :: u11 :: u12 :: u13 :: u14 :: u15 :: u16 :: u17 :: u18 :: u19 :: u20 :: u21 :: u22 :: u23 :: u24 :: u25 :: u26 :: u27 :: u28 :: u29 :: v30 :: v31 :: v32 :: v33 :: v34 :: v35 :: v36 :: v37 :: v38 :: v39 :: v40 :: v41 :: v42 :: v43 :: v44 :: v45 :: v46 :: u47 :: u48 :: u49 :: u50 :: u51 :: u52 :: u53 :: u54 :: u55 :: u56 :: u57 :: u58 :: u59 :: u60 :: u61 :: u62 :: u63 :: u64 :: u65 :: u66 :: u67 :: u68 :: u69 :: u70 :: u71 :: u72 :: u73 :: u74 :: []).toArray, []⟩ w5)) :
    Code.wp Try.prog ((Try.f6.body.bind (findReg 7)).getD .skip) Q0 ⟨(.int .i64 (n : Int) :: .slice (some ⟨mb, mo, none⟩) 24 cm :: u2 :: u3 :: u4 :: u5 :: u6 :: u7 :: .pointer (some ⟨B, 0, none⟩) :: u9 :: .int .i64 (P : Int) :: u11 :: u12 :: u13 :: u14 :: u15 :: u16 :: u17 :: u18 :: u19 :: u20 :: u21 :: u22 :: u23 :: u24 :: u25 :: u26 :: u27 :: u28 :: u29 :: u30 :: u31 :: u32 :: u33 :: u34 :: u35 :: u36 :: u37 :: u38 :: u39 :: u40 :: u41 :: u42 :: u43 :: u44 :: u45 :: u46 :: u47 :: u48 :: u49 :: u50 :: u51 :: u52 :: u53 :: u54 :: u55 :: u56 :: u57 :: u58 :: u59 :: u60 :: u61 :: u62 :: u63 :: u64 :: u65 :: u66 :: u67 :: u68 :: u69 :: u70 :: u71 :: u72 :: u73 :: u74 :: []).toArray, []⟩ w := by
  unfold maxLen at hcx
  have hi2 : (i : Int) < (n : Int) := by omega
  have hn0 : ¬ (n = 0) := by omega
  have e4 : IntKind.i64.wrap ((P : Int) * 4) = (P : Int) * 4 := by rw [IntKind.wrap_i64]; omega
  have e8 : 0 ≤ (P : Int) * 4 := by omega
  have e9 : (P : Int) * 4 ≤ 24 := by omega
  have eA : ((P : Int) * 4).toNat = P * 4 := by omega
  have eC : ¬ (cm = P * 4) := by omega
  have eD : (P : Int) < 6 := by omega
  have eE : P * 4 ≤ 24 := by omega
  conv => arg 2; whnf
  refine wp_region_held_drew (S := fun W => Only w W (fun b => b = gl)) (by kernel_rfl) ?_ (fun hHeld => ?_)
  · exact (Only.refl w _).below (below_drewN (Below.refl _ _) 1)
  obtain ⟨V0, hV0⟩ : ∃ V, w.drew = V := ⟨_, rfl⟩
  rw [hV0] at hHeld ⊢
  have OV : Below w.heap.size w V0 := by rw [← hV0]; exact below_drewN (Below.refl _ _) 1
  clear hV0
  refine wpAnyH_take (i := 0) (oi := { dst := some 30, op := Op.fieldAddr 26 (Operand.tmp 8) 1, type := 0, pos := "l13_flock.go:39", after := #[], guard := none }) (v := ?vv1) rfl (by kernel_rfl) (by kernel_rfl) (by kernel_rfl) (fun c a w h => hpan.out c a _ _ w h) (Or.inl ⟨by rfl, ?hy1⟩) (by assumption) ?rest1
  case hy1 => intro W hS; go_simp; try (with_reducible rfl)
  try simp only [Act.put, List.setIfInBounds_toArray, List.set_cons_zero, List.set_cons_succ]
  refine wpAnyH_take (i := 1) (oi := { dst := some 31, op := Op.load 23 (Operand.tmp 30), type := 23, pos := "l13_flock.go:39", after := #[{ on := 0, ground := Ground.data }], guard := none }) (v := ?vv2) rfl (by kernel_rfl) (by kernel_rfl) (by kernel_rfl) (fun c a w h => hpan.out c a _ _ w h) (Or.inl ⟨by rfl, ?hy2⟩) (by assumption) ?rest2
  case hy2 => intro W hS; have c0 := only_later hS x1 hB; go_simp; try (with_reducible rfl)
  try simp only [Act.put, List.setIfInBounds_toArray, List.set_cons_zero, List.set_cons_succ]
  refine wpAnyH_take (i := 2) (oi := { dst := some 32, op := Op.move (Operand.tmp 10), type := 3, pos := "l13_flock.go:39", after := #[], guard := none }) (v := ?vv3) rfl (by kernel_rfl) (by kernel_rfl) (by kernel_rfl) (fun c a w h => hpan.out c a _ _ w h) (Or.inl ⟨by rfl, ?hy3⟩) (by assumption) ?rest3
  case hy3 => intro W hS; go_simp; try (with_reducible rfl)
  try simp only [Act.put, List.setIfInBounds_toArray, List.set_cons_zero, List.set_cons_succ]
  refine wpAnyH_take (i := 3) (oi := { dst := some 33, op := Op.move (Operand.tmp 0), type := 3, pos := "l13_flock.go:39", after := #[], guard := none }) (v := ?vv4) rfl (by kernel_rfl) (by kernel_rfl) (by kernel_rfl) (fun c a w h => hpan.out c a _ _ w h) (Or.inl ⟨by rfl, ?hy4⟩) (by assumption) ?rest4
  case hy4 => intro W hS; go_simp; try (with_reducible rfl)
  try simp only [Act.put, List.setIfInBounds_toArray, List.set_cons_zero, List.set_cons_succ]
  refine wpAnyH_take (i := 4) (oi := { dst := some 34, op := Op.binOp BinOp.rem 3 (Operand.tmp 32) (Operand.tmp 33) 3, type := 3, pos := "l13_flock.go:39", after := #[{ on := 2, ground := Ground.data }, { on := 3, ground := Ground.data }], guard := none }) (v := .int .i64 (i : Int)) rfl (by kernel_rfl) (by kernel_rfl) (by kernel_rfl) (fun c a w h => hpan.out c a _ _ w h) (Or.inl ⟨by rfl, ?hy5⟩) (by assumption) ?rest5
  case hy5 => intro W hS; go_simp; try (with_reducible rfl)
  try simp only [Act.put, List.setIfInBounds_toArray, List.set_cons_zero, List.set_cons_succ]
  refine wpAnyH_take (i := 5) (oi := { dst := some 35, op := Op.indexAddr 23 (Operand.tmp 31) (Operand.tmp 34), type := 0, pos := "l13_flock.go:39", after := #[{ on := 1, ground := Ground.data }, { on := 4, ground := Ground.data }], guard := none }) (v := ?vv6) rfl (by kernel_rfl) (by kernel_rfl) (by kernel_rfl) (fun c a w h => hpan.out c a _ _ w h) (Or.inl ⟨by rfl, ?hy6⟩) (by assumption) ?rest6
  case hy6 => intro W hS; go_simp; try (with_reducible rfl)
  try simp only [Act.put, List.setIfInBounds_toArray, List.set_cons_zero, List.set_cons_succ]
  refine wpAnyH_take (i := 6) (oi := { dst := some 36, op := Op.fieldAddr 52 (Operand.tmp 35) 2, type := 0, pos := "l13_flock.go:39", after := #[{ on := 5, ground := Ground.data }], guard := none }) (v := ?vv7) rfl (by kernel_rfl) (by kernel_rfl) (by kernel_rfl) (fun c a w h => hpan.out c a _ _ w h) (Or.inl ⟨by rfl, ?hy7⟩) (by assumption) ?rest7
  case hy7 => intro W hS; go_simp; try (with_reducible rfl)
  try simp only [Act.put, List.setIfInBounds_toArray, List.set_cons_zero, List.set_cons_succ]
  refine wpAnyH_take (i := 7) (oi := { dst := some 37, op := Op.load 48 (Operand.tmp 36), type := 48, pos := "l13_flock.go:39", after := #[{ on := 6, ground := Ground.data }], guard := none }) (v := ?vv8) rfl (by kernel_rfl) (by kernel_rfl) (by kernel_rfl) (fun c a w h => hpan.out c a _ _ w h) (Or.inl ⟨by rfl, ?hy8⟩) (by assumption) ?rest8
  case hy8 => intro W hS; have c0 := only_later hS y2 hG; go_simp; try (with_reducible rfl)
  try simp only [Act.put, List.setIfInBounds_toArray, List.set_cons_zero, List.set_cons_succ]
  refine wpAnyH_take (i := 8) (oi := { dst := some 38, op := Op.move (Operand.tmp 10), type := 3, pos := "l13_flock.go:39", after := #[], guard := none }) (v := ?vv9) rfl (by kernel_rfl) (by kernel_rfl) (by kernel_rfl) (fun c a w h => hpan.out c a _ _ w h) (Or.inl ⟨by rfl, ?hy9⟩) (by assumption) ?rest9
  case hy9 => intro W hS; go_simp; try (with_reducible rfl)
  try simp only [Act.put, List.setIfInBounds_toArray, List.set_cons_zero, List.set_cons_succ]
  refine wpAnyH_take (i := 9) (oi := { dst := some 39, op := Op.indexAddr 48 (Operand.tmp 37) (Operand.tmp 38), type := 0, pos := "l13_flock.go:39", after := #[{ on := 7, ground := Ground.data }, { on := 8, ground := Ground.data }], guard := none }) (v := ?vv10) rfl (by kernel_rfl) (by kernel_rfl) (by kernel_rfl) (fun c a w h => hpan.out c a _ _ w h) (Or.inl ⟨by rfl, ?hy10⟩) (by assumption) ?rest10
  case hy10 => intro W hS; go_simp; try (with_reducible rfl)
  try simp only [Act.put, List.setIfInBounds_toArray, List.set_cons_zero, List.set_cons_succ]
  refine wpAnyH_take (i := 10) (oi := { dst := some 40, op := Op.fieldAddr 46 (Operand.tmp 39) 0, type := 0, pos := "l13_flock.go:39", after := #[{ on := 9, ground := Ground.data }], guard := none }) (v := ?vv11) rfl (by kernel_rfl) (by kernel_rfl) (by kernel_rfl) (fun c a w h => hpan.out c a _ _ w h) (Or.inl ⟨by rfl, ?hy11⟩) (by assumption) ?rest11
  case hy11 => intro W hS; go_simp; try (with_reducible rfl)
  try simp only [Act.put, List.setIfInBounds_toArray, List.set_cons_zero, List.set_cons_succ]
  refine wpAnyH_take (i := 11) (oi := { dst := some 41, op := Op.load 22 (Operand.tmp 40), type := 22, pos := "l13_flock.go:39", after := #[{ on := 10, ground := Ground.data }], guard := none }) (v := ?vv12) rfl (by kernel_rfl) (by kernel_rfl) (by kernel_rfl) (fun c a w h => hpan.out c a _ _ w h) (Or.inl ⟨by rfl, ?hy12⟩) (by assumption) ?rest12
  case hy12 => intro W hS; have c0 := only_later hS l2 hg; go_simp; try (with_reducible rfl)
  try simp only [Act.put, List.setIfInBounds_toArray, List.set_cons_zero, List.set_cons_succ]
  refine wpAnyH_take (i := 12) (oi := { dst := some 42, op := Op.move (Operand.tmp 1), type := 22, pos := "l13_flock.go:39", after := #[], guard := none }) (v := ?vv13) rfl (by kernel_rfl) (by kernel_rfl) (by kernel_rfl) (fun c a w h => hpan.out c a _ _ w h) (Or.inl ⟨by rfl, ?hy13⟩) (by assumption) ?rest13
  case hy13 => intro W hS; go_simp; try (with_reducible rfl)
  try simp only [Act.put, List.setIfInBounds_toArray, List.set_cons_zero, List.set_cons_succ]
  refine wpAnyH_take (i := 13) (oi := { dst := some 43, op := Op.move (Operand.tmp 10), type := 3, pos := "l13_flock.go:39", after := #[], guard := none }) (v := ?vv14) rfl (by kernel_rfl) (by kernel_rfl) (by kernel_rfl) (fun c a w h => hpan.out c a _ _ w h) (Or.inl ⟨by rfl, ?hy14⟩) (by assumption) ?rest14
  case hy14 => intro W hS; go_simp; try (with_reducible rfl)
  try simp only [Act.put, List.setIfInBounds_toArray, List.set_cons_zero, List.set_cons_succ]
  refine wpAnyH_take (i := 14) (oi := { dst := some 44, op := Op.binOp BinOp.mul 3 (Operand.tmp 43) (Operand.const (Value.int IntKind.i64 4)) 3, type := 3, pos := "l13_flock.go:39", after := #[{ on := 13, ground := Ground.data }], guard := none }) (v := ?vv15) rfl (by kernel_rfl) (by kernel_rfl) (by kernel_rfl) (fun c a w h => hpan.out c a _ _ w h) (Or.inl ⟨by rfl, ?hy15⟩) (by assumption) ?rest15
  case hy15 => intro W hS; go_simp; try (with_reducible rfl)
  try simp only [Act.put, List.setIfInBounds_toArray, List.set_cons_zero, List.set_cons_succ]
  refine wpAnyH_take (i := 15) (oi := { dst := some 45, op := Op.slice 22 (Operand.tmp 42) (some (Operand.tmp 44)) none none, type := 22, pos := "l13_flock.go:39", after := #[{ on := 12, ground := Ground.data }, { on := 14, ground := Ground.data }], guard := none }) (v := .slice (some ⟨mb, mo + P * 4, none⟩) (24 - P * 4) (cm - P * 4)) rfl (by kernel_rfl) (by kernel_rfl) (by kernel_rfl) (fun c a w h => hpan.out c a _ _ w h) (Or.inl ⟨by rfl, ?hy16⟩) (by assumption) ?rest16
  case hy16 => intro W hS; go_simp; try (with_reducible rfl)
  try simp only [Act.put, List.setIfInBounds_toArray, List.set_cons_zero, List.set_cons_succ]
  have hrow := hM.below OV
  obtain ⟨W5, hcp, o5, g5⟩ := copy_pg (sl := 24 - P * 4) (sc := cm - P * 4) (ad := ⟨mb, mo + P * 4, none⟩) (cs := (pgW mem P).map (Value.int .i64)) (owns_below ol OV) (by omega) (by rw [List.length_map, pgW_len h24 hP]) (fun j v hv => by obtain ⟨b1, o1, e1, hc1⟩ := pg_news hrow (by rw [h24]; omega) j v hv; simp only [Option.some.injEq, Addr.mk.injEq, and_true] at e1; obtain ⟨rfl, rfl⟩ := e1; rw [addr_add]; exact hc1) (fun u hu => by obtain ⟨z, _, rfl⟩ := List.mem_map.1 hu; rfl)
  refine wpAnyH_ready (rs := [16]) (by kernel_rfl) (by simp) ?_
  refine AllReadyH.cons (o := { dst := some 46, op := Op.call { callee := Callee.builtin Builtin.copy, args := #[Operand.tmp 41, Operand.tmp 45], argTypes := #[22, 22] }, type := 3, pos := "l13_flock.go:39", after := #[{ on := 11, ground := Ground.data }, { on := 15, ground := Ground.data }], guard := none }) rfl (fun K2 hK2 => ?_) AllReadyH.nil
  go_simp
  refine hK2.out _ _ ?_ (fun hHeld2 => ?_)
  · exact ((Only.refl w _).below OV).grown g5 (fun j hj => by simpa using hj.symm)
  clear hK2 K2 hHeld
  have hHeld := hHeld2
  clear hHeld2
  try simp only [Act.put, List.setIfInBounds_toArray, List.set_cons_zero, List.set_cons_succ]
  refine wpAnyH_done (by kernel_rfl) ?_ _
  exact hK.out _ _ _ _ _ _ _ _ _ _ _ _ _ _ _ _ _ W5 hHeld o5

set_option maxRecDepth 100000 in
set_option maxHeartbeats 4000000 in
theorem fireg_9 {u1 u2 u3 u4 u5 u6 u7 u9 u10 u11 u12 u13 u14 u15 u16 u17 u18 u19 u20 u21 u22 u23 u24 u25 u26 u27 u28 u29 u30 u31 u32 u33 u34 u35 u36 u37 u38 u39 u40 u41 u42 u43 u44 u45 u46 u47 u48 u49 u50 u51 u52 u53 u54 u55 u56 u57 u58 u59 u60 u61 u62 u63 u64 u65 u66 u67 u68 u69 u70 u71 u72 u73 u74 : Value} {n B c : Nat} {a : Option Addr} {w : World} {Q0 : Exit → Act → World → Prop} (hpan : Hid (∀ (c : List PanicEntry) (a : Act) (d : Option Tmp) (v : Value) (w : World), Q0 (.panic c) (a.put d v) w → Q0 (.panic c) a w)) (hn : n ≤ 4) (X : Box w B #[.int .i64 (n : Int), .slice a n c, .slice none 0 0] 26)
    (hK : Hid (∀ (v48 v49 v50 v51 : Value) (C g2 : Nat) (W : World), Below w.heap.size w W → W.ownsRow 0 58 4 (.slice (some ⟨g2, 0, none⟩) n n) n (chunks n fun _ => [.slice none 0 0, .int .i64 0, .int .i64 0, .slice none 0 0]) → Box W C #[.int .i64 (n : Int), .slice a n c, .slice none 0 0, .slice (some ⟨g2, 0, none⟩) n n] 29 → (w.heap.size ≤ C ∧ C < w.heap.size + 2) → (w.heap.size ≤ g2 ∧ g2 < w.heap.size + 2) → C ≠ g2 → w.heap.size + 2 ≤ W.heap.size → Q0 .normal ⟨(.int .i64 (n : Int) :: u1 :: u2 :: u3 :: u4 :: u5 :: u6 :: u7 :: .pointer (some ⟨B, 0, none⟩) :: u9 :: u10 :: .pointer (some ⟨C, 0, none⟩) :: u12 :: u13 :: u14 :: u15 :: u16 :: u17 :: u18 :: u19 :: u20 :: u21 :: u22 :: u23 :: u24 :: u25 :: u26 :: u27 :: u28 :: u29 :: u30 :: u31 :: u32 :: u33 :: u34 :: u35 :: u36 :: u37 :: u38 :: u39 :: u40 :: u41 :: u42 :: u43 :: u44 :: u45 :: u46 :: u47 :: v48 :: v49 :: v50 :: v51 :: u52 :: u53 :: u54 :: u55 :: u56 :: u57 :: u58 :: u59 :: u60 :: u61 :: u62 :: u63 :: u64 :: u65 :: u66 :: u67 :: u68 :: u69 :: u70 :: u71 :: u72 :: u73 :: u74 :: []).toArray, []⟩ W)) :
    Code.wp Try.prog ((Try.f6.body.bind (findReg 9)).getD .skip) Q0 ⟨(.int .i64 (n : Int) :: u1 :: u2 :: u3 :: u4 :: u5 :: u6 :: u7 :: .pointer (some ⟨B, 0, none⟩) :: u9 :: u10 :: u11 :: u12 :: u13 :: u14 :: u15 :: u16 :: u17 :: u18 :: u19 :: u20 :: u21 :: u22 :: u23 :: u24 :: u25 :: u26 :: u27 :: u28 :: u29 :: u30 :: u31 :: u32 :: u33 :: u34 :: u35 :: u36 :: u37 :: u38 :: u39 :: u40 :: u41 :: u42 :: u43 :: u44 :: u45 :: u46 :: u47 :: u48 :: u49 :: u50 :: u51 :: u52 :: u53 :: u54 :: u55 :: u56 :: u57 :: u58 :: u59 :: u60 :: u61 :: u62 :: u63 :: u64 :: u65 :: u66 :: u67 :: u68 :: u69 :: u70 :: u71 :: u72 :: u73 :: u74 :: []).toArray, []⟩ w := by
  obtain ⟨x0, x1, x2, xz⟩ := X.at3
  have hmk := make_all 27 58 _ 4 64 Try.underlying27 info_core n (by omega) (by omega)
  obtain ⟨z, hz⟩ : ∃ z, madeCells (Value.agg #[.slice none 0 0, .int .i64 0, .int .i64 0, .slice none 0 0]).cells (n * 4) = z := ⟨_, rfl⟩
  have hzs : z.size = n * 4 := by rw [← hz]; exact size_madeCells _ _
  have hzl : z.toList = chunks n fun _ => [.slice none 0 0, .int .i64 0, .int .i64 0, .slice none 0 0] := by rw [← hz]; exact made_chunks _ 4 n rfl (by decide)
  rw [hz] at hmk
  clear hz
  conv => arg 2; whnf
  refine wp_region_held_drew (S := fun W => Below w.heap.size w W) (by kernel_rfl) ?_ (fun hHeld => ?_)
  · exact below_drewN (Below.refl _ _) 1
  have hs0 : Hid (w.drew.heap.size = w.heap.size) := rfl
  obtain ⟨V0, hV0⟩ : ∃ V, w.drew = V := ⟨_, rfl⟩
  rw [hV0] at hHeld hs0 ⊢
  clear hV0
  obtain ⟨m, hm⟩ : ∃ m, V0.heap.size = m := ⟨_, rfl⟩
  have HM : Hid (m = w.heap.size) := by show _ = _; rw [← hm]; exact hs0.out
  refine wpAnyH_take (i := 0) (oi := { dst := some 48, op := Op.load 26 (Operand.tmp 8), type := 26, pos := "l13_flock.go:41", after := #[], guard := none }) (v := .agg #[.int .i64 (n : Int), .slice a n c, .slice none 0 0]) rfl (by kernel_rfl) (by kernel_rfl) (by kernel_rfl) (fun c a w h => hpan.out c a _ _ w h) (Or.inl ⟨by rfl, ?hy17⟩) (by assumption) ?rest17
  case hy17 => intro W hS; have c0 := cell_later hS x0; have c1 := cell_later hS x1; have c2 := cell_later hS x2; go_simp; try (with_reducible rfl)
  try simp only [Act.put, List.setIfInBounds_toArray, List.set_cons_zero, List.set_cons_succ]
  refine wpAnyH_take (i := 1) (oi := { dst := some 49, op := Op.move (Operand.tmp 0), type := 3, pos := "l13_flock.go:41", after := #[], guard := none }) (v := ?vv18) rfl (by kernel_rfl) (by kernel_rfl) (by kernel_rfl) (fun c a w h => hpan.out c a _ _ w h) (Or.inl ⟨by rfl, ?hy18⟩) (by assumption) ?rest18
  case hy18 => intro W hS; go_simp; try (with_reducible rfl)
  try simp only [Act.put, List.setIfInBounds_toArray, List.set_cons_zero, List.set_cons_succ]
  refine wpAnyH_ready (rs := [2, 4]) (by kernel_rfl) (by simp) ?_
  refine AllReadyH.cons (o := { dst := some 50, op := Op.makeSlice 27 (Operand.tmp 49) (Operand.tmp 49), type := 27, pos := "l13_flock.go:41", after := #[{ on := 1, ground := Ground.data }, { on := 1, ground := Ground.data }], guard := none }) rfl (fun K2 hK2 => ?_) (AllReadyH.cons (o := { dst := some 11, op := Op.alloc 29, type := 0, pos := "l13_flock.go:41", after := #[], guard := none }) rfl (fun K2 hK2 => ?_) AllReadyH.nil)
  · go_simp
    refine hK2.out _ _ ?_ (fun hHeld2 => ?_)
    · exact bel_alloc hHeld _
    clear hK2 K2 hHeld
    have hHeld := hHeld2
    clear hHeld2
    try simp only [Act.put, List.setIfInBounds_toArray, List.set_cons_zero, List.set_cons_succ]
    have og := own_last (e := 58) (base := 0) (s := 4) (n := n) (z := z) (g := m) (w := V0) (by exact hm.symm) hzs (Nat.zero_le _) (by unfold maxLen; omega)
    rw [hzl] at og
    have bA := bel_alloc (Below.refl V0.heap.size V0) (.cells z 58)
    have sV1 : (V0.alloc (.cells z 58)).heap.size = V0.heap.size + 1 := by simp
    obtain ⟨V1, hV1⟩ : ∃ X, V0.alloc (.cells z 58) = X := ⟨_, rfl⟩
    rw [hV1] at hHeld sV1 og bA ⊢
    clear hV1
    rw [hm] at sV1
    have hm1 : V1.heap.size = m + 1 := sV1
    refine wpAnyH_take (i := 3) (oi := { dst := some 51, op := Op.build 29 #[(0, Operand.tmp 48), (1, Operand.tmp 50)], type := 29, pos := "l13_flock.go:41", after := #[{ on := 0, ground := Ground.data }, { on := 2, ground := Ground.data }], guard := none }) (v := ?vv19) rfl (by kernel_rfl) (by kernel_rfl) (by kernel_rfl) (fun c a w h => hpan.out c a _ _ w h) (Or.inl ⟨by rfl, ?hy19⟩) (by assumption) ?rest19
    case hy19 => intro W hS; go_simp; try (with_reducible rfl)
    try simp only [Act.put, List.setIfInBounds_toArray, List.set_cons_zero, List.set_cons_succ]
    refine wpAnyH_ready (rs := [4]) (by kernel_rfl) (by simp) ?_
    refine AllReadyH.cons (o := { dst := some 11, op := Op.alloc 29, type := 0, pos := "l13_flock.go:41", after := #[], guard := none }) rfl (fun K2 hK2 => ?_) AllReadyH.nil
    go_simp
    refine hK2.out _ _ ?_ (fun hHeld2 => ?_)
    · exact bel_alloc hHeld _
    clear hK2 K2 hHeld
    have hHeld := hHeld2
    clear hHeld2
    try simp only [Act.put, List.setIfInBounds_toArray, List.set_cons_zero, List.set_cons_succ]
    have XN := Box.new V1 #[.int .i64 0, .slice none 0 0, .slice none 0 0, .slice none 0 0] 29
    have bN := bel_alloc (Below.refl V1.heap.size V1) (.cells #[.int .i64 0, .slice none 0 0, .slice none 0 0, .slice none 0 0] 29)
    replace og := owns_below og bN
    have sV2 : (V1.alloc (.cells #[.int .i64 0, .slice none 0 0, .slice none 0 0, .slice none 0 0] 29)).heap.size = V1.heap.size + 1 := by simp
    obtain ⟨V2, hV2⟩ : ∃ X, V1.alloc (.cells #[.int .i64 0, .slice none 0 0, .slice none 0 0, .slice none 0 0] 29) = X := ⟨_, rfl⟩
    rw [hV2] at hHeld sV2 og XN bN ⊢
    clear hV2
    rw [hm1] at XN sV2
    obtain ⟨n0, n1, n2, n3, nz⟩ := XN.at4
    have nf0 := XN.frozen 0
    have nf1 := XN.frozen 1
    have nf2 := XN.frozen 2
    have nf3 := XN.frozen 3
    refine wpAnyH_ready (rs := [5]) (by kernel_rfl) (by simp) ?_
    refine AllReadyH.cons (o := { dst := none, op := Op.store 29 (Operand.tmp 11) (Operand.tmp 51), type := 0, pos := "l13_flock.go:41", after := #[{ on := 4, ground := Ground.data }, { on := 3, ground := Ground.data }, { on := 0, ground := Ground.phase }, { on := 1, ground := Ground.phase }, { on := 2, ground := Ground.phase }, { on := 3, ground := Ground.phase }, { on := 4, ground := Ground.phase }], guard := none }) rfl (fun K2 hK2 => ?_) AllReadyH.nil
    go_simp
    have hC : w.heap.size ≤ (m + 1) := by have := HM.out; omega
    refine hK2.out _ _ ?_ (fun hHeld2 => ?_)
    · exact bel_setCell (bel_setCell (bel_setCell (bel_setCell hHeld _ _ hC) _ _ hC) _ _ hC) _ _ hC
    clear hK2 K2 hHeld
    have hHeld := hHeld2
    clear hHeld2
    try simp only [Act.put, List.setIfInBounds_toArray, List.set_cons_zero, List.set_cons_succ]
    refine wpAnyH_done (by kernel_rfl) ?_ _
    have on : Only V2 ((((V2.setCell ⟨(m + 1), 0, none⟩ (.int .i64 (n : Int))).setCell ⟨(m + 1), 1, none⟩ (.slice a n c)).setCell ⟨(m + 1), 2, none⟩ (.slice none 0 0)).setCell ⟨(m + 1), 3, none⟩ (.slice (some ⟨m, 0, none⟩) n n)) (fun b => b = (m + 1)) := ((((Only.refl V2 (fun b => b = (m + 1))).setCell ⟨(m + 1), 0, none⟩ _ rfl).setCell ⟨(m + 1), 1, none⟩ _ rfl).setCell ⟨(m + 1), 2, none⟩ _ rfl).setCell ⟨(m + 1), 3, none⟩ _ rfl
    have XF : Box ((((V2.setCell ⟨(m + 1), 0, none⟩ (.int .i64 (n : Int))).setCell ⟨(m + 1), 1, none⟩ (.slice a n c)).setCell ⟨(m + 1), 2, none⟩ (.slice none 0 0)).setCell ⟨(m + 1), 3, none⟩ (.slice (some ⟨m, 0, none⟩) n n)) (m + 1) #[.int .i64 (n : Int), .slice a n c, .slice none 0 0, .slice (some ⟨m, 0, none⟩) n n] 29 := heap_setCell_same _ _ 3 _ _ _ (heap_setCell_same _ _ 2 _ _ _ (heap_setCell_same _ _ 1 _ _ _ (heap_setCell_same _ _ 0 _ _ _ XN)))
    refine hK.out _ _ _ _ (m + 1) m _ hHeld (owns_only og on (fun x hx e => by simp [Value.ownBlock] at hx; omega)) XF ⟨hC, by have := HM.out; omega⟩ ⟨by have := HM.out; omega, by have := HM.out; omega⟩ (by omega) (by have h := on.size; have := HM.out; omega)
  · go_simp
    refine hK2.out _ _ ?_ (fun hHeld2 => ?_)
    · exact bel_alloc hHeld _
    clear hK2 K2 hHeld
    have hHeld := hHeld2
    clear hHeld2
    try simp only [Act.put, List.setIfInBounds_toArray, List.set_cons_zero, List.set_cons_succ]
    have XN := Box.new V0 #[.int .i64 0, .slice none 0 0, .slice none 0 0, .slice none 0 0] 29
    have bN := bel_alloc (Below.refl V0.heap.size V0) (.cells #[.int .i64 0, .slice none 0 0, .slice none 0 0, .slice none 0 0] 29)
    have sV1 : (V0.alloc (.cells #[.int .i64 0, .slice none 0 0, .slice none 0 0, .slice none 0 0] 29)).heap.size = V0.heap.size + 1 := by simp
    obtain ⟨V1, hV1⟩ : ∃ X, V0.alloc (.cells #[.int .i64 0, .slice none 0 0, .slice none 0 0, .slice none 0 0] 29) = X := ⟨_, rfl⟩
    rw [hV1] at hHeld sV1 XN bN ⊢
    clear hV1
    rw [hm] at XN sV1
    have hm1 : V1.heap.size = m + 1 := sV1
    refine wpAnyH_ready (rs := [2]) (by kernel_rfl) (by simp) ?_
    refine AllReadyH.cons (o := { dst := some 50, op := Op.makeSlice 27 (Operand.tmp 49) (Operand.tmp 49), type := 27, pos := "l13_flock.go:41", after := #[{ on := 1, ground := Ground.data }, { on := 1, ground := Ground.data }], guard := none }) rfl (fun K2 hK2 => ?_) AllReadyH.nil
    go_simp
    refine hK2.out _ _ ?_ (fun hHeld2 => ?_)
    · exact bel_alloc hHeld _
    clear hK2 K2 hHeld
    have hHeld := hHeld2
    clear hHeld2
    try simp only [Act.put, List.setIfInBounds_toArray, List.set_cons_zero, List.set_cons_succ]
    have og := own_last (e := 58) (base := 0) (s := 4) (n := n) (z := z) (g := (m + 1)) (w := V1) (by rw [← hm1]) hzs (Nat.zero_le _) (by unfold maxLen; omega)
    rw [hzl] at og
    have bA := bel_alloc (Below.refl V1.heap.size V1) (.cells z 58)
    replace XN := XN.below bA
    have sV2 : (V1.alloc (.cells z 58)).heap.size = V1.heap.size + 1 := by simp
    obtain ⟨V2, hV2⟩ : ∃ X, V1.alloc (.cells z 58) = X := ⟨_, rfl⟩
    rw [hV2] at hHeld sV2 og XN bA ⊢
    clear hV2
    rw [hm1] at sV2
    refine wpAnyH_take (i := 3) (oi := { dst := some 51, op := Op.build 29 #[(0, Operand.tmp 48), (1, Operand.tmp 50)], type := 29, pos := "l13_flock.go:41", after := #[{ on := 0, ground := Ground.data }, { on := 2, ground := Ground.data }], guard := none }) (v := ?vv20) rfl (by kernel_rfl) (by kernel_rfl) (by kernel_rfl) (fun c a w h => hpan.out c a _ _ w h) (Or.inl ⟨by rfl, ?hy20⟩) (by assumption) ?rest20
    case hy20 => intro W hS; go_simp; try (with_reducible rfl)
    try simp only [Act.put, List.setIfInBounds_toArray, List.set_cons_zero, List.set_cons_succ]
    obtain ⟨n0, n1, n2, n3, nz⟩ := XN.at4
    have nf0 := XN.frozen 0
    have nf1 := XN.frozen 1
    have nf2 := XN.frozen 2
    have nf3 := XN.frozen 3
    refine wpAnyH_ready (rs := [5]) (by kernel_rfl) (by simp) ?_
    refine AllReadyH.cons (o := { dst := none, op := Op.store 29 (Operand.tmp 11) (Operand.tmp 51), type := 0, pos := "l13_flock.go:41", after := #[{ on := 4, ground := Ground.data }, { on := 3, ground := Ground.data }, { on := 0, ground := Ground.phase }, { on := 1, ground := Ground.phase }, { on := 2, ground := Ground.phase }, { on := 3, ground := Ground.phase }, { on := 4, ground := Ground.phase }], guard := none }) rfl (fun K2 hK2 => ?_) AllReadyH.nil
    go_simp
    have hC : w.heap.size ≤ m := by have := HM.out; omega
    refine hK2.out _ _ ?_ (fun hHeld2 => ?_)
    · exact bel_setCell (bel_setCell (bel_setCell (bel_setCell hHeld _ _ hC) _ _ hC) _ _ hC) _ _ hC
    clear hK2 K2 hHeld
    have hHeld := hHeld2
    clear hHeld2
    try simp only [Act.put, List.setIfInBounds_toArray, List.set_cons_zero, List.set_cons_succ]
    refine wpAnyH_done (by kernel_rfl) ?_ _
    have on : Only V2 ((((V2.setCell ⟨m, 0, none⟩ (.int .i64 (n : Int))).setCell ⟨m, 1, none⟩ (.slice a n c)).setCell ⟨m, 2, none⟩ (.slice none 0 0)).setCell ⟨m, 3, none⟩ (.slice (some ⟨(m + 1), 0, none⟩) n n)) (fun b => b = m) := ((((Only.refl V2 (fun b => b = m)).setCell ⟨m, 0, none⟩ _ rfl).setCell ⟨m, 1, none⟩ _ rfl).setCell ⟨m, 2, none⟩ _ rfl).setCell ⟨m, 3, none⟩ _ rfl
    have XF : Box ((((V2.setCell ⟨m, 0, none⟩ (.int .i64 (n : Int))).setCell ⟨m, 1, none⟩ (.slice a n c)).setCell ⟨m, 2, none⟩ (.slice none 0 0)).setCell ⟨m, 3, none⟩ (.slice (some ⟨(m + 1), 0, none⟩) n n)) m #[.int .i64 (n : Int), .slice a n c, .slice none 0 0, .slice (some ⟨(m + 1), 0, none⟩) n n] 29 := heap_setCell_same _ _ 3 _ _ _ (heap_setCell_same _ _ 2 _ _ _ (heap_setCell_same _ _ 1 _ _ _ (heap_setCell_same _ _ 0 _ _ _ XN)))
    refine hK.out _ _ _ _ m (m + 1) _ hHeld (owns_only og on (fun x hx e => by simp [Value.ownBlock] at hx; omega)) XF ⟨hC, by have := HM.out; omega⟩ ⟨by have := HM.out; omega, by have := HM.out; omega⟩ (by omega) (by have h := on.size; have := HM.out; omega)

set_option maxRecDepth 100000 in
set_option maxHeartbeats 4000000 in
theorem fireg_16 {u0 u1 u2 u3 u4 u5 u6 u7 u8 u9 u10 u14 u15 u16 u17 u18 u19 u20 u21 u22 u23 u24 u25 u26 u27 u28 u29 u30 u31 u32 u33 u34 u35 u36 u37 u38 u39 u40 u41 u42 u43 u44 u45 u46 u47 u48 u49 u50 u51 u52 u53 u54 u55 u56 u57 u58 u59 u60 u61 u62 u63 u64 u65 u66 u67 u68 u69 u70 u71 u72 u73 u74 : Value} {C g2 j n : Nat} {s : Int} {d0 d1 d2 : Value} {f : Nat → List Value} {w : World} {Q0 : Exit → Act → World → Prop} (hpan : Hid (∀ (c : List PanicEntry) (a : Act) (d : Option Tmp) (v : Value) (w : World), Q0 (.panic c) (a.put d v) w → Q0 (.panic c) a w)) (hn : n ≤ 4) (hj : j < n) (X : Box w C #[d0, d1, d2, .slice (some ⟨g2, 0, none⟩) n n] 29) (hr : w.ownsRow 0 58 4 (.slice (some ⟨g2, 0, none⟩) n n) n (chunks n f)) (nC : C ≠ g2)
    (hK : Hid (∀ (v66 v67 v68 v69 v70 v71 v72 : Value) (ah : Option Addr) (ch : Nat) (w1 : World), w1.ownsRow w.heap.size 3 1 (.slice ah 4 ch) 4 ([0, 0, 0, 0].map (Value.int .i64)) → Below w.heap.size w w1 → Q0 .normal ⟨(u0 :: u1 :: u2 :: u3 :: u4 :: u5 :: u6 :: u7 :: u8 :: u9 :: u10 :: .pointer (some ⟨C, 0, none⟩) :: .int .i64 (j : Int) :: .int .i64 s :: u14 :: u15 :: u16 :: u17 :: u18 :: u19 :: u20 :: u21 :: u22 :: u23 :: u24 :: u25 :: u26 :: u27 :: u28 :: u29 :: u30 :: u31 :: u32 :: u33 :: u34 :: u35 :: u36 :: u37 :: u38 :: u39 :: u40 :: u41 :: u42 :: u43 :: u44 :: u45 :: u46 :: u47 :: u48 :: u49 :: u50 :: u51 :: u52 :: u53 :: u54 :: u55 :: u56 :: u57 :: u58 :: u59 :: u60 :: u61 :: u62 :: u63 :: u64 :: u65 :: v66 :: v67 :: v68 :: v69 :: v70 :: v71 :: v72 :: u73 :: u74 :: []).toArray, []⟩ (((w1.setCell ⟨g2, j * 4, none⟩ (.slice ah 4 ch)).setCell ⟨g2, j * 4 + 1, none⟩ (.int .i64 (s % 24))).setCell ⟨g2, j * 4 + 2, none⟩ (.int .i64 0)))) :
    Code.wp Try.prog ((Try.f6.body.bind (findReg 16)).getD .skip) Q0 ⟨(u0 :: u1 :: u2 :: u3 :: u4 :: u5 :: u6 :: u7 :: u8 :: u9 :: u10 :: .pointer (some ⟨C, 0, none⟩) :: .int .i64 (j : Int) :: .int .i64 s :: u14 :: u15 :: u16 :: u17 :: u18 :: u19 :: u20 :: u21 :: u22 :: u23 :: u24 :: u25 :: u26 :: u27 :: u28 :: u29 :: u30 :: u31 :: u32 :: u33 :: u34 :: u35 :: u36 :: u37 :: u38 :: u39 :: u40 :: u41 :: u42 :: u43 :: u44 :: u45 :: u46 :: u47 :: u48 :: u49 :: u50 :: u51 :: u52 :: u53 :: u54 :: u55 :: u56 :: u57 :: u58 :: u59 :: u60 :: u61 :: u62 :: u63 :: u64 :: u65 :: u66 :: u67 :: u68 :: u69 :: u70 :: u71 :: u72 :: u73 :: u74 :: []).toArray, []⟩ w := by
  obtain ⟨x0, x1, x2, x3, xz⟩ := X.at4
  have hj2 : (j : Int) < (n : Int) := by omega
  conv => arg 2; whnf
  refine wp_region_held_drew (S := fun W => Only w W (fun b => b = g2)) (by kernel_rfl) ?_ (fun hHeld => ?_)
  · exact (Only.refl w _).below (below_drewN (Below.refl _ _) 1)
  obtain ⟨V0, hV0⟩ : ∃ V, w.drew = V := ⟨_, rfl⟩
  rw [hV0] at hHeld ⊢
  have OV : Below w.heap.size w V0 := by rw [← hV0]; exact below_drewN (Below.refl _ _) 1
  clear hV0
  refine wpAnyH_take (i := 0) (oi := { dst := some 66, op := Op.fieldAddr 29 (Operand.tmp 11) 1, type := 0, pos := "l13_flock.go:47", after := #[], guard := none }) (v := ?vv21) rfl (by kernel_rfl) (by kernel_rfl) (by kernel_rfl) (fun c a w h => hpan.out c a _ _ w h) (Or.inl ⟨by rfl, ?hy21⟩) (by assumption) ?rest21
  case hy21 => intro W hS; go_simp; try (with_reducible rfl)
  try simp only [Act.put, List.setIfInBounds_toArray, List.set_cons_zero, List.set_cons_succ]
  refine wpAnyH_take (i := 1) (oi := { dst := some 67, op := Op.load 27 (Operand.tmp 66), type := 27, pos := "l13_flock.go:47", after := #[{ on := 0, ground := Ground.data }], guard := none }) (v := ?vv22) rfl (by kernel_rfl) (by kernel_rfl) (by kernel_rfl) (fun c a w h => hpan.out c a _ _ w h) (Or.inl ⟨by rfl, ?hy22⟩) (by assumption) ?rest22
  case hy22 => intro W hS; have c0 := only_later hS x3 nC; go_simp; try (with_reducible rfl)
  try simp only [Act.put, List.setIfInBounds_toArray, List.set_cons_zero, List.set_cons_succ]
  refine wpAnyH_take (i := 2) (oi := { dst := some 68, op := Op.move (Operand.tmp 12), type := 3, pos := "l13_flock.go:47", after := #[], guard := none }) (v := ?vv23) rfl (by kernel_rfl) (by kernel_rfl) (by kernel_rfl) (fun c a w h => hpan.out c a _ _ w h) (Or.inl ⟨by rfl, ?hy23⟩) (by assumption) ?rest23
  case hy23 => intro W hS; go_simp; try (with_reducible rfl)
  try simp only [Act.put, List.setIfInBounds_toArray, List.set_cons_zero, List.set_cons_succ]
  refine wpAnyH_take (i := 3) (oi := { dst := some 69, op := Op.move (Operand.tmp 13), type := 3, pos := "l13_flock.go:47", after := #[], guard := none }) (v := ?vv24) rfl (by kernel_rfl) (by kernel_rfl) (by kernel_rfl) (fun c a w h => hpan.out c a _ _ w h) (Or.inl ⟨by rfl, ?hy24⟩) (by assumption) ?rest24
  case hy24 => intro W hS; go_simp; try (with_reducible rfl)
  try simp only [Act.put, List.setIfInBounds_toArray, List.set_cons_zero, List.set_cons_succ]
  refine wpAnyH_ready (rs := [4]) (by kernel_rfl) (by simp) ?_
  refine AllReadyH.cons (o := { dst := some 70, op := Op.call { callee := Callee.value (Operand.func 17), args := #[Operand.tmp 69], argTypes := #[3] }, type := 54, pos := "l13_flock.go:47", after := #[{ on := 3, ground := Ground.data }], guard := none }) rfl (fun K2 hK2 => ?_) AllReadyH.nil
  go_simp
  refine (implHartNew_any s _).mono ?_
  rintro e w1 ⟨ah, ch, rfl, o1, b1⟩
  simp only [List.length_cons, List.length_nil, Nat.zero_add, Nat.reduceAdd] at o1 ⊢
  replace o1 : w1.ownsRow w.heap.size 3 1 (.slice ah 4 ch) 4 ([0, 0, 0, 0].map (Value.int .i64)) := owns_base o1 OV.size
  have B1 := bel_trans OV b1
  go_wp2_with fail
  refine hK2.out _ _ ?_ (fun hHeld2 => ?_)
  · exact (Only.refl w _).below B1
  clear hK2 K2 hHeld
  have hHeld := hHeld2
  clear hHeld2
  try simp only [Act.put, List.setIfInBounds_toArray, List.set_cons_zero, List.set_cons_succ]
  have hr1 := owns_below hr B1
  have q0 := hr1.frozenAt (j * 4)
  have q1 := hr1.frozenAt (j * 4 + 1)
  have q2 := hr1.frozenAt (j * 4 + 2)
  obtain ⟨w0x, k0⟩ := cellN hr1 hj (t := 0) (by decide)
  obtain ⟨w1x, k1⟩ := cellN hr1 hj (t := 1) (by decide)
  obtain ⟨w2x, k2⟩ := cellN hr1 hj (t := 2) (by decide)
  simp only [Nat.add_zero] at k0
  refine wpAnyH_take (i := 5) (oi := { dst := some 71, op := Op.indexAddr 27 (Operand.tmp 67) (Operand.tmp 68), type := 0, pos := "l13_flock.go:47", after := #[{ on := 1, ground := Ground.data }, { on := 2, ground := Ground.data }, { on := 0, ground := Ground.phase }, { on := 1, ground := Ground.phase }, { on := 2, ground := Ground.phase }, { on := 3, ground := Ground.phase }, { on := 4, ground := Ground.phase }], guard := none }) (v := ?vv25) rfl (by kernel_rfl) (by kernel_rfl) (by kernel_rfl) (fun c a w h => hpan.out c a _ _ w h) (Or.inl ⟨by rfl, ?hy25⟩) (by assumption) ?rest25
  case hy25 => intro W hS; go_simp; try (with_reducible rfl)
  try simp only [Act.put, List.setIfInBounds_toArray, List.set_cons_zero, List.set_cons_succ]
  refine wpAnyH_take (i := 6) (oi := { dst := some 72, op := Op.fieldAddr 58 (Operand.tmp 71) 0, type := 0, pos := "l13_flock.go:47", after := #[{ on := 5, ground := Ground.data }, { on := 0, ground := Ground.phase }, { on := 1, ground := Ground.phase }, { on := 2, ground := Ground.phase }, { on := 3, ground := Ground.phase }, { on := 4, ground := Ground.phase }], guard := none }) (v := ?vv26) rfl (by kernel_rfl) (by kernel_rfl) (by kernel_rfl) (fun c a w h => hpan.out c a _ _ w h) (Or.inl ⟨by rfl, ?hy26⟩) (by assumption) ?rest26
  case hy26 => intro W hS; go_simp; try (with_reducible rfl)
  try simp only [Act.put, List.setIfInBounds_toArray, List.set_cons_zero, List.set_cons_succ]
  refine wpAnyH_ready (rs := [7]) (by kernel_rfl) (by simp) ?_
  refine AllReadyH.cons (o := { dst := none, op := Op.store 54 (Operand.tmp 72) (Operand.tmp 70), type := 0, pos := "l13_flock.go:47", after := #[{ on := 6, ground := Ground.data }, { on := 4, ground := Ground.data }, { on := 4, ground := Ground.chain }, { on := 0, ground := Ground.phase }, { on := 1, ground := Ground.phase }, { on := 2, ground := Ground.phase }, { on := 3, ground := Ground.phase }, { on := 4, ground := Ground.phase }], guard := none }) rfl (fun K2 hK2 => ?_) AllReadyH.nil
  go_simp
  refine hK2.out _ _ ?_ (fun hHeld2 => ?_)
  · exact ((((Only.refl w (fun b => b = g2)).below B1).setCell _ _ rfl).setCell _ _ rfl).setCell _ _ rfl
  clear hK2 K2 hHeld
  have hHeld := hHeld2
  clear hHeld2
  try simp only [Act.put, List.setIfInBounds_toArray, List.set_cons_zero, List.set_cons_succ]
  refine wpAnyH_done (by kernel_rfl) ?_ _
  exact hK.out _ _ _ _ _ _ _ ah ch w1 o1 B1
end Go.Proofs.Ytfeabhknkoifeaa
