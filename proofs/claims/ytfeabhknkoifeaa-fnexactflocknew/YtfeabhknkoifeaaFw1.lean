/- A new flock: what it says; the drawn regions of the specification's FlockNew (written by mk13n.py). -/
import Derived.Test.YtfeabhknkoifeaaFwS
import Derived.Test.YtfeabhknkoifeaaCs2
import Derived.Test.YtfeabhknkoifeaaWnS
import Derived.Test.YtfeabhknkoifeaaHs9
import Derived.Test.YtfeabhknkoifeaaReg
import Derived.Deep.RegionHeld3
import Derived.Deep.RegionLaw
namespace Go.Proofs.Ytfeabhknkoifeaa
open Go.RowKit
set_option linter.unusedVariables false

/-- The words of page p. -/
def pgW (mem : List Int) (p : Nat) : List Int := (mem.drop (p * 4)).take 4
/-- Node i of a new flock, the words of the first P pages laid. -/
def flND (mem : List Int) (n P i : Nat) : ND := ⟨i, 6, fun _ => ⟨0, [], false⟩, 6, fun p => if p < P ∧ p % n = i then ⟨pgW mem p, -1, List.replicate n false, false, 0, false, 0, []⟩ else newHD n, n, fun _ => 0, fun _ => [], n, fun _ => 0⟩
def newCo (s : Int) : CoD := ⟨⟨[0, 0, 0, 0], s % 24, 0⟩, 0, fun _ => ⟨0, 0, fun _ => ⟨0, 0, 0, 0, 0⟩⟩⟩
theorem pgW_len {mem : List Int} (h : mem.length = 24) {p : Nat} (hp : p < 6) : (pgW mem p).length = 4 := by
  unfold pgW
  simp
  omega
theorem flND_zero (mem : List Int) (n : Nat) : flND mem n 0 = fun i : Nat => newND i n := by
  funext i
  simp [flND, newND]
theorem flND_step (mem : List Int) (n P i : Nat) (hi : P % n = i) : (fun x => if x = i then setND (flND mem n P i) P (pgW mem P) else flND mem n P x) = flND mem n (P + 1) := by
  funext x
  by_cases e : x = i
  · rw [if_pos e, e]
    unfold flND setND
    congr 1
    funext q
    unfold setHD
    dsimp only
    by_cases e1 : q = P
    · subst e1
      simp [hi, newHD]
    · rw [if_neg e1]
      by_cases e2 : q % n = i
      · by_cases e3 : q < P
        · rw [if_pos ⟨e3, e2⟩, if_pos ⟨by omega, e2⟩]
        · rw [if_neg (fun h => e3 h.1), if_neg (fun h => e3 (by omega))]
      · rw [if_neg (fun h => e2 h.2), if_neg (fun h => e2 h.2)]
  · rw [if_neg e]
    unfold flND
    congr 1
    funext q
    by_cases e2 : q % n = x
    · have e3 : q ≠ P := fun h => e (by rw [← e2, h]; exact hi)
      by_cases e4 : q < P
      · rw [if_pos ⟨e4, e2⟩, if_pos ⟨by omega, e2⟩]
      · rw [if_neg (fun h => e4 h.1), if_neg (fun h => e4 (by omega))]
    · rw [if_neg (fun h => e2 h.2), if_neg (fun h => e2 h.2)]

theorem only_later {w W : World} {g : Nat} (k : Only w W (fun b => b = g)) {a : Addr} {v : Value} (h : w.cell? a = some v) (hne : a.block ≠ g) : W.cell? a = some v := (World.cell?_of_block (k.block a.block (World.block_lt_of_cell? _ _ h) hne)).trans h
theorem pg_news {w : World} {b off : Nat} {mem : List Int} (h : Row .i64 w (some ⟨b, off, none⟩) mem) {P : Nat} (hP : P * 4 + 4 ≤ mem.length) : ∀ j u, ((pgW mem P).map (Value.int .i64))[j]? = some u → ∃ b' o', some (⟨b, off + P * 4, none⟩ : Addr) = some ⟨b', o', none⟩ ∧ w.cell? ⟨b', o' + j, none⟩ = some u := fun j u hu => by
  refine ⟨b, off + P * 4, rfl, ?_⟩
  rw [List.getElem?_map] at hu
  unfold pgW at hu
  have hj : j < 4 := by
    by_cases hj : j < 4
    · exact hj
    · rw [List.getElem?_eq_none (by simp; omega)] at hu
      simp at hu
  obtain ⟨b1, o1, e1, hc⟩ := h.2 (P * 4 + j) (by omega)
  simp only [Option.some.injEq, Addr.mk.injEq, and_true] at e1
  obtain ⟨rfl, rfl⟩ := e1
  rw [List.getElem?_take_of_lt hj, List.getElem?_drop] at hu
  rw [List.getElem?_eq_getElem (by omega)] at hu
  simp at hu
  rw [Nat.add_assoc, hc, ← hu]
  simp [List.getD_eq_getElem?_getD, List.getElem?_eq_getElem (show P * 4 + j < mem.length by omega)]

set_option maxRecDepth 100000 in
set_option maxHeartbeats 4000000 in
theorem fnreg_8 {u2 u3 u4 u5 u6 u7 u8 u9 u12 u13 u14 u15 u16 u17 u18 u19 u20 u21 u22 u23 u24 u25 u26 u27 u28 u29 u30 u31 u32 u33 u34 u35 u36 u37 u38 u39 u40 u41 u42 u43 u44 u45 u46 u47 u48 u49 u50 u51 u52 u53 u54 u55 u56 u57 u58 u59 u60 u61 u62 u63 u64 u65 u66 u67 u68 u69 u70 u71 u72 u73 u74 u75 : Value} {n i P B G c g c1 cm mb mo : Nat} {mem : List Int} {w : World} {Q0 : Exit → Act → World → Prop} (hpan : Hid (∀ (c : List PanicEntry) (a : Act) (d : Option Tmp) (v : Value) (w : World), Q0 (.panic c) (a.put d v) w → Q0 (.panic c) a w)) (hn : n ≤ 4) (hi : i < n) (hP : P < 6) (h24 : mem.length = 24) (hcm : 24 ≤ cm) (hcx : cm ≤ maxLen) (hrem : (P : Int).tmod (n : Int) = (i : Int)) (hM : Row .i64 w (some ⟨mb, mo, none⟩) mem)
    (x1 : w.cell? ⟨B, 1, none⟩ = some (.slice (some ⟨G, 0, none⟩) n c)) (y2 : w.cell? ⟨G, i * 5 + 2, none⟩ = some (.slice (some ⟨g, 0, none⟩) 6 c1)) (hB : B ≠ g) (hG : G ≠ g) (hg : g < w.heap.size) (fg : w.frozen? ⟨g, P * 8, none⟩ = false) (vg : Value) (cg : w.cell? ⟨g, P * 8, none⟩ = some vg)
    (hK : Hid (∀ (v33 v34 v35 v36 v37 v38 v39 v40 v41 v42 v43 v44 v45 v46 v47 v48 v49 v50 v51 v52 v53 : Value) (a2 : Option Addr) (c2 : Nat) (w5 : World), Below w.heap.size w w5 → w5.ownsRow w.heap.size 3 1 (.slice a2 4 c2) 4 ((pgW mem P).map (Value.int .i64)) → Q0 .normal ⟨(.int .i64 (n : Int) :: .slice (some ⟨mb, mo, none⟩) 24 cm :: u2 :: u3 :: u4 :: u5 :: u6 :: u7 :: u8 :: u9 :: .pointer (some ⟨B, 0, none⟩) :: .int .i64 (P : Int) :: u12 :: u13 :: u14 :: u15 :: u16 :: u17 :: u18 :: u19 :: u20 :: u21 :: u22 :: u23 :: u24 :: u25 :: u26 :: u27 :: u28 :: u29 :: u30 :: u31 :: u32 :: v33 :: v34 :: v35 :: v36 :: v37 :: v38 :: v39 :: v40 :: v41 :: v42 :: v43 :: v44 :: v45 :: v46 :: v47 :: v48 :: v49 :: v50 :: v51 :: v52 :: v53 :: u54 :: u55 :: u56 :: u57 :: u58 :: u59 :: u60 :: u61 :: u62 :: u63 :: u64 :: u65 :: u66 :: u67 :: u68 :: u69 :: u70 :: u71 :: u72 :: u73 :: u74 :: u75 :: []).toArray, []⟩ (w5.setCell ⟨g, P * 8, none⟩ (.slice a2 4 c2)))) :
    Code.wp Try.prog ((Try.f4.body.bind (findReg 8)).getD .skip) Q0 ⟨(.int .i64 (n : Int) :: .slice (some ⟨mb, mo, none⟩) 24 cm :: u2 :: u3 :: u4 :: u5 :: u6 :: u7 :: u8 :: u9 :: .pointer (some ⟨B, 0, none⟩) :: .int .i64 (P : Int) :: u12 :: u13 :: u14 :: u15 :: u16 :: u17 :: u18 :: u19 :: u20 :: u21 :: u22 :: u23 :: u24 :: u25 :: u26 :: u27 :: u28 :: u29 :: u30 :: u31 :: u32 :: u33 :: u34 :: u35 :: u36 :: u37 :: u38 :: u39 :: u40 :: u41 :: u42 :: u43 :: u44 :: u45 :: u46 :: u47 :: u48 :: u49 :: u50 :: u51 :: u52 :: u53 :: u54 :: u55 :: u56 :: u57 :: u58 :: u59 :: u60 :: u61 :: u62 :: u63 :: u64 :: u65 :: u66 :: u67 :: u68 :: u69 :: u70 :: u71 :: u72 :: u73 :: u74 :: u75 :: []).toArray, []⟩ w := by
  obtain ⟨j1, hj1, hjz0, hjz1, hjz2⟩ := info_parts info_i64
  unfold maxLen at hcx
  have hi2 : (i : Int) < (n : Int) := by omega
  have hn0 : ¬ (n = 0) := by omega
  have e4 : IntKind.i64.wrap ((P : Int) * 4) = (P : Int) * 4 := by rw [IntKind.wrap_i64]; omega
  have e5 : IntKind.i64.wrap ((P : Int) * 4 + 4) = (P : Int) * 4 + 4 := by rw [IntKind.wrap_i64]; omega
  have e6 : 0 ≤ (P : Int) * 4 + 4 := by omega
  have e7 : (P : Int) * 4 + 4 ≤ (cm : Int) := by omega
  have e8 : 0 ≤ (P : Int) * 4 := by omega
  have e9 : (P : Int) * 4 ≤ (P : Int) * 4 + 4 := by omega
  have eA : ((P : Int) * 4).toNat = P * 4 := by omega
  have eB : ((P : Int) * 4 + 4).toNat = P * 4 + 4 := by omega
  have eC : ¬ (cm = P * 4) := by omega
  have eD : (P : Int) < 6 := by omega
  conv => arg 2; whnf
  refine wp_region_held_drew (S := fun W => Only w W (fun b => b = g)) (by kernel_rfl) ?_ (fun hHeld => ?_)
  · exact (Only.refl w _).below (below_drewN (Below.refl _ _) 1)
  obtain ⟨V0, hV0⟩ : ∃ V, w.drew = V := ⟨_, rfl⟩
  rw [hV0] at hHeld ⊢
  have OV : Below w.heap.size w V0 := by rw [← hV0]; exact below_drewN (Below.refl _ _) 1
  clear hV0
  refine wpAnyH_take (i := 0) (oi := { dst := some 33, op := Op.fieldAddr 29 (Operand.tmp 10) 0, type := 0, pos := "l13_flock.go:24", after := #[], guard := none }) (v := ?vv1) rfl (by kernel_rfl) (by kernel_rfl) (by kernel_rfl) (fun c a w h => hpan.out c a _ _ w h) (Or.inl ⟨by rfl, ?hy1⟩) (by assumption) ?rest1
  case hy1 => intro W hS; go_simp; try (with_reducible rfl)
  try simp only [Act.put, List.setIfInBounds_toArray, List.set_cons_zero, List.set_cons_succ]
  refine wpAnyH_take (i := 1) (oi := { dst := some 34, op := Op.fieldAddr 26 (Operand.tmp 33) 1, type := 0, pos := "l13_flock.go:24", after := #[{ on := 0, ground := Ground.data }], guard := none }) (v := ?vv2) rfl (by kernel_rfl) (by kernel_rfl) (by kernel_rfl) (fun c a w h => hpan.out c a _ _ w h) (Or.inl ⟨by rfl, ?hy2⟩) (by assumption) ?rest2
  case hy2 => intro W hS; go_simp; try (with_reducible rfl)
  try simp only [Act.put, List.setIfInBounds_toArray, List.set_cons_zero, List.set_cons_succ]
  refine wpAnyH_take (i := 2) (oi := { dst := some 35, op := Op.load 23 (Operand.tmp 34), type := 23, pos := "l13_flock.go:24", after := #[{ on := 1, ground := Ground.data }], guard := none }) (v := ?vv3) rfl (by kernel_rfl) (by kernel_rfl) (by kernel_rfl) (fun c a w h => hpan.out c a _ _ w h) (Or.inl ⟨by rfl, ?hy3⟩) (by assumption) ?rest3
  case hy3 => intro W hS; have c0 := only_later hS x1 hB; go_simp; try (with_reducible rfl)
  try simp only [Act.put, List.setIfInBounds_toArray, List.set_cons_zero, List.set_cons_succ]
  refine wpAnyH_take (i := 3) (oi := { dst := some 36, op := Op.move (Operand.tmp 11), type := 3, pos := "l13_flock.go:24", after := #[], guard := none }) (v := ?vv4) rfl (by kernel_rfl) (by kernel_rfl) (by kernel_rfl) (fun c a w h => hpan.out c a _ _ w h) (Or.inl ⟨by rfl, ?hy4⟩) (by assumption) ?rest4
  case hy4 => intro W hS; go_simp; try (with_reducible rfl)
  try simp only [Act.put, List.setIfInBounds_toArray, List.set_cons_zero, List.set_cons_succ]
  refine wpAnyH_take (i := 4) (oi := { dst := some 37, op := Op.move (Operand.tmp 0), type := 3, pos := "l13_flock.go:24", after := #[], guard := none }) (v := ?vv5) rfl (by kernel_rfl) (by kernel_rfl) (by kernel_rfl) (fun c a w h => hpan.out c a _ _ w h) (Or.inl ⟨by rfl, ?hy5⟩) (by assumption) ?rest5
  case hy5 => intro W hS; go_simp; try (with_reducible rfl)
  try simp only [Act.put, List.setIfInBounds_toArray, List.set_cons_zero, List.set_cons_succ]
  refine wpAnyH_take (i := 5) (oi := { dst := some 38, op := Op.binOp BinOp.rem 3 (Operand.tmp 36) (Operand.tmp 37) 3, type := 3, pos := "l13_flock.go:24", after := #[{ on := 3, ground := Ground.data }, { on := 4, ground := Ground.data }], guard := none }) (v := .int .i64 (i : Int)) rfl (by kernel_rfl) (by kernel_rfl) (by kernel_rfl) (fun c a w h => hpan.out c a _ _ w h) (Or.inl ⟨by rfl, ?hy6⟩) (by assumption) ?rest6
  case hy6 => intro W hS; go_simp; try (with_reducible rfl)
  try simp only [Act.put, List.setIfInBounds_toArray, List.set_cons_zero, List.set_cons_succ]
  refine wpAnyH_take (i := 6) (oi := { dst := some 39, op := Op.indexAddr 23 (Operand.tmp 35) (Operand.tmp 38), type := 0, pos := "l13_flock.go:24", after := #[{ on := 2, ground := Ground.data }, { on := 5, ground := Ground.data }], guard := none }) (v := ?vv7) rfl (by kernel_rfl) (by kernel_rfl) (by kernel_rfl) (fun c a w h => hpan.out c a _ _ w h) (Or.inl ⟨by rfl, ?hy7⟩) (by assumption) ?rest7
  case hy7 => intro W hS; go_simp; try (with_reducible rfl)
  try simp only [Act.put, List.setIfInBounds_toArray, List.set_cons_zero, List.set_cons_succ]
  refine wpAnyH_take (i := 7) (oi := { dst := some 40, op := Op.fieldAddr 52 (Operand.tmp 39) 2, type := 0, pos := "l13_flock.go:24", after := #[{ on := 6, ground := Ground.data }], guard := none }) (v := ?vv8) rfl (by kernel_rfl) (by kernel_rfl) (by kernel_rfl) (fun c a w h => hpan.out c a _ _ w h) (Or.inl ⟨by rfl, ?hy8⟩) (by assumption) ?rest8
  case hy8 => intro W hS; go_simp; try (with_reducible rfl)
  try simp only [Act.put, List.setIfInBounds_toArray, List.set_cons_zero, List.set_cons_succ]
  refine wpAnyH_take (i := 8) (oi := { dst := some 41, op := Op.load 48 (Operand.tmp 40), type := 48, pos := "l13_flock.go:24", after := #[{ on := 7, ground := Ground.data }], guard := none }) (v := ?vv9) rfl (by kernel_rfl) (by kernel_rfl) (by kernel_rfl) (fun c a w h => hpan.out c a _ _ w h) (Or.inl ⟨by rfl, ?hy9⟩) (by assumption) ?rest9
  case hy9 => intro W hS; have c0 := only_later hS y2 hG; go_simp; try (with_reducible rfl)
  try simp only [Act.put, List.setIfInBounds_toArray, List.set_cons_zero, List.set_cons_succ]
  refine wpAnyH_take (i := 9) (oi := { dst := some 42, op := Op.move (Operand.tmp 11), type := 3, pos := "l13_flock.go:24", after := #[], guard := none }) (v := ?vv10) rfl (by kernel_rfl) (by kernel_rfl) (by kernel_rfl) (fun c a w h => hpan.out c a _ _ w h) (Or.inl ⟨by rfl, ?hy10⟩) (by assumption) ?rest10
  case hy10 => intro W hS; go_simp; try (with_reducible rfl)
  try simp only [Act.put, List.setIfInBounds_toArray, List.set_cons_zero, List.set_cons_succ]
  refine wpAnyH_take (i := 11) (oi := { dst := some 44, op := Op.move (Operand.tmp 1), type := 22, pos := "l13_flock.go:24", after := #[], guard := none }) (v := ?vv11) rfl (by kernel_rfl) (by kernel_rfl) (by kernel_rfl) (fun c a w h => hpan.out c a _ _ w h) (Or.inl ⟨by rfl, ?hy11⟩) (by assumption) ?rest11
  case hy11 => intro W hS; go_simp; try (with_reducible rfl)
  try simp only [Act.put, List.setIfInBounds_toArray, List.set_cons_zero, List.set_cons_succ]
  refine wpAnyH_take (i := 12) (oi := { dst := some 45, op := Op.move (Operand.tmp 11), type := 3, pos := "l13_flock.go:24", after := #[], guard := none }) (v := ?vv12) rfl (by kernel_rfl) (by kernel_rfl) (by kernel_rfl) (fun c a w h => hpan.out c a _ _ w h) (Or.inl ⟨by rfl, ?hy12⟩) (by assumption) ?rest12
  case hy12 => intro W hS; go_simp; try (with_reducible rfl)
  try simp only [Act.put, List.setIfInBounds_toArray, List.set_cons_zero, List.set_cons_succ]
  refine wpAnyH_take (i := 13) (oi := { dst := some 46, op := Op.binOp BinOp.mul 3 (Operand.tmp 45) (Operand.const (Value.int IntKind.i64 4)) 3, type := 3, pos := "l13_flock.go:24", after := #[{ on := 12, ground := Ground.data }], guard := none }) (v := ?vv13) rfl (by kernel_rfl) (by kernel_rfl) (by kernel_rfl) (fun c a w h => hpan.out c a _ _ w h) (Or.inl ⟨by rfl, ?hy13⟩) (by assumption) ?rest13
  case hy13 => intro W hS; go_simp; try (with_reducible rfl)
  try simp only [Act.put, List.setIfInBounds_toArray, List.set_cons_zero, List.set_cons_succ]
  refine wpAnyH_take (i := 14) (oi := { dst := some 47, op := Op.move (Operand.tmp 11), type := 3, pos := "l13_flock.go:24", after := #[], guard := none }) (v := ?vv14) rfl (by kernel_rfl) (by kernel_rfl) (by kernel_rfl) (fun c a w h => hpan.out c a _ _ w h) (Or.inl ⟨by rfl, ?hy14⟩) (by assumption) ?rest14
  case hy14 => intro W hS; go_simp; try (with_reducible rfl)
  try simp only [Act.put, List.setIfInBounds_toArray, List.set_cons_zero, List.set_cons_succ]
  refine wpAnyH_take (i := 15) (oi := { dst := some 48, op := Op.binOp BinOp.mul 3 (Operand.tmp 47) (Operand.const (Value.int IntKind.i64 4)) 3, type := 3, pos := "l13_flock.go:24", after := #[{ on := 14, ground := Ground.data }], guard := none }) (v := ?vv15) rfl (by kernel_rfl) (by kernel_rfl) (by kernel_rfl) (fun c a w h => hpan.out c a _ _ w h) (Or.inl ⟨by rfl, ?hy15⟩) (by assumption) ?rest15
  case hy15 => intro W hS; go_simp; try (with_reducible rfl)
  try simp only [Act.put, List.setIfInBounds_toArray, List.set_cons_zero, List.set_cons_succ]
  refine wpAnyH_take (i := 16) (oi := { dst := some 49, op := Op.binOp BinOp.add 3 (Operand.tmp 48) (Operand.const (Value.int IntKind.i64 4)) 3, type := 3, pos := "l13_flock.go:24", after := #[{ on := 15, ground := Ground.data }], guard := none }) (v := ?vv16) rfl (by kernel_rfl) (by kernel_rfl) (by kernel_rfl) (fun c a w h => hpan.out c a _ _ w h) (Or.inl ⟨by rfl, ?hy16⟩) (by assumption) ?rest16
  case hy16 => intro W hS; go_simp; try (with_reducible rfl)
  try simp only [Act.put, List.setIfInBounds_toArray, List.set_cons_zero, List.set_cons_succ]
  refine wpAnyH_take (i := 17) (oi := { dst := some 50, op := Op.slice 22 (Operand.tmp 44) (some (Operand.tmp 46)) (some (Operand.tmp 49)) none, type := 22, pos := "l13_flock.go:24", after := #[{ on := 11, ground := Ground.data }, { on := 13, ground := Ground.data }, { on := 16, ground := Ground.data }], guard := none }) (v := .slice (some ⟨mb, mo + P * 4, none⟩) 4 (cm - P * 4)) rfl (by kernel_rfl) (by kernel_rfl) (by kernel_rfl) (fun c a w h => hpan.out c a _ _ w h) (Or.inl ⟨by rfl, ?hy17⟩) (by assumption) ?rest17
  case hy17 => intro W hS; go_simp; try (with_reducible rfl)
  try simp only [Act.put, List.setIfInBounds_toArray, List.set_cons_zero, List.set_cons_succ]
  refine wpAnyH_ready (rs := [10]) (by kernel_rfl) (by simp) ?_
  refine AllReadyH.cons (o := { dst := some 43, op := Op.buildSlice 22 0 #[], type := 22, pos := "l13_flock.go:24", after := #[], guard := none }) rfl (fun K2 hK2 => ?_) AllReadyH.nil
  go_simp
  refine hK2.out _ _ ?_ (fun hHeld2 => ?_)
  · exact hHeld.below (bel_alloc (Below.refl _ _) _)
  clear hK2 K2 hHeld
  have hHeld := hHeld2
  clear hHeld2
  try simp only [Act.put, List.setIfInBounds_toArray, List.set_cons_zero, List.set_cons_succ]
  have OA := bel_alloc OV (.cells #[] 3)
  have oE := own_litE V0 3 1 w.heap.size OV.size
  have hrow := hM.below OA
  obtain ⟨V1, hV1⟩ : ∃ V, V0.alloc (.cells #[] 3) = V := ⟨_, rfl⟩
  rw [hV1] at hHeld OA oE hrow ⊢
  have OV0 : w.heap.size ≤ V0.heap.size := OV.size
  clear hV1 OV
  have hz1 : w.heap.size ≤ V1.heap.size := OA.size
  refine wpAnyH_ready (rs := [18]) (by kernel_rfl) (by simp) ?_
  refine AllReadyH.cons (o := { dst := some 51, op := Op.call { callee := Callee.builtin Builtin.append, args := #[Operand.tmp 43, Operand.tmp 50], argTypes := #[22, 22] }, type := 22, pos := "l13_flock.go:24", after := #[{ on := 10, ground := Ground.data }, { on := 17, ground := Ground.data }], guard := none }) rfl (fun K2 hK2 => ?_) AllReadyH.nil
  refine step_append_rowYtfeabhknkoifeaa (by rfl) (.tmp 43) (.tmp 50) 22 (by rfl) w.heap.size 3 j1 (.int .i64 0) 1 8 Try.underlying22 hj1 hjz0 hjz1 hjz2 rfl (by decide) _ 0 [] (by rfl) oE _ _ _ ((pgW mem P).map (Value.int .i64)) (by rfl) ?hlen (pg_news hrow (by rw [h24]; omega)) (fun u hu => by obtain ⟨z, _, rfl⟩ := List.mem_map.1 hu; rfl) ?hmx ?hby hz1 ?hgo
  case hlen => rw [List.length_map, pgW_len h24 hP]
  case hmx => unfold maxLen; omega
  case hby => omega
  case hgo =>
    intro v5 w5 o5 g5
    have O5 : w5.ownsRow w.heap.size 3 1 v5 4 ((pgW mem P).map (Value.int .i64)) := by simpa using o5
    obtain ⟨a5, c5, rfl⟩ := owns_slice O5
    have B5 : Below w.heap.size w w5 := OA.grown g5 hz1 (fun j hj => by simp [Value.ownBlock] at hj; have := OV0; omega)
    refine hK2.out _ _ ?_ (fun hHeld2 => ?_)
    · exact (Only.refl w _).below B5
    clear hK2 K2 hHeld
    have hHeld := hHeld2
    clear hHeld2
    try simp only [Act.put, List.setIfInBounds_toArray, List.set_cons_zero, List.set_cons_succ]
    have c5g := cell_later B5 cg
    have f5g : w5.frozen? ⟨g, P * 8, none⟩ = false := (World.frozen?_of_block (B5.block g hg)).trans fg
    refine wpAnyH_take (i := 19) (oi := { dst := some 52, op := Op.indexAddr 48 (Operand.tmp 41) (Operand.tmp 42), type := 0, pos := "l13_flock.go:24", after := #[{ on := 8, ground := Ground.data }, { on := 9, ground := Ground.data }, { on := 0, ground := Ground.phase }, { on := 1, ground := Ground.phase }, { on := 2, ground := Ground.phase }, { on := 3, ground := Ground.phase }, { on := 4, ground := Ground.phase }, { on := 5, ground := Ground.phase }, { on := 6, ground := Ground.phase }, { on := 7, ground := Ground.phase }, { on := 8, ground := Ground.phase }, { on := 9, ground := Ground.phase }, { on := 10, ground := Ground.phase }, { on := 11, ground := Ground.phase }, { on := 12, ground := Ground.phase }, { on := 13, ground := Ground.phase }, { on := 14, ground := Ground.phase }, { on := 15, ground := Ground.phase }, { on := 16, ground := Ground.phase }, { on := 17, ground := Ground.phase }, { on := 18, ground := Ground.phase }], guard := none }) (v := ?vv18) rfl (by kernel_rfl) (by kernel_rfl) (by kernel_rfl) (fun c a w h => hpan.out c a _ _ w h) (Or.inl ⟨by rfl, ?hy18⟩) (by assumption) ?rest18
    case hy18 => intro W hS; go_simp; try (with_reducible rfl)
    try simp only [Act.put, List.setIfInBounds_toArray, List.set_cons_zero, List.set_cons_succ]
    refine wpAnyH_take (i := 20) (oi := { dst := some 53, op := Op.fieldAddr 46 (Operand.tmp 52) 0, type := 0, pos := "l13_flock.go:24", after := #[{ on := 19, ground := Ground.data }, { on := 0, ground := Ground.phase }, { on := 1, ground := Ground.phase }, { on := 2, ground := Ground.phase }, { on := 3, ground := Ground.phase }, { on := 4, ground := Ground.phase }, { on := 5, ground := Ground.phase }, { on := 6, ground := Ground.phase }, { on := 7, ground := Ground.phase }, { on := 8, ground := Ground.phase }, { on := 9, ground := Ground.phase }, { on := 10, ground := Ground.phase }, { on := 11, ground := Ground.phase }, { on := 12, ground := Ground.phase }, { on := 13, ground := Ground.phase }, { on := 14, ground := Ground.phase }, { on := 15, ground := Ground.phase }, { on := 16, ground := Ground.phase }, { on := 17, ground := Ground.phase }, { on := 18, ground := Ground.phase }], guard := none }) (v := ?vv19) rfl (by kernel_rfl) (by kernel_rfl) (by kernel_rfl) (fun c a w h => hpan.out c a _ _ w h) (Or.inl ⟨by rfl, ?hy19⟩) (by assumption) ?rest19
    case hy19 => intro W hS; go_simp; try (with_reducible rfl)
    try simp only [Act.put, List.setIfInBounds_toArray, List.set_cons_zero, List.set_cons_succ]
    refine wpAnyH_ready (rs := [21]) (by kernel_rfl) (by simp) ?_
    refine AllReadyH.cons (o := { dst := none, op := Op.store 22 (Operand.tmp 53) (Operand.tmp 51), type := 0, pos := "l13_flock.go:24", after := #[{ on := 20, ground := Ground.data }, { on := 18, ground := Ground.data }, { on := 18, ground := Ground.chain }, { on := 0, ground := Ground.phase }, { on := 1, ground := Ground.phase }, { on := 2, ground := Ground.phase }, { on := 3, ground := Ground.phase }, { on := 4, ground := Ground.phase }, { on := 5, ground := Ground.phase }, { on := 6, ground := Ground.phase }, { on := 7, ground := Ground.phase }, { on := 8, ground := Ground.phase }, { on := 9, ground := Ground.phase }, { on := 10, ground := Ground.phase }, { on := 11, ground := Ground.phase }, { on := 12, ground := Ground.phase }, { on := 13, ground := Ground.phase }, { on := 14, ground := Ground.phase }, { on := 15, ground := Ground.phase }, { on := 16, ground := Ground.phase }, { on := 17, ground := Ground.phase }, { on := 18, ground := Ground.phase }], guard := none }) rfl (fun K2 hK2 => ?_) AllReadyH.nil
    go_simp
    refine hK2.out _ _ ?_ (fun hHeld2 => ?_)
    · exact ((Only.refl w _).below B5).setCell _ _ rfl
    clear hK2 K2 hHeld
    have hHeld := hHeld2
    clear hHeld2
    try simp only [Act.put, List.setIfInBounds_toArray, List.set_cons_zero, List.set_cons_succ]
    refine wpAnyH_done (by kernel_rfl) ?_ _
    exact hK.out _ _ _ _ _ _ _ _ _ _ _ _ _ _ _ _ _ _ _ _ _ _ _ _ B5 O5

set_option maxRecDepth 100000 in
set_option maxHeartbeats 4000000 in
theorem fnreg_15 {u0 u1 u2 u3 u4 u5 u6 u7 u8 u9 u11 u12 u14 u15 u16 u17 u18 u19 u20 u21 u22 u23 u24 u25 u26 u27 u28 u29 u30 u31 u32 u33 u34 u35 u36 u37 u38 u39 u40 u41 u42 u43 u44 u45 u46 u47 u48 u49 u50 u51 u52 u53 u54 u55 u56 u57 u58 u59 u60 u61 u62 u63 u64 u65 u66 u67 u68 u69 u70 u71 u72 u73 u74 u75 : Value} {B j c2 : Nat} {s : Int} {a2 : Option Addr} {d0 d1 d2 : Value} {f : Nat → List Value} {w : World} {Q0 : Exit → Act → World → Prop} (hpan : Hid (∀ (c : List PanicEntry) (a : Act) (d : Option Tmp) (v : Value) (w : World), Q0 (.panic c) (a.put d v) w → Q0 (.panic c) a w)) (hj : j < 4) (X : Box w B #[d0, d1, d2, .slice a2 j c2] 29) (hr : w.ownsRow 0 58 4 (.slice a2 j c2) j (chunks j f)) (nB : ¬ (Value.slice a2 j c2).ownBlock = some B)
    (hK : Hid (∀ (v67 v68 v69 v70 v71 v72 v73 v74 : Value) (ah : Option Addr) (ch g cap : Nat) (w1 V w5 : World), w1.ownsRow w.heap.size 3 1 (.slice ah 4 ch) 4 ([0, 0, 0, 0].map (Value.int .i64)) → Below w.heap.size w w1 → Below w1.heap.size w1 V → w5.ownsRow 0 58 4 (.slice (some ⟨g, 0, none⟩) (j + 1) cap) (j + 1) (chunks j f ++ [.slice ah 4 ch, .int .i64 (s % 24), .int .i64 0, .slice none 0 0]) → V.grownBy w5 (Value.slice a2 j c2).ownBlock → ((Value.slice a2 j c2).ownBlock = some g ∨ g = V.heap.size) → Q0 .normal ⟨(u0 :: u1 :: u2 :: u3 :: u4 :: u5 :: u6 :: u7 :: u8 :: u9 :: .pointer (some ⟨B, 0, none⟩) :: u11 :: u12 :: .int .i64 s :: u14 :: u15 :: u16 :: u17 :: u18 :: u19 :: u20 :: u21 :: u22 :: u23 :: u24 :: u25 :: u26 :: u27 :: u28 :: u29 :: u30 :: u31 :: u32 :: u33 :: u34 :: u35 :: u36 :: u37 :: u38 :: u39 :: u40 :: u41 :: u42 :: u43 :: u44 :: u45 :: u46 :: u47 :: u48 :: u49 :: u50 :: u51 :: u52 :: u53 :: u54 :: u55 :: u56 :: u57 :: u58 :: u59 :: u60 :: u61 :: u62 :: u63 :: u64 :: u65 :: u66 :: v67 :: v68 :: v69 :: v70 :: v71 :: v72 :: v73 :: v74 :: u75 :: []).toArray, []⟩ (w5.setCell ⟨B, 3, none⟩ (.slice (some ⟨g, 0, none⟩) (j + 1) cap)))) :
    Code.wp Try.prog ((Try.f4.body.bind (findReg 15)).getD .skip) Q0 ⟨(u0 :: u1 :: u2 :: u3 :: u4 :: u5 :: u6 :: u7 :: u8 :: u9 :: .pointer (some ⟨B, 0, none⟩) :: u11 :: u12 :: .int .i64 s :: u14 :: u15 :: u16 :: u17 :: u18 :: u19 :: u20 :: u21 :: u22 :: u23 :: u24 :: u25 :: u26 :: u27 :: u28 :: u29 :: u30 :: u31 :: u32 :: u33 :: u34 :: u35 :: u36 :: u37 :: u38 :: u39 :: u40 :: u41 :: u42 :: u43 :: u44 :: u45 :: u46 :: u47 :: u48 :: u49 :: u50 :: u51 :: u52 :: u53 :: u54 :: u55 :: u56 :: u57 :: u58 :: u59 :: u60 :: u61 :: u62 :: u63 :: u64 :: u65 :: u66 :: u67 :: u68 :: u69 :: u70 :: u71 :: u72 :: u73 :: u74 :: u75 :: []).toArray, []⟩ w := by
  obtain ⟨i0, hi, hz0, hz1, hz2⟩ := info_parts info_core
  obtain ⟨x0, x1, x2, x3, xz⟩ := X.at4
  conv => arg 2; whnf
  refine wp_region_held_drew (S := fun W => True) (by kernel_rfl) trivial (fun hHeld => ?_)
  have bD : Below w.heap.size w w.drew := below_drewN (Below.refl _ _) 1
  obtain ⟨V0, hV0⟩ : ∃ V, w.drew = V := ⟨_, rfl⟩
  rw [hV0] at bD ⊢
  clear hV0
  refine wpAnyH_take (i := 0) (oi := { dst := some 67, op := Op.fieldAddr 29 (Operand.tmp 10) 1, type := 0, pos := "l13_flock.go:31", after := #[], guard := none }) (v := ?vv20) rfl (by kernel_rfl) (by kernel_rfl) (by kernel_rfl) (fun c a w h => hpan.out c a _ _ w h) (Or.inl ⟨by rfl, ?hy20⟩) (by assumption) ?rest20
  case hy20 => intro W hS; go_simp; try (with_reducible rfl)
  try simp only [Act.put, List.setIfInBounds_toArray, List.set_cons_zero, List.set_cons_succ]
  refine wpAnyH_take (i := 2) (oi := { dst := some 69, op := Op.move (Operand.tmp 13), type := 3, pos := "l13_flock.go:31", after := #[], guard := none }) (v := ?vv21) rfl (by kernel_rfl) (by kernel_rfl) (by kernel_rfl) (fun c a w h => hpan.out c a _ _ w h) (Or.inl ⟨by rfl, ?hy21⟩) (by assumption) ?rest21
  case hy21 => intro W hS; go_simp; try (with_reducible rfl)
  try simp only [Act.put, List.setIfInBounds_toArray, List.set_cons_zero, List.set_cons_succ]
  refine wpAnyH_ready (rs := [1, 3]) (by kernel_rfl) (by simp) ?_
  refine AllReadyH.cons (o := { dst := some 68, op := Op.load 27 (Operand.tmp 67), type := 27, pos := "l13_flock.go:31", after := #[{ on := 0, ground := Ground.data }], guard := none }) rfl (fun K2 hK2 => ?_) (AllReadyH.cons (o := { dst := some 70, op := Op.call { callee := Callee.value (Operand.func 14), args := #[Operand.tmp 69], argTypes := #[3] }, type := 54, pos := "l13_flock.go:31", after := #[{ on := 2, ground := Ground.data }], guard := none }) rfl (fun K2 hK2 => ?_) AllReadyH.nil)
  · obtain ⟨z0, z1, z2, z3, zz⟩ := (X.below bD).at4
    go_simp
    refine hK2.out _ _ trivial (fun hHeld2 => ?_)
    clear hK2 K2 hHeld
    have hHeld := hHeld2
    clear hHeld2
    try simp only [Act.put, List.setIfInBounds_toArray, List.set_cons_zero, List.set_cons_succ]
    clear z0 z1 z2 z3 zz
    refine wpAnyH_ready (rs := [3]) (by kernel_rfl) (by simp) ?_
    refine AllReadyH.cons (o := { dst := some 70, op := Op.call { callee := Callee.value (Operand.func 14), args := #[Operand.tmp 69], argTypes := #[3] }, type := 54, pos := "l13_flock.go:31", after := #[{ on := 2, ground := Ground.data }], guard := none }) rfl (fun K2 hK2 => ?_) AllReadyH.nil
    go_simp
    refine (specHartNew_any s _).mono ?_
    rintro e w1 ⟨ah, ch, rfl, o1, b1⟩
    simp only [List.length_cons, List.length_nil, Nat.zero_add, Nat.reduceAdd] at o1 ⊢
    have o1 : w1.ownsRow w.heap.size 3 1 (.slice ah 4 ch) 4 ([0, 0, 0, 0].map (Value.int .i64)) := owns_base o1 (bD).size
    have b1 := bel_trans bD b1
    go_wp2_with fail
    refine hK2.out _ _ trivial (fun hHeld2 => ?_)
    clear hK2 K2 hHeld
    have hHeld := hHeld2
    clear hHeld2
    try simp only [Act.put, List.setIfInBounds_toArray, List.set_cons_zero, List.set_cons_succ]
    refine wpAnyH_take (i := 4) (oi := { dst := some 71, op := Op.build 58 #[(0, Operand.tmp 70)], type := 58, pos := "l13_flock.go:31", after := #[{ on := 3, ground := Ground.data }], guard := none }) (v := ?vv22) rfl (by kernel_rfl) (by kernel_rfl) (by kernel_rfl) (fun c a w h => hpan.out c a _ _ w h) (Or.inl ⟨by rfl, ?hy22⟩) (by assumption) ?rest22
    case hy22 => intro W hS; go_simp; try (with_reducible rfl)
    try simp only [Act.put, List.setIfInBounds_toArray, List.set_cons_zero, List.set_cons_succ]
    refine wpAnyH_ready (rs := [5]) (by kernel_rfl) (by simp) ?_
    refine AllReadyH.cons (o := { dst := some 72, op := Op.buildSlice 27 1 #[(0, Operand.tmp 71)], type := 27, pos := "l13_flock.go:31", after := #[{ on := 4, ground := Ground.data }], guard := none }) rfl (fun K2 hK2 => ?_) AllReadyH.nil
    go_simp
    refine hK2.out _ _ trivial (fun hHeld2 => ?_)
    clear hK2 K2 hHeld
    have hHeld := hHeld2
    clear hHeld2
    try simp only [Act.put, List.setIfInBounds_toArray, List.set_cons_zero, List.set_cons_succ]
    have b2 := bel_alloc (Below.refl w1.heap.size w1) (.cells #[.slice ah 4 ch, .int .i64 (s % 24), .int .i64 0, .slice none 0 0] 58)
    have XE := Box.new w1 #[.slice ah 4 ch, .int .i64 (s % 24), .int .i64 0, .slice none 0 0] 58
    refine wpAnyH_ready (rs := [6]) (by kernel_rfl) (by simp) ?_
    refine AllReadyH.cons (o := { dst := some 73, op := Op.call { callee := Callee.builtin Builtin.append, args := #[Operand.tmp 68, Operand.tmp 72], argTypes := #[27, 27] }, type := 27, pos := "l13_flock.go:31", after := #[{ on := 1, ground := Ground.data }, { on := 5, ground := Ground.data }, { on := 3, ground := Ground.chain }], guard := none }) rfl (fun K2 hK2 => ?_) AllReadyH.nil
    refine step_append_lies _ (by rfl) (.tmp 68) (.tmp 72) 27 (by rfl) 0 58 i0 (.agg #[.slice none 0 0, .int .i64 0, .int .i64 0, .slice none 0 0]) 4 64 Try.underlying27 hi hz0 hz1 hz2 rfl (by decide) (.slice a2 j c2) j (chunks j f) (by rfl) (owns_below hr (bel_trans b1 b2)) ⟨w1.heap.size, 0, none⟩ 1 1 [.slice ah 4 ch, .int .i64 (s % 24), .int .i64 0, .slice none 0 0] (by rfl) (by rfl) (World.news_of_block XE) (fun u hu => by simp at hu; rcases hu with rfl | rfl | rfl | rfl <;> rfl) (by decide) (by unfold maxLen; omega) (by omega) (Nat.zero_le _) _ rfl ?_
    intro g cap w5 o5 g5 at5 lt5
    refine hK2.out _ _ trivial (fun hHeld2 => ?_)
    clear hK2 K2 hHeld
    have hHeld := hHeld2
    clear hHeld2
    try simp only [Act.put, List.setIfInBounds_toArray, List.set_cons_zero, List.set_cons_succ]
    have X5 := (X.below (bel_trans b1 b2)).only ((Only.refl _ (fun x => (Value.slice a2 j c2).ownBlock = some x)).grown g5 (fun j hj => hj)) nB
    obtain ⟨q0, q1, q2, q3, qz⟩ := X5.at4
    have qf := X5.frozen 3
    refine wpAnyH_take (i := 7) (oi := { dst := some 74, op := Op.fieldAddr 29 (Operand.tmp 10) 1, type := 0, pos := "l13_flock.go:31", after := #[{ on := 0, ground := Ground.phase }, { on := 1, ground := Ground.phase }, { on := 2, ground := Ground.phase }, { on := 3, ground := Ground.phase }, { on := 4, ground := Ground.phase }, { on := 5, ground := Ground.phase }, { on := 6, ground := Ground.phase }], guard := none }) (v := ?vv23) rfl (by kernel_rfl) (by kernel_rfl) (by kernel_rfl) (fun c a w h => hpan.out c a _ _ w h) (Or.inl ⟨by rfl, ?hy23⟩) (by assumption) ?rest23
    case hy23 => intro W hS; go_simp; try (with_reducible rfl)
    try simp only [Act.put, List.setIfInBounds_toArray, List.set_cons_zero, List.set_cons_succ]
    refine wpAnyH_ready (rs := [8]) (by kernel_rfl) (by simp) ?_
    refine AllReadyH.cons (o := { dst := none, op := Op.store 27 (Operand.tmp 74) (Operand.tmp 73), type := 0, pos := "l13_flock.go:31", after := #[{ on := 7, ground := Ground.data }, { on := 6, ground := Ground.data }, { on := 6, ground := Ground.chain }, { on := 0, ground := Ground.phase }, { on := 1, ground := Ground.phase }, { on := 2, ground := Ground.phase }, { on := 3, ground := Ground.phase }, { on := 4, ground := Ground.phase }, { on := 5, ground := Ground.phase }, { on := 6, ground := Ground.phase }], guard := none }) rfl (fun K2 hK2 => ?_) AllReadyH.nil
    go_simp
    refine hK2.out _ _ trivial (fun hHeld2 => ?_)
    clear hK2 K2 hHeld
    have hHeld := hHeld2
    clear hHeld2
    try simp only [Act.put, List.setIfInBounds_toArray, List.set_cons_zero, List.set_cons_succ]
    refine wpAnyH_done (by kernel_rfl) ?_ _
    exact hK.out _ _ _ _ _ _ _ _ ah ch g cap w1 _ w5 o1 b1 b2 o5 g5 (by simpa using at5)
  · go_simp
    refine (specHartNew_any s _).mono ?_
    rintro e w1 ⟨ah, ch, rfl, o1, b1⟩
    simp only [List.length_cons, List.length_nil, Nat.zero_add, Nat.reduceAdd] at o1 ⊢
    have o1 : w1.ownsRow w.heap.size 3 1 (.slice ah 4 ch) 4 ([0, 0, 0, 0].map (Value.int .i64)) := owns_base o1 (bD).size
    have b1 := bel_trans bD b1
    go_wp2_with fail
    refine hK2.out _ _ trivial (fun hHeld2 => ?_)
    clear hK2 K2 hHeld
    have hHeld := hHeld2
    clear hHeld2
    try simp only [Act.put, List.setIfInBounds_toArray, List.set_cons_zero, List.set_cons_succ]
    refine wpAnyH_take (i := 4) (oi := { dst := some 71, op := Op.build 58 #[(0, Operand.tmp 70)], type := 58, pos := "l13_flock.go:31", after := #[{ on := 3, ground := Ground.data }], guard := none }) (v := ?vv24) rfl (by kernel_rfl) (by kernel_rfl) (by kernel_rfl) (fun c a w h => hpan.out c a _ _ w h) (Or.inl ⟨by rfl, ?hy24⟩) (by assumption) ?rest24
    case hy24 => intro W hS; go_simp; try (with_reducible rfl)
    try simp only [Act.put, List.setIfInBounds_toArray, List.set_cons_zero, List.set_cons_succ]
    refine wpAnyH_ready (rs := [1, 5]) (by kernel_rfl) (by simp) ?_
    refine AllReadyH.cons (o := { dst := some 68, op := Op.load 27 (Operand.tmp 67), type := 27, pos := "l13_flock.go:31", after := #[{ on := 0, ground := Ground.data }], guard := none }) rfl (fun K2 hK2 => ?_) (AllReadyH.cons (o := { dst := some 72, op := Op.buildSlice 27 1 #[(0, Operand.tmp 71)], type := 27, pos := "l13_flock.go:31", after := #[{ on := 4, ground := Ground.data }], guard := none }) rfl (fun K2 hK2 => ?_) AllReadyH.nil)
    · obtain ⟨z0, z1, z2, z3, zz⟩ := (X.below b1).at4
      go_simp
      refine hK2.out _ _ trivial (fun hHeld2 => ?_)
      clear hK2 K2 hHeld
      have hHeld := hHeld2
      clear hHeld2
      try simp only [Act.put, List.setIfInBounds_toArray, List.set_cons_zero, List.set_cons_succ]
      clear z0 z1 z2 z3 zz
      refine wpAnyH_ready (rs := [5]) (by kernel_rfl) (by simp) ?_
      refine AllReadyH.cons (o := { dst := some 72, op := Op.buildSlice 27 1 #[(0, Operand.tmp 71)], type := 27, pos := "l13_flock.go:31", after := #[{ on := 4, ground := Ground.data }], guard := none }) rfl (fun K2 hK2 => ?_) AllReadyH.nil
      go_simp
      refine hK2.out _ _ trivial (fun hHeld2 => ?_)
      clear hK2 K2 hHeld
      have hHeld := hHeld2
      clear hHeld2
      try simp only [Act.put, List.setIfInBounds_toArray, List.set_cons_zero, List.set_cons_succ]
      have b2 := bel_alloc (Below.refl w1.heap.size w1) (.cells #[.slice ah 4 ch, .int .i64 (s % 24), .int .i64 0, .slice none 0 0] 58)
      have XE := Box.new w1 #[.slice ah 4 ch, .int .i64 (s % 24), .int .i64 0, .slice none 0 0] 58
      refine wpAnyH_ready (rs := [6]) (by kernel_rfl) (by simp) ?_
      refine AllReadyH.cons (o := { dst := some 73, op := Op.call { callee := Callee.builtin Builtin.append, args := #[Operand.tmp 68, Operand.tmp 72], argTypes := #[27, 27] }, type := 27, pos := "l13_flock.go:31", after := #[{ on := 1, ground := Ground.data }, { on := 5, ground := Ground.data }, { on := 3, ground := Ground.chain }], guard := none }) rfl (fun K2 hK2 => ?_) AllReadyH.nil
      refine step_append_lies _ (by rfl) (.tmp 68) (.tmp 72) 27 (by rfl) 0 58 i0 (.agg #[.slice none 0 0, .int .i64 0, .int .i64 0, .slice none 0 0]) 4 64 Try.underlying27 hi hz0 hz1 hz2 rfl (by decide) (.slice a2 j c2) j (chunks j f) (by rfl) (owns_below hr (bel_trans b1 b2)) ⟨w1.heap.size, 0, none⟩ 1 1 [.slice ah 4 ch, .int .i64 (s % 24), .int .i64 0, .slice none 0 0] (by rfl) (by rfl) (World.news_of_block XE) (fun u hu => by simp at hu; rcases hu with rfl | rfl | rfl | rfl <;> rfl) (by decide) (by unfold maxLen; omega) (by omega) (Nat.zero_le _) _ rfl ?_
      intro g cap w5 o5 g5 at5 lt5
      refine hK2.out _ _ trivial (fun hHeld2 => ?_)
      clear hK2 K2 hHeld
      have hHeld := hHeld2
      clear hHeld2
      try simp only [Act.put, List.setIfInBounds_toArray, List.set_cons_zero, List.set_cons_succ]
      have X5 := (X.below (bel_trans b1 b2)).only ((Only.refl _ (fun x => (Value.slice a2 j c2).ownBlock = some x)).grown g5 (fun j hj => hj)) nB
      obtain ⟨q0, q1, q2, q3, qz⟩ := X5.at4
      have qf := X5.frozen 3
      refine wpAnyH_take (i := 7) (oi := { dst := some 74, op := Op.fieldAddr 29 (Operand.tmp 10) 1, type := 0, pos := "l13_flock.go:31", after := #[{ on := 0, ground := Ground.phase }, { on := 1, ground := Ground.phase }, { on := 2, ground := Ground.phase }, { on := 3, ground := Ground.phase }, { on := 4, ground := Ground.phase }, { on := 5, ground := Ground.phase }, { on := 6, ground := Ground.phase }], guard := none }) (v := ?vv25) rfl (by kernel_rfl) (by kernel_rfl) (by kernel_rfl) (fun c a w h => hpan.out c a _ _ w h) (Or.inl ⟨by rfl, ?hy25⟩) (by assumption) ?rest25
      case hy25 => intro W hS; go_simp; try (with_reducible rfl)
      try simp only [Act.put, List.setIfInBounds_toArray, List.set_cons_zero, List.set_cons_succ]
      refine wpAnyH_ready (rs := [8]) (by kernel_rfl) (by simp) ?_
      refine AllReadyH.cons (o := { dst := none, op := Op.store 27 (Operand.tmp 74) (Operand.tmp 73), type := 0, pos := "l13_flock.go:31", after := #[{ on := 7, ground := Ground.data }, { on := 6, ground := Ground.data }, { on := 6, ground := Ground.chain }, { on := 0, ground := Ground.phase }, { on := 1, ground := Ground.phase }, { on := 2, ground := Ground.phase }, { on := 3, ground := Ground.phase }, { on := 4, ground := Ground.phase }, { on := 5, ground := Ground.phase }, { on := 6, ground := Ground.phase }], guard := none }) rfl (fun K2 hK2 => ?_) AllReadyH.nil
      go_simp
      refine hK2.out _ _ trivial (fun hHeld2 => ?_)
      clear hK2 K2 hHeld
      have hHeld := hHeld2
      clear hHeld2
      try simp only [Act.put, List.setIfInBounds_toArray, List.set_cons_zero, List.set_cons_succ]
      refine wpAnyH_done (by kernel_rfl) ?_ _
      exact hK.out _ _ _ _ _ _ _ _ ah ch g cap w1 _ w5 o1 b1 b2 o5 g5 (by simpa using at5)
    · go_simp
      refine hK2.out _ _ trivial (fun hHeld2 => ?_)
      clear hK2 K2 hHeld
      have hHeld := hHeld2
      clear hHeld2
      try simp only [Act.put, List.setIfInBounds_toArray, List.set_cons_zero, List.set_cons_succ]
      have b2 := bel_alloc (Below.refl w1.heap.size w1) (.cells #[.slice ah 4 ch, .int .i64 (s % 24), .int .i64 0, .slice none 0 0] 58)
      have XE := Box.new w1 #[.slice ah 4 ch, .int .i64 (s % 24), .int .i64 0, .slice none 0 0] 58
      refine wpAnyH_ready (rs := [1]) (by kernel_rfl) (by simp) ?_
      refine AllReadyH.cons (o := { dst := some 68, op := Op.load 27 (Operand.tmp 67), type := 27, pos := "l13_flock.go:31", after := #[{ on := 0, ground := Ground.data }], guard := none }) rfl (fun K2 hK2 => ?_) AllReadyH.nil
      obtain ⟨z0, z1, z2, z3, zz⟩ := (X.below (bel_trans b1 b2)).at4
      go_simp
      refine hK2.out _ _ trivial (fun hHeld2 => ?_)
      clear hK2 K2 hHeld
      have hHeld := hHeld2
      clear hHeld2
      try simp only [Act.put, List.setIfInBounds_toArray, List.set_cons_zero, List.set_cons_succ]
      clear z0 z1 z2 z3 zz
      refine wpAnyH_ready (rs := [6]) (by kernel_rfl) (by simp) ?_
      refine AllReadyH.cons (o := { dst := some 73, op := Op.call { callee := Callee.builtin Builtin.append, args := #[Operand.tmp 68, Operand.tmp 72], argTypes := #[27, 27] }, type := 27, pos := "l13_flock.go:31", after := #[{ on := 1, ground := Ground.data }, { on := 5, ground := Ground.data }, { on := 3, ground := Ground.chain }], guard := none }) rfl (fun K2 hK2 => ?_) AllReadyH.nil
      refine step_append_lies _ (by rfl) (.tmp 68) (.tmp 72) 27 (by rfl) 0 58 i0 (.agg #[.slice none 0 0, .int .i64 0, .int .i64 0, .slice none 0 0]) 4 64 Try.underlying27 hi hz0 hz1 hz2 rfl (by decide) (.slice a2 j c2) j (chunks j f) (by rfl) (owns_below hr (bel_trans b1 b2)) ⟨w1.heap.size, 0, none⟩ 1 1 [.slice ah 4 ch, .int .i64 (s % 24), .int .i64 0, .slice none 0 0] (by rfl) (by rfl) (World.news_of_block XE) (fun u hu => by simp at hu; rcases hu with rfl | rfl | rfl | rfl <;> rfl) (by decide) (by unfold maxLen; omega) (by omega) (Nat.zero_le _) _ rfl ?_
      intro g cap w5 o5 g5 at5 lt5
      refine hK2.out _ _ trivial (fun hHeld2 => ?_)
      clear hK2 K2 hHeld
      have hHeld := hHeld2
      clear hHeld2
      try simp only [Act.put, List.setIfInBounds_toArray, List.set_cons_zero, List.set_cons_succ]
      have X5 := (X.below (bel_trans b1 b2)).only ((Only.refl _ (fun x => (Value.slice a2 j c2).ownBlock = some x)).grown g5 (fun j hj => hj)) nB
      obtain ⟨q0, q1, q2, q3, qz⟩ := X5.at4
      have qf := X5.frozen 3
      refine wpAnyH_take (i := 7) (oi := { dst := some 74, op := Op.fieldAddr 29 (Operand.tmp 10) 1, type := 0, pos := "l13_flock.go:31", after := #[{ on := 0, ground := Ground.phase }, { on := 1, ground := Ground.phase }, { on := 2, ground := Ground.phase }, { on := 3, ground := Ground.phase }, { on := 4, ground := Ground.phase }, { on := 5, ground := Ground.phase }, { on := 6, ground := Ground.phase }], guard := none }) (v := ?vv26) rfl (by kernel_rfl) (by kernel_rfl) (by kernel_rfl) (fun c a w h => hpan.out c a _ _ w h) (Or.inl ⟨by rfl, ?hy26⟩) (by assumption) ?rest26
      case hy26 => intro W hS; go_simp; try (with_reducible rfl)
      try simp only [Act.put, List.setIfInBounds_toArray, List.set_cons_zero, List.set_cons_succ]
      refine wpAnyH_ready (rs := [8]) (by kernel_rfl) (by simp) ?_
      refine AllReadyH.cons (o := { dst := none, op := Op.store 27 (Operand.tmp 74) (Operand.tmp 73), type := 0, pos := "l13_flock.go:31", after := #[{ on := 7, ground := Ground.data }, { on := 6, ground := Ground.data }, { on := 6, ground := Ground.chain }, { on := 0, ground := Ground.phase }, { on := 1, ground := Ground.phase }, { on := 2, ground := Ground.phase }, { on := 3, ground := Ground.phase }, { on := 4, ground := Ground.phase }, { on := 5, ground := Ground.phase }, { on := 6, ground := Ground.phase }], guard := none }) rfl (fun K2 hK2 => ?_) AllReadyH.nil
      go_simp
      refine hK2.out _ _ trivial (fun hHeld2 => ?_)
      clear hK2 K2 hHeld
      have hHeld := hHeld2
      clear hHeld2
      try simp only [Act.put, List.setIfInBounds_toArray, List.set_cons_zero, List.set_cons_succ]
      refine wpAnyH_done (by kernel_rfl) ?_ _
      exact hK.out _ _ _ _ _ _ _ _ ah ch g cap w1 _ w5 o1 b1 b2 o5 g5 (by simpa using at5)

end Go.Proofs.Ytfeabhknkoifeaa
