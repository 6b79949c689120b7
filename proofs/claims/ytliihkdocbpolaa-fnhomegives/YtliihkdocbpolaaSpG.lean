/- What the specification's l4Give does. -/
import Derived.Test.YtliihkdocbpolaaSp
import Derived.Test.YtliihkdocbpolaaAppR
import Derived.Laws.OwnMore
namespace Go.Proofs.Ytliihkdocbpolaa
open Go.RowKit
set_option linter.unusedVariables false

/-- It is given. -/
def gvS (S : SS) : SS := { S with ow := if S.wo then S.wh else S.ow, rd := S.rd.set S.wh.toNat (!S.wo), bz := false, wh := 0, wo := false, nt := S.nt + 1 }

theorem bv_setS (bs : List Bool) (k : Nat) (b : Bool) : (bv bs).set k (.bool b) = bv (bs.set k b) := by unfold bv; rw [List.map_set]

/-- A reader's cell is written. -/
theorem SLies.setR {lo : Nat} {w : World} {kB g cap n : Nat} {vl vq vt : Value} {S : SS} (h : SLies lo w kB vl (.slice (some ⟨g, 0, none⟩) n cap) vq vt S) (hn : S.rd.length = n) (k : Nat) (hk : k < S.rd.length) (b : Bool) :
    SLies lo (w.setCell ⟨g, k, none⟩ (.bool b)) kB vl (.slice (some ⟨g, 0, none⟩) n cap) vq vt { S with rd := S.rd.set k b } ∧ SameS lo w (w.setCell ⟨g, k, none⟩ (.bool b)) := by
  subst hn
  obtain ⟨cs, ht⟩ := h.t
  obtain ⟨r', _⟩ := h.r.stored k (.bool b)
  rw [bv_setS] at r'
  have hg : (Value.slice (some ⟨g, 0, none⟩) S.rd.length cap).ownBlock = some g := rfl
  have n1 := box_ne h.k h.r (by decide)
  refine ⟨⟨h.lk, h.k.far _ _ (fun e => n1 (by rw [hg, e])), owns_setCell h.l (fun j hj e => owns_types h.l h.r (by decide) hj (by rw [hg]; simp at e; rw [e])) _, ?_, owns_setCell h.q (fun j hj e => owns_types h.q h.r (by decide) hj (by rw [hg]; simp at e; rw [e])) _, ⟨cs, owns_setCell ht (fun j hj e => owns_types ht h.r (by decide) hj (by rw [hg]; simp at e; rw [e])) _⟩⟩, ?_⟩
  · simpa using r'
  · obtain ⟨hb, cs', fr, hh⟩ := owns_block h.r hg
    exact SameS.setCell hh hb (.inr (.inr rfl)) k (.bool b)

set_option maxRecDepth 100000 in
set_option maxHeartbeats 4000000 in
theorem l4Give_any (lo : Nat) (w : World) (kB : Nat) (vl vr vq vt : Value) (S : SS) (h : SLies lo w kB vl vr vq vt S) (hlo : lo ≤ w.heap.size) (hx : S.xs.length ≤ 1048577) (hrd : S.rd.length ≤ 4) (hts : S.nt ≤ 50000) (hwh : 0 ≤ S.wh ∧ S.wh < S.rd.length) :
    Calls Try.prog 37 #[.pointer (some ⟨kB, 0, none⟩)] w fun e w' =>
      e = .returned (.tuple #[]) ∧ ∃ vt', SLies lo w' kB vl vr vq vt' (gvS S) ∧ SameS lo w w' := by
  obtain ⟨i1, hi1, hz10, hz11, hz12⟩ := info_parts info_i64
  obtain ⟨wn, hwn⟩ : ∃ wn : Nat, S.wh = (wn : Int) := ⟨S.wh.toNat, by omega⟩
  have hwl : wn < S.rd.length := by omega
  obtain ⟨al, cl, rfl⟩ := owns_slice h.l
  obtain ⟨g, cr, rfl⟩ : ∃ g c, vr = .slice (some ⟨g, 0, none⟩) S.rd.length c := by
    obtain ⟨a, c, rfl⟩ := owns_slice h.r
    obtain ⟨g, rfl⟩ := owns_addr h.r (by omega)
    exact ⟨g, c, rfl⟩
  have HW : Hid (S.wh = (wn : Int)) := hwn
  have k4 : w.cell? ⟨kB, 4, none⟩ = some (.int .i64 (wn : Int)) := by rw [← hwn]; exact h.k.cell 4
  have k5 : w.cell? ⟨kB, 5, none⟩ = some (.bool S.wo) := h.k.cell 5
  have k0 : w.cell? ⟨kB, 0, none⟩ = some (.slice al S.xs.length cl) := h.k.cell 0
  have kz := h.k.lt
  have b0 := bel_alloc (Below.refl w.heap.size w) (.cells #[.int .i64 (wn : Int), .bool S.wo] 27)
  have XN := Box.new w #[.int .i64 (wn : Int), .bool S.wo] 27
  obtain ⟨W0, hW0⟩ : ∃ W0, w.alloc (.cells #[.int .i64 (wn : Int), .bool S.wo] 27) = W0 := ⟨_, rfl⟩
  have HW0 : Hid (w.alloc (.cells #[.int .i64 (wn : Int), .bool S.wo] 27) = W0) := hW0
  have hsz : Hid (W0.heap.size = w.heap.size + 1) := by show _ = _; rw [← hW0]; simp
  rw [hW0] at b0 XN
  have L0 := h.below b0
  obtain ⟨xa, hxa⟩ : ∃ xa : Option Addr, al = xa := ⟨_, rfl⟩
  have HV : Hid (VRow W0 al (S.xs.map (Value.int .i64))) := owns_vrow' L0.l (by rw [List.length_map]; omega)
  have K0 : Hid (∀ W, Below W0.heap.size W0 W → W.cell? ⟨w.heap.size, 0, none⟩ = some (.int .i64 (wn : Int)) ∧ W.cell? ⟨w.heap.size, 1, none⟩ = some (.bool S.wo) ∧ W.cell? ⟨kB, 0, none⟩ = some (.slice al S.xs.length cl) ∧ w.heap.size < W.heap.size ∧ kB < W.heap.size) := fun W bb => ⟨(XN.below bb).cell 0, (XN.below bb).cell 1, (L0.k.below bb).cell 0, (XN.below bb).lt, (L0.k.below bb).lt⟩
  have HL0 : Hid (SLies lo W0 kB _ _ vq vt S) := L0
  have HXN : Hid (Box W0 w.heap.size #[.int .i64 (wn : Int), .bool S.wo] 27) := XN
  have HB0 : Hid (Below w.heap.size w W0) := b0
  clear h hwn L0 XN hxa b0
  go_enter Try.func37, Try.ntmps37
  go_wp2
  refine wp_region_held_drew (S := (fun w' => w'.cell? ⟨w.heap.size, 0, none⟩ = some (.int .i64 (wn : Int)) ∧ w'.cell? ⟨w.heap.size, 1, none⟩ = some (.bool S.wo) ∧ w'.cell? ⟨kB, 0, none⟩ = some (.slice al S.xs.length cl) ∧ w.heap.size < w'.heap.size ∧ kB < w'.heap.size)) (by kernel_rfl) ?_ (fun hHeld => ?_)
  · exact K0.out _ (bel_drew (Below.refl _ _))
  refine wpAnyH_take (i := 0) (oi := { dst := some 8, op := Op.move (Operand.tmp 0), type := 60, pos := "l04_home.go:46", after := #[], guard := none }) (v := ?r1_v0) rfl (by kernel_rfl) (by kernel_rfl) (by kernel_rfl) (fun _ _ _ h => h) (Or.inl ⟨by rfl, ?r1_hy0⟩) (by assumption) ?r1_rest0
  case r1_hy0 => intro w hSw; obtain ⟨s0, s1, s2, s3, s4⟩ := hSw; go_simp; try (with_reducible rfl)
  simp only [Act.put, List.setIfInBounds_toArray, List.set_cons_zero, List.set_cons_succ]
  refine wpAnyH_take (i := 1) (oi := { dst := some 9, op := Op.fieldAddr 27 (Operand.tmp 2) 0, type := 0, pos := "l04_home.go:46", after := #[], guard := none }) (v := ?r1_v1) rfl (by kernel_rfl) (by kernel_rfl) (by kernel_rfl) (fun _ _ _ h => h) (Or.inl ⟨by rfl, ?r1_hy1⟩) (by assumption) ?r1_rest1
  case r1_hy1 => intro w hSw; obtain ⟨s0, s1, s2, s3, s4⟩ := hSw; go_simp; try (with_reducible rfl)
  simp only [Act.put, List.setIfInBounds_toArray, List.set_cons_zero, List.set_cons_succ]
  refine wpAnyH_take (i := 2) (oi := { dst := some 10, op := Op.load 3 (Operand.tmp 9), type := 3, pos := "l04_home.go:46", after := #[{ on := 1, ground := Ground.data }], guard := none }) (v := ?r1_v2) rfl (by kernel_rfl) (by kernel_rfl) (by kernel_rfl) (fun _ _ _ h => h) (Or.inl ⟨by rfl, ?r1_hy2⟩) (by assumption) ?r1_rest2
  case r1_hy2 => intro w hSw; obtain ⟨s0, s1, s2, s3, s4⟩ := hSw; go_simp; try (with_reducible rfl)
  simp only [Act.put, List.setIfInBounds_toArray, List.set_cons_zero, List.set_cons_succ]
  refine wpAnyH_take (i := 3) (oi := { dst := some 11, op := Op.fieldAddr 27 (Operand.tmp 2) 1, type := 0, pos := "l04_home.go:46", after := #[], guard := none }) (v := ?r1_v3) rfl (by kernel_rfl) (by kernel_rfl) (by kernel_rfl) (fun _ _ _ h => h) (Or.inl ⟨by rfl, ?r1_hy3⟩) (by assumption) ?r1_rest3
  case r1_hy3 => intro w hSw; obtain ⟨s0, s1, s2, s3, s4⟩ := hSw; go_simp; try (with_reducible rfl)
  simp only [Act.put, List.setIfInBounds_toArray, List.set_cons_zero, List.set_cons_succ]
  refine wpAnyH_take (i := 4) (oi := { dst := some 12, op := Op.load 4 (Operand.tmp 11), type := 4, pos := "l04_home.go:46", after := #[{ on := 3, ground := Ground.data }], guard := none }) (v := ?r1_v4) rfl (by kernel_rfl) (by kernel_rfl) (by kernel_rfl) (fun _ _ _ h => h) (Or.inl ⟨by rfl, ?r1_hy4⟩) (by assumption) ?r1_rest4
  case r1_hy4 => intro w hSw; obtain ⟨s0, s1, s2, s3, s4⟩ := hSw; go_simp; try (with_reducible rfl)
  simp only [Act.put, List.setIfInBounds_toArray, List.set_cons_zero, List.set_cons_succ]
  refine wpAnyH_take (i := 6) (oi := { dst := some 14, op := Op.move (Operand.tmp 0), type := 60, pos := "l04_home.go:46", after := #[], guard := none }) (v := ?r1_v6) rfl (by kernel_rfl) (by kernel_rfl) (by kernel_rfl) (fun _ _ _ h => h) (Or.inl ⟨by rfl, ?r1_hy6⟩) (by assumption) ?r1_rest6
  case r1_hy6 => intro w hSw; obtain ⟨s0, s1, s2, s3, s4⟩ := hSw; go_simp; try (with_reducible rfl)
  simp only [Act.put, List.setIfInBounds_toArray, List.set_cons_zero, List.set_cons_succ]
  refine wpAnyH_take (i := 7) (oi := { dst := some 15, op := Op.nilCheck (Operand.tmp 14), type := 0, pos := "l04_home.go:46", after := #[{ on := 6, ground := Ground.data }], guard := none }) (v := ?r1_v7) rfl (by kernel_rfl) (by kernel_rfl) (by kernel_rfl) (fun _ _ _ h => h) (Or.inl ⟨by rfl, ?r1_hy7⟩) (by assumption) ?r1_rest7
  case r1_hy7 => intro w hSw; obtain ⟨s0, s1, s2, s3, s4⟩ := hSw; go_simp; try (with_reducible rfl)
  simp only [Act.put, List.setIfInBounds_toArray, List.set_cons_zero, List.set_cons_succ]
  refine wpAnyH_take (i := 8) (oi := { dst := some 16, op := Op.fieldAddr 62 (Operand.tmp 15) 0, type := 0, pos := "l04_home.go:46", after := #[{ on := 7, ground := Ground.data }], guard := none }) (v := ?r1_v8) rfl (by kernel_rfl) (by kernel_rfl) (by kernel_rfl) (fun _ _ _ h => h) (Or.inl ⟨by rfl, ?r1_hy8⟩) (by assumption) ?r1_rest8
  case r1_hy8 => intro w hSw; obtain ⟨s0, s1, s2, s3, s4⟩ := hSw; go_simp; try (with_reducible rfl)
  simp only [Act.put, List.setIfInBounds_toArray, List.set_cons_zero, List.set_cons_succ]
  refine wpAnyH_take (i := 9) (oi := { dst := some 17, op := Op.fieldAddr 30 (Operand.tmp 16) 0, type := 0, pos := "l04_home.go:46", after := #[{ on := 8, ground := Ground.data }], guard := none }) (v := ?r1_v9) rfl (by kernel_rfl) (by kernel_rfl) (by kernel_rfl) (fun _ _ _ h => h) (Or.inl ⟨by rfl, ?r1_hy9⟩) (by assumption) ?r1_rest9
  case r1_hy9 => intro w hSw; obtain ⟨s0, s1, s2, s3, s4⟩ := hSw; go_simp; try (with_reducible rfl)
  simp only [Act.put, List.setIfInBounds_toArray, List.set_cons_zero, List.set_cons_succ]
  refine wpAnyH_take (i := 10) (oi := { dst := some 18, op := Op.load 24 (Operand.tmp 17), type := 24, pos := "l04_home.go:46", after := #[{ on := 9, ground := Ground.data }], guard := none }) (v := ?r1_v10) rfl (by kernel_rfl) (by kernel_rfl) (by kernel_rfl) (fun _ _ _ h => h) (Or.inl ⟨by rfl, ?r1_hy10⟩) (by assumption) ?r1_rest10
  case r1_hy10 => intro w hSw; obtain ⟨s0, s1, s2, s3, s4⟩ := hSw; go_simp; try (with_reducible rfl)
  simp only [Act.put, List.setIfInBounds_toArray, List.set_cons_zero, List.set_cons_succ]
  refine wpAnyH_ready (rs := [5]) (by kernel_rfl) (by simp) ?_
  refine AllReadyH.cons (o := { dst := some 13, op := Op.buildSlice 24 0 #[], type := 24, pos := "l04_home.go:46", after := #[], guard := none }) rfl (fun K2 hK2 => ?_) AllReadyH.nil
  go_simp
  refine hK2.out _ _ ?_ (fun hHeld2 => ?_)
  · exact K0.out _ (bel_alloc (bel_drew (Below.refl _ _)) _)
  clear hK2 K2 hHeld
  have hHeld := hHeld2
  clear hHeld2
  try simp only [Act.put, List.setIfInBounds_toArray, List.set_cons_zero, List.set_cons_succ]
  have oE := own_litE W0.drew 3 1 W0.heap.size (Nat.le_refl _)
  have bE := bel_alloc (bel_drew (Below.refl W0.heap.size W0)) (.cells #[] 3)
  refine wpAnyH_ready (rs := [11]) (by kernel_rfl) (by simp) ?_
  refine AllReadyH.cons (o := { dst := some 19, op := Op.call { callee := Callee.builtin Builtin.append, args := #[Operand.tmp 13, Operand.tmp 18], argTypes := #[24, 24] }, type := 24, pos := "l04_home.go:46", after := #[{ on := 5, ground := Ground.data }, { on := 10, ground := Ground.data }], guard := none }) rfl (fun K2 hK2 => ?_) AllReadyH.nil
  refine step_append_rowYtliihkdocbpolaa rfl (.tmp 13) (.tmp 18) 24 rfl W0.heap.size 3 i1 (.int .i64 0) 1 8 Try.underlying24 hi1 hz10 hz11 hz12 rfl (by decide) (.slice (some ⟨W0.heap.size, 0, none⟩) 0 0) 0 [] (by rfl) oE al S.xs.length cl (S.xs.map (Value.int .i64)) (by rfl) (by simp) (HV.out.below bE).2 (by intro u hu; obtain ⟨x, _, rfl⟩ := List.mem_map.1 hu; rfl) (by unfold maxLen; omega) (by omega) (by simp) ?_
  intro v1 w1 o1 g1
  rw [Nat.zero_add, List.nil_append] at o1
  obtain ⟨a1, c1, rfl⟩ := owns_slice o1
  have on1 : Only (W0.drew.alloc (.cells #[] 3)) w1 (fun x => x = W0.heap.size) := (Only.refl _ _).grown g1 (fun j hj => by simpa [Value.ownBlock] using hj.symm)
  have b1 : Below W0.heap.size W0 w1 := bE.trans ⟨on1.os, on1.tape, on1.output, on1.size, fun i hi => on1.block i (by have := bE.size; omega) (fun e => by omega)⟩
  refine hK2.out _ _ ?_ (fun hHeld2 => ?_)
  · exact K0.out _ b1
  clear hK2 K2 hHeld
  have hHeld := hHeld2
  clear hHeld2
  try simp only [Act.put, List.setIfInBounds_toArray, List.set_cons_zero, List.set_cons_succ]
  refine wpAnyH_take (i := 12) (oi := { dst := some 20, op := Op.build 34 #[(0, Operand.const (Value.int IntKind.i64 3)), (2, Operand.tmp 12), (3, Operand.tmp 19)], type := 34, pos := "l04_home.go:46", after := #[{ on := 4, ground := Ground.data }, { on := 11, ground := Ground.data }], guard := none }) (v := ?r1_v12) rfl (by kernel_rfl) (by kernel_rfl) (by kernel_rfl) (fun _ _ _ h => h) (Or.inl ⟨by rfl, ?r1_hy12⟩) (by assumption) ?r1_rest12
  case r1_hy12 => intro w hSw; obtain ⟨s0, s1, s2, s3, s4⟩ := hSw; go_simp; try (with_reducible rfl)
  simp only [Act.put, List.setIfInBounds_toArray, List.set_cons_zero, List.set_cons_succ]
  refine wpAnyH_ready (rs := [13]) (by kernel_rfl) (by simp) ?_
  refine AllReadyH.cons (o := { dst := some 21, op := Op.call { callee := Callee.value (Operand.func 38), args := #[Operand.tmp 8, Operand.tmp 10, Operand.tmp 20], argTypes := #[60, 3, 34] }, type := 0, pos := "l04_home.go:46", after := #[{ on := 0, ground := Ground.data }, { on := 2, ground := Ground.data }, { on := 12, ground := Ground.data }, { on := 11, ground := Ground.chain }], guard := none }) rfl (fun K2 hK2 => ?_) AllReadyH.nil
  go_simp
  refine (l4Tell_any lo w1 kB _ _ vq vt S (HL0.out.below b1) (by have := b1.size; have := hsz.out; omega) wn 3 0 S.wo a1 S.xs.length c1 (by omega)).mono ?_
  rintro e w2 ⟨rfl, vt2, L2, hS2⟩
  have X2 := (HXN.out.below b1).sameS hS2 (by decide) (by decide) (by decide)
  go_wp2_with fail
  refine hK2.out _ _ ?_ (fun hHeld2 => ?_)
  · exact ⟨X2.cell 0, X2.cell 1, L2.k.cell 0, X2.lt, L2.k.lt⟩
  clear hK2 K2 hHeld
  have hHeld := hHeld2
  clear hHeld2
  try simp only [Act.put, List.setIfInBounds_toArray, List.set_cons_zero, List.set_cons_succ]
  refine wpAnyH_done (by kernel_rfl) ?_ _
  have HS2 : Hid (SameS lo w w2) := (SameS.of_below (bel_trans HB0.out b1)).trans hS2
  clear hHeld hS2 b1 o1 g1 on1 oE bE K0 HV HL0 HXN k0 k4 k5 kz HB0
  obtain ⟨L3, hS3⟩ := SLies.setR (S := { S with nt := S.nt + 1 }) L2 rfl wn hwl (!S.wo)
  have X3 := X2.sameS hS3 (by decide) (by decide) (by decide)
  have k2 : w2.cell? ⟨kB, 2, none⟩ = some (.slice (some ⟨g, 0, none⟩) S.rd.length cr) := L2.k.cell 2
  have kz2 := L2.k.lt
  obtain ⟨n0, n1, nz⟩ : w2.cell? ⟨w.heap.size, 0, none⟩ = some (.int .i64 (wn : Int)) ∧ w2.cell? ⟨w.heap.size, 1, none⟩ = some (.bool S.wo) ∧ w.heap.size < w2.heap.size := ⟨X2.cell 0, X2.cell 1, X2.lt⟩
  have hgc : w2.cell? ⟨g, wn, none⟩ = some (.bool (S.rd.getD wn false)) := by
    rw [L2.r.cellAt wn (by simpa using hwl)]
    simp [bv, hwl]
  have hgf : w2.frozen? ⟨g, wn, none⟩ = false := L2.r.frozenAt wn
  have hi' : (wn : Int) < (S.rd.length : Int) := by omega
  have HS3 : Hid (SameS lo w (w2.setCell ⟨g, wn, none⟩ (.bool (!S.wo)))) := HS2.out.trans hS3
  have HL3 : Hid (SLies lo (w2.setCell ⟨g, wn, none⟩ (.bool (!S.wo))) kB _ _ vq vt2 _) := L3
  have HX3 : Hid (Box (w2.setCell ⟨g, wn, none⟩ (.bool (!S.wo))) w.heap.size #[.int .i64 (wn : Int), .bool S.wo] 27) := X3
  clear L2 X2 hS3 L3 X3 HS2
  go_wp2_with fail
  refine wp_region_held_drew (S := (fun w' => w'.cell? ⟨w.heap.size, 0, none⟩ = some (.int .i64 (wn : Int)) ∧ w'.cell? ⟨w.heap.size, 1, none⟩ = some (.bool S.wo) ∧ w'.cell? ⟨kB, 2, none⟩ = some (.slice (some ⟨g, 0, none⟩) S.rd.length cr) ∧ w.heap.size < w'.heap.size ∧ kB < w'.heap.size)) (by kernel_rfl) ?_ (fun hHeld => ?_)
  · exact ⟨n0, n1, k2, nz, kz2⟩
  refine wpAnyH_take (i := 0) (oi := { dst := some 22, op := Op.move (Operand.tmp 0), type := 60, pos := "l04_home.go:47", after := #[], guard := none }) (v := ?r2_v0) rfl (by kernel_rfl) (by kernel_rfl) (by kernel_rfl) (fun _ _ _ h => h) (Or.inl ⟨by rfl, ?r2_hy0⟩) (by assumption) ?r2_rest0
  case r2_hy0 => intro w hSw; obtain ⟨s0, s1, s2, s3, s4⟩ := hSw; go_simp; try (with_reducible rfl)
  simp only [Act.put, List.setIfInBounds_toArray, List.set_cons_zero, List.set_cons_succ]
  refine wpAnyH_take (i := 1) (oi := { dst := some 23, op := Op.nilCheck (Operand.tmp 22), type := 0, pos := "l04_home.go:47", after := #[{ on := 0, ground := Ground.data }], guard := none }) (v := ?r2_v1) rfl (by kernel_rfl) (by kernel_rfl) (by kernel_rfl) (fun _ _ _ h => h) (Or.inl ⟨by rfl, ?r2_hy1⟩) (by assumption) ?r2_rest1
  case r2_hy1 => intro w hSw; obtain ⟨s0, s1, s2, s3, s4⟩ := hSw; go_simp; try (with_reducible rfl)
  simp only [Act.put, List.setIfInBounds_toArray, List.set_cons_zero, List.set_cons_succ]
  refine wpAnyH_take (i := 2) (oi := { dst := some 24, op := Op.fieldAddr 62 (Operand.tmp 23) 0, type := 0, pos := "l04_home.go:47", after := #[{ on := 1, ground := Ground.data }], guard := none }) (v := ?r2_v2) rfl (by kernel_rfl) (by kernel_rfl) (by kernel_rfl) (fun _ _ _ h => h) (Or.inl ⟨by rfl, ?r2_hy2⟩) (by assumption) ?r2_rest2
  case r2_hy2 => intro w hSw; obtain ⟨s0, s1, s2, s3, s4⟩ := hSw; go_simp; try (with_reducible rfl)
  simp only [Act.put, List.setIfInBounds_toArray, List.set_cons_zero, List.set_cons_succ]
  refine wpAnyH_take (i := 3) (oi := { dst := some 25, op := Op.fieldAddr 30 (Operand.tmp 24) 2, type := 0, pos := "l04_home.go:47", after := #[{ on := 2, ground := Ground.data }], guard := none }) (v := ?r2_v3) rfl (by kernel_rfl) (by kernel_rfl) (by kernel_rfl) (fun _ _ _ h => h) (Or.inl ⟨by rfl, ?r2_hy3⟩) (by assumption) ?r2_rest3
  case r2_hy3 => intro w hSw; obtain ⟨s0, s1, s2, s3, s4⟩ := hSw; go_simp; try (with_reducible rfl)
  simp only [Act.put, List.setIfInBounds_toArray, List.set_cons_zero, List.set_cons_succ]
  refine wpAnyH_take (i := 4) (oi := { dst := some 26, op := Op.load 25 (Operand.tmp 25), type := 25, pos := "l04_home.go:47", after := #[{ on := 3, ground := Ground.data }], guard := none }) (v := ?r2_v4) rfl (by kernel_rfl) (by kernel_rfl) (by kernel_rfl) (fun _ _ _ h => h) (Or.inl ⟨by rfl, ?r2_hy4⟩) (by assumption) ?r2_rest4
  case r2_hy4 => intro w hSw; obtain ⟨s0, s1, s2, s3, s4⟩ := hSw; go_simp; try (with_reducible rfl)
  simp only [Act.put, List.setIfInBounds_toArray, List.set_cons_zero, List.set_cons_succ]
  refine wpAnyH_take (i := 5) (oi := { dst := some 27, op := Op.fieldAddr 27 (Operand.tmp 2) 0, type := 0, pos := "l04_home.go:47", after := #[], guard := none }) (v := ?r2_v5) rfl (by kernel_rfl) (by kernel_rfl) (by kernel_rfl) (fun _ _ _ h => h) (Or.inl ⟨by rfl, ?r2_hy5⟩) (by assumption) ?r2_rest5
  case r2_hy5 => intro w hSw; obtain ⟨s0, s1, s2, s3, s4⟩ := hSw; go_simp; try (with_reducible rfl)
  simp only [Act.put, List.setIfInBounds_toArray, List.set_cons_zero, List.set_cons_succ]
  refine wpAnyH_take (i := 6) (oi := { dst := some 28, op := Op.load 3 (Operand.tmp 27), type := 3, pos := "l04_home.go:47", after := #[{ on := 5, ground := Ground.data }], guard := none }) (v := ?r2_v6) rfl (by kernel_rfl) (by kernel_rfl) (by kernel_rfl) (fun _ _ _ h => h) (Or.inl ⟨by rfl, ?r2_hy6⟩) (by assumption) ?r2_rest6
  case r2_hy6 => intro w hSw; obtain ⟨s0, s1, s2, s3, s4⟩ := hSw; go_simp; try (with_reducible rfl)
  simp only [Act.put, List.setIfInBounds_toArray, List.set_cons_zero, List.set_cons_succ]
  refine wpAnyH_take (i := 7) (oi := { dst := some 29, op := Op.fieldAddr 27 (Operand.tmp 2) 1, type := 0, pos := "l04_home.go:47", after := #[], guard := none }) (v := ?r2_v7) rfl (by kernel_rfl) (by kernel_rfl) (by kernel_rfl) (fun _ _ _ h => h) (Or.inl ⟨by rfl, ?r2_hy7⟩) (by assumption) ?r2_rest7
  case r2_hy7 => intro w hSw; obtain ⟨s0, s1, s2, s3, s4⟩ := hSw; go_simp; try (with_reducible rfl)
  simp only [Act.put, List.setIfInBounds_toArray, List.set_cons_zero, List.set_cons_succ]
  refine wpAnyH_take (i := 8) (oi := { dst := some 30, op := Op.load 4 (Operand.tmp 29), type := 4, pos := "l04_home.go:47", after := #[{ on := 7, ground := Ground.data }], guard := none }) (v := ?r2_v8) rfl (by kernel_rfl) (by kernel_rfl) (by kernel_rfl) (fun _ _ _ h => h) (Or.inl ⟨by rfl, ?r2_hy8⟩) (by assumption) ?r2_rest8
  case r2_hy8 => intro w hSw; obtain ⟨s0, s1, s2, s3, s4⟩ := hSw; go_simp; try (with_reducible rfl)
  simp only [Act.put, List.setIfInBounds_toArray, List.set_cons_zero, List.set_cons_succ]
  refine wpAnyH_take (i := 9) (oi := { dst := some 31, op := Op.unOp UnOp.not 4 (Operand.tmp 30), type := 4, pos := "l04_home.go:47", after := #[{ on := 8, ground := Ground.data }], guard := none }) (v := ?r2_v9) rfl (by kernel_rfl) (by kernel_rfl) (by kernel_rfl) (fun _ _ _ h => h) (Or.inl ⟨by rfl, ?r2_hy9⟩) (by assumption) ?r2_rest9
  case r2_hy9 => intro w hSw; obtain ⟨s0, s1, s2, s3, s4⟩ := hSw; go_simp; try (with_reducible rfl)
  simp only [Act.put, List.setIfInBounds_toArray, List.set_cons_zero, List.set_cons_succ]
  refine wpAnyH_take (i := 10) (oi := { dst := some 32, op := Op.indexAddr 25 (Operand.tmp 26) (Operand.tmp 28), type := 0, pos := "l04_home.go:47", after := #[{ on := 4, ground := Ground.data }, { on := 6, ground := Ground.data }, { on := 0, ground := Ground.phase }, { on := 1, ground := Ground.phase }, { on := 2, ground := Ground.phase }, { on := 3, ground := Ground.phase }, { on := 4, ground := Ground.phase }, { on := 5, ground := Ground.phase }, { on := 6, ground := Ground.phase }, { on := 7, ground := Ground.phase }, { on := 8, ground := Ground.phase }, { on := 9, ground := Ground.phase }], guard := none }) (v := ?r2_v10) rfl (by kernel_rfl) (by kernel_rfl) (by kernel_rfl) (fun _ _ _ h => h) (Or.inl ⟨by rfl, ?r2_hy10⟩) (by assumption) ?r2_rest10
  case r2_hy10 => intro w hSw; obtain ⟨s0, s1, s2, s3, s4⟩ := hSw; go_simp; try (with_reducible rfl)
  simp only [Act.put, List.setIfInBounds_toArray, List.set_cons_zero, List.set_cons_succ]
  refine wpAnyH_ready (rs := [11]) (by kernel_rfl) (by simp) ?_
  refine AllReadyH.cons (o := { dst := none, op := Op.store 4 (Operand.tmp 32) (Operand.tmp 31), type := 0, pos := "l04_home.go:47", after := #[{ on := 10, ground := Ground.data }, { on := 9, ground := Ground.data }, { on := 0, ground := Ground.phase }, { on := 1, ground := Ground.phase }, { on := 2, ground := Ground.phase }, { on := 3, ground := Ground.phase }, { on := 4, ground := Ground.phase }, { on := 5, ground := Ground.phase }, { on := 6, ground := Ground.phase }, { on := 7, ground := Ground.phase }, { on := 8, ground := Ground.phase }, { on := 9, ground := Ground.phase }], guard := none }) rfl (fun K2 hK2 => ?_) AllReadyH.nil
  go_simp
  refine hK2.out _ _ ?_ (fun hHeld2 => ?_)
  · exact ⟨HX3.out.cell 0, HX3.out.cell 1, HL3.out.k.cell 2, HX3.out.lt, HL3.out.k.lt⟩
  clear hK2 K2 hHeld
  have hHeld := hHeld2
  clear hHeld2
  try simp only [Act.put, List.setIfInBounds_toArray, List.set_cons_zero, List.set_cons_succ]
  refine wpAnyH_done (by kernel_rfl) ?_ _
  obtain ⟨V, hV⟩ : ∃ V, w2.setCell ⟨g, wn, none⟩ (.bool (!S.wo)) = V := ⟨_, rfl⟩
  have L3 : SLies lo V kB (.slice al S.xs.length cl) (.slice (some ⟨g, 0, none⟩) S.rd.length cr) vq vt2 { S with rd := S.rd.set wn (!S.wo), nt := S.nt + 1 } := by rw [← hV]; exact HL3.out
  have X3 : Box V w.heap.size #[.int .i64 (wn : Int), .bool S.wo] 27 := by rw [← hV]; exact HX3.out
  have S3 : SameS lo w V := by rw [← hV]; exact HS3.out
  rw [hV]
  clear hV hHeld HL3 HX3 HS3 hgc hgf n0 n1 nz k2 kz2
  have m0 : V.cell? ⟨w.heap.size, 0, none⟩ = some (.int .i64 (wn : Int)) := X3.cell 0
  have mz := X3.lt
  have c1 := L3.k.cell 1
  have c3 := L3.k.cell 3
  have c4 := L3.k.cell 4
  have c5 := L3.k.cell 5
  have f1 := L3.k.frozen 1
  have f3 := L3.k.frozen 3
  have f4 := L3.k.frozen 4
  have f5 := L3.k.frozen 5
  have kz := L3.k.lt
  have hne : w.heap.size ≠ kB := box_box X3 L3.k (by decide)
  cases hwo : S.wo
  · have m1 : V.cell? ⟨w.heap.size, 1, none⟩ = some (.bool false) := by rw [← hwo]; exact X3.cell 1
    have q0 := L3.set 3 (.bool false) (S' := { S with rd := S.rd.set wn (!S.wo), nt := S.nt + 1, bz := false }) (heap_setCell_same _ _ 3 _ _ _ L3.k) rfl rfl rfl rfl
    have t0 := S3.trans (SameS.setCell L3.k L3.lk (.inl rfl) 3 (.bool false))
    have q1 := q0.set 4 (.int .i64 0) (S' := { S with rd := S.rd.set wn (!S.wo), nt := S.nt + 1, bz := false, wh := 0 }) (heap_setCell_same _ _ 4 _ _ _ q0.k) rfl rfl rfl rfl
    have t1 := t0.trans (SameS.setCell q0.k q0.lk (.inl rfl) 4 (.int .i64 0))
    have q2 := q1.set 5 (.bool false) (S' := { S with rd := S.rd.set wn (!S.wo), nt := S.nt + 1, bz := false, wh := 0, wo := false }) (heap_setCell_same _ _ 5 _ _ _ q1.k) rfl rfl rfl rfl
    have t2 := t1.trans (SameS.setCell q1.k q1.lk (.inl rfl) 5 (.bool false))
    have e : gvS S = { S with rd := S.rd.set wn (!S.wo), nt := S.nt + 1, bz := false, wh := 0, wo := false } := by have := HW.out; simp [gvS, hwo, this]
    have HF : Hid (_ ∧ _) := ⟨q2, t2⟩
    rw [← e] at HF
    clear q0 t0 q1 t1 q2 t2 L3 X3 S3
    go_wp2
    refine ⟨rfl, .tuple #[], by simp [results, Try.results37, go_sem], rfl, _, HF.out.1.below (bel_drew (Below.refl _ _)), HF.out.2.trans (SameS.of_below (bel_drew (Below.refl _ _)))⟩
  · have m1 : V.cell? ⟨w.heap.size, 1, none⟩ = some (.bool true) := by rw [← hwo]; exact X3.cell 1
    have q0 := L3.set 1 (.int .i64 (wn : Int)) (S' := { S with rd := S.rd.set wn (!S.wo), nt := S.nt + 1, ow := (wn : Int) }) (heap_setCell_same _ _ 1 _ _ _ L3.k) rfl rfl rfl rfl
    have t0 := S3.trans (SameS.setCell L3.k L3.lk (.inl rfl) 1 (.int .i64 (wn : Int)))
    have q1 := q0.set 3 (.bool false) (S' := { S with rd := S.rd.set wn (!S.wo), nt := S.nt + 1, ow := (wn : Int), bz := false }) (heap_setCell_same _ _ 3 _ _ _ q0.k) rfl rfl rfl rfl
    have t1 := t0.trans (SameS.setCell q0.k q0.lk (.inl rfl) 3 (.bool false))
    have q2 := q1.set 4 (.int .i64 0) (S' := { S with rd := S.rd.set wn (!S.wo), nt := S.nt + 1, ow := (wn : Int), bz := false, wh := 0 }) (heap_setCell_same _ _ 4 _ _ _ q1.k) rfl rfl rfl rfl
    have t2 := t1.trans (SameS.setCell q1.k q1.lk (.inl rfl) 4 (.int .i64 0))
    have q3 := q2.set 5 (.bool false) (S' := { S with rd := S.rd.set wn (!S.wo), nt := S.nt + 1, ow := (wn : Int), bz := false, wh := 0, wo := false }) (heap_setCell_same _ _ 5 _ _ _ q2.k) rfl rfl rfl rfl
    have t3 := t2.trans (SameS.setCell q2.k q2.lk (.inl rfl) 5 (.bool false))
    have e : gvS S = { S with rd := S.rd.set wn (!S.wo), nt := S.nt + 1, ow := (wn : Int), bz := false, wh := 0, wo := false } := by have := HW.out; simp [gvS, hwo, this]
    have HF : Hid (_ ∧ _) := ⟨q3, t3⟩
    rw [← e] at HF
    clear q0 t0 q1 t1 q2 t2 q3 t3 L3 X3 S3
    go_wp2
    refine ⟨rfl, .tuple #[], by simp [results, Try.results37, go_sem], rfl, _, HF.out.1.below (bel_drew (Below.refl _ _)), HF.out.2.trans (SameS.of_below (bel_drew (Below.refl _ _)))⟩
end Go.Proofs.Ytliihkdocbpolaa
