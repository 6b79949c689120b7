/- What impl's (keeper) begin does. -/
import Derived.Test.YtliihkdocbpolaaKpG
namespace Go.Proofs.Ytliihkdocbpolaa
open Go.RowKit Go.Maps
set_option linter.unusedVariables false

def fetchS (S : KS) : KS := { S with ts := S.ts ++ [(S.ow, ⟨6, S.pg, S.wo, none, 0, []⟩)] }
def awayS (S : KS) : KS := { (goneL S (othersL S.rd S.wh)) with ak := (othersL S.rd S.wh).length }
/-- A turn begins. -/
def BeginR (S S' : KS) : Prop :=
  (S.ow ≠ -1 ∧ S' = fetchS S) ∨ (S.ow = -1 ∧ S.wo = true ∧ (othersL S.rd S.wh).length ≠ 0 ∧ S' = awayS S) ∨
    (∃ (a : Option Addr) (c : Nat), S.ow = -1 ∧ S.wo = true ∧ (othersL S.rd S.wh).length = 0 ∧ S' = giveS (awayS S) a c) ∨ ∃ (a : Option Addr) (c : Nat), S.ow = -1 ∧ S.wo = false ∧ S' = giveS S a c
theorem BeginR.fetch {S : KS} (h : S.ow ≠ -1) : BeginR S (fetchS S) := .inl ⟨h, rfl⟩
theorem BeginR.away {S : KS} (h : S.ow = -1) (ho : S.wo = true) (hl : (othersL S.rd S.wh).length ≠ 0) : BeginR S (awayS S) := .inr (.inl ⟨h, ho, hl, rfl⟩)
theorem BeginR.alone {S : KS} (h : S.ow = -1) (ho : S.wo = true) (hl : (othersL S.rd S.wh).length = 0) (a : Option Addr) (c : Nat) : BeginR S (giveS (awayS S) a c) := .inr (.inr (.inl ⟨a, c, h, ho, hl, rfl⟩))
theorem BeginR.share {S : KS} (h : S.ow = -1) (ho : S.wo = false) (a : Option Addr) (c : Nat) : BeginR S (giveS S a c) := .inr (.inr (.inr ⟨a, c, h, ho, rfl⟩))

set_option maxRecDepth 100000 in
set_option maxHeartbeats 2000000 in
theorem begin_any (lo : Nat) (w : World) (kB mB : Nat) (aw : Option Addr) (cw : Nat) (vt : Value) (S : KS) (n : Nat) (h : KLies lo w kB mB aw cw vt S n) (hlo : lo ≤ w.heap.size) (hrd : S.rd.length ≤ 4) (hts : S.ts.length ≤ 40000) (hn : n ≤ 100000) (hwh : 0 ≤ S.wh ∧ S.wh < S.rd.length) :
    Calls Try.prog 35 #[.pointer (some ⟨kB, 0, none⟩)] w fun e w' =>
      e = .returned (.tuple #[]) ∧ ∃ S' vt', BeginR S S' ∧ KLies lo w' kB mB aw cw vt' S' (n + 1) ∧ Same lo w w' := by
  have k6 := h.k.cell 6
  have k10 := h.k.cell 10
  have kz := h.k.lt
  by_cases how : S.ow = -1
  · have hob : (S.ow == -1) = true := by simp [how]
    cases hwo : S.wo
    · go_enter Try.func35, Try.ntmps35
      go_wp2_with fail
      refine (give_any lo w kB mB aw cw vt S n h hlo hrd (by omega) hn hwh).mono ?_
      rintro e w2 ⟨rfl, a, c, vt2, hL2, hS2⟩
      have HN : Hid (∃ S' vt', BeginR S S' ∧ KLies lo w2 kB mB aw cw vt' S' (n + 1) ∧ Same lo w w2) := ⟨_, vt2, .share how hwo a c, hL2, hS2⟩
      clear hL2 hS2 h
      go_wp2
      refine ⟨rfl, .tuple #[], by simp [results, Try.results35, go_sem], rfl, HN.out⟩
    · go_enter Try.func35, Try.ntmps35
      go_wp2_with fail
      refine (sendAway_any lo w kB mB aw cw vt S n h hlo hrd (by omega)).mono ?_
      rintro e w2 ⟨rfl, vt2, hL2, hS2⟩
      have hL3 := hL2.set 11 (.int .i64 (othersL S.rd S.wh).length) (S' := awayS S) (heap_setCell_same _ _ 11 _ _ _ hL2.k) rfl rfl rfl
      have hS3 := hS2.trans hL3.2
      have hlo3 : lo ≤ (w2.setCell ⟨kB, 11, none⟩ (.int .i64 (othersL S.rd S.wh).length)).heap.size := by have := hS3.size; omega
      have hol := othersL_le S.rd S.wh
      have c11 := hL2.k.cell 11
      have f11 := hL2.k.frozen 11
      have c10 := hL2.k.cell 10
      have z2 := hL2.k.lt
      have hwo2 : (goneL S (othersL S.rd S.wh)).wo = true := hwo
      obtain ⟨L, hLe⟩ : ∃ L, (othersL S.rd S.wh).length = L := ⟨_, rfl⟩
      have HLe : Hid ((othersL S.rd S.wh).length = L) := hLe
      rw [hLe] at hL3 hlo3 hol hS3 ⊢
      clear h k6 k10 kz hL2 hS2 hLe
      by_cases hl0 : L = 0
      · subst hl0
        go_wp2_with fail
        refine (give_any lo _ kB mB aw cw vt2 (awayS S) n hL3.1 hlo3 (by simp [awayS, goneL, rdSub_length]; exact hrd) (by simp [awayS, goneL, HLe.out]; omega) hn (by simp [awayS, goneL, rdSub_length]; exact hwh)).mono ?_
        rintro e w4 ⟨rfl, a, c, vt4, hL4, hS4⟩
        have HN : Hid (∃ S' vt', BeginR S S' ∧ KLies lo w4 kB mB aw cw vt' S' (n + 1) ∧ Same lo w w4) := ⟨_, vt4, .alone how hwo HLe.out a c, hL4, hS3.trans hS4⟩
        clear hL4 hS4 hL3 hS3
        go_wp2
        refine ⟨rfl, .tuple #[], by simp [results, Try.results35, go_sem], rfl, HN.out⟩
      · have hlb : (((L : Nat) : Int) == 0) = false := by simp; omega
        have HN : Hid (∃ S' vt', BeginR S S' ∧ KLies lo (w2.setCell ⟨kB, 11, none⟩ (.int .i64 (L : Nat))) kB mB aw cw vt' S' (n + 1) ∧ Same lo w (w2.setCell ⟨kB, 11, none⟩ (.int .i64 (L : Nat)))) := ⟨_, vt2, .away how hwo (by rw [HLe.out]; exact hl0), ⟨hL3.1.lk, hL3.1.lm, hL3.1.k, hL3.1.r.mono (Nat.le_succ _), hL3.1.q, hL3.1.t, hL3.1.l⟩, hS3⟩
        clear hL3 hS3
        go_wp2
        refine ⟨rfl, .tuple #[], by simp [results, Try.results35, go_sem], rfl, HN.out⟩
  · have hob : (S.ow == -1) = false := by simp [how]
    go_enter Try.func35, Try.ntmps35
    go_wp2
    refine wp_region_held_drew (S := (fun w' => w'.cell? ⟨kB, 6, none⟩ = some (.int .i64 S.ow) ∧ w'.cell? ⟨kB, 10, none⟩ = some (.bool S.wo))) (by kernel_rfl) ?_ (fun hHeld => ?_)
    · exact ⟨k6, k10⟩
    refine wpAnyH_take (i := 0) (oi := { dst := some 7, op := Op.move (Operand.tmp 0), type := 47, pos := "l04_home.go:181", after := #[], guard := none }) (v := ?r1_v0) rfl (by kernel_rfl) (by kernel_rfl) (by kernel_rfl) (fun _ _ _ h => h) (Or.inl ⟨by rfl, ?r1_hy0⟩) (by assumption) ?r1_rest0
    case r1_hy0 => intro w hSw; (try dsimp only at hSw); go_simp; try (with_reducible rfl)
    simp only [Act.put, List.setIfInBounds_toArray, List.set_cons_zero, List.set_cons_succ]
    refine wpAnyH_take (i := 1) (oi := { dst := some 8, op := Op.move (Operand.tmp 0), type := 47, pos := "l04_home.go:181", after := #[], guard := none }) (v := ?r1_v1) rfl (by kernel_rfl) (by kernel_rfl) (by kernel_rfl) (fun _ _ _ h => h) (Or.inl ⟨by rfl, ?r1_hy1⟩) (by assumption) ?r1_rest1
    case r1_hy1 => intro w hSw; (try dsimp only at hSw); go_simp; try (with_reducible rfl)
    simp only [Act.put, List.setIfInBounds_toArray, List.set_cons_zero, List.set_cons_succ]
    refine wpAnyH_take (i := 2) (oi := { dst := some 9, op := Op.nilCheck (Operand.tmp 8), type := 0, pos := "l04_home.go:181", after := #[{ on := 1, ground := Ground.data }], guard := none }) (v := ?r1_v2) rfl (by kernel_rfl) (by kernel_rfl) (by kernel_rfl) (fun _ _ _ h => h) (Or.inl ⟨by rfl, ?r1_hy2⟩) (by assumption) ?r1_rest2
    case r1_hy2 => intro w hSw; (try dsimp only at hSw); go_simp; try (with_reducible rfl)
    simp only [Act.put, List.setIfInBounds_toArray, List.set_cons_zero, List.set_cons_succ]
    refine wpAnyH_take (i := 3) (oi := { dst := some 10, op := Op.fieldAddr 58 (Operand.tmp 9) 3, type := 0, pos := "l04_home.go:181", after := #[{ on := 2, ground := Ground.data }], guard := none }) (v := ?r1_v3) rfl (by kernel_rfl) (by kernel_rfl) (by kernel_rfl) (fun _ _ _ h => h) (Or.inl ⟨by rfl, ?r1_hy3⟩) (by assumption) ?r1_rest3
    case r1_hy3 => intro w hSw; (try dsimp only at hSw); go_simp; try (with_reducible rfl)
    simp only [Act.put, List.setIfInBounds_toArray, List.set_cons_zero, List.set_cons_succ]
    refine wpAnyH_take (i := 4) (oi := { dst := some 11, op := Op.load 3 (Operand.tmp 10), type := 3, pos := "l04_home.go:181", after := #[{ on := 3, ground := Ground.data }], guard := none }) (v := ?r1_v4) rfl (by kernel_rfl) (by kernel_rfl) (by kernel_rfl) (fun _ _ _ h => h) (Or.inl ⟨by rfl, ?r1_hy4⟩) (by assumption) ?r1_rest4
    case r1_hy4 => intro w hSw; (try dsimp only at hSw); go_simp; try (with_reducible rfl)
    simp only [Act.put, List.setIfInBounds_toArray, List.set_cons_zero, List.set_cons_succ]
    refine wpAnyH_take (i := 5) (oi := { dst := some 12, op := Op.move (Operand.tmp 0), type := 47, pos := "l04_home.go:181", after := #[], guard := none }) (v := ?r1_v5) rfl (by kernel_rfl) (by kernel_rfl) (by kernel_rfl) (fun _ _ _ h => h) (Or.inl ⟨by rfl, ?r1_hy5⟩) (by assumption) ?r1_rest5
    case r1_hy5 => intro w hSw; (try dsimp only at hSw); go_simp; try (with_reducible rfl)
    simp only [Act.put, List.setIfInBounds_toArray, List.set_cons_zero, List.set_cons_succ]
    refine wpAnyH_take (i := 6) (oi := { dst := some 13, op := Op.nilCheck (Operand.tmp 12), type := 0, pos := "l04_home.go:181", after := #[{ on := 5, ground := Ground.data }], guard := none }) (v := ?r1_v6) rfl (by kernel_rfl) (by kernel_rfl) (by kernel_rfl) (fun _ _ _ h => h) (Or.inl ⟨by rfl, ?r1_hy6⟩) (by assumption) ?r1_rest6
    case r1_hy6 => intro w hSw; (try dsimp only at hSw); go_simp; try (with_reducible rfl)
    simp only [Act.put, List.setIfInBounds_toArray, List.set_cons_zero, List.set_cons_succ]
    refine wpAnyH_take (i := 7) (oi := { dst := some 14, op := Op.fieldAddr 58 (Operand.tmp 13) 6, type := 0, pos := "l04_home.go:181", after := #[{ on := 6, ground := Ground.data }], guard := none }) (v := ?r1_v7) rfl (by kernel_rfl) (by kernel_rfl) (by kernel_rfl) (fun _ _ _ h => h) (Or.inl ⟨by rfl, ?r1_hy7⟩) (by assumption) ?r1_rest7
    case r1_hy7 => intro w hSw; (try dsimp only at hSw); go_simp; try (with_reducible rfl)
    simp only [Act.put, List.setIfInBounds_toArray, List.set_cons_zero, List.set_cons_succ]
    refine wpAnyH_take (i := 8) (oi := { dst := some 15, op := Op.fieldAddr 27 (Operand.tmp 14) 1, type := 0, pos := "l04_home.go:181", after := #[{ on := 7, ground := Ground.data }], guard := none }) (v := ?r1_v8) rfl (by kernel_rfl) (by kernel_rfl) (by kernel_rfl) (fun _ _ _ h => h) (Or.inl ⟨by rfl, ?r1_hy8⟩) (by assumption) ?r1_rest8
    case r1_hy8 => intro w hSw; (try dsimp only at hSw); go_simp; try (with_reducible rfl)
    simp only [Act.put, List.setIfInBounds_toArray, List.set_cons_zero, List.set_cons_succ]
    refine wpAnyH_take (i := 9) (oi := { dst := some 16, op := Op.load 4 (Operand.tmp 15), type := 4, pos := "l04_home.go:181", after := #[{ on := 8, ground := Ground.data }], guard := none }) (v := ?r1_v9) rfl (by kernel_rfl) (by kernel_rfl) (by kernel_rfl) (fun _ _ _ h => h) (Or.inl ⟨by rfl, ?r1_hy9⟩) (by assumption) ?r1_rest9
    case r1_hy9 => intro w hSw; (try dsimp only at hSw); go_simp; try (with_reducible rfl)
    simp only [Act.put, List.setIfInBounds_toArray, List.set_cons_zero, List.set_cons_succ]
    refine wpAnyH_take (i := 10) (oi := { dst := some 17, op := Op.build 34 #[(0, Operand.const (Value.int IntKind.i64 6)), (2, Operand.tmp 16)], type := 34, pos := "l04_home.go:181", after := #[{ on := 9, ground := Ground.data }], guard := none }) (v := ?r1_v10) rfl (by kernel_rfl) (by kernel_rfl) (by kernel_rfl) (fun _ _ _ h => h) (Or.inl ⟨by rfl, ?r1_hy10⟩) (by assumption) ?r1_rest10
    case r1_hy10 => intro w hSw; (try dsimp only at hSw); go_simp; try (with_reducible rfl)
    simp only [Act.put, List.setIfInBounds_toArray, List.set_cons_zero, List.set_cons_succ]
    refine wpAnyH_ready (rs := [11]) (by kernel_rfl) (by simp) ?_
    refine AllReadyH.cons (o := { dst := some 18, op := Op.call { callee := Callee.value (Operand.func 42), args := #[Operand.tmp 7, Operand.tmp 11, Operand.tmp 17], argTypes := #[47, 3, 34] }, type := 0, pos := "l04_home.go:181", after := #[{ on := 0, ground := Ground.data }, { on := 4, ground := Ground.data }, { on := 10, ground := Ground.data }], guard := none }) rfl (fun K2 hK2 => ?_) AllReadyH.nil
    go_simp
    refine (tell_any lo w.drew kB mB aw cw vt S n ⟨h.lk, h.lm, h.k, h.r, h.q, h.t, h.l⟩ hlo S.ow ⟨6, 0, S.wo, none, 0, []⟩ (World.ownsRow_nil _ _ _ _) (by omega)).mono ?_
    rintro e w2 ⟨rfl, vt2, hL2, hS2⟩
    go_wp2_with fail
    refine hK2.out _ _ ?_ (fun hHeld2 => ?_)
    · exact ⟨hL2.k.cell 6, hL2.k.cell 10⟩
    clear hK2 K2 hHeld
    have hHeld := hHeld2
    clear hHeld2
    try simp only [Act.put, List.setIfInBounds_toArray, List.set_cons_zero, List.set_cons_succ]
    refine wpAnyH_done (by kernel_rfl) ?_ _
    have HN : Hid (∃ S' vt', BeginR S S' ∧ KLies lo w2 kB mB aw cw vt' S' (n + 1) ∧ Same lo w w2) := ⟨_, vt2, .fetch how, ⟨hL2.lk, hL2.lm, hL2.k, hL2.r.mono (Nat.le_succ _), hL2.q, hL2.t, hL2.l⟩, ⟨hS2.os, hS2.tape, hS2.output, hS2.size, hS2.low, hS2.typ⟩⟩
    clear hL2 hS2 h hHeld
    go_wp2
    refine ⟨rfl, .tuple #[], by simp [results, Try.results35, go_sem], rfl, HN.out⟩
end Go.Proofs.Ytliihkdocbpolaa
