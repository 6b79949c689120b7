/- KpK and KpC: see the heads of the parts. -/
import Derived.Test.YtliihkdocbpolaaKpA
import Derived.Test.YtliihkdocbpolaaWords
import Derived.Test.YtliihkdocbpolaaCopy
/- What impl's (keeper) gotBack does. -/
namespace Go.Proofs.Ytliihkdocbpolaa
open Go.RowKit Go.Maps
set_option linter.unusedVariables false
set_option linter.unusedSimpArgs false

/-- A map's store as a step of a region that draws. -/
theorem step_mapUpdate_in {H : Type} {P : Program} (w : World) {ops : Array Oper} {o : Oper} {a : Act} {K2 : Act → World → Prop} {Q : Exit → Act → World → Prop} {E : Prop} (hg : o.guard = none) (m x v : Operand) (t : TypeId) (hop : o.op = Op.mapUpdate t m x v)
    (k e : TypeId) (K : Keyed P k) (ht : P.underlying t = some (.map k e)) (R : Value → Option (DataW H × List MemPlace)) (b n : Nat) (D : DataW H)
    (hm : a.eval m = .map (some b)) (hown : w.ownsMap P k R b n D) (hn : n < maxLen) (key val : Value) (kl : Lit) (hx : a.eval x = key) (hv : a.eval v = val) (hkey : keyOf P k key = some kl)
    (d : DataW H) (ps : List MemPlace) (hval : R val = some (d, ps))
    (hK : ∀ w', w'.ownsMap P k R b (n + 1) (D.put kl d) → w.mapTurned w' b → K2 (a.put o.dst undef) w') :
    if Region.wanted o (yielded ops a.tmps) = true then Oper.wp P o a w K2 Q else E := by
  have hw : Region.wanted o (yielded ops a.tmps) = true := by simp [Region.wanted, hg]
  rw [if_pos hw]
  obtain ⟨w', hrun, r1, r2⟩ := hown.store K ht hn hkey hval
  unfold Oper.wp
  simp [execOp, hop, hm, hx, hv, hrun, Result.andThen]
  exact hK w' r1 r2

/-- What was given back is kept. -/
def backS (S : KS) (y0 y1 y2 y3 : Int) : KS := { S with x0 := y0, x1 := y1, x2 := y2, x3 := y3, ow := -1, rd := if S.wo then S.rd else rdAdd S.rd S.ow }

set_option maxRecDepth 100000 in
set_option maxHeartbeats 1000000 in
theorem gotBack_no (lo : Nat) (w : World) (kB mB : Nat) (aw : Option Addr) (cw : Nat) (vt : Value) (S : KS) (n : Nat) (h : KLies lo w kB mB aw cw vt S n) (x mk mp : Int) (mo : Bool) (mv : Value) (hn : S.bz = false ∨ x ≠ S.ow ∨ S.ak ≠ 0) :
    Calls Try.prog 33 #[.pointer (some ⟨kB, 0, none⟩), .int .i64 x, .agg #[.int .i64 mk, .int .i64 mp, .bool mo, mv]] w fun e w' => e = .returned (.bool false) ∧ Below w.heap.size w w' := by
  have k8 := h.k.cell 8
  have k6 := h.k.cell 6
  have k11 := h.k.cell 11
  have kz := h.k.lt
  clear h
  cases hb : S.bz
  · simp [hb] at k8
    go_enter Try.func33, Try.ntmps33
    go_wp2
    go_ret
    exact ⟨rfl, bel_alloc (Below.refl _ _) _⟩
  · simp [hb] at k8
    by_cases h1 : x = S.ow
    · have h0 : ¬ S.ak = 0 := by
        rcases hn with hn | hn | hn
        · rw [hb] at hn; cases hn
        · exact absurd h1 hn
        · exact hn
      go_enter Try.func33, Try.ntmps33
      go_wp2
      go_ret
      exact ⟨rfl, bel_alloc (Below.refl _ _) _⟩
    · go_enter Try.func33, Try.ntmps33
      go_wp2
      go_ret
      exact ⟨rfl, bel_alloc (Below.refl _ _) _⟩

theorem KLies.words {lo : Nat} {w : World} {kB mB : Nat} {aw : Option Addr} {cw : Nat} {vt : Value} {S : KS} {n : Nat} (h : KLies lo w kB mB aw cw vt S n) (y0 y1 y2 y3 : Int) :
    KLies lo ((((w.setCell ⟨kB, 2, none⟩ (.int .i64 y0)).setCell ⟨kB, 3, none⟩ (.int .i64 y1)).setCell ⟨kB, 4, none⟩ (.int .i64 y2)).setCell ⟨kB, 5, none⟩ (.int .i64 y3)) kB mB aw cw vt { S with x0 := y0, x1 := y1, x2 := y2, x3 := y3 } n ∧
    Same lo w ((((w.setCell ⟨kB, 2, none⟩ (.int .i64 y0)).setCell ⟨kB, 3, none⟩ (.int .i64 y1)).setCell ⟨kB, 4, none⟩ (.int .i64 y2)).setCell ⟨kB, 5, none⟩ (.int .i64 y3)) := by
  have q1 := h.set 2 (.int .i64 y0) (S' := { S with x0 := y0 }) (heap_setCell_same _ _ 2 _ _ _ h.k) rfl rfl rfl
  have q2 := q1.1.set 3 (.int .i64 y1) (S' := { S with x0 := y0, x1 := y1 }) (heap_setCell_same _ _ 3 _ _ _ q1.1.k) rfl rfl rfl
  have q3 := q2.1.set 4 (.int .i64 y2) (S' := { S with x0 := y0, x1 := y1, x2 := y2 }) (heap_setCell_same _ _ 4 _ _ _ q2.1.k) rfl rfl rfl
  have q4 := q3.1.set 5 (.int .i64 y3) (S' := { S with x0 := y0, x1 := y1, x2 := y2, x3 := y3 }) (heap_setCell_same _ _ 5 _ _ _ q3.1.k) rfl rfl rfl
  exact ⟨q4.1, q1.2.trans (q2.2.trans (q3.2.trans q4.2))⟩

theorem KLies.mono {lo : Nat} {w : World} {kB mB : Nat} {aw : Option Addr} {cw : Nat} {vt : Value} {S : KS} {n n' : Nat} (h : KLies lo w kB mB aw cw vt S n) (hn : n ≤ n') : KLies lo w kB mB aw cw vt S n' :=
  ⟨h.lk, h.lm, h.k, h.r.mono hn, h.q, h.t, h.l⟩

set_option maxRecDepth 100000 in
set_option maxHeartbeats 2000000 in
theorem gotBack_yes (lo : Nat) (w : World) (kB mB : Nat) (aw : Option Addr) (cw : Nat) (vt : Value) (S : KS) (n : Nat) (h : KLies lo w kB mB aw cw vt S n) (hlo : lo ≤ w.heap.size) (hrd : S.rd.length ≤ 4) (hts : S.ts.length ≤ 50000) (hn : n < 100000) (hwh : 0 ≤ S.wh ∧ S.wh < S.rd.length) (how : 0 ≤ S.ow ∧ S.ow < S.rd.length) (mk mp : Int) (mo : Bool) (b off ca : Nat) (y0 y1 y2 y3 : Int)
    (h0 : w.cell? ⟨b, off, none⟩ = some (.int .i64 y0)) (h1 : w.cell? ⟨b, off + 1, none⟩ = some (.int .i64 y1)) (h2 : w.cell? ⟨b, off + 2, none⟩ = some (.int .i64 y2)) (h3 : w.cell? ⟨b, off + 3, none⟩ = some (.int .i64 y3)) (hw : [y0, y1, y2, y3].all wordB = true) (hb : S.bz = true) (hak : S.ak = 0) :
    Calls Try.prog 33 #[.pointer (some ⟨kB, 0, none⟩), .int .i64 S.ow, .agg #[.int .i64 mk, .int .i64 mp, .bool mo, .slice (some ⟨b, off, none⟩) 4 ca]] w fun e w' => e = .returned (.bool true) ∧ ∃ a c vt', KLies lo w' kB mB aw cw vt' (giveS (backS S y0 y1 y2 y3) a c) (n + 2) ∧ Same lo w w' := by
  have b0 := bel_alloc (Below.refl w.heap.size w) (.cells #[.int .i64 mk, .int .i64 mp, .bool mo, .slice (some ⟨b, off, none⟩) 4 ca] 34)
  have hwf : (Lit.int .i64 S.ow).wf = true := WalkArith.wf_i64 (by omega)
  have k8 := h.k.cell 8
  have k6 := h.k.cell 6
  have k11 := h.k.cell 11
  have kz := h.k.lt
  simp [hb] at k8
  simp [hak] at k11
  have hL0 : Hid (KLies lo (w.alloc (.cells #[.int .i64 mk, .int .i64 mp, .bool mo, .slice (some ⟨b, off, none⟩) 4 ca] 34)) kB mB aw cw vt S n) := h.below b0
  have bb : b < w.heap.size := lt_of_cell h0
  have g0 : (w.alloc (.cells #[.int .i64 mk, .int .i64 mp, .bool mo, .slice (some ⟨b, off, none⟩) 4 ca] 34)).cell? ⟨b, off, none⟩ = some (.int .i64 y0) := (b0.cell (p := ⟨b, off, none⟩) bb).trans h0
  have g1 : (w.alloc (.cells #[.int .i64 mk, .int .i64 mp, .bool mo, .slice (some ⟨b, off, none⟩) 4 ca] 34)).cell? ⟨b, off + 1, none⟩ = some (.int .i64 y1) := (b0.cell (p := ⟨b, off + 1, none⟩) bb).trans h1
  have g2 : (w.alloc (.cells #[.int .i64 mk, .int .i64 mp, .bool mo, .slice (some ⟨b, off, none⟩) 4 ca] 34)).cell? ⟨b, off + 2, none⟩ = some (.int .i64 y2) := (b0.cell (p := ⟨b, off + 2, none⟩) bb).trans h2
  have g3 : (w.alloc (.cells #[.int .i64 mk, .int .i64 mp, .bool mo, .slice (some ⟨b, off, none⟩) 4 ca] 34)).cell? ⟨b, off + 3, none⟩ = some (.int .i64 y3) := (b0.cell (p := ⟨b, off + 3, none⟩) bb).trans h3
  have HG : Hid (_ ∧ _ ∧ _ ∧ _) := ⟨g0, g1, g2, g3⟩
  clear g0 g1 g2 g3 h0 h1 h2 h3 bb
  go_enter Try.func33, Try.ntmps33
  go_wp2_with fail
  refine (words_four b off ca y0 y1 y2 y3 _ HG.out.1 HG.out.2.1 HG.out.2.2.1 HG.out.2.2.2).mono ?_
  rintro e w1 ⟨c0, c1, c2, c3, rfl, hc, b1⟩
  obtain ⟨rfl, rfl, rfl, rfl⟩ := hc hw
  have L1 := hL0.out.below b1
  have L5 := L1.words c0 c1 c2 c3
  have S5 : Hid (Same lo w _) := (Same.of_below b0).trans ((Same.of_below b1).trans L5.2)
  have z1 := L1.k.lt
  have zlo : Hid (lo ≤ w1.heap.size) := by have := b0.size; have := b1.size; show _ ≤ _; omega
  have u2 := L1.k.cell 2
  have u3 := L1.k.cell 3
  have u4 := L1.k.cell 4
  have u5 := L1.k.cell 5
  have v2 := L1.k.frozen 2
  have v3 := L1.k.frozen 3
  have v4 := L1.k.frozen 4
  have v5 := L1.k.frozen 5
  have L5' := L5.1
  clear HG hL0 b0 b1 k8 k6 k11 kz h hc
  have SB : Hid (∀ W : World, Same lo W W.drew) := fun W => Same.of_below (bel_drew (Below.refl _ _))
  cases hwo : S.wo
  · have u10 := L1.k.cell 10
    simp [hwo] at u10
    have e : Hid (backS S c0 c1 c2 c3 = { S with x0 := c0, x1 := c1, x2 := c2, x3 := c3, rd := rdAdd S.rd S.ow, ow := -1 }) := by show _ = _; simp [backS, hwo]
    have L6 := L5'.below (bel_drew (Below.refl _ _))
    have S6 := S5.out.trans (SB.out _)
    clear L1 L5 L5' SB S5
    go_wp2_with fail
    obtain ⟨D, oD, hD⟩ := L6.r
    clear u2 u3 u4 u5 v2 v3 v4 v5 u10
    refine wp_region_held_drew (S := (fun w' => w'.cell? ⟨kB, 7, none⟩ = some (.map (some mB)) ∧ w'.cell? ⟨kB, 6, none⟩ = some (.int .i64 S.ow))) (by kernel_rfl) ?_ (fun hHeld => ?_)
    · exact ⟨L6.k.cell 7, L6.k.cell 6⟩
    refine wpAnyH_take (i := 0) (oi := { dst := some 42, op := Op.move (Operand.tmp 0), type := 47, pos := "l04_home.go:145", after := #[], guard := none }) (v := ?r1_v0) rfl (by kernel_rfl) (by kernel_rfl) (by kernel_rfl) (fun _ _ _ h => h) (Or.inl ⟨by rfl, ?r1_hy0⟩) (by assumption) ?r1_rest0
    case r1_hy0 => intro w hSw; (try dsimp only at hSw); go_simp; try (with_reducible rfl)
    simp only [Act.put, List.setIfInBounds_toArray, List.set_cons_zero, List.set_cons_succ]
    refine wpAnyH_take (i := 1) (oi := { dst := some 43, op := Op.nilCheck (Operand.tmp 42), type := 0, pos := "l04_home.go:145", after := #[{ on := 0, ground := Ground.data }], guard := none }) (v := ?r1_v1) rfl (by kernel_rfl) (by kernel_rfl) (by kernel_rfl) (fun _ _ _ h => h) (Or.inl ⟨by rfl, ?r1_hy1⟩) (by assumption) ?r1_rest1
    case r1_hy1 => intro w hSw; (try dsimp only at hSw); go_simp; try (with_reducible rfl)
    simp only [Act.put, List.setIfInBounds_toArray, List.set_cons_zero, List.set_cons_succ]
    refine wpAnyH_take (i := 2) (oi := { dst := some 44, op := Op.fieldAddr 58 (Operand.tmp 43) 4, type := 0, pos := "l04_home.go:145", after := #[{ on := 1, ground := Ground.data }], guard := none }) (v := ?r1_v2) rfl (by kernel_rfl) (by kernel_rfl) (by kernel_rfl) (fun _ _ _ h => h) (Or.inl ⟨by rfl, ?r1_hy2⟩) (by assumption) ?r1_rest2
    case r1_hy2 => intro w hSw; (try dsimp only at hSw); go_simp; try (with_reducible rfl)
    simp only [Act.put, List.setIfInBounds_toArray, List.set_cons_zero, List.set_cons_succ]
    refine wpAnyH_take (i := 3) (oi := { dst := some 45, op := Op.load 55 (Operand.tmp 44), type := 55, pos := "l04_home.go:145", after := #[{ on := 2, ground := Ground.data }], guard := none }) (v := ?r1_v3) rfl (by kernel_rfl) (by kernel_rfl) (by kernel_rfl) (fun _ _ _ h => h) (Or.inl ⟨by rfl, ?r1_hy3⟩) (by assumption) ?r1_rest3
    case r1_hy3 => intro w hSw; (try dsimp only at hSw); go_simp; try (with_reducible rfl)
    simp only [Act.put, List.setIfInBounds_toArray, List.set_cons_zero, List.set_cons_succ]
    refine wpAnyH_take (i := 4) (oi := { dst := some 46, op := Op.move (Operand.tmp 0), type := 47, pos := "l04_home.go:145", after := #[], guard := none }) (v := ?r1_v4) rfl (by kernel_rfl) (by kernel_rfl) (by kernel_rfl) (fun _ _ _ h => h) (Or.inl ⟨by rfl, ?r1_hy4⟩) (by assumption) ?r1_rest4
    case r1_hy4 => intro w hSw; (try dsimp only at hSw); go_simp; try (with_reducible rfl)
    simp only [Act.put, List.setIfInBounds_toArray, List.set_cons_zero, List.set_cons_succ]
    refine wpAnyH_take (i := 5) (oi := { dst := some 47, op := Op.nilCheck (Operand.tmp 46), type := 0, pos := "l04_home.go:145", after := #[{ on := 4, ground := Ground.data }], guard := none }) (v := ?r1_v5) rfl (by kernel_rfl) (by kernel_rfl) (by kernel_rfl) (fun _ _ _ h => h) (Or.inl ⟨by rfl, ?r1_hy5⟩) (by assumption) ?r1_rest5
    case r1_hy5 => intro w hSw; (try dsimp only at hSw); go_simp; try (with_reducible rfl)
    simp only [Act.put, List.setIfInBounds_toArray, List.set_cons_zero, List.set_cons_succ]
    refine wpAnyH_take (i := 6) (oi := { dst := some 48, op := Op.fieldAddr 58 (Operand.tmp 47) 3, type := 0, pos := "l04_home.go:145", after := #[{ on := 5, ground := Ground.data }], guard := none }) (v := ?r1_v6) rfl (by kernel_rfl) (by kernel_rfl) (by kernel_rfl) (fun _ _ _ h => h) (Or.inl ⟨by rfl, ?r1_hy6⟩) (by assumption) ?r1_rest6
    case r1_hy6 => intro w hSw; (try dsimp only at hSw); go_simp; try (with_reducible rfl)
    simp only [Act.put, List.setIfInBounds_toArray, List.set_cons_zero, List.set_cons_succ]
    refine wpAnyH_take (i := 7) (oi := { dst := some 49, op := Op.load 3 (Operand.tmp 48), type := 3, pos := "l04_home.go:145", after := #[{ on := 6, ground := Ground.data }], guard := none }) (v := ?r1_v7) rfl (by kernel_rfl) (by kernel_rfl) (by kernel_rfl) (fun _ _ _ h => h) (Or.inl ⟨by rfl, ?r1_hy7⟩) (by assumption) ?r1_rest7
    case r1_hy7 => intro w hSw; (try dsimp only at hSw); go_simp; try (with_reducible rfl)
    simp only [Act.put, List.setIfInBounds_toArray, List.set_cons_zero, List.set_cons_succ]
    refine wpAnyH_take (i := 8) (oi := { dst := some 50, op := Op.build 74 #[], type := 74, pos := "l04_home.go:145", after := #[], guard := none }) (v := ?r1_v8) rfl (by kernel_rfl) (by kernel_rfl) (by kernel_rfl) (fun _ _ _ h => h) (Or.inl ⟨by rfl, ?r1_hy8⟩) (by assumption) ?r1_rest8
    case r1_hy8 => intro w hSw; (try dsimp only at hSw); go_simp; try (with_reducible rfl)
    simp only [Act.put, List.setIfInBounds_toArray, List.set_cons_zero, List.set_cons_succ]
    refine wpAnyH_ready (rs := [9]) (by kernel_rfl) (by simp) ?_
    refine AllReadyH.cons (o := { dst := none, op := Op.mapUpdate 55 (Operand.tmp 45) (Operand.tmp 49) (Operand.tmp 50), type := 0, pos := "l04_home.go:145", after := #[{ on := 3, ground := Ground.data }, { on := 7, ground := Ground.data }, { on := 8, ground := Ground.data }, { on := 0, ground := Ground.phase }, { on := 1, ground := Ground.phase }, { on := 2, ground := Ground.phase }, { on := 3, ground := Ground.phase }, { on := 4, ground := Ground.phase }, { on := 5, ground := Ground.phase }, { on := 6, ground := Ground.phase }, { on := 7, ground := Ground.phase }, { on := 8, ground := Ground.phase }], guard := none }) rfl (fun K2 hK2 => ?_) AllReadyH.nil
    refine step_mapUpdate_in _ rfl _ _ _ 55 rfl 3 74 lawInt Try.underlying55 (unitElem (H := Unit)) mB n D rfl oD (by unfold maxLen; omega) _ _ _ rfl rfl (keyOf_int_mk Try.underlying3 hwf) (.agg []) [] unitElem_mk ?_
    intro w3 oD3 hturn3
    have T3 := L6.turn hturn3.grown (SetAt.add hD oD.isMap how trivial oD3)
    refine hK2.out _ _ ?_ (fun hHeld2 => ?_)
    · exact ⟨T3.1.k.cell 7, T3.1.k.cell 6⟩
    clear hK2 K2 hHeld
    have hHeld := hHeld2
    clear hHeld2
    try simp only [Act.put, List.setIfInBounds_toArray, List.set_cons_zero, List.set_cons_succ]
    refine wpAnyH_done (by kernel_rfl) ?_ _
    have q6 := T3.1.set 6 (.int .i64 (-1)) (S' := { S with x0 := c0, x1 := c1, x2 := c2, x3 := c3, rd := rdAdd S.rd S.ow, ow := -1 }) (heap_setCell_same _ _ 6 _ _ _ T3.1.k) rfl rfl rfl
    have S7 := S6.trans (T3.2.trans q6.2)
    have z3 := T3.1.k.lt
    have u6 := T3.1.k.cell 6
    have v6 := T3.1.k.frozen 6
    have zz : lo ≤ (w3.setCell ⟨kB, 6, none⟩ (.int .i64 (-1))).heap.size := by have := S7.size; omega
    have HQ : Hid (_ ∧ _) := ⟨q6.1, S7⟩
    clear T3 q6 S6 S7 L6 hHeld oD hD oD3 hturn3
    go_wp2_with fail
    refine (give_any lo _ kB mB aw cw vt _ (n + 1) HQ.out.1 zz (by simpa [rdAdd_length] using hrd) hts (by omega) (by simpa [rdAdd_length] using hwh)).mono ?_
    rintro e7 w7 ⟨rfl, a7, c7, vt7, L7, S7⟩
    have HF : Hid (_ ∧ _) := ⟨L7, HQ.out.2.trans S7⟩
    clear L7 S7 HQ zz u6 v6 z3
    go_wp2
    go_ret
    rw [e.out]
    exact ⟨rfl, _, _, _, HF.out.1, HF.out.2⟩
  · have u10 := L1.k.cell 10
    simp [hwo] at u10
    have e : Hid (backS S c0 c1 c2 c3 = { S with x0 := c0, x1 := c1, x2 := c2, x3 := c3, ow := -1 }) := by show _ = _; simp [backS, hwo]
    have q6 := L5'.set 6 (.int .i64 (-1)) (S' := { S with x0 := c0, x1 := c1, x2 := c2, x3 := c3, ow := -1 }) (heap_setCell_same _ _ 6 _ _ _ L5'.k) rfl rfl rfl
    have u6 := L1.k.cell 6
    have v6 := L1.k.frozen 6
    have HQ : Hid (_ ∧ _) := ⟨q6.1, S5.out.trans q6.2⟩
    clear L1 L5 L5' q6 S5
    go_wp2_with fail
    refine (give_any lo _ kB mB aw cw vt _ n HQ.out.1 (by simpa using zlo.out) hrd hts (by omega) hwh).mono ?_
    rintro e7 w7 ⟨rfl, a7, c7, vt7, L7, S7⟩
    have HF : Hid (_ ∧ _) := ⟨L7.mono (Nat.le_succ _), HQ.out.2.trans S7⟩
    clear L7 S7 HQ u2 u3 u4 u5 v2 v3 v4 v5 u6 v6 u10
    go_wp2
    go_ret
    rw [e.out]
    exact ⟨rfl, _, _, _, HF.out.1, HF.out.2⟩
end Go.Proofs.Ytliihkdocbpolaa

/- What impl's copyList does to those who wait; the loop of (keeper) home. -/
namespace Go.Proofs.Ytliihkdocbpolaa
open Go.RowKit Go.Maps
set_option linter.unusedVariables false

theorem vrow_src {w : World} {a : Option Addr} {vs : List Value} (h : VRow w a vs) (h0 : 0 < vs.length) : ∃ b off, a = some ⟨b, off, none⟩ ∧ ∀ j v, vs[j]? = some v → w.cell? ((⟨b, off, none⟩ : Addr).add j) = some v := by
  obtain ⟨b, off, rfl, hc⟩ := h.2 0 _ (List.getElem?_eq_getElem h0)
  refine ⟨b, off, rfl, fun j v hv => ?_⟩
  obtain ⟨b', off', e, hc'⟩ := h.2 j v hv
  simp at e
  obtain ⟨rfl, rfl⟩ := e
  rw [addr_add]
  exact hc'

theorem wv_one (ws : List (Int × Bool)) : ∀ v ∈ wv ws, v.oneCell' = true := by
  induction ws with
  | nil => simp [wv]
  | cons p ws ih =>
    intro v hv
    rw [wv_cons] at hv
    simp at hv
    rcases hv with rfl | rfl | hv
    · rfl
    · rfl
    · exact ih v hv

set_option maxRecDepth 100000 in
set_option maxHeartbeats 1000000 in
theorem copyWaits_any (a : Option Addr) (ca : Nat) (ws : List (Int × Bool)) (w : World) (hsm : ws.length ≤ 1048577) (ha : VRow w a (wv ws)) :
    Calls Try.prog 30 #[.slice a ws.length ca] w fun e w' => ∃ v, e = .returned v ∧ w'.ownsRow w.heap.size 27 2 v ws.length (wv ws) ∧ Below w.heap.size w w' := by
  obtain ⟨i0, hi, hz0, hz1, hz2⟩ := info_parts info_wait'
  obtain ⟨n, hn⟩ : ∃ n, ws.length = n := ⟨_, rfl⟩
  have HN : Hid (ws.length = n) := hn
  rw [hn] at hsm ⊢
  clear hn
  by_cases h0 : n = 0
  · subst h0
    have : ws = [] := List.length_eq_zero_iff.1 HN.out
    subst this
    go_enter Try.func30, Try.ntmps30
    go_wp2
    go_ret
    exact ⟨_, rfl, World.ownsRow_nil _ _ _ _, Below.refl _ _⟩
  · have h0' : (0 : Int) < n := by omega
    go_enter Try.func30, Try.ntmps30
    go_wp2_with (at_make; refine wpList_make_full _ rfl (.tmp 8) (.tmp 8) 28 rfl w.heap.size 27 i0 (.agg #[.int .i64 0, .bool false]) 2 Try.underlying28 hi hz0 hz1 .i64 .i64 _ _ n rfl rfl rfl rfl (by rw [hz2]; omega) (by unfold maxLen; omega) (Nat.le_refl _) ?_)
    intro w1 ho hg
    obtain ⟨zs, ho⟩ : ∃ zs, w1.ownsRow w.heap.size 27 2 (.slice (some ⟨w.heap.size, 0, none⟩) n n) n zs := ⟨_, ho⟩
    have hb1 : Below w.heap.size w w1 := (Below.refl _ _).grown hg (Nat.le_refl _) (fun k hk => by cases hk)
    clear hg
    obtain ⟨ba, oa, rfl, hsrc⟩ := vrow_src (ha.below hb1) (by have := HN.out; rw [wv_length]; omega)
    have hcl : (wv ws).length = n * 2 := by rw [wv_length, HN.out]
    clear ha
    have hone := wv_one ws
    go_wp2_with (guard_target =~ wpList _ _ _ (Oper.mk _ (Op.call ⟨Callee.builtin Builtin.copy, _, _⟩) _ _ _ _ :: _) _ _; refine wpList_copy_fullYtliihkdocbpolaa rfl (.tmp 10) (.tmp 11) 28 28 rfl 27 Try.underlying28 2 (by rw [hi]; simp [hz1]) w.heap.size w.heap.size n ca ⟨ba, oa, none⟩ rfl rfl zs ho (wv ws) hcl hsrc hone ?_)
    · intro w2 o2 g2
      have hb2 := hb1.grown g2 hb1.size (fun k hk => by simp at hk; omega)
      clear g2 hb1 ho hsrc
      go_wp2
      go_ret
      exact ⟨_, rfl, o2, hb2⟩
end Go.Proofs.Ytliihkdocbpolaa
