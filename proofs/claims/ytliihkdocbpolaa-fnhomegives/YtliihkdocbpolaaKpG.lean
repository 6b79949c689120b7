/- What impl's (keeper) give does. -/
import Derived.Test.YtliihkdocbpolaaKpS
import Derived.Test.YtliihkdocbpolaaCopy
namespace Go.Proofs.Ytliihkdocbpolaa
open Go.RowKit Go.Maps
set_option linter.unusedVariables false

/-- A cell of the home's own variable is written. -/
theorem KLies.set {lo : Nat} {w : World} {kB mB : Nat} {aw : Option Addr} {cw : Nat} {vt : Value} {S S' : KS} {n : Nat} (h : KLies lo w kB mB aw cw vt S n) (i : Nat) (u : Value)
    (hX : Box (w.setCell ⟨kB, i, none⟩ u) kB (kcells S' mB aw cw vt) 58) (e1 : S'.rd = S.rd) (e2 : S'.ws = S.ws) (e3 : S'.ts = S.ts) :
    KLies lo (w.setCell ⟨kB, i, none⟩ u) kB mB aw cw vt S' n ∧ Same lo w (w.setCell ⟨kB, i, none⟩ u) := by
  have hS : Same lo w (w.setCell ⟨kB, i, none⟩ u) := by
    refine ⟨rfl, rfl, rfl, by simp, fun j hj hs => Below.heap_setCell _ _ _ _ (by have := h.lk; simp; omega), fun j cs t fr hj h1 h2 => ?_⟩
    have hne : j ≠ kB := fun e => by
      subst e
      have := h.k
      unfold Box at this
      rw [this] at hj
      simp at hj
      exact h1 hj.2.1.symm
    rw [Below.heap_setCell _ _ _ _ hne]
    exact hj
  have nk := box_ne h.k h.t (by decide)
  refine ⟨⟨h.lk, h.lm, hX, ?_, ?_, ?_, ?_⟩, hS⟩
  · rw [e1]
    obtain ⟨D, oD, hD⟩ := h.r
    exact ⟨D, oD.setCell (fun e => by
      obtain ⟨es, cl, hb, _⟩ := oD
      have hk := h.k
      unfold Box at hk
      simp only at e
      rw [e, hk] at hb
      simp at hb) _, hD⟩
  · rw [e2]
    exact h.q.same hS
  · rw [e3]
    exact owns_setCell h.t (fun j hj e => nk (by rw [hj, ← e])) _
  · rw [e3]
    exact fun t ht => owns_same (h.l t ht) hS (by decide) (by decide)

theorem words_row {w : World} {kB mB : Nat} {aw : Option Addr} {cw : Nat} {vt : Value} {S : KS} (h : Box w kB (kcells S mB aw cw vt) 58) : Row .i64 w (some ⟨kB, 2, none⟩) [S.x0, S.x1, S.x2, S.x3] := by
  refine ⟨by simp, fun i hi => ⟨kB, 2, rfl, ?_⟩⟩
  simp at hi
  obtain rfl | rfl | rfl | rfl : i = 0 ∨ i = 1 ∨ i = 2 ∨ i = 3 := by omega
  · exact h.cell 2
  · exact h.cell 3
  · exact h.cell 4
  · exact h.cell 5

theorem SetAt.mono {w : World} {mB n n' : Nat} {rd : List Bool} (h : SetAt w mB rd n) (hn : n ≤ n') : SetAt w mB rd n' := by
  obtain ⟨D, o, hd⟩ := h
  exact ⟨D, o.mono hn, hd⟩

/-- A reader is laid into the set. -/
theorem SetAt.add {w' : World} {mB n : Nat} {rd : List Bool} {D : DataW Unit} (hd : ∀ i : Int, (Lit.int .i64 i).wf = true → Maps.has D (.int .i64 i) = rdB rd i) (hm : IsMap D) {x : Int} (hx : 0 ≤ x ∧ x < rd.length) (hk : WideAt.IsKeyLit (.int .i64 x)) {d : DataW Unit} (o : w'.ownsMap Try.prog 3 (unitElem (H := Unit)) mB n (D.put (.int .i64 x) d)) : SetAt w' mB (rdAdd rd x) n := by
  refine ⟨_, o, fun i hi => ?_⟩
  rw [rdAdd_B rd x hx]
  by_cases e : i = x
  · subst e
    rw [Maps.has_put_same hm hk]
    simp
  · rw [Maps.has_put_other (by simpa using e), hd i hi]
    simp [e]

def dataM (S : KS) (a : Option Addr) (c : Nat) : M := ⟨3, S.pg, S.wo, a, c, [S.x0, S.x1, S.x2, S.x3]⟩
/-- It is given. -/
def giveS (S : KS) (a : Option Addr) (c : Nat) : KS :=
  { S with ts := S.ts ++ [(S.wh, dataM S a c)], ow := if S.wo then S.wh else S.ow, rd := if S.wo then rdSub S.rd [S.wh] else rdAdd S.rd S.wh, bz := false, wh := 0, wo := false }

set_option maxRecDepth 100000 in
set_option maxHeartbeats 2000000 in
theorem give_any (lo : Nat) (w : World) (kB mB : Nat) (aw : Option Addr) (cw : Nat) (vt : Value) (S : KS) (n : Nat) (h : KLies lo w kB mB aw cw vt S n) (hlo : lo ≤ w.heap.size) (hrd : S.rd.length ≤ 4) (hts : S.ts.length ≤ 50000) (hn : n ≤ 100000) (hwh : 0 ≤ S.wh ∧ S.wh < S.rd.length) :
    Calls Try.prog 41 #[.pointer (some ⟨kB, 0, none⟩)] w fun e w' =>
      e = .returned (.tuple #[]) ∧ ∃ a c vt', KLies lo w' kB mB aw cw vt' (giveS S a c) (n + 1) ∧ Same lo w w' := by
  have hwf : (Lit.int .i64 S.wh).wf = true := WalkArith.wf_i64 (by omega)
  have k9 := h.k.cell 9
  have k10 := h.k.cell 10
  have kz := h.k.lt
  have hw4 := words_row h.k
  go_enter Try.func41, Try.ntmps41
  go_wp2
  refine wp_region_held_drew (S := (fun w' => w'.cell? ⟨kB, 10, none⟩ = some (.bool S.wo))) (by kernel_rfl) ?_ (fun hHeld => ?_)
  · exact k10
  refine wpAnyH_take (i := 0) (oi := { dst := some 8, op := Op.move (Operand.tmp 0), type := 47, pos := "l04_home.go:159", after := #[], guard := none }) (v := ?r1_v0) rfl (by kernel_rfl) (by kernel_rfl) (by kernel_rfl) (fun _ _ _ h => h) (Or.inl ⟨by rfl, ?r1_hy0⟩) (by assumption) ?r1_rest0
  case r1_hy0 => intro w hSw; (try dsimp only at hSw); go_simp; try (with_reducible rfl)
  simp only [Act.put, List.setIfInBounds_toArray, List.set_cons_zero, List.set_cons_succ]
  refine wpAnyH_take (i := 1) (oi := { dst := some 9, op := Op.move (Operand.tmp 2), type := 3, pos := "l04_home.go:159", after := #[], guard := none }) (v := ?r1_v1) rfl (by kernel_rfl) (by kernel_rfl) (by kernel_rfl) (fun _ _ _ h => h) (Or.inl ⟨by rfl, ?r1_hy1⟩) (by assumption) ?r1_rest1
  case r1_hy1 => intro w hSw; (try dsimp only at hSw); go_simp; try (with_reducible rfl)
  simp only [Act.put, List.setIfInBounds_toArray, List.set_cons_zero, List.set_cons_succ]
  refine wpAnyH_take (i := 2) (oi := { dst := some 10, op := Op.move (Operand.tmp 0), type := 47, pos := "l04_home.go:159", after := #[], guard := none }) (v := ?r1_v2) rfl (by kernel_rfl) (by kernel_rfl) (by kernel_rfl) (fun _ _ _ h => h) (Or.inl ⟨by rfl, ?r1_hy2⟩) (by assumption) ?r1_rest2
  case r1_hy2 => intro w hSw; (try dsimp only at hSw); go_simp; try (with_reducible rfl)
  simp only [Act.put, List.setIfInBounds_toArray, List.set_cons_zero, List.set_cons_succ]
  refine wpAnyH_take (i := 3) (oi := { dst := some 11, op := Op.nilCheck (Operand.tmp 10), type := 0, pos := "l04_home.go:159", after := #[{ on := 2, ground := Ground.data }], guard := none }) (v := ?r1_v3) rfl (by kernel_rfl) (by kernel_rfl) (by kernel_rfl) (fun _ _ _ h => h) (Or.inl ⟨by rfl, ?r1_hy3⟩) (by assumption) ?r1_rest3
  case r1_hy3 => intro w hSw; (try dsimp only at hSw); go_simp; try (with_reducible rfl)
  simp only [Act.put, List.setIfInBounds_toArray, List.set_cons_zero, List.set_cons_succ]
  refine wpAnyH_take (i := 4) (oi := { dst := some 12, op := Op.fieldAddr 58 (Operand.tmp 11) 6, type := 0, pos := "l04_home.go:159", after := #[{ on := 3, ground := Ground.data }], guard := none }) (v := ?r1_v4) rfl (by kernel_rfl) (by kernel_rfl) (by kernel_rfl) (fun _ _ _ h => h) (Or.inl ⟨by rfl, ?r1_hy4⟩) (by assumption) ?r1_rest4
  case r1_hy4 => intro w hSw; (try dsimp only at hSw); go_simp; try (with_reducible rfl)
  simp only [Act.put, List.setIfInBounds_toArray, List.set_cons_zero, List.set_cons_succ]
  refine wpAnyH_take (i := 5) (oi := { dst := some 13, op := Op.fieldAddr 27 (Operand.tmp 12) 1, type := 0, pos := "l04_home.go:159", after := #[{ on := 4, ground := Ground.data }], guard := none }) (v := ?r1_v5) rfl (by kernel_rfl) (by kernel_rfl) (by kernel_rfl) (fun _ _ _ h => h) (Or.inl ⟨by rfl, ?r1_hy5⟩) (by assumption) ?r1_rest5
  case r1_hy5 => intro w hSw; (try dsimp only at hSw); go_simp; try (with_reducible rfl)
  simp only [Act.put, List.setIfInBounds_toArray, List.set_cons_zero, List.set_cons_succ]
  refine wpAnyH_take (i := 6) (oi := { dst := some 14, op := Op.load 4 (Operand.tmp 13), type := 4, pos := "l04_home.go:159", after := #[{ on := 5, ground := Ground.data }], guard := none }) (v := ?r1_v6) rfl (by kernel_rfl) (by kernel_rfl) (by kernel_rfl) (fun _ _ _ h => h) (Or.inl ⟨by rfl, ?r1_hy6⟩) (by assumption) ?r1_rest6
  case r1_hy6 => intro w hSw; (try dsimp only at hSw); go_simp; try (with_reducible rfl)
  simp only [Act.put, List.setIfInBounds_toArray, List.set_cons_zero, List.set_cons_succ]
  refine wpAnyH_take (i := 7) (oi := { dst := some 15, op := Op.move (Operand.tmp 0), type := 47, pos := "l04_home.go:159", after := #[], guard := none }) (v := ?r1_v7) rfl (by kernel_rfl) (by kernel_rfl) (by kernel_rfl) (fun _ _ _ h => h) (Or.inl ⟨by rfl, ?r1_hy7⟩) (by assumption) ?r1_rest7
  case r1_hy7 => intro w hSw; (try dsimp only at hSw); go_simp; try (with_reducible rfl)
  simp only [Act.put, List.setIfInBounds_toArray, List.set_cons_zero, List.set_cons_succ]
  refine wpAnyH_take (i := 8) (oi := { dst := some 16, op := Op.nilCheck (Operand.tmp 15), type := 0, pos := "l04_home.go:159", after := #[{ on := 7, ground := Ground.data }], guard := none }) (v := ?r1_v8) rfl (by kernel_rfl) (by kernel_rfl) (by kernel_rfl) (fun _ _ _ h => h) (Or.inl ⟨by rfl, ?r1_hy8⟩) (by assumption) ?r1_rest8
  case r1_hy8 => intro w hSw; (try dsimp only at hSw); go_simp; try (with_reducible rfl)
  simp only [Act.put, List.setIfInBounds_toArray, List.set_cons_zero, List.set_cons_succ]
  refine wpAnyH_take (i := 9) (oi := { dst := some 17, op := Op.fieldAddr 58 (Operand.tmp 16) 2, type := 0, pos := "l04_home.go:159", after := #[{ on := 8, ground := Ground.data }], guard := none }) (v := ?r1_v9) rfl (by kernel_rfl) (by kernel_rfl) (by kernel_rfl) (fun _ _ _ h => h) (Or.inl ⟨by rfl, ?r1_hy9⟩) (by assumption) ?r1_rest9
  case r1_hy9 => intro w hSw; (try dsimp only at hSw); go_simp; try (with_reducible rfl)
  simp only [Act.put, List.setIfInBounds_toArray, List.set_cons_zero, List.set_cons_succ]
  refine wpAnyH_take (i := 10) (oi := { dst := some 18, op := Op.slice 54 (Operand.tmp 17) none none none, type := 24, pos := "l04_home.go:159", after := #[{ on := 9, ground := Ground.data }], guard := none }) (v := ?r1_v10) rfl (by kernel_rfl) (by kernel_rfl) (by kernel_rfl) (fun _ _ _ h => h) (Or.inl ⟨by rfl, ?r1_hy10⟩) (by assumption) ?r1_rest10
  case r1_hy10 => intro w hSw; (try dsimp only at hSw); go_simp; try (with_reducible rfl)
  simp only [Act.put, List.setIfInBounds_toArray, List.set_cons_zero, List.set_cons_succ]
  refine wpAnyH_ready (rs := [11]) (by kernel_rfl) (by simp) ?_
  refine AllReadyH.cons (o := { dst := some 19, op := Op.call { callee := Callee.value (Operand.func 28), args := #[Operand.tmp 18], argTypes := #[24] }, type := 24, pos := "l04_home.go:159", after := #[{ on := 10, ground := Ground.data }], guard := none }) rfl (fun K2 hK2 => ?_) AllReadyH.nil
  go_simp
  refine (copyInts_any (some ⟨kB, 2, none⟩) 4 [S.x0, S.x1, S.x2, S.x3] _ (by simp) ?_).mono ?_
  · exact hw4
  rintro e w1 ⟨v1, rfl, o1, b1⟩
  obtain ⟨a1, c1, rfl⟩ := owns_slice o1
  have b1 := bel_undrew b1
  go_wp2_with fail
  refine hK2.out _ _ ?_ (fun hHeld2 => ?_)
  · exact (h.k.below b1).cell 10
  clear hK2 K2 hHeld
  have hHeld := hHeld2
  clear hHeld2
  try simp only [Act.put, List.setIfInBounds_toArray, List.set_cons_zero, List.set_cons_succ]
  refine wpAnyH_take (i := 12) (oi := { dst := some 20, op := Op.build 34 #[(0, Operand.const (Value.int IntKind.i64 3)), (2, Operand.tmp 14), (3, Operand.tmp 19)], type := 34, pos := "l04_home.go:159", after := #[{ on := 6, ground := Ground.data }, { on := 11, ground := Ground.data }], guard := none }) (v := ?r1_v12) rfl (by kernel_rfl) (by kernel_rfl) (by kernel_rfl) (fun _ _ _ h => h) (Or.inl ⟨by rfl, ?r1_hy12⟩) (by assumption) ?r1_rest12
  case r1_hy12 => intro w hSw; (try dsimp only at hSw); go_simp; try (with_reducible rfl)
  simp only [Act.put, List.setIfInBounds_toArray, List.set_cons_zero, List.set_cons_succ]
  refine wpAnyH_ready (rs := [13]) (by kernel_rfl) (by simp) ?_
  refine AllReadyH.cons (o := { dst := some 21, op := Op.call { callee := Callee.value (Operand.func 42), args := #[Operand.tmp 8, Operand.tmp 9, Operand.tmp 20], argTypes := #[47, 3, 34] }, type := 0, pos := "l04_home.go:159", after := #[{ on := 0, ground := Ground.data }, { on := 1, ground := Ground.data }, { on := 12, ground := Ground.data }, { on := 11, ground := Ground.chain }], guard := none }) rfl (fun K2 hK2 => ?_) AllReadyH.nil
  go_simp
  refine (tell_any lo w1 kB mB aw cw vt S n (h.below b1) (by have := b1.size; omega) S.wh ⟨3, 0, S.wo, a1, c1, [S.x0, S.x1, S.x2, S.x3]⟩ (owns_base o1 (by simpa using hlo)) (by omega)).mono ?_
  rintro e w2 ⟨rfl, vt2, hL2, hS2⟩
  go_wp2_with fail
  refine hK2.out _ _ ?_ (fun hHeld2 => ?_)
  · exact hL2.k.cell 10
  clear hK2 K2 hHeld
  have hHeld := hHeld2
  clear hHeld2
  try simp only [Act.put, List.setIfInBounds_toArray, List.set_cons_zero, List.set_cons_succ]
  refine wpAnyH_done (by kernel_rfl) ?_ _
  have hS12 : Hid (Same lo w w2) := (Same.of_below b1).trans hS2
  clear hHeld hS2 b1 o1 k9 k10 kz hw4 h
  have k10 := hL2.k.cell 10
  have kz := hL2.k.lt
  have k7 := hL2.k.cell 7
  have kf6 := hL2.k.frozen 6
  have kc6 := hL2.k.cell 6
  cases hwo : S.wo
  · obtain ⟨D, oD, hD⟩ := hL2.r
    have HNX : Hid (∀ w3, w3.ownsMap Try.prog 3 (unitElem (H := Unit)) mB (n + 1) (D.put (.int .i64 S.wh) (.agg [])) → w2.grownBy w3 (some mB) → KLies lo (((w3.setCell ⟨kB, 8, none⟩ (.bool false)).setCell ⟨kB, 9, none⟩ (.int .i64 0)).setCell ⟨kB, 10, none⟩ (.bool false)) kB mB aw cw vt2 (giveS S a1 c1) (n + 1) ∧ Same lo w (((w3.setCell ⟨kB, 8, none⟩ (.bool false)).setCell ⟨kB, 9, none⟩ (.int .i64 0)).setCell ⟨kB, 10, none⟩ (.bool false)) ∧ (w3.cell? ⟨kB, 8, none⟩ = some (.bool S.bz) ∧ w3.cell? ⟨kB, 9, none⟩ = some (.int .i64 S.wh) ∧ w3.cell? ⟨kB, 10, none⟩ = some (.bool S.wo) ∧ w3.frozen? ⟨kB, 8, none⟩ = false ∧ w3.frozen? ⟨kB, 9, none⟩ = false ∧ w3.frozen? ⟨kB, 10, none⟩ = false)) := fun w3 o3 g3 => by
      obtain ⟨a1', a2'⟩ := hL2.turn g3 (SetAt.add hD oD.isMap hwh trivial o3)
      have q1 := a1'.set 8 (.bool false) (S' := { S with ts := S.ts ++ [(S.wh, dataM S a1 c1)], rd := rdAdd S.rd S.wh, bz := false }) (heap_setCell_same _ _ 8 _ _ _ a1'.k) rfl rfl rfl
      have q2 := q1.1.set 9 (.int .i64 0) (S' := { S with ts := S.ts ++ [(S.wh, dataM S a1 c1)], rd := rdAdd S.rd S.wh, bz := false, wh := 0 }) (heap_setCell_same _ _ 9 _ _ _ q1.1.k) rfl rfl rfl
      have q3 := q2.1.set 10 (.bool false) (S' := { S with ts := S.ts ++ [(S.wh, dataM S a1 c1)], rd := rdAdd S.rd S.wh, bz := false, wh := 0, wo := false }) (heap_setCell_same _ _ 10 _ _ _ q2.1.k) rfl rfl rfl
      have e : giveS S a1 c1 = { S with ts := S.ts ++ [(S.wh, dataM S a1 c1)], rd := rdAdd S.rd S.wh, bz := false, wh := 0, wo := false } := by simp [giveS, hwo]
      rw [e]
      exact ⟨q3.1, hS12.out.trans (a2'.trans (q1.2.trans (q2.2.trans q3.2))), a1'.k.cell 8, a1'.k.cell 9, a1'.k.cell 10, a1'.k.frozen 8, a1'.k.frozen 9, a1'.k.frozen 10⟩
    clear hL2 hS12 hD
    go_wp2_with (at_mapUpdate; refine wpList_mapUpdate_in _ rfl _ _ _ 55 rfl 3 74 lawInt Try.underlying55 (unitElem (H := Unit)) mB n D rfl oD (by unfold maxLen; omega) _ _ _ rfl rfl (keyOf_int_mk Try.underlying3 hwf) (.agg []) [] unitElem_mk ?_; intro w3 oD3 hturn3; obtain ⟨n1, n2, n3, n4, n5, n6, n7, n8⟩ := HNX.out w3 oD3 hturn3.grown; have HN : Hid (_ ∧ _) := ⟨n1, n2⟩; clear HNX oD3 hturn3 n1 n2)
    refine ⟨rfl, .tuple #[], by simp [results, Try.results41, go_sem], rfl, _, _, _, HN.out.1, HN.out.2⟩
  · have hL3 := hL2.set 6 (.int .i64 S.wh) (S' := { S with ts := S.ts ++ [(S.wh, dataM S a1 c1)], ow := S.wh }) (heap_setCell_same _ _ 6 _ _ _ hL2.k) rfl rfl rfl
    obtain ⟨D, oD, hD⟩ := hL3.1.r
    have HNX : Hid (∀ w3, w3.ownsMap Try.prog 3 (unitElem (H := Unit)) mB n (D.del (.int .i64 S.wh)) → (w2.setCell ⟨kB, 6, none⟩ (.int .i64 S.wh)).grownBy w3 (some mB) → KLies lo (((w3.setCell ⟨kB, 8, none⟩ (.bool false)).setCell ⟨kB, 9, none⟩ (.int .i64 0)).setCell ⟨kB, 10, none⟩ (.bool false)) kB mB aw cw vt2 (giveS S a1 c1) (n + 1) ∧ Same lo w (((w3.setCell ⟨kB, 8, none⟩ (.bool false)).setCell ⟨kB, 9, none⟩ (.int .i64 0)).setCell ⟨kB, 10, none⟩ (.bool false)) ∧ (w3.cell? ⟨kB, 8, none⟩ = some (.bool S.bz) ∧ w3.cell? ⟨kB, 9, none⟩ = some (.int .i64 S.wh) ∧ w3.cell? ⟨kB, 10, none⟩ = some (.bool S.wo) ∧ w3.frozen? ⟨kB, 8, none⟩ = false ∧ w3.frozen? ⟨kB, 9, none⟩ = false ∧ w3.frozen? ⟨kB, 10, none⟩ = false)) := fun w3 o3 g3 => by
      obtain ⟨a1', a2'⟩ := hL3.1.turn g3 ((SetAt.del (rd := S.rd) (ks := []) (fun i hi => by rw [rdSub_nil]; exact hD i hi) o3).mono (Nat.le_succ _))
      have q1 := a1'.set 8 (.bool false) (S' := { S with ts := S.ts ++ [(S.wh, dataM S a1 c1)], ow := S.wh, rd := rdSub S.rd [S.wh], bz := false }) (heap_setCell_same _ _ 8 _ _ _ a1'.k) rfl rfl rfl
      have q2 := q1.1.set 9 (.int .i64 0) (S' := { S with ts := S.ts ++ [(S.wh, dataM S a1 c1)], ow := S.wh, rd := rdSub S.rd [S.wh], bz := false, wh := 0 }) (heap_setCell_same _ _ 9 _ _ _ q1.1.k) rfl rfl rfl
      have q3 := q2.1.set 10 (.bool false) (S' := { S with ts := S.ts ++ [(S.wh, dataM S a1 c1)], ow := S.wh, rd := rdSub S.rd [S.wh], bz := false, wh := 0, wo := false }) (heap_setCell_same _ _ 10 _ _ _ q2.1.k) rfl rfl rfl
      have e : giveS S a1 c1 = { S with ts := S.ts ++ [(S.wh, dataM S a1 c1)], ow := S.wh, rd := rdSub S.rd [S.wh], bz := false, wh := 0, wo := false } := by simp [giveS, hwo]
      rw [e]
      exact ⟨q3.1, hS12.out.trans (hL3.2.trans (a2'.trans (q1.2.trans (q2.2.trans q3.2)))), a1'.k.cell 8, a1'.k.cell 9, a1'.k.cell 10, a1'.k.frozen 8, a1'.k.frozen 9, a1'.k.frozen 10⟩
    clear hL2 hS12 hD hL3
    go_wp2_with (at_delete; refine wpList_delete_own _ rfl _ _ 55 3 rfl 74 lawInt Try.underlying55 (unitElem (H := Unit)) mB n D rfl oD _ _ rfl (keyOf_int_mk Try.underlying3 hwf) ?_; intro w3 oD3 hturn3; obtain ⟨n1, n2, n3, n4, n5, n6, n7, n8⟩ := HNX.out w3 oD3 hturn3.grown; have HN : Hid (_ ∧ _) := ⟨n1, n2⟩; clear HNX oD3 hturn3 n1 n2)
    refine ⟨rfl, .tuple #[], by simp [results, Try.results41, go_sem], rfl, _, _, _, HN.out.1, HN.out.2⟩
end Go.Proofs.Ytliihkdocbpolaa
