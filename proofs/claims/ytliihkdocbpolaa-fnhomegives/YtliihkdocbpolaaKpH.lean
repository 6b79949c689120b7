/- What impl's (keeper) home does. -/
import Derived.Test.YtliihkdocbpolaaKpC
import Derived.Test.YtliihkdocbpolaaHomT
namespace Go.Proofs.Ytliihkdocbpolaa
open Go.RowKit Go.Maps
set_option linter.unusedVariables false
set_option linter.unusedSimpArgs false

/-- Of the readers, those that have come so far. -/
def RdTo (rd : List Bool) (left : Lit → Bool) (bs : List Bool) : Prop :=
  bs.length = rd.length ∧ ∀ i : Nat, i < rd.length → bs.getD i false = (rd.getD i false && !left (.int .i64 i))

theorem RdTo.step {rd : List Bool} {left : Lit → Bool} {bs : List Bool} (h : RdTo rd left bs) {x : Nat} (hx : x < rd.length) (hr : rd.getD x false = true) : RdTo rd (fun z => left z && !z.sameKey (.int .i64 x)) (bs.set x true) := by
  refine ⟨by simp [h.1], fun i hi => ?_⟩
  have := h.2 i hi
  by_cases e : i = x
  · subst e
    simp [List.getD, h.1, hi, Lit.sameKey] at hr ⊢
    exact hr
  · have e' : ¬ (i : Int) = x := by omega
    have e2 : ¬ x = i := fun h => e h.symm
    simp [List.getD, List.getElem?_set, e2, Lit.sameKey, e'] at this ⊢
    exact this

theorem RdTo.last {rd : List Bool} {left : Lit → Bool} {bs : List Bool} (h : RdTo rd left bs) (hl : ∀ kl, left kl = false) : bs = rd := by
  refine List.ext_getElem h.1 fun i h1 h2 => ?_
  have := h.2 i h2
  simpa [List.getD, h1, h2, hl] using this

theorem bv_set (bs : List Bool) (x : Nat) (b : Bool) : bv (bs.set x b) = (bv bs).set x (.bool b) := by simp [bv, List.map_set]

theorem rdB_nat {rd : List Bool} {x : Int} (h : rdB rd x = true) : ∃ i : Nat, x = i ∧ i < rd.length ∧ rd.getD i false = true := by
  unfold rdB at h
  simp at h
  refine ⟨x.toNat, by omega, ?_, ?_⟩
  · have := h.2
    by_cases hl : x.toNat < rd.length
    · exact hl
    · rw [List.getElem?_eq_none (by omega)] at this
      simp at this
  · simpa [List.getD] using h.2

abbrev zeroHome : Array Value := #[.slice none 0 0, .int .i64 0, .slice none 0 0, .bool false, .int .i64 0, .bool false, .int .i64 0, .slice none 0 0]

abbrev set8 (w : World) (m : Nat) (v0 v1 v2 v3 v4 v5 v6 v7 : Value) : World := (((((((w.setCell ⟨m, 0, none⟩ v0).setCell ⟨m, 1, none⟩ v1).setCell ⟨m, 2, none⟩ v2).setCell ⟨m, 3, none⟩ v3).setCell ⟨m, 4, none⟩ v4).setCell ⟨m, 5, none⟩ v5).setCell ⟨m, 6, none⟩ v6).setCell ⟨m, 7, none⟩ v7
theorem set8_box {w : World} {m : Nat} {t : TypeId} {c0 c1 c2 c3 c4 c5 c6 c7 : Value} (h : Box w m #[c0, c1, c2, c3, c4, c5, c6, c7] t) (v0 v1 v2 v3 v4 v5 v6 v7 : Value) : Box (set8 w m v0 v1 v2 v3 v4 v5 v6 v7) m #[v0, v1, v2, v3, v4, v5, v6, v7] t := by
  have h0 : Box (w.setCell ⟨m, 0, none⟩ v0) m #[v0, c1, c2, c3, c4, c5, c6, c7] t := heap_setCell_same _ _ 0 _ _ _ h
  have h1 : Box ((w.setCell ⟨m, 0, none⟩ v0).setCell ⟨m, 1, none⟩ v1) m #[v0, v1, c2, c3, c4, c5, c6, c7] t := heap_setCell_same _ _ 1 _ _ _ h0
  have h2 : Box (((w.setCell ⟨m, 0, none⟩ v0).setCell ⟨m, 1, none⟩ v1).setCell ⟨m, 2, none⟩ v2) m #[v0, v1, v2, c3, c4, c5, c6, c7] t := heap_setCell_same _ _ 2 _ _ _ h1
  have h3 : Box ((((w.setCell ⟨m, 0, none⟩ v0).setCell ⟨m, 1, none⟩ v1).setCell ⟨m, 2, none⟩ v2).setCell ⟨m, 3, none⟩ v3) m #[v0, v1, v2, v3, c4, c5, c6, c7] t := heap_setCell_same _ _ 3 _ _ _ h2
  have h4 : Box (((((w.setCell ⟨m, 0, none⟩ v0).setCell ⟨m, 1, none⟩ v1).setCell ⟨m, 2, none⟩ v2).setCell ⟨m, 3, none⟩ v3).setCell ⟨m, 4, none⟩ v4) m #[v0, v1, v2, v3, v4, c5, c6, c7] t := heap_setCell_same _ _ 4 _ _ _ h3
  have h5 : Box ((((((w.setCell ⟨m, 0, none⟩ v0).setCell ⟨m, 1, none⟩ v1).setCell ⟨m, 2, none⟩ v2).setCell ⟨m, 3, none⟩ v3).setCell ⟨m, 4, none⟩ v4).setCell ⟨m, 5, none⟩ v5) m #[v0, v1, v2, v3, v4, v5, c6, c7] t := heap_setCell_same _ _ 5 _ _ _ h4
  have h6 : Box (((((((w.setCell ⟨m, 0, none⟩ v0).setCell ⟨m, 1, none⟩ v1).setCell ⟨m, 2, none⟩ v2).setCell ⟨m, 3, none⟩ v3).setCell ⟨m, 4, none⟩ v4).setCell ⟨m, 5, none⟩ v5).setCell ⟨m, 6, none⟩ v6) m #[v0, v1, v2, v3, v4, v5, v6, c7] t := heap_setCell_same _ _ 6 _ _ _ h5
  have h7 : Box ((((((((w.setCell ⟨m, 0, none⟩ v0).setCell ⟨m, 1, none⟩ v1).setCell ⟨m, 2, none⟩ v2).setCell ⟨m, 3, none⟩ v3).setCell ⟨m, 4, none⟩ v4).setCell ⟨m, 5, none⟩ v5).setCell ⟨m, 6, none⟩ v6).setCell ⟨m, 7, none⟩ v7) m #[v0, v1, v2, v3, v4, v5, v6, v7] t := heap_setCell_same _ _ 7 _ _ _ h6
  exact h7
theorem set8_far {w : World} {k : Nat} {cs : Array Value} {t : TypeId} (h : Box w k cs t) (m : Nat) (hne : ¬ k = m) (v0 v1 v2 v3 v4 v5 v6 v7 : Value) : Box (set8 w m v0 v1 v2 v3 v4 v5 v6 v7) k cs t := by
  repeat refine Box.far ?_ _ _ hne
  exact h
theorem set8_owns {w : World} {base e size : Nat} {v : Value} {n : Nat} {xs : List Value} (h : w.ownsRow base e size v n xs) (m : Nat) (hne : ∀ j, v.ownBlock = some j → m ≠ j) (v0 v1 v2 v3 v4 v5 v6 v7 : Value) : (set8 w m v0 v1 v2 v3 v4 v5 v6 v7).ownsRow base e size v n xs := by
  repeat refine owns_setCell ?_ hne _
  exact h
theorem set8_below {n : Nat} {w0 w : World} (h : Below n w0 w) (m : Nat) (hm : n ≤ m) (v0 v1 v2 v3 v4 v5 v6 v7 : Value) : Below n w0 (set8 w m v0 v1 v2 v3 v4 v5 v6 v7) := by
  repeat refine Below.setCell ?_ hm _
  exact h

set_option maxRecDepth 100000 in
set_option maxHeartbeats 2000000 in
theorem home_any (lo : Nat) (w : World) (kB mB : Nat) (aw : Option Addr) (cw : Nat) (vt : Value) (S : KS) (n : Nat) (h : KLies lo w kB mB aw cw vt S n) (hrd : S.rd.length ≤ 4) (hnd : S.nd = S.rd.length) (hws : S.ws.length ≤ 20) :
    Calls Try.prog 19 #[.pointer (some ⟨kB, 0, none⟩)] w fun e w' =>
      ∃ vl vr vq, e = .returned (.agg #[vl, .int .i64 S.ow, vr, .bool S.bz, .int .i64 S.wh, .bool S.wo, .int .i64 S.ak, vq]) ∧ w'.ownsRow w.heap.size 3 1 vl 4 ([S.x0, S.x1, S.x2, S.x3].map (Value.int .i64)) ∧ w'.ownsRow w.heap.size 4 1 vr S.rd.length (bv S.rd) ∧ w'.ownsRow w.heap.size 27 2 vq S.ws.length (wv S.ws) ∧ Below w.heap.size w w' := by
  obtain ⟨i0, hi0, hz0, hz1, hz2⟩ := info_parts info_bool'
  have b0 := bel_alloc (Below.refl w.heap.size w) (.cells zeroHome 30)
  have X0 := Box.new w zeroHome 30
  have h1 := h.below b0
  have k1 := h1.k.cell 1
  have kz := h1.k.lt
  have hkw := h.k.lt
  have hmw := h.r.lt
  obtain ⟨nd, hn⟩ : ∃ nd, S.rd.length = nd := ⟨_, rfl⟩
  rw [hn] at hnd
  have HN : Hid (S.rd.length = nd) := hn
  have hn4 : nd ≤ 4 := by omega
  clear hn
  simp [hnd] at k1
  rw [HN.out]
  go_enter Try.func19, Try.ntmps19
  go_wp2_with (at_make; refine wpList_make_full _ rfl (.tmp 8) (.tmp 8) 25 rfl (w.heap.size + 1) 4 i0 (.bool false) 1 Try.underlying25 hi0 hz0 hz1 .i64 .i64 _ _ nd rfl rfl rfl rfl (by rw [hz2]; omega) (by unfold maxLen; omega) (by simp) ?_)
  intro w1 ho1 hg1
  have hm0 : (madeCells #[Value.bool false] nd).toList = bv (List.replicate nd false) := by
    refine List.ext_getElem ?_ fun i h1 h2 => ?_
    · simp [size_madeCells, bv]
    · simp at h1
      simp [madeCells, Nat.mod_one, bv]
  rw [hm0] at ho1
  have hb1 : Below w.heap.size w w1 := b0.grown hg1 b0.size (fun k hk => by cases hk)
  have bW : Below (w.alloc (.cells zeroHome 30)).heap.size (w.alloc (.cells zeroHome 30)) w1 := (Below.refl _ _).grown hg1 (Nat.le_refl _) (fun k hk => by cases hk)
  replace X0 := X0.below bW
  have hL1 := h.below hb1
  have hz : w.heap.size + 2 ≤ w1.heap.size := by have := (ho1.lt (w.heap.size + 1) rfl).2; omega
  obtain ⟨D, hown, hD⟩ := hL1.r
  have HD : Hid (∀ i : Int, (Lit.int .i64 i).wf = true → Maps.has D (.int .i64 i) = rdB S.rd i) := hD
  have k7 := hL1.k.cell 7
  have kz1 := hL1.k.lt
  have hmB := hown.lt
  have HL1 : Hid (KLies lo w1 kB mB aw cw vt S n) := hL1
  clear bW hg1 b0 hm0 h1 k1 kz hD hL1
  go_wp2_with (at_range; refine wpList_range_own _ rfl _ 55 rfl 3 74 lawInt Try.underlying55 (unitElem (H := Unit)) mB n D rfl hown ?_; intro w2 hrg2 hg2 hs2)
  go_frame
  go_loopw [4] (fun v4 wr => ∃ left cnt bs, wr.ranges Try.prog 3 (unitElem (H := Unit)) mB w1.heap.size n D left cnt ∧ wr.ownsRow (w.heap.size + 1) 4 1 (.slice (some ⟨w.heap.size + 1, 0, none⟩) nd nd) nd (bv bs) ∧ RdTo S.rd left bs ∧ Below w.heap.size w wr ∧ Box wr w.heap.size zeroHome 30) (fun _ wr => wr.rangeLeft mB w1.heap.size)
  case atStart =>
    refine ⟨_, _, List.replicate nd false, hrg2, owns_ne ho1 hg2 (fun j hj e => by cases e), ⟨by simp [HN.out], fun i hi => ?_⟩, hb1.grown hg2 hb1.size (fun j hj => by cases hj), X0.kept hg2 (fun j hj => by cases hj)⟩
    have hi' : i < nd := by rw [← HN.out]; exact hi
    by_cases hr : S.rd.getD i false = true
    · have h1 : rdB S.rd (i : Int) = true := by unfold rdB; simpa using hr
      have := HD.out i (rdB_wf hrd h1)
      rw [h1] at this
      simp [List.getD, hi', this]
    · simp at hr
      simp [List.getD, hi']
      simp [hr]
  case round =>
    clear ho1 X0 hb1 k7 hg2 hs2 hrg2 HL1 hown
    obtain ⟨left, cnt, bs, hrg, ho, hc, hB, hX⟩ := hrel
    go_wp2_with (at_next; refine wpList_next_ranges _ rfl _ rfl 3 lawInt (unitElem (H := Unit)) (Value.int .i64) (fun (_ : Unit) => Value.agg #[]) (fun key kl hkey => by obtain ⟨x, rfl, _⟩ := Maps.keyOf_int_inv Try.underlying3 hkey; exact ⟨x, rfl⟩) (fun v y hv => ⟨(), (unitElem_inv hv).1⟩) mB w1.heap.size n D left cnt rfl hrg ?_ ?_)
    · intro hc0 hl0
      have e := hc.last hl0
      subst e
      have HR := h.below hB
      have hz3 : w.heap.size + 2 ≤ wr.heap.size := by have := (ho.lt (w.heap.size + 1) rfl).2; omega
      clear hrg hl0 hc0 hc h HD
      go_wp2_with fail
      refine wp_region_held_drew (S := (fun w' => w'.cell? ⟨kB, 6, none⟩ = some (.int .i64 S.ow) ∧ w'.cell? ⟨kB, 8, none⟩ = some (.bool S.bz) ∧ w'.cell? ⟨kB, 9, none⟩ = some (.int .i64 S.wh) ∧ w'.cell? ⟨kB, 10, none⟩ = some (.bool S.wo) ∧ w'.cell? ⟨kB, 11, none⟩ = some (.int .i64 S.ak) ∧ w'.cell? ⟨kB, 12, none⟩ = some (.slice aw S.ws.length cw))) (by kernel_rfl) ?_ (fun hHeld => ?_)
      · exact ⟨HR.k.cell 6, HR.k.cell 8, HR.k.cell 9, HR.k.cell 10, HR.k.cell 11, HR.k.cell 12⟩
      refine wpAnyH_take (i := 0) (oi := { dst := some 22, op := Op.move (Operand.tmp 0), type := 47, pos := "l04_home.go:106", after := #[], guard := none }) (v := ?r1_v0) rfl (by kernel_rfl) (by kernel_rfl) (by kernel_rfl) (fun _ _ _ h => h) (Or.inl ⟨by rfl, ?r1_hy0⟩) (by assumption) ?r1_rest0
      case r1_hy0 => intro w hSw; (try dsimp only at hSw); go_simp; try (with_reducible rfl)
      simp only [Act.put, List.setIfInBounds_toArray, List.set_cons_zero, List.set_cons_succ]
      refine wpAnyH_take (i := 1) (oi := { dst := some 23, op := Op.nilCheck (Operand.tmp 22), type := 0, pos := "l04_home.go:106", after := #[{ on := 0, ground := Ground.data }], guard := none }) (v := ?r1_v1) rfl (by kernel_rfl) (by kernel_rfl) (by kernel_rfl) (fun _ _ _ h => h) (Or.inl ⟨by rfl, ?r1_hy1⟩) (by assumption) ?r1_rest1
      case r1_hy1 => intro w hSw; (try dsimp only at hSw); go_simp; try (with_reducible rfl)
      simp only [Act.put, List.setIfInBounds_toArray, List.set_cons_zero, List.set_cons_succ]
      refine wpAnyH_take (i := 2) (oi := { dst := some 24, op := Op.fieldAddr 58 (Operand.tmp 23) 2, type := 0, pos := "l04_home.go:106", after := #[{ on := 1, ground := Ground.data }], guard := none }) (v := ?r1_v2) rfl (by kernel_rfl) (by kernel_rfl) (by kernel_rfl) (fun _ _ _ h => h) (Or.inl ⟨by rfl, ?r1_hy2⟩) (by assumption) ?r1_rest2
      case r1_hy2 => intro w hSw; (try dsimp only at hSw); go_simp; try (with_reducible rfl)
      simp only [Act.put, List.setIfInBounds_toArray, List.set_cons_zero, List.set_cons_succ]
      refine wpAnyH_take (i := 3) (oi := { dst := some 25, op := Op.slice 54 (Operand.tmp 24) none none none, type := 24, pos := "l04_home.go:106", after := #[{ on := 2, ground := Ground.data }], guard := none }) (v := ?r1_v3) rfl (by kernel_rfl) (by kernel_rfl) (by kernel_rfl) (fun _ _ _ h => h) (Or.inl ⟨by rfl, ?r1_hy3⟩) (by assumption) ?r1_rest3
      case r1_hy3 => intro w hSw; (try dsimp only at hSw); go_simp; try (with_reducible rfl)
      simp only [Act.put, List.setIfInBounds_toArray, List.set_cons_zero, List.set_cons_succ]
      refine wpAnyH_take (i := 5) (oi := { dst := some 27, op := Op.move (Operand.tmp 0), type := 47, pos := "l04_home.go:106", after := #[], guard := none }) (v := ?r1_v5) rfl (by kernel_rfl) (by kernel_rfl) (by kernel_rfl) (fun _ _ _ h => h) (Or.inl ⟨by rfl, ?r1_hy5⟩) (by assumption) ?r1_rest5
      case r1_hy5 => intro w hSw; (try dsimp only at hSw); go_simp; try (with_reducible rfl)
      simp only [Act.put, List.setIfInBounds_toArray, List.set_cons_zero, List.set_cons_succ]
      refine wpAnyH_take (i := 6) (oi := { dst := some 28, op := Op.nilCheck (Operand.tmp 27), type := 0, pos := "l04_home.go:106", after := #[{ on := 5, ground := Ground.data }], guard := none }) (v := ?r1_v6) rfl (by kernel_rfl) (by kernel_rfl) (by kernel_rfl) (fun _ _ _ h => h) (Or.inl ⟨by rfl, ?r1_hy6⟩) (by assumption) ?r1_rest6
      case r1_hy6 => intro w hSw; (try dsimp only at hSw); go_simp; try (with_reducible rfl)
      simp only [Act.put, List.setIfInBounds_toArray, List.set_cons_zero, List.set_cons_succ]
      refine wpAnyH_take (i := 7) (oi := { dst := some 29, op := Op.fieldAddr 58 (Operand.tmp 28) 3, type := 0, pos := "l04_home.go:106", after := #[{ on := 6, ground := Ground.data }], guard := none }) (v := ?r1_v7) rfl (by kernel_rfl) (by kernel_rfl) (by kernel_rfl) (fun _ _ _ h => h) (Or.inl ⟨by rfl, ?r1_hy7⟩) (by assumption) ?r1_rest7
      case r1_hy7 => intro w hSw; (try dsimp only at hSw); go_simp; try (with_reducible rfl)
      simp only [Act.put, List.setIfInBounds_toArray, List.set_cons_zero, List.set_cons_succ]
      refine wpAnyH_take (i := 8) (oi := { dst := some 30, op := Op.load 3 (Operand.tmp 29), type := 3, pos := "l04_home.go:106", after := #[{ on := 7, ground := Ground.data }], guard := none }) (v := ?r1_v8) rfl (by kernel_rfl) (by kernel_rfl) (by kernel_rfl) (fun _ _ _ h => h) (Or.inl ⟨by rfl, ?r1_hy8⟩) (by assumption) ?r1_rest8
      case r1_hy8 => intro w hSw; (try dsimp only at hSw); go_simp; try (with_reducible rfl)
      simp only [Act.put, List.setIfInBounds_toArray, List.set_cons_zero, List.set_cons_succ]
      refine wpAnyH_take (i := 9) (oi := { dst := some 31, op := Op.move (Operand.tmp 3), type := 25, pos := "l04_home.go:106", after := #[], guard := none }) (v := ?r1_v9) rfl (by kernel_rfl) (by kernel_rfl) (by kernel_rfl) (fun _ _ _ h => h) (Or.inl ⟨by rfl, ?r1_hy9⟩) (by assumption) ?r1_rest9
      case r1_hy9 => intro w hSw; (try dsimp only at hSw); go_simp; try (with_reducible rfl)
      simp only [Act.put, List.setIfInBounds_toArray, List.set_cons_zero, List.set_cons_succ]
      refine wpAnyH_take (i := 10) (oi := { dst := some 32, op := Op.move (Operand.tmp 0), type := 47, pos := "l04_home.go:106", after := #[], guard := none }) (v := ?r1_v10) rfl (by kernel_rfl) (by kernel_rfl) (by kernel_rfl) (fun _ _ _ h => h) (Or.inl ⟨by rfl, ?r1_hy10⟩) (by assumption) ?r1_rest10
      case r1_hy10 => intro w hSw; (try dsimp only at hSw); go_simp; try (with_reducible rfl)
      simp only [Act.put, List.setIfInBounds_toArray, List.set_cons_zero, List.set_cons_succ]
      refine wpAnyH_take (i := 11) (oi := { dst := some 33, op := Op.nilCheck (Operand.tmp 32), type := 0, pos := "l04_home.go:106", after := #[{ on := 10, ground := Ground.data }], guard := none }) (v := ?r1_v11) rfl (by kernel_rfl) (by kernel_rfl) (by kernel_rfl) (fun _ _ _ h => h) (Or.inl ⟨by rfl, ?r1_hy11⟩) (by assumption) ?r1_rest11
      case r1_hy11 => intro w hSw; (try dsimp only at hSw); go_simp; try (with_reducible rfl)
      simp only [Act.put, List.setIfInBounds_toArray, List.set_cons_zero, List.set_cons_succ]
      refine wpAnyH_take (i := 12) (oi := { dst := some 34, op := Op.fieldAddr 58 (Operand.tmp 33) 5, type := 0, pos := "l04_home.go:106", after := #[{ on := 11, ground := Ground.data }], guard := none }) (v := ?r1_v12) rfl (by kernel_rfl) (by kernel_rfl) (by kernel_rfl) (fun _ _ _ h => h) (Or.inl ⟨by rfl, ?r1_hy12⟩) (by assumption) ?r1_rest12
      case r1_hy12 => intro w hSw; (try dsimp only at hSw); go_simp; try (with_reducible rfl)
      simp only [Act.put, List.setIfInBounds_toArray, List.set_cons_zero, List.set_cons_succ]
      refine wpAnyH_take (i := 13) (oi := { dst := some 35, op := Op.load 4 (Operand.tmp 34), type := 4, pos := "l04_home.go:106", after := #[{ on := 12, ground := Ground.data }], guard := none }) (v := ?r1_v13) rfl (by kernel_rfl) (by kernel_rfl) (by kernel_rfl) (fun _ _ _ h => h) (Or.inl ⟨by rfl, ?r1_hy13⟩) (by assumption) ?r1_rest13
      case r1_hy13 => intro w hSw; (try dsimp only at hSw); go_simp; try (with_reducible rfl)
      simp only [Act.put, List.setIfInBounds_toArray, List.set_cons_zero, List.set_cons_succ]
      refine wpAnyH_take (i := 14) (oi := { dst := some 36, op := Op.move (Operand.tmp 0), type := 47, pos := "l04_home.go:106", after := #[], guard := none }) (v := ?r1_v14) rfl (by kernel_rfl) (by kernel_rfl) (by kernel_rfl) (fun _ _ _ h => h) (Or.inl ⟨by rfl, ?r1_hy14⟩) (by assumption) ?r1_rest14
      case r1_hy14 => intro w hSw; (try dsimp only at hSw); go_simp; try (with_reducible rfl)
      simp only [Act.put, List.setIfInBounds_toArray, List.set_cons_zero, List.set_cons_succ]
      refine wpAnyH_take (i := 15) (oi := { dst := some 37, op := Op.nilCheck (Operand.tmp 36), type := 0, pos := "l04_home.go:106", after := #[{ on := 14, ground := Ground.data }], guard := none }) (v := ?r1_v15) rfl (by kernel_rfl) (by kernel_rfl) (by kernel_rfl) (fun _ _ _ h => h) (Or.inl ⟨by rfl, ?r1_hy15⟩) (by assumption) ?r1_rest15
      case r1_hy15 => intro w hSw; (try dsimp only at hSw); go_simp; try (with_reducible rfl)
      simp only [Act.put, List.setIfInBounds_toArray, List.set_cons_zero, List.set_cons_succ]
      refine wpAnyH_take (i := 16) (oi := { dst := some 38, op := Op.fieldAddr 58 (Operand.tmp 37) 6, type := 0, pos := "l04_home.go:106", after := #[{ on := 15, ground := Ground.data }], guard := none }) (v := ?r1_v16) rfl (by kernel_rfl) (by kernel_rfl) (by kernel_rfl) (fun _ _ _ h => h) (Or.inl ⟨by rfl, ?r1_hy16⟩) (by assumption) ?r1_rest16
      case r1_hy16 => intro w hSw; (try dsimp only at hSw); go_simp; try (with_reducible rfl)
      simp only [Act.put, List.setIfInBounds_toArray, List.set_cons_zero, List.set_cons_succ]
      refine wpAnyH_take (i := 17) (oi := { dst := some 39, op := Op.load 27 (Operand.tmp 38), type := 27, pos := "l04_home.go:106", after := #[{ on := 16, ground := Ground.data }], guard := none }) (v := ?r1_v17) rfl (by kernel_rfl) (by kernel_rfl) (by kernel_rfl) (fun _ _ _ h => h) (Or.inl ⟨by rfl, ?r1_hy17⟩) (by assumption) ?r1_rest17
      case r1_hy17 => intro w hSw; (try dsimp only at hSw); go_simp; try (with_reducible rfl)
      simp only [Act.put, List.setIfInBounds_toArray, List.set_cons_zero, List.set_cons_succ]
      refine wpAnyH_take (i := 18) (oi := { dst := some 40, op := Op.move (Operand.tmp 0), type := 47, pos := "l04_home.go:106", after := #[], guard := none }) (v := ?r1_v18) rfl (by kernel_rfl) (by kernel_rfl) (by kernel_rfl) (fun _ _ _ h => h) (Or.inl ⟨by rfl, ?r1_hy18⟩) (by assumption) ?r1_rest18
      case r1_hy18 => intro w hSw; (try dsimp only at hSw); go_simp; try (with_reducible rfl)
      simp only [Act.put, List.setIfInBounds_toArray, List.set_cons_zero, List.set_cons_succ]
      refine wpAnyH_take (i := 19) (oi := { dst := some 41, op := Op.nilCheck (Operand.tmp 40), type := 0, pos := "l04_home.go:106", after := #[{ on := 18, ground := Ground.data }], guard := none }) (v := ?r1_v19) rfl (by kernel_rfl) (by kernel_rfl) (by kernel_rfl) (fun _ _ _ h => h) (Or.inl ⟨by rfl, ?r1_hy19⟩) (by assumption) ?r1_rest19
      case r1_hy19 => intro w hSw; (try dsimp only at hSw); go_simp; try (with_reducible rfl)
      simp only [Act.put, List.setIfInBounds_toArray, List.set_cons_zero, List.set_cons_succ]
      refine wpAnyH_take (i := 20) (oi := { dst := some 42, op := Op.fieldAddr 58 (Operand.tmp 41) 7, type := 0, pos := "l04_home.go:106", after := #[{ on := 19, ground := Ground.data }], guard := none }) (v := ?r1_v20) rfl (by kernel_rfl) (by kernel_rfl) (by kernel_rfl) (fun _ _ _ h => h) (Or.inl ⟨by rfl, ?r1_hy20⟩) (by assumption) ?r1_rest20
      case r1_hy20 => intro w hSw; (try dsimp only at hSw); go_simp; try (with_reducible rfl)
      simp only [Act.put, List.setIfInBounds_toArray, List.set_cons_zero, List.set_cons_succ]
      refine wpAnyH_take (i := 21) (oi := { dst := some 43, op := Op.load 3 (Operand.tmp 42), type := 3, pos := "l04_home.go:106", after := #[{ on := 20, ground := Ground.data }], guard := none }) (v := ?r1_v21) rfl (by kernel_rfl) (by kernel_rfl) (by kernel_rfl) (fun _ _ _ h => h) (Or.inl ⟨by rfl, ?r1_hy21⟩) (by assumption) ?r1_rest21
      case r1_hy21 => intro w hSw; (try dsimp only at hSw); go_simp; try (with_reducible rfl)
      simp only [Act.put, List.setIfInBounds_toArray, List.set_cons_zero, List.set_cons_succ]
      refine wpAnyH_take (i := 22) (oi := { dst := some 44, op := Op.move (Operand.tmp 0), type := 47, pos := "l04_home.go:106", after := #[], guard := none }) (v := ?r1_v22) rfl (by kernel_rfl) (by kernel_rfl) (by kernel_rfl) (fun _ _ _ h => h) (Or.inl ⟨by rfl, ?r1_hy22⟩) (by assumption) ?r1_rest22
      case r1_hy22 => intro w hSw; (try dsimp only at hSw); go_simp; try (with_reducible rfl)
      simp only [Act.put, List.setIfInBounds_toArray, List.set_cons_zero, List.set_cons_succ]
      refine wpAnyH_take (i := 23) (oi := { dst := some 45, op := Op.nilCheck (Operand.tmp 44), type := 0, pos := "l04_home.go:106", after := #[{ on := 22, ground := Ground.data }], guard := none }) (v := ?r1_v23) rfl (by kernel_rfl) (by kernel_rfl) (by kernel_rfl) (fun _ _ _ h => h) (Or.inl ⟨by rfl, ?r1_hy23⟩) (by assumption) ?r1_rest23
      case r1_hy23 => intro w hSw; (try dsimp only at hSw); go_simp; try (with_reducible rfl)
      simp only [Act.put, List.setIfInBounds_toArray, List.set_cons_zero, List.set_cons_succ]
      refine wpAnyH_take (i := 24) (oi := { dst := some 46, op := Op.fieldAddr 58 (Operand.tmp 45) 8, type := 0, pos := "l04_home.go:106", after := #[{ on := 23, ground := Ground.data }], guard := none }) (v := ?r1_v24) rfl (by kernel_rfl) (by kernel_rfl) (by kernel_rfl) (fun _ _ _ h => h) (Or.inl ⟨by rfl, ?r1_hy24⟩) (by assumption) ?r1_rest24
      case r1_hy24 => intro w hSw; (try dsimp only at hSw); go_simp; try (with_reducible rfl)
      simp only [Act.put, List.setIfInBounds_toArray, List.set_cons_zero, List.set_cons_succ]
      refine wpAnyH_take (i := 25) (oi := { dst := some 47, op := Op.load 56 (Operand.tmp 46), type := 56, pos := "l04_home.go:106", after := #[{ on := 24, ground := Ground.data }], guard := none }) (v := ?r1_v25) rfl (by kernel_rfl) (by kernel_rfl) (by kernel_rfl) (fun _ _ _ h => h) (Or.inl ⟨by rfl, ?r1_hy25⟩) (by assumption) ?r1_rest25
      case r1_hy25 => intro w hSw; (try dsimp only at hSw); go_simp; try (with_reducible rfl)
      simp only [Act.put, List.setIfInBounds_toArray, List.set_cons_zero, List.set_cons_succ]
      refine wpAnyH_ready (rs := [4]) (by kernel_rfl) (by simp) ?_
      refine AllReadyH.cons (o := { dst := some 26, op := Op.call { callee := Callee.value (Operand.func 28), args := #[Operand.tmp 25], argTypes := #[24] }, type := 24, pos := "l04_home.go:106", after := #[{ on := 3, ground := Ground.data }], guard := none }) rfl (fun K2 hK2 => ?_) AllReadyH.nil
      go_simp
      refine (copyInts_any (some ⟨kB, 2, none⟩) 4 [S.x0, S.x1, S.x2, S.x3] _ (by simp) ?_).mono ?_
      · exact words_row HR.k
      rintro e w5 ⟨v5, rfl, o5, b5⟩
      obtain ⟨a5, c5, rfl⟩ := owns_slice o5
      have b5 := bel_undrew b5
      go_wp2_with fail
      refine hK2.out _ _ ?_ (fun hHeld2 => ?_)
      · exact ⟨(HR.k.below b5).cell 6, (HR.k.below b5).cell 8, (HR.k.below b5).cell 9, (HR.k.below b5).cell 10, (HR.k.below b5).cell 11, (HR.k.below b5).cell 12⟩
      clear hK2 K2 hHeld
      have hHeld := hHeld2
      clear hHeld2
      try simp only [Act.put, List.setIfInBounds_toArray, List.set_cons_zero, List.set_cons_succ]
      refine wpAnyH_ready (rs := [26]) (by kernel_rfl) (by simp) ?_
      refine AllReadyH.cons (o := { dst := some 48, op := Op.call { callee := Callee.value (Operand.func 30), args := #[Operand.tmp 47], argTypes := #[28] }, type := 28, pos := "l04_home.go:106", after := #[{ on := 25, ground := Ground.data }, { on := 4, ground := Ground.chain }], guard := none }) rfl (fun K2 hK2 => ?_) AllReadyH.nil
      go_simp
      refine (copyWaits_any aw cw S.ws _ (by omega) (HR.q.1.below b5)).mono ?_
      rintro e w6 ⟨v6, rfl, o6, b6⟩
      obtain ⟨a6, c6, rfl⟩ := owns_slice o6
      go_wp2_with fail
      refine hK2.out _ _ ?_ (fun hHeld2 => ?_)
      · exact ⟨((HR.k.below b5).below b6).cell 6, ((HR.k.below b5).below b6).cell 8, ((HR.k.below b5).below b6).cell 9, ((HR.k.below b5).below b6).cell 10, ((HR.k.below b5).below b6).cell 11, ((HR.k.below b5).below b6).cell 12⟩
      clear hK2 K2 hHeld
      have hHeld := hHeld2
      clear hHeld2
      try simp only [Act.put, List.setIfInBounds_toArray, List.set_cons_zero, List.set_cons_succ]
      refine wpAnyH_take (i := 27) (oi := { dst := some 49, op := Op.build 30 #[(0, Operand.tmp 26), (1, Operand.tmp 30), (2, Operand.tmp 31), (3, Operand.tmp 35), (4, Operand.tmp 39), (5, Operand.tmp 43), (6, Operand.tmp 48)], type := 30, pos := "l04_home.go:106", after := #[{ on := 4, ground := Ground.data }, { on := 8, ground := Ground.data }, { on := 9, ground := Ground.data }, { on := 13, ground := Ground.data }, { on := 17, ground := Ground.data }, { on := 21, ground := Ground.data }, { on := 26, ground := Ground.data }], guard := none }) (v := ?r1_v27) rfl (by kernel_rfl) (by kernel_rfl) (by kernel_rfl) (fun _ _ _ h => h) (Or.inl ⟨by rfl, ?r1_hy27⟩) (by assumption) ?r1_rest27
      case r1_hy27 => intro w hSw; (try dsimp only at hSw); go_simp; try (with_reducible rfl)
      simp only [Act.put, List.setIfInBounds_toArray, List.set_cons_zero, List.set_cons_succ]
      have X6 := (hX.below b5).below b6
      have K6 := (HR.k.below b5).below b6
      have z6 := X6.lt
      have zk6 := K6.lt
      have hne : ¬ kB = w.heap.size := by omega
      have x0 := X6.cell 0
      have x1 := X6.cell 1
      have x2 := X6.cell 2
      have x3 := X6.cell 3
      have x4 := X6.cell 4
      have x5 := X6.cell 5
      have x6 := X6.cell 6
      have x7 := X6.cell 7
      have y0 := X6.frozen 0
      have y1 := X6.frozen 1
      have y2 := X6.frozen 2
      have y3 := X6.frozen 3
      have y4 := X6.frozen 4
      have y5 := X6.frozen 5
      have y6 := X6.frozen 6
      have y7 := X6.frozen 7
      have q6 := K6.cell 6
      have q8 := K6.cell 8
      have q9 := K6.cell 9
      have q10 := K6.cell 10
      have q11 := K6.cell 11
      have q12 := K6.cell 12
      refine wpAnyH_ready (rs := [28]) (by kernel_rfl) (by simp) ?_
      refine AllReadyH.cons (o := { dst := none, op := Op.store 30 (Operand.tmp 2) (Operand.tmp 49), type := 0, pos := "l04_home.go:106", after := #[{ on := 27, ground := Ground.data }, { on := 26, ground := Ground.chain }, { on := 0, ground := Ground.phase }, { on := 1, ground := Ground.phase }, { on := 2, ground := Ground.phase }, { on := 3, ground := Ground.phase }, { on := 4, ground := Ground.phase }, { on := 5, ground := Ground.phase }, { on := 6, ground := Ground.phase }, { on := 7, ground := Ground.phase }, { on := 8, ground := Ground.phase }, { on := 9, ground := Ground.phase }, { on := 10, ground := Ground.phase }, { on := 11, ground := Ground.phase }, { on := 12, ground := Ground.phase }, { on := 13, ground := Ground.phase }, { on := 14, ground := Ground.phase }, { on := 15, ground := Ground.phase }, { on := 16, ground := Ground.phase }, { on := 17, ground := Ground.phase }, { on := 18, ground := Ground.phase }, { on := 19, ground := Ground.phase }, { on := 20, ground := Ground.phase }, { on := 21, ground := Ground.phase }, { on := 22, ground := Ground.phase }, { on := 23, ground := Ground.phase }, { on := 24, ground := Ground.phase }, { on := 25, ground := Ground.phase }, { on := 26, ground := Ground.phase }, { on := 27, ground := Ground.phase }], guard := none }) rfl (fun K2 hK2 => ?_) AllReadyH.nil
      go_simp
      have K7 := set8_far K6 w.heap.size hne (.slice a5 4 c5) (.int .i64 S.ow) (.slice (some ⟨w.heap.size + 1, 0, none⟩) nd nd) (.bool S.bz) (.int .i64 S.wh) (.bool S.wo) (.int .i64 S.ak) (.slice a6 S.ws.length c6)
      refine hK2.out _ _ ?_ (fun hHeld2 => ?_)
      · exact ⟨K7.cell 6, K7.cell 8, K7.cell 9, K7.cell 10, K7.cell 11, K7.cell 12⟩
      clear hK2 K2 hHeld
      have hHeld := hHeld2
      clear hHeld2
      try simp only [Act.put, List.setIfInBounds_toArray, List.set_cons_zero, List.set_cons_succ]
      refine wpAnyH_done (by kernel_rfl) ?_ _
      have X7 := set8_box X6 (.slice a5 4 c5) (.int .i64 S.ow) (.slice (some ⟨w.heap.size + 1, 0, none⟩) nd nd) (.bool S.bz) (.int .i64 S.wh) (.bool S.wo) (.int .i64 S.ak) (.slice a6 S.ws.length c6)
      have t0 := X7.cell 0
      have t1 := X7.cell 1
      have t2 := X7.cell 2
      have t3 := X7.cell 3
      have t4 := X7.cell 4
      have t5 := X7.cell 5
      have t6 := X7.cell 6
      have t7 := X7.cell 7
      have B6 : Below w.heap.size w w6 := bel_trans (bel_trans hB b5) b6
      have O5 := set8_owns (owns_base (owns_below o5 b6) (show w.heap.size ≤ _ by simp; omega)) w.heap.size (fun j hj e => by have := (o5.lt j hj).1; simp at this; omega) (.slice a5 4 c5) (.int .i64 S.ow) (.slice (some ⟨w.heap.size + 1, 0, none⟩) nd nd) (.bool S.bz) (.int .i64 S.wh) (.bool S.wo) (.int .i64 S.ak) (.slice a6 S.ws.length c6)
      have O3 := set8_owns (owns_base (owns_below (owns_below ho b5) b6) (Nat.le_succ _)) w.heap.size (fun j hj e => by have h1 : w.heap.size + 1 = j := Option.some.inj hj; omega) (.slice a5 4 c5) (.int .i64 S.ow) (.slice (some ⟨w.heap.size + 1, 0, none⟩) nd nd) (.bool S.bz) (.int .i64 S.wh) (.bool S.wo) (.int .i64 S.ak) (.slice a6 S.ws.length c6)
      have O6 := set8_owns (owns_base o6 (show w.heap.size ≤ _ by have := b5.size; omega)) w.heap.size (fun j hj e => by have := (o6.lt j hj).1; have := b5.size; omega) (.slice a5 4 c5) (.int .i64 S.ow) (.slice (some ⟨w.heap.size + 1, 0, none⟩) nd nd) (.bool S.bz) (.int .i64 S.wh) (.bool S.wo) (.int .i64 S.ak) (.slice a6 S.ws.length c6)
      have B7 := set8_below B6 w.heap.size (Nat.le_refl _) (.slice a5 4 c5) (.int .i64 S.ow) (.slice (some ⟨w.heap.size + 1, 0, none⟩) nd nd) (.bool S.bz) (.int .i64 S.wh) (.bool S.wo) (.int .i64 S.ak) (.slice a6 S.ws.length c6)
      clear K7 X7 X6 K6 HR hX hHeld x0 y0 x1 y1 x2 y2 x3 y3 x4 y4 x5 y5 x6 y6 x7 y7 q6 q8 q9 q10 q11 q12 hB b5 b6 ho o5 o6 B6
      have HF : Hid (_ ∧ _ ∧ _ ∧ _) := ⟨O5, O3, O6, B7⟩
      clear O5 O3 O6 B7
      go_wp2
      refine bodyPost_ret (v := .agg #[.slice a5 4 c5, .int .i64 S.ow, .slice (some ⟨w.heap.size + 1, 0, none⟩) nd nd, .bool S.bz, .int .i64 S.wh, .bool S.wo, .int .i64 S.ak, .slice a6 S.ws.length c6]) (by simp [results, Try.results19, go_sem, t0, t1, t2, t3, t4, t5, t6, t7]) rfl ⟨_, _, _, rfl, HF.out.1, HF.out.2.1, HF.out.2.2.1, HF.out.2.2.2⟩
    · intro x u kl y w3 cnt3 hkey hlk hv hat hrg3 hlt hg3 hs3 hen
      obtain ⟨x', ex, rfl, hwx⟩ := Maps.keyOf_int_inv Try.underlying3 hkey
      cases ex
      have hrx : rdB S.rd x = true := by rw [← HD.out x hwx]; exact Maps.has_true_of_atKey hat
      obtain ⟨i, rfl, hi, hri⟩ := rdB_nat hrx
      have hc3 := hc.step hi hri
      rw [HN.out] at hi
      have hB3 : Below w.heap.size w w3 := hB.grown hg3 hB.size (fun j hj => by cases hj; omega)
      have ho3 := owns_ne ho hg3 (fun j hj e => by have h1 : w.heap.size + 1 = j := Option.some.inj hj; have h2 := Option.some.inj e; omega)
      have hX3 := hX.kept hg3 (fun j hj => by cases hj; omega)
      have hst := ho3.stored i (.bool true)
      rw [← bv_set] at hst
      have hrg4 := hrg3.kept hst.2 (fun e => by have h2 : mB = w.heap.size + 1 := Option.some.inj e; omega) (fun e => by have h2 : w1.heap.size = w.heap.size + 1 := Option.some.inj e; omega)
      have hB4 : Below w.heap.size w (w3.setCell ⟨w.heap.size + 1, i, none⟩ (.bool true)) := hB3.setCell (by simp) _
      have hX4 : Box (w3.setCell ⟨w.heap.size + 1, i, none⟩ (.bool true)) w.heap.size zeroHome 30 := hX3.far _ _ (by simp)
      have HM : Hid ((w3.setCell ⟨w.heap.size + 1, i, none⟩ (.bool true)).rangeLeft mB w1.heap.size < wr.rangeLeft mB w1.heap.size) := by show _ < _; rw [hrg4.left_eq, hrg.left_eq]; exact hlt
      have HR4 : Hid (_ ∧ _) := ⟨hrg4, hst.1⟩
      have hfz := ho3.frozenAt i
      obtain ⟨v0, hcell⟩ := cell_row ho3 hi
      have hi' : (i : Int) < (nd : Int) := by omega
      clear hrg3 hlt hg3 hs3 hc hrg ho hB hrg4 hst hX hX3 HD
      go_wp2
      go_roundw
      case rel => exact ⟨_, cnt3, _, HR4.out.1, HR4.out.2, hc3, hB4, hX4⟩
      case measure => exact HM.out
end Go.Proofs.Ytliihkdocbpolaa
