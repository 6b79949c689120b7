/- impl's NodeNew, walked. -/
import Derived.Test.YtfeabhknkoifeaaNdN
namespace Go.Proofs.Ytfeabhknkoifeaa
open Go.RowKit
set_option linter.unusedVariables false

theorem keepc {w w' : World} {m k : Nat} {v : Value} (b : Below w.drew.heap.size w.drew w') (h : w.drew.cell? ⟨m, k, none⟩ = some v) : w'.cell? ⟨m, k, none⟩ = some v := (b.cell (p := ⟨m, k, none⟩) (lt_of_cell h)).trans h

set_option maxRecDepth 100000 in
set_option maxHeartbeats 8000000 in
theorem implNodeNew_any (id nodes : Int) (w : World) : Calls Try.prog 28 #[.int .i64 id, .int .i64 nodes] w (NNewP id nodes w) := by
  cases hb : nodeB id nodes
  · have HB : Hid (nodeB id nodes = false) := hb
    clear hb
    go_enter Try.func28, Try.ntmps28
    go_wp2_with fail
    refine (isNode_n id nodes _).mono ?_
    rintro e w1 ⟨rfl, h⟩
    subst h
    rw [HB.out]
    go_wp2
    refine bodyPost_ret (v := .tuple #[.agg #[.int .i64 0, .slice none 0 0, .slice none 0 0, .slice none 0 0, .slice none 0 0], .bool false]) (by simp [results, Try.results28, go_sem]) rfl (nnew_bad HB.out ?_)
    exact bel_alloc (Below.refl _ _) _
  · obtain ⟨n, hn, h1, h4⟩ : ∃ n : Nat, nodes = (n : Int) ∧ 1 ≤ n ∧ n ≤ 4 := by
      have : (1 ≤ nodes ∧ nodes ≤ 4) := by have h := hb; simp [nodeB, inB] at h; omega
      exact ⟨nodes.toNat, by omega, by omega, by omega⟩
    subst hn
    have HB : Hid (nodeB id n = true) := hb
    have HI : Hid (inB n 1 4 = true) := by show _ = _; simp [inB]; omega
    clear hb
    obtain ⟨zf, hzf⟩ : ∃ z, madeCells (Value.agg #[.int .i64 0, .slice none 0 0, .bool false]).cells (6 * 3) = z := ⟨_, rfl⟩
    obtain ⟨zh, hzh⟩ : ∃ z, madeCells (Value.agg #[.slice none 0 0, .int .i64 0, .slice none 0 0, .bool false, .int .i64 0, .bool false, .int .i64 0, .slice none 0 0]).cells (6 * 8) = z := ⟨_, rfl⟩
    obtain ⟨zo, hzo⟩ : ∃ z, madeCells (Value.agg #[.int .i64 0, .slice none 0 0]).cells (n * 2) = z := ⟨_, rfl⟩
    obtain ⟨zi, hzi⟩ : ∃ z, madeCells (Value.agg #[.int .i64 0]).cells (n * 1) = z := ⟨_, rfl⟩
    have mf := make_all 47 101 _ 3 40 Try.underlying47 info_frame2 6 (by decide) (by decide)
    have mh := make_all 48 46 _ 8 112 Try.underlying48 info_home2 6 (by decide) (by decide)
    have mo := make_all 49 106 _ 2 32 Try.underlying49 info_sender2 n (by omega) (by omega)
    have mi := make_all 50 109 _ 1 8 Try.underlying50 info_receiver2 n (by omega) (by omega)
    rw [hzf] at mf
    rw [hzh] at mh
    rw [hzo] at mo
    rw [hzi] at mi
    have MF : Hid (∀ W : World, (Instr.makeSlice 47 (.int .i64 6) (.int .i64 6)).run Try.prog W = .ok (.slice (some ⟨W.heap.size, 0, none⟩) 6 6) (W.alloc (.cells zf 101))) := mf
    have MH : Hid (∀ W : World, (Instr.makeSlice 48 (.int .i64 6) (.int .i64 6)).run Try.prog W = .ok (.slice (some ⟨W.heap.size, 0, none⟩) 6 6) (W.alloc (.cells zh 46))) := mh
    have MO : Hid _ := mo
    have MI : Hid _ := mi
    have HZ : Hid (zf.size = 6 * 3 ∧ zh.size = 6 * 8 ∧ zo.size = n * 2 ∧ zi.size = n * 1) := ⟨by rw [← hzf]; exact size_madeCells _ _, by rw [← hzh]; exact size_madeCells _ _, by rw [← hzo]; exact size_madeCells _ _, by rw [← hzi]; exact size_madeCells _ _⟩
    have HC : Hid (zf.toList = chunks 6 (fun _ => f0 0 false) ∧ zh.toList = chunks 6 (fun _ => [.slice none 0 0, .int .i64 0, .slice none 0 0, .bool false, .int .i64 0, .bool false, .int .i64 0, .slice none 0 0]) ∧ zo.toList = chunks n (fun _ => s0 0) ∧ zi.toList = chunks n (fun _ => gcells 0)) :=
      ⟨by rw [← hzf]; exact made_chunks _ 3 6 rfl (by decide), by rw [← hzh]; exact made_chunks _ 8 6 rfl (by decide), by rw [← hzo]; exact made_chunks _ 2 n rfl (by decide), by rw [← hzi]; exact made_chunks _ 1 n rfl (by decide)⟩
    clear mf mh mo mi hzf hzh hzo hzi
    have bA := bel_alloc (Below.refl w.heap.size w) (.cells #[.int .i64 0, .slice none 0 0, .slice none 0 0, .slice none 0 0, .slice none 0 0] 52)
    have X0 := Box.new w #[.int .i64 0, .slice none 0 0, .slice none 0 0, .slice none 0 0, .slice none 0 0] 52
    go_enter Try.func28, Try.ntmps28
    go_wp2_with fail
    refine (isNode_n id n _).mono ?_
    rintro e w1 ⟨rfl, h⟩
    subst h
    rw [HB.out]
    go_upto_region 3 with fail
    refine implLit _ (fun _ _ _ _ _ h => h) id n h1 h4 _ _ _ _ _ _ _ _ _ _ _ _ _ _ _ _ _ _ _ _ _ _ _ _ _ _ _ _ _ _ _ _ _ _ zf zh zi zo MF.out HZ.out.1 MH.out HZ.out.2.1 MO.out HZ.out.2.2.1 MI.out HZ.out.2.2.2 ?_
    intro m gf gh go gi wx hm X of oh oo oi bx
    rw [HC.out.1] at of
    rw [HC.out.2.1] at oh
    rw [HC.out.2.2.1] at oo
    rw [HC.out.2.2.2] at oi
    have B := bel_trans bA bx
    replace X0 := X0.below bx
    have hmw : w.heap.size < m := by simp at hm; omega
    replace of := owns_base of (b' := w.heap.size) (by simp)
    replace oh := owns_base oh (b' := w.heap.size) (by simp)
    replace oo := owns_base oo (b' := w.heap.size) (by simp)
    replace oi := owns_base oi (b' := w.heap.size) (by simp)
    clear bx bA hm
    have HM0 : HM wx w.heap.size (some ⟨gh, 0, none⟩) 6 6 0 [.slice none 0 0, .int .i64 0, .slice none 0 0, .bool false, .int .i64 0, .bool false, .int .i64 0, .slice none 0 0] (newHD n) (fun _ => ⟨(none, 0), (none, 0), (none, 0)⟩) :=
      ⟨by simpa using oh, fun i hi => absurd hi (Nat.not_lt_zero i), fun i hi => absurd hi (Nat.not_lt_zero i), fun i k hi => absurd hi (Nat.not_lt_zero i), fun i hi => absurd hi (Nat.not_lt_zero i)⟩
    clear oh
    obtain ⟨x0, x1, x2, x3, x4, zx⟩ := X.at5
    go_wp2
    clear x0 x1 x2 x3 x4 zx
    go_loopw [24] (fun i wr => ∃ j : Nat, j ≤ 6 ∧ i = .int .i64 j ∧ ∃ p, HM wr w.heap.size (some ⟨gh, 0, none⟩) 6 6 j [.slice none 0 0, .int .i64 0, .slice none 0 0, .bool false, .int .i64 0, .bool false, .int .i64 0, .slice none 0 0] (newHD n) p ∧
      Box wr m #[.int .i64 id, .slice (some ⟨gf, 0, none⟩) 6 6, .slice (some ⟨gh, 0, none⟩) 6 6, .slice (some ⟨go, 0, none⟩) n n, .slice (some ⟨gi, 0, none⟩) n n] 52 ∧ Box wr w.heap.size #[.int .i64 0, .slice none 0 0, .slice none 0 0, .slice none 0 0, .slice none 0 0] 52 ∧
      wr.ownsRow w.heap.size 101 3 (.slice (some ⟨gf, 0, none⟩) 6 6) 6 (chunks 6 (fun _ => f0 0 false)) ∧ wr.ownsRow w.heap.size 106 2 (.slice (some ⟨go, 0, none⟩) n n) n (chunks n (fun _ => s0 0)) ∧ wr.ownsRow w.heap.size 109 1 (.slice (some ⟨gi, 0, none⟩) n n) n (chunks n (fun _ => gcells 0)) ∧ Below w.heap.size w wr) (fun i _ => 6 - (intOf i).toNat)
    case atStart => exact ⟨0, by decide, rfl, _, HM0, X, X0, of, oo, oi, B⟩
    case round =>
      obtain ⟨j, hj, rfl, p, hM, hX, hX0, hof, hoo, hoi, hB⟩ := hrel
      clear HM0 X X0 of oo oi B
      by_cases hlt : j < 6
      · have hi : (j : Int) < 6 := by omega
        obtain ⟨x0, x1, x2, x3, x4, zx⟩ := hX.at5
        go_upto_region 7 with fail
        have hgt := hM.row.lt gh rfl
        have cc : ∀ t, t < 8 → ∃ v, wr.cell? ⟨gh, j * 8 + t, none⟩ = some v := fun t ht => by
          rw [hM.row.cellAt (j * 8 + t) (by omega)]
          exact ⟨_, List.getElem?_eq_getElem (by have := hM.row.1; omega)⟩
        obtain ⟨v0, c0⟩ := cc 0 (by decide)
        obtain ⟨v1, c1⟩ := cc 1 (by decide)
        obtain ⟨v2, c2⟩ := cc 2 (by decide)
        obtain ⟨v3, c3⟩ := cc 3 (by decide)
        obtain ⟨v4, c4⟩ := cc 4 (by decide)
        obtain ⟨v5, c5⟩ := cc 5 (by decide)
        obtain ⟨v6, c6⟩ := cc 6 (by decide)
        obtain ⟨v7, c7⟩ := cc 7 (by decide)
        rw [Nat.add_zero] at c0
        have z : ∀ t, wr.frozen? ⟨gh, t, none⟩ = false := fun t => hM.row.frozenAt t
        have hmg : m ≠ gh := fun e => lit_ne hX hM.row (by decide) (by rw [e]; rfl)
        have h0g : w.heap.size ≠ gh := fun e => lit_ne hX0 hM.row (by decide) (by rw [e]; rfl)
        have hg0 : w.heap.size ≤ gh := (hM.row.lt gh rfl).1
        have nf : ∀ t, (Value.slice (some ⟨gf, 0, none⟩) 6 6).ownBlock = some t → gh ≠ t := fun t h1 h2 => owns_kinds hof hM.row (by decide) h1 (by rw [← h2]; rfl)
        have no : ∀ t, (Value.slice (some ⟨go, 0, none⟩) n n).ownBlock = some t → gh ≠ t := fun t h1 h2 => owns_kinds hoo hM.row (by decide) h1 (by rw [← h2]; rfl)
        have ni : ∀ t, (Value.slice (some ⟨gi, 0, none⟩) n n).ownBlock = some t → gh ≠ t := fun t h1 h2 => owns_kinds hoi hM.row (by decide) h1 (by rw [← h2]; rfl)
        refine wp_region_held_drew (S := fun w' => w'.cell? ⟨m, 2, none⟩ = some (.slice (some ⟨gh, 0, none⟩) 6 6)) (by kernel_rfl) ?_ (fun hHeld => ?_)
        · exact x2
        refine wpAnyH_take (i := 0) (oi := { dst := some 27, op := Op.fieldAddr 52 (Operand.tmp 6) 2, type := 0, pos := "l05_node.go:56", after := #[], guard := none }) (v := ?r1_v0) rfl (by kernel_rfl) (by kernel_rfl) (by kernel_rfl) (fun _ _ _ h => h) (Or.inl ⟨by rfl, ?r1_hy0⟩) (by assumption) ?r1_rest0
        case r1_hy0 => intro w hSw; (try dsimp only at hSw); go_simp; try (with_reducible rfl)
        simp only [Act.put, List.setIfInBounds_toArray, List.set_cons_zero, List.set_cons_succ]
        refine wpAnyH_take (i := 1) (oi := { dst := some 28, op := Op.load 48 (Operand.tmp 27), type := 48, pos := "l05_node.go:56", after := #[{ on := 0, ground := Ground.data }], guard := none }) (v := ?r1_v1) rfl (by kernel_rfl) (by kernel_rfl) (by kernel_rfl) (fun _ _ _ h => h) (Or.inl ⟨by rfl, ?r1_hy1⟩) (by assumption) ?r1_rest1
        case r1_hy1 => intro w hSw; (try dsimp only at hSw); go_simp; try (with_reducible rfl)
        simp only [Act.put, List.setIfInBounds_toArray, List.set_cons_zero, List.set_cons_succ]
        refine wpAnyH_take (i := 2) (oi := { dst := some 29, op := Op.move (Operand.tmp 7), type := 3, pos := "l05_node.go:56", after := #[], guard := none }) (v := ?r1_v2) rfl (by kernel_rfl) (by kernel_rfl) (by kernel_rfl) (fun _ _ _ h => h) (Or.inl ⟨by rfl, ?r1_hy2⟩) (by assumption) ?r1_rest2
        case r1_hy2 => intro w hSw; (try dsimp only at hSw); go_simp; try (with_reducible rfl)
        simp only [Act.put, List.setIfInBounds_toArray, List.set_cons_zero, List.set_cons_succ]
        refine wpAnyH_take (i := 3) (oi := { dst := some 30, op := Op.move (Operand.tmp 1), type := 3, pos := "l05_node.go:56", after := #[], guard := none }) (v := ?r1_v3) rfl (by kernel_rfl) (by kernel_rfl) (by kernel_rfl) (fun _ _ _ h => h) (Or.inl ⟨by rfl, ?r1_hy3⟩) (by assumption) ?r1_rest3
        case r1_hy3 => intro w hSw; (try dsimp only at hSw); go_simp; try (with_reducible rfl)
        simp only [Act.put, List.setIfInBounds_toArray, List.set_cons_zero, List.set_cons_succ]
        refine wpAnyH_ready (rs := [4]) (by kernel_rfl) (by simp) ?_
        refine AllReadyH.cons (o := { dst := some 31, op := Op.call { callee := Callee.value (Operand.func 44), args := #[Operand.tmp 30], argTypes := #[3] }, type := 46, pos := "l05_node.go:56", after := #[{ on := 3, ground := Ground.data }], guard := none }) rfl (fun K2 hK2 => ?_) AllReadyH.nil
        go_simp
        refine (implHomeNew_any n _).mono ?_
        intro e w1 hp
        obtain ⟨al, cl, ar, cr, rfl, o1, r1, b1⟩ := newP_new HI.out hp
        clear hp
        have d0 := keepc b1 c0
        have d1 := keepc b1 c1
        have d2 := keepc b1 c2
        have d3 := keepc b1 c3
        have d4 := keepc b1 c4
        have d5 := keepc b1 c5
        have d6 := keepc b1 c6
        have d7 := keepc b1 c7
        have zf1 : ∀ t, w1.frozen? ⟨gh, t, none⟩ = false := fun t => ((bcell b1).2 gh t hgt.2).trans (z t)
        replace b1 := bel_undrew b1
        have XW := hX.below b1
        have s1 := b1.size
        clear c0 c1 c2 c3 c4 c5 c6 c7 z cc hgt x0 x1 x3 x4 hX
        go_wp2_with fail
        refine hK2.out _ _ ?_ (fun hHeld2 => ?_)
        · exact XW.cell 2
        clear hK2 K2 hHeld
        have hHeld := hHeld2
        clear hHeld2
        try simp only [Act.put, List.setIfInBounds_toArray, List.set_cons_zero, List.set_cons_succ]
        refine wpAnyH_take (i := 5) (oi := { dst := some 32, op := Op.indexAddr 48 (Operand.tmp 28) (Operand.tmp 29), type := 0, pos := "l05_node.go:56", after := #[{ on := 1, ground := Ground.data }, { on := 2, ground := Ground.data }, { on := 0, ground := Ground.phase }, { on := 1, ground := Ground.phase }, { on := 2, ground := Ground.phase }, { on := 3, ground := Ground.phase }, { on := 4, ground := Ground.phase }], guard := none }) (v := ?r1_v5) rfl (by kernel_rfl) (by kernel_rfl) (by kernel_rfl) (fun _ _ _ h => h) (Or.inl ⟨by rfl, ?r1_hy5⟩) (by assumption) ?r1_rest5
        case r1_hy5 => intro w hSw; (try dsimp only at hSw); go_simp; try (with_reducible rfl)
        simp only [Act.put, List.setIfInBounds_toArray, List.set_cons_zero, List.set_cons_succ]
        refine wpAnyH_ready (rs := [6]) (by kernel_rfl) (by simp) ?_
        refine AllReadyH.cons (o := { dst := none, op := Op.store 46 (Operand.tmp 32) (Operand.tmp 31), type := 0, pos := "l05_node.go:56", after := #[{ on := 5, ground := Ground.data }, { on := 4, ground := Ground.data }, { on := 4, ground := Ground.chain }, { on := 0, ground := Ground.phase }, { on := 1, ground := Ground.phase }, { on := 2, ground := Ground.phase }, { on := 3, ground := Ground.phase }, { on := 4, ground := Ground.phase }], guard := none }) rfl (fun K2 hK2 => ?_) AllReadyH.nil
        go_simp
        refine hK2.out _ _ ?_ (fun hHeld2 => ?_)
        · exact (w8_box XW hmg _ _ _ _ _ _ _ _ _).cell 2
        clear hK2 K2 hHeld
        have hHeld := hHeld2
        clear hHeld2
        try simp only [Act.put, List.setIfInBounds_toArray, List.set_cons_zero, List.set_cons_succ]
        refine wpAnyH_done (by kernel_rfl) ?_ _
        clear hHeld d0 d1 d2 d3 d4 d5 d6 d7 zf1 x2 zx
        have HS : Hid (HM (W8 w1 gh (j * 8) (.slice al 4 cl) (.int .i64 (-1)) (.slice ar n cr) (.bool false) (.int .i64 0) (.bool false) (.int .i64 0) (.slice none 0 0)) w.heap.size (some ⟨gh, 0, none⟩) 6 6 (j + 1) [.slice none 0 0, .int .i64 0, .slice none 0 0, .bool false, .int .i64 0, .bool false, .int .i64 0, .slice none 0 0] (newHD n) (fun i => if i = j then ⟨(al, cl), (ar, cr), (none, 0)⟩ else p i)) := hM.stepL hlt rfl rfl b1 hB.size o1 r1 rfl rfl (by simp [newHD]) rfl rfl rfl rfl
        have X2 : Hid _ := w8_box XW hmg (j * 8) (.slice al 4 cl) (.int .i64 (-1)) (.slice ar n cr) (.bool false) (.int .i64 0) (.bool false) (.int .i64 0) (.slice none 0 0)
        have X3 : Hid _ := w8_box (hX0.below b1) h0g (j * 8) (.slice al 4 cl) (.int .i64 (-1)) (.slice ar n cr) (.bool false) (.int .i64 0) (.bool false) (.int .i64 0) (.slice none 0 0)
        have F2 : Hid _ := w8_owns (o := j * 8) (owns_below hof b1) nf (.slice al 4 cl) (.int .i64 (-1)) (.slice ar n cr) (.bool false) (.int .i64 0) (.bool false) (.int .i64 0) (.slice none 0 0)
        have O2 : Hid _ := w8_owns (o := j * 8) (owns_below hoo b1) no (.slice al 4 cl) (.int .i64 (-1)) (.slice ar n cr) (.bool false) (.int .i64 0) (.bool false) (.int .i64 0) (.slice none 0 0)
        have I2 : Hid _ := w8_owns (o := j * 8) (owns_below hoi b1) ni (.slice al 4 cl) (.int .i64 (-1)) (.slice ar n cr) (.bool false) (.int .i64 0) (.bool false) (.int .i64 0) (.slice none 0 0)
        have B2 : Hid _ := w8_bel (bel_trans hB b1) hg0 (j * 8) (.slice al 4 cl) (.int .i64 (-1)) (.slice ar n cr) (.bool false) (.int .i64 0) (.bool false) (.int .i64 0) (.slice none 0 0)
        clear hM XW hX0 hof hoo hoi hB b1 o1 r1 nf no ni
        go_wp2
        go_roundw
        case rel => exact ⟨j + 1, by omega, by go_num, _, HS.out, X2.out, X3.out, F2.out, O2.out, I2.out, B2.out⟩
        case measure => simp [intOf]; omega
      · have : j = 6 := by omega
        subst this
        obtain ⟨x0, x1, x2, x3, x4, zx⟩ := hX.at5
        obtain ⟨y0, y1, y2, y3, y4, zy⟩ := hX0.at5
        have hmw2 : m ≠ w.heap.size := by omega
        have y5 := hX0.frozen 0
        have y6 := hX0.frozen 1
        have y7 := hX0.frozen 2
        have y8 := hX0.frozen 3
        have y9 := hX0.frozen 4
        have HN : Hid (NO wr w.heap.size (newND id n) ⟨(some ⟨gf, 0, none⟩, 6), fun _ => (none, 0), (some ⟨gh, 0, none⟩, 6), p, (some ⟨go, 0, none⟩, n), fun _ => (none, 0), fun _ => [], (some ⟨gi, 0, none⟩, n)⟩ 4 n) :=
          ⟨hof, fun i hi => ⟨rfl, rfl⟩, hM.ho, hM.ap, fun i hi => ⟨rfl, by simp [newND, newHD], rfl, hM.q i hi⟩, hoo, fun i hi => ⟨rfl, rfl, rfl⟩, hoi, by show (6:Nat) ≤ 100 ∧ (6:Nat) ≤ 100 ∧ n ≤ 100 ∧ n ≤ 100 ∧ (4:Nat) ≤ 5 ∧ n ≤ 5; omega⟩
        have nn : Hid (∀ t, NB (newND id n) ⟨(some ⟨gf, 0, none⟩, 6), fun _ => (none, 0), (some ⟨gh, 0, none⟩, 6), p, (some ⟨go, 0, none⟩, n), fun _ => (none, 0), fun _ => [], (some ⟨gi, 0, none⟩, n)⟩ t → w.heap.size ≠ t) := fun t ht e => by
          subst e
          rcases ht with h1 | h1 | ⟨i, hi, h1 | h1⟩ | h1 | h1
          · exact lit_ne hX0 hof (by decide) (own_blk h1)
          · exact lit_ne hX0 hM.row (by decide) (own_blk h1)
          · exact lit_ne hX0 (hM.l i hi) (by decide) (own_blk h1)
          · exact lit_ne hX0 (hM.r i hi) (by decide) (own_blk h1)
          · exact lit_ne hX0 hoo (by decide) (own_blk h1)
          · exact lit_ne hX0 hoi (by decide) (own_blk h1)
        clear hM hof hoo hoi
        go_wp2
        refine bodyPost_ret (v := .tuple #[.agg #[.int .i64 id, .slice (some ⟨gf, 0, none⟩) 6 6, .slice (some ⟨gh, 0, none⟩) 6 6, .slice (some ⟨go, 0, none⟩) n n, .slice (some ⟨gi, 0, none⟩) n n], .bool true]) (by simp [results, Try.results28, go_sem, y0, y1, y2, y3, y4]) rfl (nnew_ok HB.out (HN.out.set5 nn.out) ?_)
        exact lit_bel5 hB (Nat.le_refl _)
end Go.Proofs.Ytfeabhknkoifeaa
