/- What impl's WorldNew does. -/
import Derived.Test.YtfeabhknkoifeaaWnS
namespace Go.Proofs.Ytfeabhknkoifeaa
open Go.RowKit
set_option linter.unusedVariables false

set_option maxRecDepth 100000 in
set_option maxHeartbeats 4000000 in
theorem implWorldNew_any (size : Int) (w : World) : Calls Try.prog 15 #[.int .i64 size] w (WNewP size w) := by
  cases hb : inB size 1 4
  · have HB : Hid (inB size 1 4 = false) := hb
    clear hb
    go_enter Try.func15, Try.ntmps15
    go_wp2_with fail
    refine (areNodes_any size _).mono ?_
    rintro e w1 ⟨rfl, h⟩
    subst h
    rw [HB.out]
    go_wp2
    refine bodyPost_ret (v := .tuple #[.agg #[.int .i64 0, .slice none 0 0, .slice none 0 0], .bool false]) (by simp [results, Try.results15, go_sem]) rfl (wnew_bad HB.out ?_)
    exact bel_alloc (Below.refl _ _) _
  · obtain ⟨h1, h4⟩ : 1 ≤ size ∧ size ≤ 4 := by simpa [inB] using hb
    obtain ⟨n, hn⟩ : ∃ n : Nat, size = (n : Int) := ⟨size.toNat, by omega⟩
    subst hn
    have HI : Hid (inB (n : Int) 1 4 = true) := hb
    clear hb
    obtain ⟨i0, hi0, hz0, hz1, hz2⟩ := info_parts info_nodeW
    have bA := bel_alloc (Below.refl w.heap.size w) (.cells #[.int .i64 0, .slice none 0 0, .slice none 0 0] 26)
    have XR := Box.new w #[.int .i64 0, .slice none 0 0, .slice none 0 0] 26
    obtain ⟨WA, hWA⟩ : ∃ WA, w.alloc (.cells #[.int .i64 0, .slice none 0 0, .slice none 0 0] 26) = WA := ⟨_, rfl⟩
    have hsA : WA.heap.size = w.heap.size + 1 := by rw [← hWA]; simp
    rw [hWA] at bA XR
    go_enter Try.func15, Try.ntmps15
    go_wp2_with fail
    refine (areNodes_any _ _).mono ?_
    rintro e w1 ⟨rfl, h⟩
    replace h := h.symm
    subst h
    rw [HI.out]
    go_wp2_with (at_make; refine wpList_make_full _ rfl (.tmp 11) (.tmp 11) 23 rfl (w.heap.size + 1) 52 i0 (.agg #[.int .i64 0, .slice none 0 0, .slice none 0 0, .slice none 0 0, .slice none 0 0]) 5 Try.underlying23 hi0 hz0 hz1 .i64 .i64 _ _ n rfl rfl rfl rfl (by rw [hz2]; omega) (by unfold maxLen; omega) (by omega) ?_)
    intro w1 ho hg
    have hb1 : Below WA.heap.size WA w1 := (Below.refl _ _).grown hg (Nat.le_refl _) (fun k hk => by cases hk)
    rw [made_chunks _ 5 n rfl (by decide)] at ho
    have F0 : NTw w1 (w.heap.size + 1) (some ⟨w.heap.size + 1, 0, none⟩) n n 0 (fun i => newND i n) (fun _ => ⟨(none, 0), fun _ => (none, 0), (none, 0), fun _ => ⟨(none, 0), (none, 0), (none, 0)⟩, (none, 0), fun _ => (none, 0), fun _ => [], (none, 0)⟩) (fun _ => [.int .i64 0, .slice none 0 0, .slice none 0 0, .slice none 0 0, .slice none 0 0]) := Tw.start (owns_base ho (Nat.zero_le _))
    have gl : w.heap.size + 1 < w1.heap.size := (ho.lt _ rfl).2
    have bW := bel_alloc (Below.refl w1.heap.size w1) (.cells #[.int .i64 (n : Int), .slice (some ⟨w.heap.size + 1, 0, none⟩) n n, .slice none 0 0] 26)
    have XW := Box.new w1 #[.int .i64 (n : Int), .slice (some ⟨w.heap.size + 1, 0, none⟩) n n, .slice none 0 0] 26
    have XR1 := (XR.below hb1).below bW
    have F1 := F0.below bW
    have B1 := bel_trans (bel_trans bA hb1) bW
    obtain ⟨x0, x1, x2, xz⟩ := XW.at3
    have H1 : Hid _ := F1
    have H2 : Hid _ := XW
    have H3 : Hid _ := XR1
    have H4 : Hid _ := B1
    clear hg ho hb1 XR bA F0 bW F1 XW XR1 B1
    go_wp2_with fail
    go_loopw [17] (fun i wr => ∃ k : Nat, k ≤ n ∧ i = .int .i64 k ∧ ∃ p', NTw wr (w.heap.size + 1) (some ⟨w.heap.size + 1, 0, none⟩) n n k (fun i => newND i n) p' (fun _ => [.int .i64 0, .slice none 0 0, .slice none 0 0, .slice none 0 0, .slice none 0 0]) ∧ (∀ i, i < k → Nti (newND i n) (p' i)) ∧ Box wr w1.heap.size #[.int .i64 (n : Int), .slice (some ⟨w.heap.size + 1, 0, none⟩) n n, .slice none 0 0] 26 ∧ Box wr w.heap.size #[.int .i64 0, .slice none 0 0, .slice none 0 0] 26 ∧ Below w.heap.size w wr) (fun i _ => n - (intOf i).toNat)
    case atStart => exact ⟨0, Nat.zero_le _, rfl, _, H1.out, fun i hi => absurd hi (Nat.not_lt_zero i), H2.out, H3.out, H4.out⟩
    case round =>
      obtain ⟨k, hk, rfl, p', hF, hT, hX, hX0, hB⟩ := hrel
      clear H1 H2 H3 H4 x0 x1 x2 xz
      by_cases hlt : k < n
      · have hi : (k : Int) < (n : Int) := by omega
        have hmg : w1.heap.size ≠ w.heap.size + 1 := by omega
        have h0g : w.heap.size ≠ w.heap.size + 1 := by omega
        obtain ⟨x0, x1, x2, zx⟩ := hX.at3
        have HF : Hid (NTw wr (w.heap.size + 1) (some ⟨w.heap.size + 1, 0, none⟩) n n k (fun i => newND i n) p' (fun _ => [.int .i64 0, .slice none 0 0, .slice none 0 0, .slice none 0 0, .slice none 0 0])) := hF
        have HT : Hid (∀ i, i < k → Nti (newND i n) (p' i)) := hT
        have HX : Hid (Box wr w1.heap.size #[.int .i64 (n : Int), .slice (some ⟨w.heap.size + 1, 0, none⟩) n n, .slice none 0 0] 26) := hX
        have HX0 : Hid (Box wr w.heap.size #[.int .i64 0, .slice none 0 0, .slice none 0 0] 26) := hX0
        have HBr : Hid (Below w.heap.size w wr) := hB
        clear hF hT hX hX0 hB
        go_wp2_with fail
        refine wp_region_held_drew (S := fun w' => w'.cell? ⟨w1.heap.size, 1, none⟩ = some (.slice (some ⟨w.heap.size + 1, 0, none⟩) n n)) (by kernel_rfl) ?_ (fun hHeld => ?_)
        · exact x1
        refine wpAnyH_take (i := 0) (oi := { dst := some 21, op := Op.fieldAddr 26 (Operand.tmp 4) 1, type := 0, pos := "l06_world.go:81", after := #[], guard := none }) (v := ?r1_v0) rfl (by kernel_rfl) (by kernel_rfl) (by kernel_rfl) (fun _ _ _ h => h) (Or.inl ⟨by rfl, ?r1_hy0⟩) (by assumption) ?r1_rest0
        case r1_hy0 => intro w hSw; obtain s0 := hSw; go_simp; try (with_reducible rfl)
        simp only [Act.put, List.setIfInBounds_toArray, List.set_cons_zero, List.set_cons_succ]
        refine wpAnyH_take (i := 1) (oi := { dst := some 22, op := Op.load 23 (Operand.tmp 21), type := 23, pos := "l06_world.go:81", after := #[{ on := 0, ground := Ground.data }], guard := none }) (v := ?r1_v1) rfl (by kernel_rfl) (by kernel_rfl) (by kernel_rfl) (fun _ _ _ h => h) (Or.inl ⟨by rfl, ?r1_hy1⟩) (by assumption) ?r1_rest1
        case r1_hy1 => intro w hSw; obtain s0 := hSw; go_simp; try (with_reducible rfl)
        simp only [Act.put, List.setIfInBounds_toArray, List.set_cons_zero, List.set_cons_succ]
        refine wpAnyH_take (i := 2) (oi := { dst := some 23, op := Op.move (Operand.tmp 5), type := 3, pos := "l06_world.go:81", after := #[], guard := none }) (v := ?r1_v2) rfl (by kernel_rfl) (by kernel_rfl) (by kernel_rfl) (fun _ _ _ h => h) (Or.inl ⟨by rfl, ?r1_hy2⟩) (by assumption) ?r1_rest2
        case r1_hy2 => intro w hSw; obtain s0 := hSw; go_simp; try (with_reducible rfl)
        simp only [Act.put, List.setIfInBounds_toArray, List.set_cons_zero, List.set_cons_succ]
        refine wpAnyH_take (i := 3) (oi := { dst := some 24, op := Op.move (Operand.tmp 5), type := 3, pos := "l06_world.go:81", after := #[], guard := none }) (v := ?r1_v3) rfl (by kernel_rfl) (by kernel_rfl) (by kernel_rfl) (fun _ _ _ h => h) (Or.inl ⟨by rfl, ?r1_hy3⟩) (by assumption) ?r1_rest3
        case r1_hy3 => intro w hSw; obtain s0 := hSw; go_simp; try (with_reducible rfl)
        simp only [Act.put, List.setIfInBounds_toArray, List.set_cons_zero, List.set_cons_succ]
        refine wpAnyH_take (i := 4) (oi := { dst := some 25, op := Op.move (Operand.tmp 0), type := 3, pos := "l06_world.go:81", after := #[], guard := none }) (v := ?r1_v4) rfl (by kernel_rfl) (by kernel_rfl) (by kernel_rfl) (fun _ _ _ h => h) (Or.inl ⟨by rfl, ?r1_hy4⟩) (by assumption) ?r1_rest4
        case r1_hy4 => intro w hSw; obtain s0 := hSw; go_simp; try (with_reducible rfl)
        simp only [Act.put, List.setIfInBounds_toArray, List.set_cons_zero, List.set_cons_succ]
        refine wpAnyH_ready (rs := [5]) (by kernel_rfl) (by simp) ?_
        refine AllReadyH.cons (o := { dst := some 26, op := Op.call { callee := Callee.value (Operand.func 28), args := #[Operand.tmp 24, Operand.tmp 25], argTypes := #[3, 3] }, type := 65, pos := "l06_world.go:81", after := #[{ on := 3, ground := Ground.data }, { on := 4, ground := Ground.data }], guard := none }) rfl (fun K2 hK2 => ?_) AllReadyH.nil
        go_simp
        refine (implNodeNew_any k n _).mono ?_
        intro e w2 hp
        obtain ⟨p2, rfl, o1, l1, t1, b1⟩ := nnew_at HI.out hlt hp
        clear hp
        replace b1 := bel_undrew b1
        have hr2 := owns_below HF.out.r.row b1
        have q0 := hr2.frozenAt (k * 5)
        have q1 := hr2.frozenAt (k * 5 + 1)
        have q2 := hr2.frozenAt (k * 5 + 2)
        have q3 := hr2.frozenAt (k * 5 + 3)
        have q4 := hr2.frozenAt (k * 5 + 4)
        obtain ⟨u0, g0⟩ := cellN hr2 hlt (t := 0) (by decide)
        obtain ⟨u1, g1⟩ := cellN hr2 hlt (t := 1) (by decide)
        obtain ⟨u2, g2⟩ := cellN hr2 hlt (t := 2) (by decide)
        obtain ⟨u3, g3⟩ := cellN hr2 hlt (t := 3) (by decide)
        obtain ⟨u4, g4⟩ := cellN hr2 hlt (t := 4) (by decide)
        simp only [Nat.add_zero] at g0
        clear hr2
        go_wp2_with fail
        refine hK2.out _ _ ?_ (fun hHeld2 => ?_)
        · exact (HX.out.below b1).cell 1
        clear hK2 K2 hHeld
        have hHeld := hHeld2
        clear hHeld2
        try simp only [Act.put, List.setIfInBounds_toArray, List.set_cons_zero, List.set_cons_succ]
        refine wpAnyH_take (i := 6) (oi := { dst := some 20, op := Op.move (Operand.tmp 26), type := 65, pos := "l06_world.go:81", after := #[{ on := 5, ground := Ground.data }], guard := none }) (v := ?r1_v6) rfl (by kernel_rfl) (by kernel_rfl) (by kernel_rfl) (fun _ _ _ h => h) (Or.inl ⟨by rfl, ?r1_hy6⟩) (by assumption) ?r1_rest6
        case r1_hy6 => intro w hSw; obtain s0 := hSw; go_simp; try (with_reducible rfl)
        simp only [Act.put, List.setIfInBounds_toArray, List.set_cons_zero, List.set_cons_succ]
        refine wpAnyH_take (i := 7) (oi := { dst := some 27, op := Op.extract (Operand.tmp 20) 0, type := 52, pos := "l06_world.go:81", after := #[{ on := 6, ground := Ground.data }], guard := none }) (v := ?r1_v7) rfl (by kernel_rfl) (by kernel_rfl) (by kernel_rfl) (fun _ _ _ h => h) (Or.inl ⟨by rfl, ?r1_hy7⟩) (by assumption) ?r1_rest7
        case r1_hy7 => intro w hSw; obtain s0 := hSw; go_simp; try (with_reducible rfl)
        simp only [Act.put, List.setIfInBounds_toArray, List.set_cons_zero, List.set_cons_succ]
        refine wpAnyH_take (i := 8) (oi := { dst := some 28, op := Op.extract (Operand.tmp 20) 1, type := 4, pos := "l06_world.go:81", after := #[{ on := 6, ground := Ground.data }, { on := 10, ground := Ground.gcOnly Departure.lateStores }], guard := none }) (v := ?r1_v8) rfl (by kernel_rfl) (by kernel_rfl) (by kernel_rfl) (fun _ _ _ h => h) (Or.inl ⟨by rfl, ?r1_hy8⟩) (by assumption) ?r1_rest8
        case r1_hy8 => intro w hSw; obtain s0 := hSw; go_simp; try (with_reducible rfl)
        simp only [Act.put, List.setIfInBounds_toArray, List.set_cons_zero, List.set_cons_succ]
        refine wpAnyH_take (i := 9) (oi := { dst := some 29, op := Op.indexAddr 23 (Operand.tmp 22) (Operand.tmp 23), type := 0, pos := "l06_world.go:81", after := #[{ on := 1, ground := Ground.data }, { on := 2, ground := Ground.data }, { on := 0, ground := Ground.phase }, { on := 1, ground := Ground.phase }, { on := 2, ground := Ground.phase }, { on := 3, ground := Ground.phase }, { on := 4, ground := Ground.phase }, { on := 5, ground := Ground.phase }, { on := 6, ground := Ground.phase }, { on := 7, ground := Ground.phase }, { on := 8, ground := Ground.textOnly Departure.lateStores }], guard := none }) (v := ?r1_v9) rfl (by kernel_rfl) (by kernel_rfl) (by kernel_rfl) (fun _ _ _ h => h) (Or.inl ⟨by rfl, ?r1_hy9⟩) (by assumption) ?r1_rest9
        case r1_hy9 => intro w hSw; obtain s0 := hSw; go_simp; try (with_reducible rfl)
        simp only [Act.put, List.setIfInBounds_toArray, List.set_cons_zero, List.set_cons_succ]
        refine wpAnyH_ready (rs := [10]) (by kernel_rfl) (by simp) ?_
        refine AllReadyH.cons (o := { dst := none, op := Op.store 52 (Operand.tmp 29) (Operand.tmp 27), type := 0, pos := "l06_world.go:81", after := #[{ on := 9, ground := Ground.data }, { on := 7, ground := Ground.data }, { on := 5, ground := Ground.chain }, { on := 0, ground := Ground.phase }, { on := 1, ground := Ground.phase }, { on := 2, ground := Ground.phase }, { on := 3, ground := Ground.phase }, { on := 4, ground := Ground.phase }, { on := 5, ground := Ground.phase }, { on := 6, ground := Ground.phase }, { on := 7, ground := Ground.phase }, { on := 8, ground := Ground.textOnly Departure.lateStores }], guard := none }) rfl (fun K2 hK2 => ?_) AllReadyH.nil
        go_simp
        refine hK2.out _ _ ?_ (fun hHeld2 => ?_)
        · exact (w5_box (HX.out.below b1) hmg _ _ _ _ _ _).cell 1
        clear hK2 K2 hHeld
        have hHeld := hHeld2
        clear hHeld2
        try simp only [Act.put, List.setIfInBounds_toArray, List.set_cons_zero, List.set_cons_succ]
        refine wpAnyH_done (by kernel_rfl) ?_ _
        have HS : Hid _ := node_put HF.out (fun i _ => rfl) hlt b1 (Nat.le_of_lt (HF.out.r.row.lt _ rfl).2) o1 l1
        have X2 : Hid _ := w5_box (HX.out.below b1) hmg (k * 5) (.int .i64 (k : Int)) (.slice p2.f.1 6 p2.f.2) (.slice p2.h.1 6 p2.h.2) (.slice p2.o.1 n p2.o.2) (.slice p2.i.1 n p2.i.2)
        have X3 : Hid _ := w5_box (HX0.out.below b1) h0g (k * 5) (.int .i64 (k : Int)) (.slice p2.f.1 6 p2.f.2) (.slice p2.h.1 6 p2.h.2) (.slice p2.o.1 n p2.o.2) (.slice p2.i.1 n p2.i.2)
        have B2 : Hid _ := w5_bel (bel_trans HBr.out b1) (Nat.le_succ _) (k * 5) (.int .i64 (k : Int)) (.slice p2.f.1 6 p2.f.2) (.slice p2.h.1 6 p2.h.2) (.slice p2.o.1 n p2.o.2) (.slice p2.i.1 n p2.i.2)
        have T2 : Hid (∀ i, i < k + 1 → Nti (newND i n) (if i = k then p2 else p' i)) := fun i hi => by
          by_cases e : i = k
          · rw [if_pos e, e]; exact t1
          · rw [if_neg e]; exact HT.out i (by omega)
        clear hHeld b1 o1 l1 t1 u0 u1 u2 u3 u4 q0 q1 q2 q3 q4 g0 g1 g2 g3 g4 x0 x1 x2 zx
        go_wp2
        go_roundw
        case rel => exact ⟨k + 1, by omega, by go_num, _, HS.out, T2.out, X2.out, X3.out, B2.out⟩
        case measure => simp [intOf]; omega
      · have : k = n := by omega
        subst this
        have HR : Hid (NsO wr (some ⟨w.heap.size + 1, 0, none⟩) k k (fun i => newND i k) p' ∧ ∀ b, RS (some ⟨w.heap.size + 1, 0, none⟩) k k (fun i => NBs (newND i k) (p' i)) b → w.heap.size + 1 ≤ b) := ⟨hF.all, hF.low (fun g hg => by simp [blk] at hg; omega)⟩
        have HT : Hid (∀ i, i < k → Nti (newND i k) (p' i)) := hT
        obtain ⟨x0, x1, x2, zx⟩ := hX.at3
        obtain ⟨y0, y1, y2, zy⟩ := hX0.at3
        have f0 := hX0.frozen 0
        have f1 := hX0.frozen 1
        have f2 := hX0.frozen 2
        clear hF hT
        go_wp2
        refine bodyPost_ret (v := .tuple #[.agg #[.int .i64 (k : Int), .slice (some ⟨w.heap.size + 1, 0, none⟩) k k, .slice none 0 0], .bool true]) (by simp [results, Try.results15, go_sem, y0, y1, y2]) rfl (wnew_ok HI.out ?_ HT.out (fun b hb => by have := HR.out.2 b hb; omega) ?_)
        · refine Rw.sm HR.out.1 (((((Only.refl wr (fun b => b = w.heap.size)).setCell _ _ rfl).setCell _ _ rfl).setCell _ _ rfl).sm (fun b hb e => ?_))
          have := HR.out.2 b hb
          omega
        · exact bel_setCell (bel_setCell (bel_setCell hB _ _ (Nat.le_refl _)) _ _ (Nat.le_refl _)) _ _ (Nat.le_refl _)
end Go.Proofs.Ytfeabhknkoifeaa
