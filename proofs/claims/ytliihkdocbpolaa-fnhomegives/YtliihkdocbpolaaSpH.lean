/- What the specification's l4Hear does where it hears. -/
import Derived.Test.YtliihkdocbpolaaSpN
namespace Go.Proofs.Ytliihkdocbpolaa
open Go.RowKit
set_option linter.unusedVariables false

theorem SLies.list {lo : Nat} {w : World} {kB : Nat} {vl vr vq vt : Value} {S : SS} (h : SLies lo w kB vl vr vq vt S) {vl' : Value} {xs' : List Int} (l' : w.ownsRow lo 3 1 vl' xs'.length (xs'.map (Value.int .i64))) :
    SLies lo (w.setCell ⟨kB, 0, none⟩ vl') kB vl' vr vq vt { S with xs := xs' } := by
  obtain ⟨cs, ht⟩ := h.t
  have n1 := box_ne h.k l' (by decide)
  have n2 := box_ne h.k h.r (by decide)
  have n3 := box_ne h.k h.q (by decide)
  have n4 := box_ne h.k ht (by decide)
  exact ⟨h.lk, heap_setCell_same _ _ 0 _ _ _ h.k, owns_setCell l' (fun j hj e => n1 (by rw [hj, ← e])) _, owns_setCell h.r (fun j hj e => n2 (by rw [hj, ← e])) _, owns_setCell h.q (fun j hj e => n3 (by rw [hj, ← e])) _, ⟨cs, owns_setCell ht (fun j hj e => n4 (by rw [hj, ← e])) _⟩⟩
theorem SLies.grown {lo : Nat} {w w' : World} {kB : Nat} {vl vr vq vt : Value} {S : SS} (h : SLies lo w kB vl vr vq vt S) (g : w.grownBy w' vq.ownBlock) {vq' : Value} {ws' : List (Int × Bool)} (q' : w'.ownsRow lo 27 2 vq' ws'.length (wv ws')) :
    SLies lo (w'.setCell ⟨kB, 7, none⟩ vq') kB vl vr vq' vt { S with ws := ws' } ∧ Box w' kB (spcells S vl vr vq vt) 62 := by
  obtain ⟨cs, ht⟩ := h.t
  have nk := box_ne h.k h.q (by decide)
  have k' : Box w' kB (spcells S vl vr vq vt) 62 := h.k.kept g (fun j hj e => nk (by rw [hj, e]))
  have l' := owns_ne h.l g (fun j hj => owns_types h.l h.q (by decide) hj)
  have r' := owns_ne h.r g (fun j hj => owns_types h.r h.q (by decide) hj)
  have t' := owns_ne ht g (fun j hj => owns_types ht h.q (by decide) hj)
  have n1 := box_ne k' l' (by decide)
  have n2 := box_ne k' r' (by decide)
  have n3 := box_ne k' q' (by decide)
  have n4 := box_ne k' t' (by decide)
  exact ⟨⟨h.lk, heap_setCell_same _ _ 7 _ _ _ k', owns_setCell l' (fun j hj e => n1 (by rw [hj, ← e])) _, owns_setCell r' (fun j hj e => n2 (by rw [hj, ← e])) _, owns_setCell q' (fun j hj e => n3 (by rw [hj, ← e])) _, ⟨cs, owns_setCell t' (fun j hj e => n4 (by rw [hj, ← e])) _⟩⟩, k'⟩

set_option maxRecDepth 100000 in
set_option maxHeartbeats 4000000 in
theorem l4Hear_ask (lo : Nat) (w : World) (kB : Nat) (vl vr vq vt : Value) (S : SS) (h : SLies lo w kB vl vr vq vt S) (hlo : lo ≤ w.heap.size) (hws : S.ws = []) (fr mk mp : Int) (mo : Bool) (am : Option Addr) (cm : Nat) (ys : List Int) (hmk : mk = 1 ∨ mk = 2) :
    Calls Try.prog 24 #[.pointer (some ⟨kB, 0, none⟩), .int .i64 fr, .agg #[.int .i64 mk, .int .i64 mp, .bool mo, .slice am ys.length cm]] w fun e w' =>
      e = .returned (.bool true) ∧ ∃ vq', SLies lo w' kB vl vr vq' vt { S with ws := [(fr, mk == 2)] } ∧ Below lo w w' := by
  obtain ⟨i3, hi3, hz30, hz31, hz32⟩ := info_parts info_wait
  have b0 := bel_alloc (Below.refl w.heap.size w) (.cells #[.int .i64 mk, .int .i64 mp, .bool mo, .slice am ys.length cm] 34)
  have XM := Box.new w #[.int .i64 mk, .int .i64 mp, .bool mo, .slice am ys.length cm] 34
  have L0 := h.below b0
  have hq0 := h.q
  rw [hws] at hq0
  obtain ⟨aq, cq, rfl⟩ := owns_slice hq0
  simp only [List.length_nil] at hq0 L0
  obtain ⟨W0, hW0⟩ : ∃ W0, w.alloc (.cells #[.int .i64 mk, .int .i64 mp, .bool mo, .slice am ys.length cm] 34) = W0 := ⟨_, rfl⟩
  rw [hW0] at b0 XM L0
  have HW0 : Hid (w.alloc (.cells #[.int .i64 mk, .int .i64 mp, .bool mo, .slice am ys.length cm] 34) = W0) := hW0
  have hsz : Hid (W0.heap.size = w.heap.size + 1) := by show _ = _; rw [← hW0]; simp
  have m0 : W0.cell? ⟨w.heap.size, 0, none⟩ = some (.int .i64 mk) := XM.cell 0
  have mz := XM.lt
  have k7 : W0.cell? ⟨kB, 7, none⟩ = some (.slice aq 0 cq) := L0.k.cell 7
  have kz := L0.k.lt
  have K0 : Hid (∀ W, Below W0.heap.size W0 W → W.cell? ⟨w.heap.size, 0, none⟩ = some (.int .i64 mk) ∧ w.heap.size < W.heap.size ∧ kB < W.heap.size) := fun W bb => ⟨(XM.below bb).cell 0, (XM.below bb).lt, (L0.k.below bb).lt⟩
  have K0b : Hid (∀ W, Below W0.heap.size W0 W → W.cell? ⟨kB, 7, none⟩ = some (.slice aq 0 cq)) := fun W bb => (L0.k.below bb).cell 7
  have HL0 : Hid (SLies lo W0 kB vl vr (.slice aq 0 cq) vt S) := L0
  have HXM : Hid (Box W0 w.heap.size #[.int .i64 mk, .int .i64 mp, .bool mo, .slice am ys.length cm] 34) := XM
  have HB0 : Hid (Below w.heap.size w W0) := b0
  have hq1 := owns_below hq0 b0
  clear h L0 XM b0 hq0
  rcases hmk with rfl | rfl
  · go_enter Try.func24, Try.ntmps24
    go_wp2_with fail
    refine wp_region_held_drew (S := (fun w' => w'.cell? ⟨w.heap.size, 0, none⟩ = some (.int .i64 1) ∧ w.heap.size < w'.heap.size ∧ kB < w'.heap.size)) (by kernel_rfl) ?_ (fun hHeld => ?_)
    · exact K0.out _ (bel_drew (Below.refl _ _))
    refine wpAnyH_take (i := 0) (oi := { dst := some 19, op := Op.move (Operand.tmp 0), type := 60, pos := "l04_home.go:84", after := #[], guard := none }) (v := ?r1_v0) rfl (by kernel_rfl) (by kernel_rfl) (by kernel_rfl) (fun _ _ _ h => h) (Or.inl ⟨by rfl, ?r1_hy0⟩) (by assumption) ?r1_rest0
    case r1_hy0 => intro w hSw; obtain ⟨s0, s2, s3⟩ := hSw; go_simp; try (with_reducible rfl)
    simp only [Act.put, List.setIfInBounds_toArray, List.set_cons_zero, List.set_cons_succ]
    refine wpAnyH_take (i := 1) (oi := { dst := some 20, op := Op.move (Operand.tmp 0), type := 60, pos := "l04_home.go:84", after := #[], guard := none }) (v := ?r1_v1) rfl (by kernel_rfl) (by kernel_rfl) (by kernel_rfl) (fun _ _ _ h => h) (Or.inl ⟨by rfl, ?r1_hy1⟩) (by assumption) ?r1_rest1
    case r1_hy1 => intro w hSw; obtain ⟨s0, s2, s3⟩ := hSw; go_simp; try (with_reducible rfl)
    simp only [Act.put, List.setIfInBounds_toArray, List.set_cons_zero, List.set_cons_succ]
    refine wpAnyH_take (i := 2) (oi := { dst := some 21, op := Op.nilCheck (Operand.tmp 20), type := 0, pos := "l04_home.go:84", after := #[{ on := 1, ground := Ground.data }], guard := none }) (v := ?r1_v2) rfl (by kernel_rfl) (by kernel_rfl) (by kernel_rfl) (fun _ _ _ h => h) (Or.inl ⟨by rfl, ?r1_hy2⟩) (by assumption) ?r1_rest2
    case r1_hy2 => intro w hSw; obtain ⟨s0, s2, s3⟩ := hSw; go_simp; try (with_reducible rfl)
    simp only [Act.put, List.setIfInBounds_toArray, List.set_cons_zero, List.set_cons_succ]
    refine wpAnyH_take (i := 3) (oi := { dst := some 22, op := Op.fieldAddr 62 (Operand.tmp 21) 0, type := 0, pos := "l04_home.go:84", after := #[{ on := 2, ground := Ground.data }], guard := none }) (v := ?r1_v3) rfl (by kernel_rfl) (by kernel_rfl) (by kernel_rfl) (fun _ _ _ h => h) (Or.inl ⟨by rfl, ?r1_hy3⟩) (by assumption) ?r1_rest3
    case r1_hy3 => intro w hSw; obtain ⟨s0, s2, s3⟩ := hSw; go_simp; try (with_reducible rfl)
    simp only [Act.put, List.setIfInBounds_toArray, List.set_cons_zero, List.set_cons_succ]
    refine wpAnyH_take (i := 4) (oi := { dst := some 23, op := Op.fieldAddr 30 (Operand.tmp 22) 6, type := 0, pos := "l04_home.go:84", after := #[{ on := 3, ground := Ground.data }], guard := none }) (v := ?r1_v4) rfl (by kernel_rfl) (by kernel_rfl) (by kernel_rfl) (fun _ _ _ h => h) (Or.inl ⟨by rfl, ?r1_hy4⟩) (by assumption) ?r1_rest4
    case r1_hy4 => intro w hSw; obtain ⟨s0, s2, s3⟩ := hSw; go_simp; try (with_reducible rfl)
    simp only [Act.put, List.setIfInBounds_toArray, List.set_cons_zero, List.set_cons_succ]
    refine wpAnyH_take (i := 6) (oi := { dst := some 25, op := Op.move (Operand.tmp 1), type := 3, pos := "l04_home.go:84", after := #[], guard := none }) (v := ?r1_v6) rfl (by kernel_rfl) (by kernel_rfl) (by kernel_rfl) (fun _ _ _ h => h) (Or.inl ⟨by rfl, ?r1_hy6⟩) (by assumption) ?r1_rest6
    case r1_hy6 => intro w hSw; obtain ⟨s0, s2, s3⟩ := hSw; go_simp; try (with_reducible rfl)
    simp only [Act.put, List.setIfInBounds_toArray, List.set_cons_zero, List.set_cons_succ]
    refine wpAnyH_take (i := 7) (oi := { dst := some 26, op := Op.fieldAddr 34 (Operand.tmp 5) 0, type := 0, pos := "l04_home.go:84", after := #[], guard := none }) (v := ?r1_v7) rfl (by kernel_rfl) (by kernel_rfl) (by kernel_rfl) (fun _ _ _ h => h) (Or.inl ⟨by rfl, ?r1_hy7⟩) (by assumption) ?r1_rest7
    case r1_hy7 => intro w hSw; obtain ⟨s0, s2, s3⟩ := hSw; go_simp; try (with_reducible rfl)
    simp only [Act.put, List.setIfInBounds_toArray, List.set_cons_zero, List.set_cons_succ]
    refine wpAnyH_take (i := 8) (oi := { dst := some 27, op := Op.load 3 (Operand.tmp 26), type := 3, pos := "l04_home.go:84", after := #[{ on := 7, ground := Ground.data }], guard := none }) (v := ?r1_v8) rfl (by kernel_rfl) (by kernel_rfl) (by kernel_rfl) (fun _ _ _ h => h) (Or.inl ⟨by rfl, ?r1_hy8⟩) (by assumption) ?r1_rest8
    case r1_hy8 => intro w hSw; obtain ⟨s0, s2, s3⟩ := hSw; go_simp; try (with_reducible rfl)
    simp only [Act.put, List.setIfInBounds_toArray, List.set_cons_zero, List.set_cons_succ]
    refine wpAnyH_take (i := 9) (oi := { dst := some 28, op := Op.binOp BinOp.eql 3 (Operand.tmp 27) (Operand.const (Value.int IntKind.i64 2)) 3, type := 4, pos := "l04_home.go:84", after := #[{ on := 8, ground := Ground.data }], guard := none }) (v := ?r1_v9) rfl (by kernel_rfl) (by kernel_rfl) (by kernel_rfl) (fun _ _ _ h => h) (Or.inl ⟨by rfl, ?r1_hy9⟩) (by assumption) ?r1_rest9
    case r1_hy9 => intro w hSw; obtain ⟨s0, s2, s3⟩ := hSw; go_simp; try (with_reducible rfl)
    simp only [Act.put, List.setIfInBounds_toArray, List.set_cons_zero, List.set_cons_succ]
    refine wpAnyH_take (i := 10) (oi := { dst := some 29, op := Op.build 27 #[(0, Operand.tmp 25), (1, Operand.tmp 28)], type := 27, pos := "l04_home.go:84", after := #[{ on := 6, ground := Ground.data }, { on := 9, ground := Ground.data }], guard := none }) (v := ?r1_v10) rfl (by kernel_rfl) (by kernel_rfl) (by kernel_rfl) (fun _ _ _ h => h) (Or.inl ⟨by rfl, ?r1_hy10⟩) (by assumption) ?r1_rest10
    case r1_hy10 => intro w hSw; obtain ⟨s0, s2, s3⟩ := hSw; go_simp; try (with_reducible rfl)
    simp only [Act.put, List.setIfInBounds_toArray, List.set_cons_zero, List.set_cons_succ]
    refine wpAnyH_ready (rs := [5, 11]) (by kernel_rfl) (by simp) ?_
    refine AllReadyH.cons (o := { dst := some 24, op := Op.load 28 (Operand.tmp 23), type := 28, pos := "l04_home.go:84", after := #[{ on := 4, ground := Ground.data }], guard := none }) rfl (fun K2 hK2 => ?_) (AllReadyH.cons (o := { dst := some 30, op := Op.buildSlice 28 1 #[(0, Operand.tmp 29)], type := 28, pos := "l04_home.go:84", after := #[{ on := 10, ground := Ground.data }], guard := none }) rfl (fun K2 hK2 => ?_) AllReadyH.nil)
    · have k7d : W0.drew.cell? ⟨kB, 7, none⟩ = some (.slice aq 0 cq) := k7
      go_simp
      refine hK2.out _ _ ?_ (fun hHeld2 => ?_)
      · exact K0.out _ (bel_drew (Below.refl _ _))
      clear hK2 K2 hHeld
      have hHeld := hHeld2
      clear hHeld2
      try simp only [Act.put, List.setIfInBounds_toArray, List.set_cons_zero, List.set_cons_succ]
      refine wpAnyH_ready (rs := [11]) (by kernel_rfl) (by simp) ?_
      refine AllReadyH.cons (o := { dst := some 30, op := Op.buildSlice 28 1 #[(0, Operand.tmp 29)], type := 28, pos := "l04_home.go:84", after := #[{ on := 10, ground := Ground.data }], guard := none }) rfl (fun K2 hK2 => ?_) AllReadyH.nil
      go_simp
      refine hK2.out _ _ ?_ (fun hHeld2 => ?_)
      · exact K0.out _ (bel_alloc (bel_drew (Below.refl _ _)) _)
      clear hK2 K2 hHeld
      have hHeld := hHeld2
      clear hHeld2
      try simp only [Act.put, List.setIfInBounds_toArray, List.set_cons_zero, List.set_cons_succ]
      have bE := bel_alloc (bel_drew (Below.refl W0.heap.size W0)) (.cells #[.int .i64 fr, .bool false] 27)
      have XE : Box (W0.drew.alloc (.cells #[.int .i64 fr, .bool false] 27)) W0.heap.size #[.int .i64 fr, .bool false] 27 := Box.new W0.drew _ _
      have hq2 := owns_below hq1 bE
      refine wpAnyH_ready (rs := [12]) (by kernel_rfl) (by simp) ?_
      refine AllReadyH.cons (o := { dst := some 31, op := Op.call { callee := Callee.builtin Builtin.append, args := #[Operand.tmp 24, Operand.tmp 30], argTypes := #[28, 28] }, type := 28, pos := "l04_home.go:84", after := #[{ on := 5, ground := Ground.data }, { on := 11, ground := Ground.data }], guard := none }) rfl (fun K2 hK2 => ?_) AllReadyH.nil
      refine step_append_rowYtliihkdocbpolaa rfl (.tmp 24) (.tmp 30) 28 rfl lo 27 i3 (.agg #[.int .i64 0, .bool false]) 2 16 Try.underlying28 hi3 hz30 hz31 hz32 rfl (by decide) (.slice aq 0 cq) 0 [] (by rfl) hq2 (some ⟨W0.heap.size, 0, none⟩) 1 1 [.int .i64 fr, .bool false] (by rfl) (by simp) (fun j u hu => ⟨W0.heap.size, 0, rfl, by rw [Nat.zero_add]; have hj : j = 0 ∨ j = 1 := (by have := (List.getElem?_eq_some_iff.1 hu).1; simp at this; omega); rcases hj with rfl | rfl <;> (simp at hu; subst hu); exact XE.cell 0; exact XE.cell 1⟩) (by intro u hu; simp at hu; rcases hu with rfl | rfl <;> rfl) (by unfold maxLen; omega) (by omega) (by have := hsz.out; simp; omega) ?_
      intro v1 w1 o1 g1
      rw [Nat.zero_add, List.nil_append] at o1
      have o2 : w1.ownsRow lo 27 2 v1 ([(fr, false)] : List (Int × Bool)).length (wv [(fr, false)]) := o1
      obtain ⟨L2, KB⟩ := SLies.grown (HL0.out.below bE) g1 o2
      have X2 := (HXM.out.below bE).kept g1 (fun j hj e => box_ne (HXM.out.below bE) hq2 (by decide) (by rw [hj, e]))
      obtain ⟨a1, c1, rfl⟩ := owns_slice o1
      refine hK2.out _ _ ?_ (fun hHeld2 => ?_)
      · exact ⟨X2.cell 0, X2.lt, KB.lt⟩
      clear hK2 K2 hHeld
      have hHeld := hHeld2
      clear hHeld2
      try simp only [Act.put, List.setIfInBounds_toArray, List.set_cons_zero, List.set_cons_succ]
      refine wpAnyH_take (i := 13) (oi := { dst := some 32, op := Op.nilCheck (Operand.tmp 19), type := 0, pos := "l04_home.go:84", after := #[{ on := 0, ground := Ground.data }, { on := 0, ground := Ground.phase }, { on := 1, ground := Ground.phase }, { on := 2, ground := Ground.phase }, { on := 3, ground := Ground.phase }, { on := 4, ground := Ground.phase }, { on := 5, ground := Ground.phase }, { on := 6, ground := Ground.phase }, { on := 7, ground := Ground.phase }, { on := 8, ground := Ground.phase }, { on := 9, ground := Ground.phase }, { on := 10, ground := Ground.phase }, { on := 11, ground := Ground.phase }, { on := 12, ground := Ground.phase }], guard := none }) (v := ?r2_v13) rfl (by kernel_rfl) (by kernel_rfl) (by kernel_rfl) (fun _ _ _ h => h) (Or.inl ⟨by rfl, ?r2_hy13⟩) (by assumption) ?r2_rest13
      case r2_hy13 => intro w hSw; obtain ⟨s0, s2, s3⟩ := hSw; go_simp; try (with_reducible rfl)
      simp only [Act.put, List.setIfInBounds_toArray, List.set_cons_zero, List.set_cons_succ]
      refine wpAnyH_take (i := 14) (oi := { dst := some 33, op := Op.fieldAddr 62 (Operand.tmp 32) 0, type := 0, pos := "l04_home.go:84", after := #[{ on := 13, ground := Ground.data }, { on := 0, ground := Ground.phase }, { on := 1, ground := Ground.phase }, { on := 2, ground := Ground.phase }, { on := 3, ground := Ground.phase }, { on := 4, ground := Ground.phase }, { on := 5, ground := Ground.phase }, { on := 6, ground := Ground.phase }, { on := 7, ground := Ground.phase }, { on := 8, ground := Ground.phase }, { on := 9, ground := Ground.phase }, { on := 10, ground := Ground.phase }, { on := 11, ground := Ground.phase }, { on := 12, ground := Ground.phase }], guard := none }) (v := ?r2_v14) rfl (by kernel_rfl) (by kernel_rfl) (by kernel_rfl) (fun _ _ _ h => h) (Or.inl ⟨by rfl, ?r2_hy14⟩) (by assumption) ?r2_rest14
      case r2_hy14 => intro w hSw; obtain ⟨s0, s2, s3⟩ := hSw; go_simp; try (with_reducible rfl)
      simp only [Act.put, List.setIfInBounds_toArray, List.set_cons_zero, List.set_cons_succ]
      refine wpAnyH_take (i := 15) (oi := { dst := some 34, op := Op.fieldAddr 30 (Operand.tmp 33) 6, type := 0, pos := "l04_home.go:84", after := #[{ on := 14, ground := Ground.data }, { on := 0, ground := Ground.phase }, { on := 1, ground := Ground.phase }, { on := 2, ground := Ground.phase }, { on := 3, ground := Ground.phase }, { on := 4, ground := Ground.phase }, { on := 5, ground := Ground.phase }, { on := 6, ground := Ground.phase }, { on := 7, ground := Ground.phase }, { on := 8, ground := Ground.phase }, { on := 9, ground := Ground.phase }, { on := 10, ground := Ground.phase }, { on := 11, ground := Ground.phase }, { on := 12, ground := Ground.phase }], guard := none }) (v := ?r2_v15) rfl (by kernel_rfl) (by kernel_rfl) (by kernel_rfl) (fun _ _ _ h => h) (Or.inl ⟨by rfl, ?r2_hy15⟩) (by assumption) ?r2_rest15
      case r2_hy15 => intro w hSw; obtain ⟨s0, s2, s3⟩ := hSw; go_simp; try (with_reducible rfl)
      simp only [Act.put, List.setIfInBounds_toArray, List.set_cons_zero, List.set_cons_succ]
      have kc7 : w1.cell? ⟨kB, 7, none⟩ = some (.slice aq 0 cq) := KB.cell 7
      have kf7 := KB.frozen 7
      have kz1 := KB.lt
      have X3 := X2.far ⟨kB, 7, none⟩ (.slice a1 1 c1) (box_box X2 KB (by decide))
      refine wpAnyH_ready (rs := [16]) (by kernel_rfl) (by simp) ?_
      refine AllReadyH.cons (o := { dst := none, op := Op.store 28 (Operand.tmp 34) (Operand.tmp 31), type := 0, pos := "l04_home.go:84", after := #[{ on := 15, ground := Ground.data }, { on := 12, ground := Ground.data }, { on := 12, ground := Ground.chain }, { on := 0, ground := Ground.phase }, { on := 1, ground := Ground.phase }, { on := 2, ground := Ground.phase }, { on := 3, ground := Ground.phase }, { on := 4, ground := Ground.phase }, { on := 5, ground := Ground.phase }, { on := 6, ground := Ground.phase }, { on := 7, ground := Ground.phase }, { on := 8, ground := Ground.phase }, { on := 9, ground := Ground.phase }, { on := 10, ground := Ground.phase }, { on := 11, ground := Ground.phase }, { on := 12, ground := Ground.phase }], guard := none }) rfl (fun K2 hK2 => ?_) AllReadyH.nil
      go_simp
      refine hK2.out _ _ ?_ (fun hHeld2 => ?_)
      · exact ⟨X3.cell 0, X3.lt, L2.k.lt⟩
      clear hK2 K2 hHeld
      have hHeld := hHeld2
      clear hHeld2
      try simp only [Act.put, List.setIfInBounds_toArray, List.set_cons_zero, List.set_cons_succ]
      refine wpAnyH_done (by kernel_rfl) ?_ _
      have BB : Below lo w w1 := (⟨HB0.out.os, HB0.out.tape, HB0.out.output, by have := HB0.out.size; omega, fun i hi => HB0.out.block i (by omega)⟩ : Below lo w W0).trans ((⟨bE.os, bE.tape, bE.output, by have := bE.size; have := hsz.out; omega, fun i hi => bE.block i (by have := hsz.out; omega)⟩ : Below lo W0 _).trans ⟨g1.os, g1.tape, g1.output, g1.size, fun i hi => g1.block i (by have := hsz.out; simp; omega) (fun e => by have := (hq2.lt i e.symm).1; omega)⟩)
      have HF : Hid (_ ∧ _) := ⟨L2, Below.setCell (p := ⟨kB, 7, none⟩) BB L2.lk (.slice a1 1 c1)⟩
      clear L2 KB X2 X3 BB hHeld o1 o2 g1 bE XE hq2 kc7 kf7
      go_wp2
      refine ⟨rfl, .bool true, by simp [results, Try.results24, go_sem], rfl, _, HF.out.1, HF.out.2⟩
    · have k7d : W0.drew.cell? ⟨kB, 7, none⟩ = some (.slice aq 0 cq) := k7
      go_simp
      refine hK2.out _ _ ?_ (fun hHeld2 => ?_)
      · exact K0.out _ (bel_alloc (bel_drew (Below.refl _ _)) _)
      clear hK2 K2 hHeld
      have hHeld := hHeld2
      clear hHeld2
      try simp only [Act.put, List.setIfInBounds_toArray, List.set_cons_zero, List.set_cons_succ]
      have k7e : (W0.drew.alloc (.cells #[.int .i64 fr, .bool false] 27)).cell? ⟨kB, 7, none⟩ = some (.slice aq 0 cq) := (K0b.out _ (bel_alloc (bel_drew (Below.refl W0.heap.size W0)) (.cells #[.int .i64 fr, .bool false] 27)))
      refine wpAnyH_ready (rs := [5]) (by kernel_rfl) (by simp) ?_
      refine AllReadyH.cons (o := { dst := some 24, op := Op.load 28 (Operand.tmp 23), type := 28, pos := "l04_home.go:84", after := #[{ on := 4, ground := Ground.data }], guard := none }) rfl (fun K2 hK2 => ?_) AllReadyH.nil
      go_simp
      refine hK2.out _ _ ?_ (fun hHeld2 => ?_)
      · exact K0.out _ (bel_alloc (bel_drew (Below.refl _ _)) _)
      clear hK2 K2 hHeld
      have hHeld := hHeld2
      clear hHeld2
      try simp only [Act.put, List.setIfInBounds_toArray, List.set_cons_zero, List.set_cons_succ]
      have bE := bel_alloc (bel_drew (Below.refl W0.heap.size W0)) (.cells #[.int .i64 fr, .bool false] 27)
      have XE : Box (W0.drew.alloc (.cells #[.int .i64 fr, .bool false] 27)) W0.heap.size #[.int .i64 fr, .bool false] 27 := Box.new W0.drew _ _
      have hq2 := owns_below hq1 bE
      refine wpAnyH_ready (rs := [12]) (by kernel_rfl) (by simp) ?_
      refine AllReadyH.cons (o := { dst := some 31, op := Op.call { callee := Callee.builtin Builtin.append, args := #[Operand.tmp 24, Operand.tmp 30], argTypes := #[28, 28] }, type := 28, pos := "l04_home.go:84", after := #[{ on := 5, ground := Ground.data }, { on := 11, ground := Ground.data }], guard := none }) rfl (fun K2 hK2 => ?_) AllReadyH.nil
      refine step_append_rowYtliihkdocbpolaa rfl (.tmp 24) (.tmp 30) 28 rfl lo 27 i3 (.agg #[.int .i64 0, .bool false]) 2 16 Try.underlying28 hi3 hz30 hz31 hz32 rfl (by decide) (.slice aq 0 cq) 0 [] (by rfl) hq2 (some ⟨W0.heap.size, 0, none⟩) 1 1 [.int .i64 fr, .bool false] (by rfl) (by simp) (fun j u hu => ⟨W0.heap.size, 0, rfl, by rw [Nat.zero_add]; have hj : j = 0 ∨ j = 1 := (by have := (List.getElem?_eq_some_iff.1 hu).1; simp at this; omega); rcases hj with rfl | rfl <;> (simp at hu; subst hu); exact XE.cell 0; exact XE.cell 1⟩) (by intro u hu; simp at hu; rcases hu with rfl | rfl <;> rfl) (by unfold maxLen; omega) (by omega) (by have := hsz.out; simp; omega) ?_
      intro v1 w1 o1 g1
      rw [Nat.zero_add, List.nil_append] at o1
      have o2 : w1.ownsRow lo 27 2 v1 ([(fr, false)] : List (Int × Bool)).length (wv [(fr, false)]) := o1
      obtain ⟨L2, KB⟩ := SLies.grown (HL0.out.below bE) g1 o2
      have X2 := (HXM.out.below bE).kept g1 (fun j hj e => box_ne (HXM.out.below bE) hq2 (by decide) (by rw [hj, e]))
      obtain ⟨a1, c1, rfl⟩ := owns_slice o1
      refine hK2.out _ _ ?_ (fun hHeld2 => ?_)
      · exact ⟨X2.cell 0, X2.lt, KB.lt⟩
      clear hK2 K2 hHeld
      have hHeld := hHeld2
      clear hHeld2
      try simp only [Act.put, List.setIfInBounds_toArray, List.set_cons_zero, List.set_cons_succ]
      refine wpAnyH_take (i := 13) (oi := { dst := some 32, op := Op.nilCheck (Operand.tmp 19), type := 0, pos := "l04_home.go:84", after := #[{ on := 0, ground := Ground.data }, { on := 0, ground := Ground.phase }, { on := 1, ground := Ground.phase }, { on := 2, ground := Ground.phase }, { on := 3, ground := Ground.phase }, { on := 4, ground := Ground.phase }, { on := 5, ground := Ground.phase }, { on := 6, ground := Ground.phase }, { on := 7, ground := Ground.phase }, { on := 8, ground := Ground.phase }, { on := 9, ground := Ground.phase }, { on := 10, ground := Ground.phase }, { on := 11, ground := Ground.phase }, { on := 12, ground := Ground.phase }], guard := none }) (v := ?r3_v13) rfl (by kernel_rfl) (by kernel_rfl) (by kernel_rfl) (fun _ _ _ h => h) (Or.inl ⟨by rfl, ?r3_hy13⟩) (by assumption) ?r3_rest13
      case r3_hy13 => intro w hSw; obtain ⟨s0, s2, s3⟩ := hSw; go_simp; try (with_reducible rfl)
      simp only [Act.put, List.setIfInBounds_toArray, List.set_cons_zero, List.set_cons_succ]
      refine wpAnyH_take (i := 14) (oi := { dst := some 33, op := Op.fieldAddr 62 (Operand.tmp 32) 0, type := 0, pos := "l04_home.go:84", after := #[{ on := 13, ground := Ground.data }, { on := 0, ground := Ground.phase }, { on := 1, ground := Ground.phase }, { on := 2, ground := Ground.phase }, { on := 3, ground := Ground.phase }, { on := 4, ground := Ground.phase }, { on := 5, ground := Ground.phase }, { on := 6, ground := Ground.phase }, { on := 7, ground := Ground.phase }, { on := 8, ground := Ground.phase }, { on := 9, ground := Ground.phase }, { on := 10, ground := Ground.phase }, { on := 11, ground := Ground.phase }, { on := 12, ground := Ground.phase }], guard := none }) (v := ?r3_v14) rfl (by kernel_rfl) (by kernel_rfl) (by kernel_rfl) (fun _ _ _ h => h) (Or.inl ⟨by rfl, ?r3_hy14⟩) (by assumption) ?r3_rest14
      case r3_hy14 => intro w hSw; obtain ⟨s0, s2, s3⟩ := hSw; go_simp; try (with_reducible rfl)
      simp only [Act.put, List.setIfInBounds_toArray, List.set_cons_zero, List.set_cons_succ]
      refine wpAnyH_take (i := 15) (oi := { dst := some 34, op := Op.fieldAddr 30 (Operand.tmp 33) 6, type := 0, pos := "l04_home.go:84", after := #[{ on := 14, ground := Ground.data }, { on := 0, ground := Ground.phase }, { on := 1, ground := Ground.phase }, { on := 2, ground := Ground.phase }, { on := 3, ground := Ground.phase }, { on := 4, ground := Ground.phase }, { on := 5, ground := Ground.phase }, { on := 6, ground := Ground.phase }, { on := 7, ground := Ground.phase }, { on := 8, ground := Ground.phase }, { on := 9, ground := Ground.phase }, { on := 10, ground := Ground.phase }, { on := 11, ground := Ground.phase }, { on := 12, ground := Ground.phase }], guard := none }) (v := ?r3_v15) rfl (by kernel_rfl) (by kernel_rfl) (by kernel_rfl) (fun _ _ _ h => h) (Or.inl ⟨by rfl, ?r3_hy15⟩) (by assumption) ?r3_rest15
      case r3_hy15 => intro w hSw; obtain ⟨s0, s2, s3⟩ := hSw; go_simp; try (with_reducible rfl)
      simp only [Act.put, List.setIfInBounds_toArray, List.set_cons_zero, List.set_cons_succ]
      have kc7 : w1.cell? ⟨kB, 7, none⟩ = some (.slice aq 0 cq) := KB.cell 7
      have kf7 := KB.frozen 7
      have kz1 := KB.lt
      have X3 := X2.far ⟨kB, 7, none⟩ (.slice a1 1 c1) (box_box X2 KB (by decide))
      refine wpAnyH_ready (rs := [16]) (by kernel_rfl) (by simp) ?_
      refine AllReadyH.cons (o := { dst := none, op := Op.store 28 (Operand.tmp 34) (Operand.tmp 31), type := 0, pos := "l04_home.go:84", after := #[{ on := 15, ground := Ground.data }, { on := 12, ground := Ground.data }, { on := 12, ground := Ground.chain }, { on := 0, ground := Ground.phase }, { on := 1, ground := Ground.phase }, { on := 2, ground := Ground.phase }, { on := 3, ground := Ground.phase }, { on := 4, ground := Ground.phase }, { on := 5, ground := Ground.phase }, { on := 6, ground := Ground.phase }, { on := 7, ground := Ground.phase }, { on := 8, ground := Ground.phase }, { on := 9, ground := Ground.phase }, { on := 10, ground := Ground.phase }, { on := 11, ground := Ground.phase }, { on := 12, ground := Ground.phase }], guard := none }) rfl (fun K2 hK2 => ?_) AllReadyH.nil
      go_simp
      refine hK2.out _ _ ?_ (fun hHeld2 => ?_)
      · exact ⟨X3.cell 0, X3.lt, L2.k.lt⟩
      clear hK2 K2 hHeld
      have hHeld := hHeld2
      clear hHeld2
      try simp only [Act.put, List.setIfInBounds_toArray, List.set_cons_zero, List.set_cons_succ]
      refine wpAnyH_done (by kernel_rfl) ?_ _
      have BB : Below lo w w1 := (⟨HB0.out.os, HB0.out.tape, HB0.out.output, by have := HB0.out.size; omega, fun i hi => HB0.out.block i (by omega)⟩ : Below lo w W0).trans ((⟨bE.os, bE.tape, bE.output, by have := bE.size; have := hsz.out; omega, fun i hi => bE.block i (by have := hsz.out; omega)⟩ : Below lo W0 _).trans ⟨g1.os, g1.tape, g1.output, g1.size, fun i hi => g1.block i (by have := hsz.out; simp; omega) (fun e => by have := (hq2.lt i e.symm).1; omega)⟩)
      have HF : Hid (_ ∧ _) := ⟨L2, Below.setCell (p := ⟨kB, 7, none⟩) BB L2.lk (.slice a1 1 c1)⟩
      clear L2 KB X2 X3 BB hHeld o1 o2 g1 bE XE hq2 kc7 kf7
      go_wp2
      refine ⟨rfl, .bool true, by simp [results, Try.results24, go_sem], rfl, _, HF.out.1, HF.out.2⟩
  · go_enter Try.func24, Try.ntmps24
    go_wp2_with fail
    refine wp_region_held_drew (S := (fun w' => w'.cell? ⟨w.heap.size, 0, none⟩ = some (.int .i64 2) ∧ w.heap.size < w'.heap.size ∧ kB < w'.heap.size)) (by kernel_rfl) ?_ (fun hHeld => ?_)
    · exact K0.out _ (bel_drew (Below.refl _ _))
    refine wpAnyH_take (i := 0) (oi := { dst := some 19, op := Op.move (Operand.tmp 0), type := 60, pos := "l04_home.go:84", after := #[], guard := none }) (v := ?r4_v0) rfl (by kernel_rfl) (by kernel_rfl) (by kernel_rfl) (fun _ _ _ h => h) (Or.inl ⟨by rfl, ?r4_hy0⟩) (by assumption) ?r4_rest0
    case r4_hy0 => intro w hSw; obtain ⟨s0, s2, s3⟩ := hSw; go_simp; try (with_reducible rfl)
    simp only [Act.put, List.setIfInBounds_toArray, List.set_cons_zero, List.set_cons_succ]
    refine wpAnyH_take (i := 1) (oi := { dst := some 20, op := Op.move (Operand.tmp 0), type := 60, pos := "l04_home.go:84", after := #[], guard := none }) (v := ?r4_v1) rfl (by kernel_rfl) (by kernel_rfl) (by kernel_rfl) (fun _ _ _ h => h) (Or.inl ⟨by rfl, ?r4_hy1⟩) (by assumption) ?r4_rest1
    case r4_hy1 => intro w hSw; obtain ⟨s0, s2, s3⟩ := hSw; go_simp; try (with_reducible rfl)
    simp only [Act.put, List.setIfInBounds_toArray, List.set_cons_zero, List.set_cons_succ]
    refine wpAnyH_take (i := 2) (oi := { dst := some 21, op := Op.nilCheck (Operand.tmp 20), type := 0, pos := "l04_home.go:84", after := #[{ on := 1, ground := Ground.data }], guard := none }) (v := ?r4_v2) rfl (by kernel_rfl) (by kernel_rfl) (by kernel_rfl) (fun _ _ _ h => h) (Or.inl ⟨by rfl, ?r4_hy2⟩) (by assumption) ?r4_rest2
    case r4_hy2 => intro w hSw; obtain ⟨s0, s2, s3⟩ := hSw; go_simp; try (with_reducible rfl)
    simp only [Act.put, List.setIfInBounds_toArray, List.set_cons_zero, List.set_cons_succ]
    refine wpAnyH_take (i := 3) (oi := { dst := some 22, op := Op.fieldAddr 62 (Operand.tmp 21) 0, type := 0, pos := "l04_home.go:84", after := #[{ on := 2, ground := Ground.data }], guard := none }) (v := ?r4_v3) rfl (by kernel_rfl) (by kernel_rfl) (by kernel_rfl) (fun _ _ _ h => h) (Or.inl ⟨by rfl, ?r4_hy3⟩) (by assumption) ?r4_rest3
    case r4_hy3 => intro w hSw; obtain ⟨s0, s2, s3⟩ := hSw; go_simp; try (with_reducible rfl)
    simp only [Act.put, List.setIfInBounds_toArray, List.set_cons_zero, List.set_cons_succ]
    refine wpAnyH_take (i := 4) (oi := { dst := some 23, op := Op.fieldAddr 30 (Operand.tmp 22) 6, type := 0, pos := "l04_home.go:84", after := #[{ on := 3, ground := Ground.data }], guard := none }) (v := ?r4_v4) rfl (by kernel_rfl) (by kernel_rfl) (by kernel_rfl) (fun _ _ _ h => h) (Or.inl ⟨by rfl, ?r4_hy4⟩) (by assumption) ?r4_rest4
    case r4_hy4 => intro w hSw; obtain ⟨s0, s2, s3⟩ := hSw; go_simp; try (with_reducible rfl)
    simp only [Act.put, List.setIfInBounds_toArray, List.set_cons_zero, List.set_cons_succ]
    refine wpAnyH_take (i := 6) (oi := { dst := some 25, op := Op.move (Operand.tmp 1), type := 3, pos := "l04_home.go:84", after := #[], guard := none }) (v := ?r4_v6) rfl (by kernel_rfl) (by kernel_rfl) (by kernel_rfl) (fun _ _ _ h => h) (Or.inl ⟨by rfl, ?r4_hy6⟩) (by assumption) ?r4_rest6
    case r4_hy6 => intro w hSw; obtain ⟨s0, s2, s3⟩ := hSw; go_simp; try (with_reducible rfl)
    simp only [Act.put, List.setIfInBounds_toArray, List.set_cons_zero, List.set_cons_succ]
    refine wpAnyH_take (i := 7) (oi := { dst := some 26, op := Op.fieldAddr 34 (Operand.tmp 5) 0, type := 0, pos := "l04_home.go:84", after := #[], guard := none }) (v := ?r4_v7) rfl (by kernel_rfl) (by kernel_rfl) (by kernel_rfl) (fun _ _ _ h => h) (Or.inl ⟨by rfl, ?r4_hy7⟩) (by assumption) ?r4_rest7
    case r4_hy7 => intro w hSw; obtain ⟨s0, s2, s3⟩ := hSw; go_simp; try (with_reducible rfl)
    simp only [Act.put, List.setIfInBounds_toArray, List.set_cons_zero, List.set_cons_succ]
    refine wpAnyH_take (i := 8) (oi := { dst := some 27, op := Op.load 3 (Operand.tmp 26), type := 3, pos := "l04_home.go:84", after := #[{ on := 7, ground := Ground.data }], guard := none }) (v := ?r4_v8) rfl (by kernel_rfl) (by kernel_rfl) (by kernel_rfl) (fun _ _ _ h => h) (Or.inl ⟨by rfl, ?r4_hy8⟩) (by assumption) ?r4_rest8
    case r4_hy8 => intro w hSw; obtain ⟨s0, s2, s3⟩ := hSw; go_simp; try (with_reducible rfl)
    simp only [Act.put, List.setIfInBounds_toArray, List.set_cons_zero, List.set_cons_succ]
    refine wpAnyH_take (i := 9) (oi := { dst := some 28, op := Op.binOp BinOp.eql 3 (Operand.tmp 27) (Operand.const (Value.int IntKind.i64 2)) 3, type := 4, pos := "l04_home.go:84", after := #[{ on := 8, ground := Ground.data }], guard := none }) (v := ?r4_v9) rfl (by kernel_rfl) (by kernel_rfl) (by kernel_rfl) (fun _ _ _ h => h) (Or.inl ⟨by rfl, ?r4_hy9⟩) (by assumption) ?r4_rest9
    case r4_hy9 => intro w hSw; obtain ⟨s0, s2, s3⟩ := hSw; go_simp; try (with_reducible rfl)
    simp only [Act.put, List.setIfInBounds_toArray, List.set_cons_zero, List.set_cons_succ]
    refine wpAnyH_take (i := 10) (oi := { dst := some 29, op := Op.build 27 #[(0, Operand.tmp 25), (1, Operand.tmp 28)], type := 27, pos := "l04_home.go:84", after := #[{ on := 6, ground := Ground.data }, { on := 9, ground := Ground.data }], guard := none }) (v := ?r4_v10) rfl (by kernel_rfl) (by kernel_rfl) (by kernel_rfl) (fun _ _ _ h => h) (Or.inl ⟨by rfl, ?r4_hy10⟩) (by assumption) ?r4_rest10
    case r4_hy10 => intro w hSw; obtain ⟨s0, s2, s3⟩ := hSw; go_simp; try (with_reducible rfl)
    simp only [Act.put, List.setIfInBounds_toArray, List.set_cons_zero, List.set_cons_succ]
    refine wpAnyH_ready (rs := [5, 11]) (by kernel_rfl) (by simp) ?_
    refine AllReadyH.cons (o := { dst := some 24, op := Op.load 28 (Operand.tmp 23), type := 28, pos := "l04_home.go:84", after := #[{ on := 4, ground := Ground.data }], guard := none }) rfl (fun K2 hK2 => ?_) (AllReadyH.cons (o := { dst := some 30, op := Op.buildSlice 28 1 #[(0, Operand.tmp 29)], type := 28, pos := "l04_home.go:84", after := #[{ on := 10, ground := Ground.data }], guard := none }) rfl (fun K2 hK2 => ?_) AllReadyH.nil)
    · have k7d : W0.drew.cell? ⟨kB, 7, none⟩ = some (.slice aq 0 cq) := k7
      go_simp
      refine hK2.out _ _ ?_ (fun hHeld2 => ?_)
      · exact K0.out _ (bel_drew (Below.refl _ _))
      clear hK2 K2 hHeld
      have hHeld := hHeld2
      clear hHeld2
      try simp only [Act.put, List.setIfInBounds_toArray, List.set_cons_zero, List.set_cons_succ]
      refine wpAnyH_ready (rs := [11]) (by kernel_rfl) (by simp) ?_
      refine AllReadyH.cons (o := { dst := some 30, op := Op.buildSlice 28 1 #[(0, Operand.tmp 29)], type := 28, pos := "l04_home.go:84", after := #[{ on := 10, ground := Ground.data }], guard := none }) rfl (fun K2 hK2 => ?_) AllReadyH.nil
      go_simp
      refine hK2.out _ _ ?_ (fun hHeld2 => ?_)
      · exact K0.out _ (bel_alloc (bel_drew (Below.refl _ _)) _)
      clear hK2 K2 hHeld
      have hHeld := hHeld2
      clear hHeld2
      try simp only [Act.put, List.setIfInBounds_toArray, List.set_cons_zero, List.set_cons_succ]
      have bE := bel_alloc (bel_drew (Below.refl W0.heap.size W0)) (.cells #[.int .i64 fr, .bool true] 27)
      have XE : Box (W0.drew.alloc (.cells #[.int .i64 fr, .bool true] 27)) W0.heap.size #[.int .i64 fr, .bool true] 27 := Box.new W0.drew _ _
      have hq2 := owns_below hq1 bE
      refine wpAnyH_ready (rs := [12]) (by kernel_rfl) (by simp) ?_
      refine AllReadyH.cons (o := { dst := some 31, op := Op.call { callee := Callee.builtin Builtin.append, args := #[Operand.tmp 24, Operand.tmp 30], argTypes := #[28, 28] }, type := 28, pos := "l04_home.go:84", after := #[{ on := 5, ground := Ground.data }, { on := 11, ground := Ground.data }], guard := none }) rfl (fun K2 hK2 => ?_) AllReadyH.nil
      refine step_append_rowYtliihkdocbpolaa rfl (.tmp 24) (.tmp 30) 28 rfl lo 27 i3 (.agg #[.int .i64 0, .bool false]) 2 16 Try.underlying28 hi3 hz30 hz31 hz32 rfl (by decide) (.slice aq 0 cq) 0 [] (by rfl) hq2 (some ⟨W0.heap.size, 0, none⟩) 1 1 [.int .i64 fr, .bool true] (by rfl) (by simp) (fun j u hu => ⟨W0.heap.size, 0, rfl, by rw [Nat.zero_add]; have hj : j = 0 ∨ j = 1 := (by have := (List.getElem?_eq_some_iff.1 hu).1; simp at this; omega); rcases hj with rfl | rfl <;> (simp at hu; subst hu); exact XE.cell 0; exact XE.cell 1⟩) (by intro u hu; simp at hu; rcases hu with rfl | rfl <;> rfl) (by unfold maxLen; omega) (by omega) (by have := hsz.out; simp; omega) ?_
      intro v1 w1 o1 g1
      rw [Nat.zero_add, List.nil_append] at o1
      have o2 : w1.ownsRow lo 27 2 v1 ([(fr, true)] : List (Int × Bool)).length (wv [(fr, true)]) := o1
      obtain ⟨L2, KB⟩ := SLies.grown (HL0.out.below bE) g1 o2
      have X2 := (HXM.out.below bE).kept g1 (fun j hj e => box_ne (HXM.out.below bE) hq2 (by decide) (by rw [hj, e]))
      obtain ⟨a1, c1, rfl⟩ := owns_slice o1
      refine hK2.out _ _ ?_ (fun hHeld2 => ?_)
      · exact ⟨X2.cell 0, X2.lt, KB.lt⟩
      clear hK2 K2 hHeld
      have hHeld := hHeld2
      clear hHeld2
      try simp only [Act.put, List.setIfInBounds_toArray, List.set_cons_zero, List.set_cons_succ]
      refine wpAnyH_take (i := 13) (oi := { dst := some 32, op := Op.nilCheck (Operand.tmp 19), type := 0, pos := "l04_home.go:84", after := #[{ on := 0, ground := Ground.data }, { on := 0, ground := Ground.phase }, { on := 1, ground := Ground.phase }, { on := 2, ground := Ground.phase }, { on := 3, ground := Ground.phase }, { on := 4, ground := Ground.phase }, { on := 5, ground := Ground.phase }, { on := 6, ground := Ground.phase }, { on := 7, ground := Ground.phase }, { on := 8, ground := Ground.phase }, { on := 9, ground := Ground.phase }, { on := 10, ground := Ground.phase }, { on := 11, ground := Ground.phase }, { on := 12, ground := Ground.phase }], guard := none }) (v := ?r5_v13) rfl (by kernel_rfl) (by kernel_rfl) (by kernel_rfl) (fun _ _ _ h => h) (Or.inl ⟨by rfl, ?r5_hy13⟩) (by assumption) ?r5_rest13
      case r5_hy13 => intro w hSw; obtain ⟨s0, s2, s3⟩ := hSw; go_simp; try (with_reducible rfl)
      simp only [Act.put, List.setIfInBounds_toArray, List.set_cons_zero, List.set_cons_succ]
      refine wpAnyH_take (i := 14) (oi := { dst := some 33, op := Op.fieldAddr 62 (Operand.tmp 32) 0, type := 0, pos := "l04_home.go:84", after := #[{ on := 13, ground := Ground.data }, { on := 0, ground := Ground.phase }, { on := 1, ground := Ground.phase }, { on := 2, ground := Ground.phase }, { on := 3, ground := Ground.phase }, { on := 4, ground := Ground.phase }, { on := 5, ground := Ground.phase }, { on := 6, ground := Ground.phase }, { on := 7, ground := Ground.phase }, { on := 8, ground := Ground.phase }, { on := 9, ground := Ground.phase }, { on := 10, ground := Ground.phase }, { on := 11, ground := Ground.phase }, { on := 12, ground := Ground.phase }], guard := none }) (v := ?r5_v14) rfl (by kernel_rfl) (by kernel_rfl) (by kernel_rfl) (fun _ _ _ h => h) (Or.inl ⟨by rfl, ?r5_hy14⟩) (by assumption) ?r5_rest14
      case r5_hy14 => intro w hSw; obtain ⟨s0, s2, s3⟩ := hSw; go_simp; try (with_reducible rfl)
      simp only [Act.put, List.setIfInBounds_toArray, List.set_cons_zero, List.set_cons_succ]
      refine wpAnyH_take (i := 15) (oi := { dst := some 34, op := Op.fieldAddr 30 (Operand.tmp 33) 6, type := 0, pos := "l04_home.go:84", after := #[{ on := 14, ground := Ground.data }, { on := 0, ground := Ground.phase }, { on := 1, ground := Ground.phase }, { on := 2, ground := Ground.phase }, { on := 3, ground := Ground.phase }, { on := 4, ground := Ground.phase }, { on := 5, ground := Ground.phase }, { on := 6, ground := Ground.phase }, { on := 7, ground := Ground.phase }, { on := 8, ground := Ground.phase }, { on := 9, ground := Ground.phase }, { on := 10, ground := Ground.phase }, { on := 11, ground := Ground.phase }, { on := 12, ground := Ground.phase }], guard := none }) (v := ?r5_v15) rfl (by kernel_rfl) (by kernel_rfl) (by kernel_rfl) (fun _ _ _ h => h) (Or.inl ⟨by rfl, ?r5_hy15⟩) (by assumption) ?r5_rest15
      case r5_hy15 => intro w hSw; obtain ⟨s0, s2, s3⟩ := hSw; go_simp; try (with_reducible rfl)
      simp only [Act.put, List.setIfInBounds_toArray, List.set_cons_zero, List.set_cons_succ]
      have kc7 : w1.cell? ⟨kB, 7, none⟩ = some (.slice aq 0 cq) := KB.cell 7
      have kf7 := KB.frozen 7
      have kz1 := KB.lt
      have X3 := X2.far ⟨kB, 7, none⟩ (.slice a1 1 c1) (box_box X2 KB (by decide))
      refine wpAnyH_ready (rs := [16]) (by kernel_rfl) (by simp) ?_
      refine AllReadyH.cons (o := { dst := none, op := Op.store 28 (Operand.tmp 34) (Operand.tmp 31), type := 0, pos := "l04_home.go:84", after := #[{ on := 15, ground := Ground.data }, { on := 12, ground := Ground.data }, { on := 12, ground := Ground.chain }, { on := 0, ground := Ground.phase }, { on := 1, ground := Ground.phase }, { on := 2, ground := Ground.phase }, { on := 3, ground := Ground.phase }, { on := 4, ground := Ground.phase }, { on := 5, ground := Ground.phase }, { on := 6, ground := Ground.phase }, { on := 7, ground := Ground.phase }, { on := 8, ground := Ground.phase }, { on := 9, ground := Ground.phase }, { on := 10, ground := Ground.phase }, { on := 11, ground := Ground.phase }, { on := 12, ground := Ground.phase }], guard := none }) rfl (fun K2 hK2 => ?_) AllReadyH.nil
      go_simp
      refine hK2.out _ _ ?_ (fun hHeld2 => ?_)
      · exact ⟨X3.cell 0, X3.lt, L2.k.lt⟩
      clear hK2 K2 hHeld
      have hHeld := hHeld2
      clear hHeld2
      try simp only [Act.put, List.setIfInBounds_toArray, List.set_cons_zero, List.set_cons_succ]
      refine wpAnyH_done (by kernel_rfl) ?_ _
      have BB : Below lo w w1 := (⟨HB0.out.os, HB0.out.tape, HB0.out.output, by have := HB0.out.size; omega, fun i hi => HB0.out.block i (by omega)⟩ : Below lo w W0).trans ((⟨bE.os, bE.tape, bE.output, by have := bE.size; have := hsz.out; omega, fun i hi => bE.block i (by have := hsz.out; omega)⟩ : Below lo W0 _).trans ⟨g1.os, g1.tape, g1.output, g1.size, fun i hi => g1.block i (by have := hsz.out; simp; omega) (fun e => by have := (hq2.lt i e.symm).1; omega)⟩)
      have HF : Hid (_ ∧ _) := ⟨L2, Below.setCell (p := ⟨kB, 7, none⟩) BB L2.lk (.slice a1 1 c1)⟩
      clear L2 KB X2 X3 BB hHeld o1 o2 g1 bE XE hq2 kc7 kf7
      go_wp2
      refine ⟨rfl, .bool true, by simp [results, Try.results24, go_sem], rfl, _, HF.out.1, HF.out.2⟩
    · have k7d : W0.drew.cell? ⟨kB, 7, none⟩ = some (.slice aq 0 cq) := k7
      go_simp
      refine hK2.out _ _ ?_ (fun hHeld2 => ?_)
      · exact K0.out _ (bel_alloc (bel_drew (Below.refl _ _)) _)
      clear hK2 K2 hHeld
      have hHeld := hHeld2
      clear hHeld2
      try simp only [Act.put, List.setIfInBounds_toArray, List.set_cons_zero, List.set_cons_succ]
      have k7e : (W0.drew.alloc (.cells #[.int .i64 fr, .bool true] 27)).cell? ⟨kB, 7, none⟩ = some (.slice aq 0 cq) := (K0b.out _ (bel_alloc (bel_drew (Below.refl W0.heap.size W0)) (.cells #[.int .i64 fr, .bool true] 27)))
      refine wpAnyH_ready (rs := [5]) (by kernel_rfl) (by simp) ?_
      refine AllReadyH.cons (o := { dst := some 24, op := Op.load 28 (Operand.tmp 23), type := 28, pos := "l04_home.go:84", after := #[{ on := 4, ground := Ground.data }], guard := none }) rfl (fun K2 hK2 => ?_) AllReadyH.nil
      go_simp
      refine hK2.out _ _ ?_ (fun hHeld2 => ?_)
      · exact K0.out _ (bel_alloc (bel_drew (Below.refl _ _)) _)
      clear hK2 K2 hHeld
      have hHeld := hHeld2
      clear hHeld2
      try simp only [Act.put, List.setIfInBounds_toArray, List.set_cons_zero, List.set_cons_succ]
      have bE := bel_alloc (bel_drew (Below.refl W0.heap.size W0)) (.cells #[.int .i64 fr, .bool true] 27)
      have XE : Box (W0.drew.alloc (.cells #[.int .i64 fr, .bool true] 27)) W0.heap.size #[.int .i64 fr, .bool true] 27 := Box.new W0.drew _ _
      have hq2 := owns_below hq1 bE
      refine wpAnyH_ready (rs := [12]) (by kernel_rfl) (by simp) ?_
      refine AllReadyH.cons (o := { dst := some 31, op := Op.call { callee := Callee.builtin Builtin.append, args := #[Operand.tmp 24, Operand.tmp 30], argTypes := #[28, 28] }, type := 28, pos := "l04_home.go:84", after := #[{ on := 5, ground := Ground.data }, { on := 11, ground := Ground.data }], guard := none }) rfl (fun K2 hK2 => ?_) AllReadyH.nil
      refine step_append_rowYtliihkdocbpolaa rfl (.tmp 24) (.tmp 30) 28 rfl lo 27 i3 (.agg #[.int .i64 0, .bool false]) 2 16 Try.underlying28 hi3 hz30 hz31 hz32 rfl (by decide) (.slice aq 0 cq) 0 [] (by rfl) hq2 (some ⟨W0.heap.size, 0, none⟩) 1 1 [.int .i64 fr, .bool true] (by rfl) (by simp) (fun j u hu => ⟨W0.heap.size, 0, rfl, by rw [Nat.zero_add]; have hj : j = 0 ∨ j = 1 := (by have := (List.getElem?_eq_some_iff.1 hu).1; simp at this; omega); rcases hj with rfl | rfl <;> (simp at hu; subst hu); exact XE.cell 0; exact XE.cell 1⟩) (by intro u hu; simp at hu; rcases hu with rfl | rfl <;> rfl) (by unfold maxLen; omega) (by omega) (by have := hsz.out; simp; omega) ?_
      intro v1 w1 o1 g1
      rw [Nat.zero_add, List.nil_append] at o1
      have o2 : w1.ownsRow lo 27 2 v1 ([(fr, true)] : List (Int × Bool)).length (wv [(fr, true)]) := o1
      obtain ⟨L2, KB⟩ := SLies.grown (HL0.out.below bE) g1 o2
      have X2 := (HXM.out.below bE).kept g1 (fun j hj e => box_ne (HXM.out.below bE) hq2 (by decide) (by rw [hj, e]))
      obtain ⟨a1, c1, rfl⟩ := owns_slice o1
      refine hK2.out _ _ ?_ (fun hHeld2 => ?_)
      · exact ⟨X2.cell 0, X2.lt, KB.lt⟩
      clear hK2 K2 hHeld
      have hHeld := hHeld2
      clear hHeld2
      try simp only [Act.put, List.setIfInBounds_toArray, List.set_cons_zero, List.set_cons_succ]
      refine wpAnyH_take (i := 13) (oi := { dst := some 32, op := Op.nilCheck (Operand.tmp 19), type := 0, pos := "l04_home.go:84", after := #[{ on := 0, ground := Ground.data }, { on := 0, ground := Ground.phase }, { on := 1, ground := Ground.phase }, { on := 2, ground := Ground.phase }, { on := 3, ground := Ground.phase }, { on := 4, ground := Ground.phase }, { on := 5, ground := Ground.phase }, { on := 6, ground := Ground.phase }, { on := 7, ground := Ground.phase }, { on := 8, ground := Ground.phase }, { on := 9, ground := Ground.phase }, { on := 10, ground := Ground.phase }, { on := 11, ground := Ground.phase }, { on := 12, ground := Ground.phase }], guard := none }) (v := ?r6_v13) rfl (by kernel_rfl) (by kernel_rfl) (by kernel_rfl) (fun _ _ _ h => h) (Or.inl ⟨by rfl, ?r6_hy13⟩) (by assumption) ?r6_rest13
      case r6_hy13 => intro w hSw; obtain ⟨s0, s2, s3⟩ := hSw; go_simp; try (with_reducible rfl)
      simp only [Act.put, List.setIfInBounds_toArray, List.set_cons_zero, List.set_cons_succ]
      refine wpAnyH_take (i := 14) (oi := { dst := some 33, op := Op.fieldAddr 62 (Operand.tmp 32) 0, type := 0, pos := "l04_home.go:84", after := #[{ on := 13, ground := Ground.data }, { on := 0, ground := Ground.phase }, { on := 1, ground := Ground.phase }, { on := 2, ground := Ground.phase }, { on := 3, ground := Ground.phase }, { on := 4, ground := Ground.phase }, { on := 5, ground := Ground.phase }, { on := 6, ground := Ground.phase }, { on := 7, ground := Ground.phase }, { on := 8, ground := Ground.phase }, { on := 9, ground := Ground.phase }, { on := 10, ground := Ground.phase }, { on := 11, ground := Ground.phase }, { on := 12, ground := Ground.phase }], guard := none }) (v := ?r6_v14) rfl (by kernel_rfl) (by kernel_rfl) (by kernel_rfl) (fun _ _ _ h => h) (Or.inl ⟨by rfl, ?r6_hy14⟩) (by assumption) ?r6_rest14
      case r6_hy14 => intro w hSw; obtain ⟨s0, s2, s3⟩ := hSw; go_simp; try (with_reducible rfl)
      simp only [Act.put, List.setIfInBounds_toArray, List.set_cons_zero, List.set_cons_succ]
      refine wpAnyH_take (i := 15) (oi := { dst := some 34, op := Op.fieldAddr 30 (Operand.tmp 33) 6, type := 0, pos := "l04_home.go:84", after := #[{ on := 14, ground := Ground.data }, { on := 0, ground := Ground.phase }, { on := 1, ground := Ground.phase }, { on := 2, ground := Ground.phase }, { on := 3, ground := Ground.phase }, { on := 4, ground := Ground.phase }, { on := 5, ground := Ground.phase }, { on := 6, ground := Ground.phase }, { on := 7, ground := Ground.phase }, { on := 8, ground := Ground.phase }, { on := 9, ground := Ground.phase }, { on := 10, ground := Ground.phase }, { on := 11, ground := Ground.phase }, { on := 12, ground := Ground.phase }], guard := none }) (v := ?r6_v15) rfl (by kernel_rfl) (by kernel_rfl) (by kernel_rfl) (fun _ _ _ h => h) (Or.inl ⟨by rfl, ?r6_hy15⟩) (by assumption) ?r6_rest15
      case r6_hy15 => intro w hSw; obtain ⟨s0, s2, s3⟩ := hSw; go_simp; try (with_reducible rfl)
      simp only [Act.put, List.setIfInBounds_toArray, List.set_cons_zero, List.set_cons_succ]
      have kc7 : w1.cell? ⟨kB, 7, none⟩ = some (.slice aq 0 cq) := KB.cell 7
      have kf7 := KB.frozen 7
      have kz1 := KB.lt
      have X3 := X2.far ⟨kB, 7, none⟩ (.slice a1 1 c1) (box_box X2 KB (by decide))
      refine wpAnyH_ready (rs := [16]) (by kernel_rfl) (by simp) ?_
      refine AllReadyH.cons (o := { dst := none, op := Op.store 28 (Operand.tmp 34) (Operand.tmp 31), type := 0, pos := "l04_home.go:84", after := #[{ on := 15, ground := Ground.data }, { on := 12, ground := Ground.data }, { on := 12, ground := Ground.chain }, { on := 0, ground := Ground.phase }, { on := 1, ground := Ground.phase }, { on := 2, ground := Ground.phase }, { on := 3, ground := Ground.phase }, { on := 4, ground := Ground.phase }, { on := 5, ground := Ground.phase }, { on := 6, ground := Ground.phase }, { on := 7, ground := Ground.phase }, { on := 8, ground := Ground.phase }, { on := 9, ground := Ground.phase }, { on := 10, ground := Ground.phase }, { on := 11, ground := Ground.phase }, { on := 12, ground := Ground.phase }], guard := none }) rfl (fun K2 hK2 => ?_) AllReadyH.nil
      go_simp
      refine hK2.out _ _ ?_ (fun hHeld2 => ?_)
      · exact ⟨X3.cell 0, X3.lt, L2.k.lt⟩
      clear hK2 K2 hHeld
      have hHeld := hHeld2
      clear hHeld2
      try simp only [Act.put, List.setIfInBounds_toArray, List.set_cons_zero, List.set_cons_succ]
      refine wpAnyH_done (by kernel_rfl) ?_ _
      have BB : Below lo w w1 := (⟨HB0.out.os, HB0.out.tape, HB0.out.output, by have := HB0.out.size; omega, fun i hi => HB0.out.block i (by omega)⟩ : Below lo w W0).trans ((⟨bE.os, bE.tape, bE.output, by have := bE.size; have := hsz.out; omega, fun i hi => bE.block i (by have := hsz.out; omega)⟩ : Below lo W0 _).trans ⟨g1.os, g1.tape, g1.output, g1.size, fun i hi => g1.block i (by have := hsz.out; simp; omega) (fun e => by have := (hq2.lt i e.symm).1; omega)⟩)
      have HF : Hid (_ ∧ _) := ⟨L2, Below.setCell (p := ⟨kB, 7, none⟩) BB L2.lk (.slice a1 1 c1)⟩
      clear L2 KB X2 X3 BB hHeld o1 o2 g1 bE XE hq2 kc7 kf7
      go_wp2
      refine ⟨rfl, .bool true, by simp [results, Try.results24, go_sem], rfl, _, HF.out.1, HF.out.2⟩

set_option maxRecDepth 100000 in
set_option maxHeartbeats 4000000 in
theorem l4Hear_more (lo : Nat) (w : World) (kB : Nat) (vl vr vq vt : Value) (S : SS) (h : SLies lo w kB vl vr vq vt S) (hlo : lo ≤ w.heap.size) (fr mp : Int) (mo : Bool) (am : Option Addr) (cm : Nat) (ys : List Int) (hb : S.bz = true) (h1 : 1 < S.ak) (h2 : S.ak ≤ 4) :
    Calls Try.prog 24 #[.pointer (some ⟨kB, 0, none⟩), .int .i64 fr, .agg #[.int .i64 5, .int .i64 mp, .bool mo, .slice am ys.length cm]] w fun e w' =>
      e = .returned (.bool true) ∧ SLies lo w' kB vl vr vq vt { S with ak := S.ak - 1 } ∧ Below lo w w' := by
  have b0 := bel_alloc (Below.refl w.heap.size w) (.cells #[.int .i64 5, .int .i64 mp, .bool mo, .slice am ys.length cm] 34)
  have L0 := h.below b0
  have L1 := L0.set 6 (.int .i64 (S.ak - 1)) (S' := { S with ak := S.ak - 1 }) (heap_setCell_same _ _ 6 _ _ _ L0.k) rfl rfl rfl rfl
  have B1 : Below lo w (w.alloc (.cells #[.int .i64 5, .int .i64 mp, .bool mo, .slice am ys.length cm] 34)) := ⟨b0.os, b0.tape, b0.output, by have := b0.size; omega, fun i hi => b0.block i (by omega)⟩
  have HF : Hid (_ ∧ _) := ⟨L1, Below.setCell (p := ⟨kB, 6, none⟩) B1 L0.lk (.int .i64 (S.ak - 1))⟩
  have c3 : (w.alloc (.cells #[.int .i64 5, .int .i64 mp, .bool mo, .slice am ys.length cm] 34)).cell? ⟨kB, 3, none⟩ = some (.bool true) := by rw [← hb]; exact L0.k.cell 3
  have c6 : (w.alloc (.cells #[.int .i64 5, .int .i64 mp, .bool mo, .slice am ys.length cm] 34)).cell? ⟨kB, 6, none⟩ = some (.int .i64 S.ak) := L0.k.cell 6
  have f6 := L0.k.frozen 6
  have kz := L0.k.lt
  have ha0 : ¬ (S.ak = 0) := by omega
  have ha1 : ¬ (S.ak - 1 = 0) := by omega
  obtain ⟨W0, hW0⟩ : ∃ W0, w.alloc (.cells #[.int .i64 5, .int .i64 mp, .bool mo, .slice am ys.length cm] 34) = W0 := ⟨_, rfl⟩
  have X0 : W0.cell? ⟨w.heap.size, 0, none⟩ = some (.int .i64 5) := by rw [← hW0]; exact (Box.new w #[.int .i64 5, .int .i64 mp, .bool mo, .slice am ys.length cm] 34).cell 0
  have xz : w.heap.size < W0.heap.size := by rw [← hW0]; simp
  rw [hW0] at c3 c6 f6 kz HF
  clear L0 L1 B1 b0 h
  go_enter Try.func24, Try.ntmps24
  go_wp2
  refine ⟨rfl, .bool true, by simp [results, Try.results24, go_sem], rfl, HF.out.1, HF.out.2⟩

set_option maxRecDepth 100000 in
set_option maxHeartbeats 4000000 in
theorem l4Hear_last (lo : Nat) (w : World) (kB : Nat) (vl vr vq vt : Value) (S : SS) (h : SLies lo w kB vl vr vq vt S) (hlo : lo ≤ w.heap.size) (hx : S.xs.length ≤ 1048577) (hrd : S.rd.length ≤ 4) (hts : S.nt ≤ 1000) (hwh : 0 ≤ S.wh ∧ S.wh < S.rd.length) (fr mp : Int) (mo : Bool) (am : Option Addr) (cm : Nat) (ys : List Int) (hb : S.bz = true) (h1 : S.ak = 1) :
    Calls Try.prog 24 #[.pointer (some ⟨kB, 0, none⟩), .int .i64 fr, .agg #[.int .i64 5, .int .i64 mp, .bool mo, .slice am ys.length cm]] w fun e w' =>
      e = .returned (.bool true) ∧ ∃ vt', SLies lo w' kB vl vr vq vt' (gvS { S with ak := 0 }) ∧ Below lo w w' := by
  have b0 := bel_alloc (Below.refl w.heap.size w) (.cells #[.int .i64 5, .int .i64 mp, .bool mo, .slice am ys.length cm] 34)
  have L0 := h.below b0
  have L1 := L0.set 6 (.int .i64 0) (S' := { S with ak := 0 }) (heap_setCell_same _ _ 6 _ _ _ L0.k) rfl rfl rfl rfl
  have B1 : Below lo w (w.alloc (.cells #[.int .i64 5, .int .i64 mp, .bool mo, .slice am ys.length cm] 34)) := ⟨b0.os, b0.tape, b0.output, by have := b0.size; omega, fun i hi => b0.block i (by omega)⟩
  have HF : Hid (_ ∧ _) := ⟨L1, Below.setCell (p := ⟨kB, 6, none⟩) B1 L0.lk (.int .i64 0)⟩
  have c3 : (w.alloc (.cells #[.int .i64 5, .int .i64 mp, .bool mo, .slice am ys.length cm] 34)).cell? ⟨kB, 3, none⟩ = some (.bool true) := by rw [← hb]; exact L0.k.cell 3
  have c6 : (w.alloc (.cells #[.int .i64 5, .int .i64 mp, .bool mo, .slice am ys.length cm] 34)).cell? ⟨kB, 6, none⟩ = some (.int .i64 1) := by rw [← h1]; exact L0.k.cell 6
  have f6 := L0.k.frozen 6
  have kz := L0.k.lt
  obtain ⟨W0, hW0⟩ : ∃ W0, w.alloc (.cells #[.int .i64 5, .int .i64 mp, .bool mo, .slice am ys.length cm] 34) = W0 := ⟨_, rfl⟩
  have X0 : W0.cell? ⟨w.heap.size, 0, none⟩ = some (.int .i64 5) := by rw [← hW0]; exact (Box.new w #[.int .i64 5, .int .i64 mp, .bool mo, .slice am ys.length cm] 34).cell 0
  have xz : w.heap.size < W0.heap.size := by rw [← hW0]; simp
  rw [hW0] at c3 c6 f6 kz HF
  have hzz : lo ≤ W0.heap.size := by omega
  clear L0 L1 B1 b0 h
  go_enter Try.func24, Try.ntmps24
  go_wp2_with fail
  refine (l4Give_any lo _ kB vl vr vq vt _ HF.out.1 (by simpa using hzz) hx hrd (by show S.nt ≤ 50000; omega) hwh).mono ?_
  rintro e w9 ⟨rfl, vt9, L9, S9⟩
  have HG : Hid (_ ∧ _) := ⟨L9, HF.out.2.trans (S9.below (by simpa using hzz))⟩
  clear L9 S9 HF
  go_wp2
  refine ⟨rfl, .bool true, by simp [results, Try.results24, go_sem], rfl, _, HG.out.1, HG.out.2⟩

/-- What was given back is laid down. -/
def bkS (S : SS) (ys : List Int) : SS := { S with xs := ys, rd := S.rd.set S.ow.toNat (!S.wo), ow := -1 }

set_option maxRecDepth 100000 in
set_option maxHeartbeats 4000000 in
theorem l4Hear_back (lo : Nat) (w : World) (kB : Nat) (vl vr vq vt : Value) (S : SS) (h : SLies lo w kB vl vr vq vt S) (hlo : lo ≤ w.heap.size) (hrd : S.rd.length ≤ 4) (hts : S.nt ≤ 1000) (hwh : 0 ≤ S.wh ∧ S.wh < S.rd.length) (how : 0 ≤ S.ow ∧ S.ow < S.rd.length) (mp : Int) (mo : Bool) (am : Option Addr) (cm : Nat) (ys : List Int) (hm : Row .i64 w am ys) (hyl : ys.length ≤ 1048577) (hb : S.bz = true) (h1 : S.ak = 0) :
    Calls Try.prog 24 #[.pointer (some ⟨kB, 0, none⟩), .int .i64 S.ow, .agg #[.int .i64 7, .int .i64 mp, .bool mo, .slice am ys.length cm]] w fun e w' =>
      e = .returned (.bool true) ∧ ∃ vl' vt', SLies lo w' kB vl' vr vq vt' (gvS (bkS S ys)) ∧ Below lo w w' := by
  obtain ⟨i1, hi1, hz10, hz11, hz12⟩ := info_parts info_i64
  obtain ⟨on, hon⟩ : ∃ on : Nat, S.ow = (on : Int) := ⟨S.ow.toNat, by omega⟩
  have hol : on < S.rd.length := by omega
  obtain ⟨g, cr, rfl⟩ : ∃ g c, vr = .slice (some ⟨g, 0, none⟩) S.rd.length c := by
    obtain ⟨a, c, rfl⟩ := owns_slice h.r
    obtain ⟨g, rfl⟩ := owns_addr h.r (by omega)
    exact ⟨g, c, rfl⟩
  have b0 := bel_alloc (Below.refl w.heap.size w) (.cells #[.int .i64 7, .int .i64 mp, .bool mo, .slice am ys.length cm] 34)
  have XM := Box.new w #[.int .i64 7, .int .i64 mp, .bool mo, .slice am ys.length cm] 34
  have L0 := h.below b0
  have hm0 := hm.below b0
  obtain ⟨W0, hW0⟩ : ∃ W0, w.alloc (.cells #[.int .i64 7, .int .i64 mp, .bool mo, .slice am ys.length cm] 34) = W0 := ⟨_, rfl⟩
  rw [hW0] at b0 XM L0 hm0
  have hsz : Hid (W0.heap.size = w.heap.size + 1) := by show _ = _; rw [← hW0]; simp
  have HO : Hid (S.ow = (on : Int)) := hon
  rw [hon]
  have c3 : W0.cell? ⟨kB, 3, none⟩ = some (.bool true) := by rw [← hb]; exact L0.k.cell 3
  have c6 : W0.cell? ⟨kB, 6, none⟩ = some (.int .i64 0) := by rw [← h1]; exact L0.k.cell 6
  have c1 : W0.cell? ⟨kB, 1, none⟩ = some (.int .i64 (on : Int)) := by rw [← hon]; exact L0.k.cell 1
  have kz := L0.k.lt
  have m0 : W0.cell? ⟨w.heap.size, 0, none⟩ = some (.int .i64 7) := XM.cell 0
  have mz := XM.lt
  have bE := bel_alloc (Below.refl W0.heap.size W0) (.cells #[] 3)
  have oE := own_litE W0 3 1 W0.heap.size (Nat.le_refl _)
  have m3 : (W0.alloc (.cells #[] 3)).cell? ⟨w.heap.size, 3, none⟩ = some (.slice am ys.length cm) := (XM.below bE).cell 3
  have hv1 := (row_v hm0 hyl).below bE
  have HL0 : Hid (SLies lo W0 kB vl _ vq vt S) := L0
  have HXM : Hid (Box W0 w.heap.size #[.int .i64 7, .int .i64 mp, .bool mo, .slice am ys.length cm] 34) := XM
  have HB0 : Hid (Below lo w W0) := ⟨b0.os, b0.tape, b0.output, by have := b0.size; omega, fun i hi => b0.block i (by omega)⟩
  have hlz : lo ≤ W0.heap.size := by have := b0.size; omega
  clear h L0 XM b0 hm0 hm hon hb h1
  go_enter Try.func24, Try.ntmps24
  go_wp2_with (at_builtin; refine wpList_append_rowYtliihkdocbpolaa rfl (.tmp 94) (.tmp 96) 24 rfl W0.heap.size 3 i1 (.int .i64 0) 1 8 Try.underlying24 hi1 hz10 hz11 hz12 rfl (by decide) (.slice (some ⟨W0.heap.size, 0, none⟩) 0 0) 0 [] (by rfl) oE am ys.length cm (ys.map (Value.int .i64)) (by rfl) (by simp) hv1.2 (by intro u hu; obtain ⟨x, _, rfl⟩ := List.mem_map.1 hu; rfl) (by unfold maxLen; omega) (by omega) (by simp) ?_)
  intro v1 w1 o1 g1
  obtain ⟨al1, cl1, rfl⟩ := owns_slice o1
  have on1 : Only (W0.alloc (.cells #[] 3)) w1 (fun x => x = W0.heap.size) := (Only.refl _ _).grown g1 (fun j hj => by simpa [Value.ownBlock] using hj.symm)
  have b1 : Below W0.heap.size W0 w1 := bE.trans ⟨on1.os, on1.tape, on1.output, on1.size, fun i hi => on1.block i (by have := bE.size; omega) (fun e => by omega)⟩
  have L1 := HL0.out.below b1
  have L2 := L1.list (vl' := (.slice al1 ys.length cl1)) (xs' := ys) (owns_base o1 hlz)
  have X2 := (HXM.out.below b1).far ⟨kB, 0, none⟩ (.slice al1 ys.length cl1) (box_box (HXM.out.below b1) L1.k (by decide))
  have c0 := L1.k.cell 0
  have f0 := L1.k.frozen 0
  have kz1 := L1.k.lt
  obtain ⟨L3, S3⟩ := SLies.setR (S := { S with xs := ys }) (g := g) (cap := cr) L2 rfl on hol (!S.wo)
  have L4 := L3.set 1 (.int .i64 (-1)) (S' := bkS S ys) (heap_setCell_same _ _ 1 _ _ _ L3.k) rfl (by simp [bkS, HO.out]) rfl rfl
  have B4 : Below lo w (((w1.setCell ⟨kB, 0, none⟩ (.slice al1 ys.length cl1)).setCell ⟨g, on, none⟩ (.bool (!S.wo))).setCell ⟨kB, 1, none⟩ (.int .i64 (-1))) := by
    have hlz1 : lo ≤ w1.heap.size := by have := b1.size; omega
    have B1 : Below lo w w1 := HB0.out.trans ⟨b1.os, b1.tape, b1.output, by have := b1.size; omega, fun i hi => b1.block i (by omega)⟩
    exact Below.setCell (p := ⟨kB, 1, none⟩) ((Below.setCell (p := ⟨kB, 0, none⟩) B1 L1.lk (.slice al1 ys.length cl1)).trans (S3.below (by simpa using hlz1))) L1.lk _
  have k2 : (w1.setCell ⟨kB, 0, none⟩ (.slice al1 ys.length cl1)).cell? ⟨kB, 2, none⟩ = some (.slice (some ⟨g, 0, none⟩) S.rd.length cr) := L2.k.cell 2
  have k5 : (w1.setCell ⟨kB, 0, none⟩ (.slice al1 ys.length cl1)).cell? ⟨kB, 5, none⟩ = some (.bool S.wo) := L2.k.cell 5
  have kz2 := L2.k.lt
  have hgc : (w1.setCell ⟨kB, 0, none⟩ (.slice al1 ys.length cl1)).cell? ⟨g, on, none⟩ = some (.bool (S.rd.getD on false)) := by
    rw [L2.r.cellAt on (by simpa using hol)]
    simp [bv, hol]
  have hgf : (w1.setCell ⟨kB, 0, none⟩ (.slice al1 ys.length cl1)).frozen? ⟨g, on, none⟩ = false := L2.r.frozenAt on
  have hi' : (on : Int) < (S.rd.length : Int) := by omega
  have p1 := L3.k.cell 1
  have pf1 := L3.k.frozen 1
  have pz := L3.k.lt
  have p2 : ((w1.setCell ⟨kB, 0, none⟩ (.slice al1 ys.length cl1)).setCell ⟨g, on, none⟩ (.bool (!S.wo))).cell? ⟨kB, 2, none⟩ = some (.slice (some ⟨g, 0, none⟩) S.rd.length cr) := L3.k.cell 2
  have p5 : ((w1.setCell ⟨kB, 0, none⟩ (.slice al1 ys.length cl1)).setCell ⟨g, on, none⟩ (.bool (!S.wo))).cell? ⟨kB, 5, none⟩ = some (.bool S.wo) := L3.k.cell 5
  have HF : Hid (_ ∧ _) := ⟨L4, B4⟩
  have hz9 : Hid (lo ≤ (((w1.setCell ⟨kB, 0, none⟩ (.slice al1 ys.length cl1)).setCell ⟨g, on, none⟩ (.bool (!S.wo))).setCell ⟨kB, 1, none⟩ (.int .i64 (-1))).heap.size) := by show _ ≤ _; have := b1.size; simp; omega
  obtain ⟨V2, hV2⟩ : ∃ V2, w1.setCell ⟨kB, 0, none⟩ (.slice al1 ys.length cl1) = V2 := ⟨_, rfl⟩
  rw [hV2] at k2 k5 kz2 hgc hgf p1 pf1 pz p2 p5 HF hz9
  have HV2 : Hid (w1.setCell ⟨kB, 0, none⟩ (.slice al1 ys.length cl1) = V2) := hV2
  clear L1 L2 L3 L4 S3 B4 X2 b1 on1 g1 o1 bE oE HL0 HXM m3 hv1
  go_wp2_with fail
  refine wp_region_held_drew (S := (fun w' => w'.cell? ⟨kB, 2, none⟩ = some (.slice (some ⟨g, 0, none⟩) S.rd.length cr) ∧ w'.cell? ⟨kB, 5, none⟩ = some (.bool S.wo) ∧ kB < w'.heap.size)) (by kernel_rfl) ?_ (fun hHeld => ?_)
  · exact ⟨k2, k5, kz2⟩
  refine wpAnyH_take (i := 0) (oi := { dst := some 101, op := Op.move (Operand.tmp 0), type := 60, pos := "l04_home.go:100", after := #[], guard := none }) (v := ?r7_v0) rfl (by kernel_rfl) (by kernel_rfl) (by kernel_rfl) (fun _ _ _ h => h) (Or.inl ⟨by rfl, ?r7_hy0⟩) (by assumption) ?r7_rest0
  case r7_hy0 => intro w hSw; obtain ⟨s0, s1, s2⟩ := hSw; go_simp; try (with_reducible rfl)
  simp only [Act.put, List.setIfInBounds_toArray, List.set_cons_zero, List.set_cons_succ]
  refine wpAnyH_take (i := 1) (oi := { dst := some 102, op := Op.nilCheck (Operand.tmp 101), type := 0, pos := "l04_home.go:100", after := #[{ on := 0, ground := Ground.data }], guard := none }) (v := ?r7_v1) rfl (by kernel_rfl) (by kernel_rfl) (by kernel_rfl) (fun _ _ _ h => h) (Or.inl ⟨by rfl, ?r7_hy1⟩) (by assumption) ?r7_rest1
  case r7_hy1 => intro w hSw; obtain ⟨s0, s1, s2⟩ := hSw; go_simp; try (with_reducible rfl)
  simp only [Act.put, List.setIfInBounds_toArray, List.set_cons_zero, List.set_cons_succ]
  refine wpAnyH_take (i := 2) (oi := { dst := some 103, op := Op.fieldAddr 62 (Operand.tmp 102) 0, type := 0, pos := "l04_home.go:100", after := #[{ on := 1, ground := Ground.data }], guard := none }) (v := ?r7_v2) rfl (by kernel_rfl) (by kernel_rfl) (by kernel_rfl) (fun _ _ _ h => h) (Or.inl ⟨by rfl, ?r7_hy2⟩) (by assumption) ?r7_rest2
  case r7_hy2 => intro w hSw; obtain ⟨s0, s1, s2⟩ := hSw; go_simp; try (with_reducible rfl)
  simp only [Act.put, List.setIfInBounds_toArray, List.set_cons_zero, List.set_cons_succ]
  refine wpAnyH_take (i := 3) (oi := { dst := some 104, op := Op.fieldAddr 30 (Operand.tmp 103) 2, type := 0, pos := "l04_home.go:100", after := #[{ on := 2, ground := Ground.data }], guard := none }) (v := ?r7_v3) rfl (by kernel_rfl) (by kernel_rfl) (by kernel_rfl) (fun _ _ _ h => h) (Or.inl ⟨by rfl, ?r7_hy3⟩) (by assumption) ?r7_rest3
  case r7_hy3 => intro w hSw; obtain ⟨s0, s1, s2⟩ := hSw; go_simp; try (with_reducible rfl)
  simp only [Act.put, List.setIfInBounds_toArray, List.set_cons_zero, List.set_cons_succ]
  refine wpAnyH_take (i := 4) (oi := { dst := some 105, op := Op.load 25 (Operand.tmp 104), type := 25, pos := "l04_home.go:100", after := #[{ on := 3, ground := Ground.data }], guard := none }) (v := ?r7_v4) rfl (by kernel_rfl) (by kernel_rfl) (by kernel_rfl) (fun _ _ _ h => h) (Or.inl ⟨by rfl, ?r7_hy4⟩) (by assumption) ?r7_rest4
  case r7_hy4 => intro w hSw; obtain ⟨s0, s1, s2⟩ := hSw; go_simp; try (with_reducible rfl)
  simp only [Act.put, List.setIfInBounds_toArray, List.set_cons_zero, List.set_cons_succ]
  refine wpAnyH_take (i := 5) (oi := { dst := some 106, op := Op.move (Operand.tmp 1), type := 3, pos := "l04_home.go:100", after := #[], guard := none }) (v := ?r7_v5) rfl (by kernel_rfl) (by kernel_rfl) (by kernel_rfl) (fun _ _ _ h => h) (Or.inl ⟨by rfl, ?r7_hy5⟩) (by assumption) ?r7_rest5
  case r7_hy5 => intro w hSw; obtain ⟨s0, s1, s2⟩ := hSw; go_simp; try (with_reducible rfl)
  simp only [Act.put, List.setIfInBounds_toArray, List.set_cons_zero, List.set_cons_succ]
  refine wpAnyH_take (i := 6) (oi := { dst := some 107, op := Op.move (Operand.tmp 0), type := 60, pos := "l04_home.go:100", after := #[], guard := none }) (v := ?r7_v6) rfl (by kernel_rfl) (by kernel_rfl) (by kernel_rfl) (fun _ _ _ h => h) (Or.inl ⟨by rfl, ?r7_hy6⟩) (by assumption) ?r7_rest6
  case r7_hy6 => intro w hSw; obtain ⟨s0, s1, s2⟩ := hSw; go_simp; try (with_reducible rfl)
  simp only [Act.put, List.setIfInBounds_toArray, List.set_cons_zero, List.set_cons_succ]
  refine wpAnyH_take (i := 7) (oi := { dst := some 108, op := Op.nilCheck (Operand.tmp 107), type := 0, pos := "l04_home.go:100", after := #[{ on := 6, ground := Ground.data }], guard := none }) (v := ?r7_v7) rfl (by kernel_rfl) (by kernel_rfl) (by kernel_rfl) (fun _ _ _ h => h) (Or.inl ⟨by rfl, ?r7_hy7⟩) (by assumption) ?r7_rest7
  case r7_hy7 => intro w hSw; obtain ⟨s0, s1, s2⟩ := hSw; go_simp; try (with_reducible rfl)
  simp only [Act.put, List.setIfInBounds_toArray, List.set_cons_zero, List.set_cons_succ]
  refine wpAnyH_take (i := 8) (oi := { dst := some 109, op := Op.fieldAddr 62 (Operand.tmp 108) 0, type := 0, pos := "l04_home.go:100", after := #[{ on := 7, ground := Ground.data }], guard := none }) (v := ?r7_v8) rfl (by kernel_rfl) (by kernel_rfl) (by kernel_rfl) (fun _ _ _ h => h) (Or.inl ⟨by rfl, ?r7_hy8⟩) (by assumption) ?r7_rest8
  case r7_hy8 => intro w hSw; obtain ⟨s0, s1, s2⟩ := hSw; go_simp; try (with_reducible rfl)
  simp only [Act.put, List.setIfInBounds_toArray, List.set_cons_zero, List.set_cons_succ]
  refine wpAnyH_take (i := 9) (oi := { dst := some 110, op := Op.fieldAddr 30 (Operand.tmp 109) 4, type := 0, pos := "l04_home.go:100", after := #[{ on := 8, ground := Ground.data }], guard := none }) (v := ?r7_v9) rfl (by kernel_rfl) (by kernel_rfl) (by kernel_rfl) (fun _ _ _ h => h) (Or.inl ⟨by rfl, ?r7_hy9⟩) (by assumption) ?r7_rest9
  case r7_hy9 => intro w hSw; obtain ⟨s0, s1, s2⟩ := hSw; go_simp; try (with_reducible rfl)
  simp only [Act.put, List.setIfInBounds_toArray, List.set_cons_zero, List.set_cons_succ]
  refine wpAnyH_take (i := 10) (oi := { dst := some 111, op := Op.fieldAddr 27 (Operand.tmp 110) 1, type := 0, pos := "l04_home.go:100", after := #[{ on := 9, ground := Ground.data }], guard := none }) (v := ?r7_v10) rfl (by kernel_rfl) (by kernel_rfl) (by kernel_rfl) (fun _ _ _ h => h) (Or.inl ⟨by rfl, ?r7_hy10⟩) (by assumption) ?r7_rest10
  case r7_hy10 => intro w hSw; obtain ⟨s0, s1, s2⟩ := hSw; go_simp; try (with_reducible rfl)
  simp only [Act.put, List.setIfInBounds_toArray, List.set_cons_zero, List.set_cons_succ]
  refine wpAnyH_take (i := 11) (oi := { dst := some 112, op := Op.load 4 (Operand.tmp 111), type := 4, pos := "l04_home.go:100", after := #[{ on := 10, ground := Ground.data }], guard := none }) (v := ?r7_v11) rfl (by kernel_rfl) (by kernel_rfl) (by kernel_rfl) (fun _ _ _ h => h) (Or.inl ⟨by rfl, ?r7_hy11⟩) (by assumption) ?r7_rest11
  case r7_hy11 => intro w hSw; obtain ⟨s0, s1, s2⟩ := hSw; go_simp; try (with_reducible rfl)
  simp only [Act.put, List.setIfInBounds_toArray, List.set_cons_zero, List.set_cons_succ]
  refine wpAnyH_take (i := 12) (oi := { dst := some 113, op := Op.unOp UnOp.not 4 (Operand.tmp 112), type := 4, pos := "l04_home.go:100", after := #[{ on := 11, ground := Ground.data }], guard := none }) (v := ?r7_v12) rfl (by kernel_rfl) (by kernel_rfl) (by kernel_rfl) (fun _ _ _ h => h) (Or.inl ⟨by rfl, ?r7_hy12⟩) (by assumption) ?r7_rest12
  case r7_hy12 => intro w hSw; obtain ⟨s0, s1, s2⟩ := hSw; go_simp; try (with_reducible rfl)
  simp only [Act.put, List.setIfInBounds_toArray, List.set_cons_zero, List.set_cons_succ]
  refine wpAnyH_take (i := 13) (oi := { dst := some 114, op := Op.indexAddr 25 (Operand.tmp 105) (Operand.tmp 106), type := 0, pos := "l04_home.go:100", after := #[{ on := 4, ground := Ground.data }, { on := 5, ground := Ground.data }, { on := 0, ground := Ground.phase }, { on := 1, ground := Ground.phase }, { on := 2, ground := Ground.phase }, { on := 3, ground := Ground.phase }, { on := 4, ground := Ground.phase }, { on := 5, ground := Ground.phase }, { on := 6, ground := Ground.phase }, { on := 7, ground := Ground.phase }, { on := 8, ground := Ground.phase }, { on := 9, ground := Ground.phase }, { on := 10, ground := Ground.phase }, { on := 11, ground := Ground.phase }, { on := 12, ground := Ground.phase }], guard := none }) (v := ?r7_v13) rfl (by kernel_rfl) (by kernel_rfl) (by kernel_rfl) (fun _ _ _ h => h) (Or.inl ⟨by rfl, ?r7_hy13⟩) (by assumption) ?r7_rest13
  case r7_hy13 => intro w hSw; obtain ⟨s0, s1, s2⟩ := hSw; go_simp; try (with_reducible rfl)
  simp only [Act.put, List.setIfInBounds_toArray, List.set_cons_zero, List.set_cons_succ]
  refine wpAnyH_ready (rs := [14]) (by kernel_rfl) (by simp) ?_
  refine AllReadyH.cons (o := { dst := none, op := Op.store 4 (Operand.tmp 114) (Operand.tmp 113), type := 0, pos := "l04_home.go:100", after := #[{ on := 13, ground := Ground.data }, { on := 12, ground := Ground.data }, { on := 0, ground := Ground.phase }, { on := 1, ground := Ground.phase }, { on := 2, ground := Ground.phase }, { on := 3, ground := Ground.phase }, { on := 4, ground := Ground.phase }, { on := 5, ground := Ground.phase }, { on := 6, ground := Ground.phase }, { on := 7, ground := Ground.phase }, { on := 8, ground := Ground.phase }, { on := 9, ground := Ground.phase }, { on := 10, ground := Ground.phase }, { on := 11, ground := Ground.phase }, { on := 12, ground := Ground.phase }], guard := none }) rfl (fun K2 hK2 => ?_) AllReadyH.nil
  go_simp
  refine hK2.out _ _ ?_ (fun hHeld2 => ?_)
  · exact ⟨p2, p5, pz⟩
  clear hK2 K2 hHeld
  have hHeld := hHeld2
  clear hHeld2
  try simp only [Act.put, List.setIfInBounds_toArray, List.set_cons_zero, List.set_cons_succ]
  refine wpAnyH_done (by kernel_rfl) ?_ _
  obtain ⟨V3, hV3⟩ : ∃ V3, V2.setCell ⟨g, on, none⟩ (.bool (!S.wo)) = V3 := ⟨_, rfl⟩
  rw [hV3] at p1 pf1 pz HF hz9 ⊢
  clear hV3 hHeld p2 p5 k2 k5 kz2 hgc hgf
  go_wp2_with fail
  refine (l4Give_any lo _ kB (.slice al1 ys.length cl1) _ vq vt _ (HF.out.1.below (bel_drew (Below.refl _ _))) hz9.out hyl (by simp only [bkS, List.length_set]; exact hrd) (by show S.nt ≤ 50000; omega) (by simp only [bkS, List.length_set]; exact hwh)).mono ?_
  rintro e w9 ⟨rfl, vt9, L9, S9⟩
  have HG : Hid (_ ∧ _) := ⟨L9, (below_drewN HF.out.2 1).trans (S9.below hz9.out)⟩
  clear L9 S9 HF
  go_wp2
  refine ⟨rfl, .bool true, by simp [results, Try.results24, go_sem], rfl, _, _, HG.out.1, HG.out.2⟩
end Go.Proofs.Ytliihkdocbpolaa
