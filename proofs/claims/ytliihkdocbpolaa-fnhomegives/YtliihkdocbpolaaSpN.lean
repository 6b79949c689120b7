/- What the specification's l4Next does where one alone waits. -/
import Derived.Test.YtliihkdocbpolaaSpG
namespace Go.Proofs.Ytliihkdocbpolaa
open Go.RowKit
set_option linter.unusedVariables false

/-- Those of the first k who read, p apart, read no more. -/
def goneU (rd : List Bool) (p k : Nat) : List Bool := (List.range rd.length).map fun i => rd.getD i false && !(decide (i < k) && decide (i ≠ p))
/-- How many these are. -/
def cntU (rd : List Bool) (p k : Nat) : Nat := ((List.range k).filter fun i => rd.getD i false && decide (i ≠ p)).length
theorem goneU_length (rd : List Bool) (p k : Nat) : (goneU rd p k).length = rd.length := by simp [goneU]
theorem goneU_zero (rd : List Bool) (p : Nat) : goneU rd p 0 = rd := by
  apply List.ext_getElem
  · simp [goneU]
  · intro i h1 h2
    simp [goneU, List.getElem?_eq_getElem h2]
theorem goneU_at (rd : List Bool) (p k : Nat) (hk : k < rd.length) : (goneU rd p k).getD k false = rd.getD k false := by
  simp [goneU, hk]
theorem goneU_yes (rd : List Bool) (p k : Nat) (hp : k ≠ p) : (goneU rd p k).set k false = goneU rd p (k + 1) := by
  apply List.ext_getElem
  · simp [goneU]
  · intro i h1 h2
    simp only [goneU, List.getElem_set, List.getElem_map, List.getElem_range]
    by_cases e : k = i
    · subst e
      simp [hp]
    · rw [if_neg e]
      have : (i < k + 1) ↔ (i < k) := by omega
      simp only [this]
theorem goneU_no (rd : List Bool) (p k : Nat) (h : rd.getD k false = false ∨ k = p) : goneU rd p (k + 1) = goneU rd p k := by
  apply List.ext_getElem
  · simp [goneU]
  · intro i h1 h2
    simp only [goneU, List.getElem_map, List.getElem_range]
    by_cases e : i = k
    · subst e
      rcases h with h | h
      · rw [h]; simp
      · simp [h]
    · have : (i < k + 1) ↔ (i < k) := by omega
      simp only [this]
theorem cntU_yes (rd : List Bool) (p k : Nat) (h : rd.getD k false = true) (hp : k ≠ p) : cntU rd p (k + 1) = cntU rd p k + 1 := by
  have e : (rd.getD k false && decide (k ≠ p)) = true := by rw [h]; simp [hp]
  unfold cntU
  rw [List.range_succ, List.filter_append, List.length_append, List.filter_cons, if_pos e]
  rfl
theorem cntU_no (rd : List Bool) (p k : Nat) (h : rd.getD k false = false ∨ k = p) : cntU rd p (k + 1) = cntU rd p k := by
  have e : (rd.getD k false && decide (k ≠ p)) = false := by
    rcases h with h | h
    · rw [h]; rfl
    · simp [h]
  unfold cntU
  rw [List.range_succ, List.filter_append, List.length_append, List.filter_cons, if_neg (by rw [e]; simp)]
  rfl
theorem cntU_le (rd : List Bool) (p k : Nat) : cntU rd p k ≤ k := by
  unfold cntU
  refine Nat.le_trans (List.length_filter_le _ _) (by simp)

/-- It begins with p. -/
def nwS (S : SS) (p : Nat) (o : Bool) : SS := { S with wh := (p : Int), wo := o, ws := [], bz := true }
/-- k of the readers were told. -/
def awS (S : SS) (p k : Nat) : SS := { nwS S p true with rd := goneU S.rd p k, ak := (cntU S.rd p k : Int), nt := S.nt + cntU S.rd p k }
def nxS (S : SS) (p : Nat) (o : Bool) : SS :=
  if 0 ≤ S.ow then { nwS S p o with nt := S.nt + 1 }
  else if o then (if cntU S.rd p S.rd.length = 0 then gvS (awS S p S.rd.length) else awS S p S.rd.length)
  else gvS { nwS S p false with ak := 0 }

/-- Another queue is laid into its variable. -/
theorem SLies.queue {lo : Nat} {w : World} {kB : Nat} {vl vr vq vt : Value} {S : SS} (h : SLies lo w kB vl vr vq vt S) {vq' : Value} {ws' : List (Int × Bool)} (q' : w.ownsRow lo 27 2 vq' ws'.length (wv ws')) :
    SLies lo (w.setCell ⟨kB, 7, none⟩ vq') kB vl vr vq' vt { S with ws := ws' } := by
  obtain ⟨cs, ht⟩ := h.t
  have n1 := box_ne h.k h.l (by decide)
  have n2 := box_ne h.k h.r (by decide)
  have n3 := box_ne h.k q' (by decide)
  have n4 := box_ne h.k ht (by decide)
  exact ⟨h.lk, heap_setCell_same _ _ 7 _ _ _ h.k, owns_setCell h.l (fun j hj e => n1 (by rw [hj, ← e])) _, owns_setCell h.r (fun j hj e => n2 (by rw [hj, ← e])) _, owns_setCell q' (fun j hj e => n3 (by rw [hj, ← e])) _, ⟨cs, owns_setCell ht (fun j hj e => n4 (by rw [hj, ← e])) _⟩⟩

set_option maxRecDepth 100000 in
set_option maxHeartbeats 4000000 in
theorem l4Next_any (lo : Nat) (w : World) (kB : Nat) (vl vr vq vt : Value) (S : SS) (h : SLies lo w kB vl vr vq vt S) (hlo : lo ≤ w.heap.size) (hx : S.xs.length ≤ 1048577) (hrd : S.rd.length ≤ 4) (hts : S.nt ≤ 1000) (p : Nat) (o : Bool) (hp : p < S.rd.length) (hws : S.ws = [((p : Int), o)]) (how : -1 ≤ S.ow) :
    Calls Try.prog 25 #[.pointer (some ⟨kB, 0, none⟩)] w fun e w' =>
      e = .returned (.tuple #[]) ∧ ∃ vq' vt', SLies lo w' kB vl vr vq' vt' (nxS S p o) ∧ SameS lo w w' := by
  obtain ⟨i3, hi3, hz30, hz31, hz32⟩ := info_parts info_wait
  obtain ⟨g, cr, rfl⟩ : ∃ g c, vr = .slice (some ⟨g, 0, none⟩) S.rd.length c := by
    obtain ⟨a, c, rfl⟩ := owns_slice h.r
    obtain ⟨g, rfl⟩ := owns_addr h.r (by omega)
    exact ⟨g, c, rfl⟩
  have hq0 := h.q
  rw [hws] at hq0
  obtain ⟨gq, cq, rfl⟩ : ∃ g c, vq = .slice (some ⟨g, 0, none⟩) 1 c := by
    obtain ⟨a, c, rfl⟩ := owns_slice hq0
    obtain ⟨g, rfl⟩ := owns_addr hq0 (by simp)
    exact ⟨g, c, rfl⟩
  have hcq := owns_cap hq0
  simp only [List.length_cons, List.length_nil] at hq0
  have q0 : w.cell? ⟨gq, 0, none⟩ = some (.int .i64 (p : Int)) := by rw [hq0.cellAt 0 (by simp)]; simp [wv_cons]
  have q1 : w.cell? ⟨gq, 1, none⟩ = some (.bool o) := by rw [hq0.cellAt 1 (by simp)]; simp [wv_cons]
  have gz : gq < w.heap.size := (hq0.lt gq rfl).2
  have c4 := h.k.cell 4
  have c5 := h.k.cell 5
  have f4 := h.k.frozen 4
  have f5 := h.k.frozen 5
  have c7 : w.cell? ⟨kB, 7, none⟩ = some (.slice (some ⟨gq, 0, none⟩) 1 cq) := h.k.cell 7
  have kz := h.k.lt
  have e1 := h.set 4 (.int .i64 (p : Int)) (S' := { S with wh := (p : Int) }) (heap_setCell_same _ _ 4 _ _ _ h.k) rfl rfl rfl rfl
  have e2 := e1.set 5 (.bool o) (S' := { S with wh := (p : Int), wo := o }) (heap_setCell_same _ _ 5 _ _ _ e1.k) rfl rfl rfl rfl
  have t2 : SameS lo w ((w.setCell ⟨kB, 4, none⟩ (.int .i64 (p : Int))).setCell ⟨kB, 5, none⟩ (.bool o)) := (SameS.setCell h.k h.lk (.inl rfl) 4 _).trans (SameS.setCell e1.k e1.lk (.inl rfl) 5 _)
  obtain ⟨W0, hW0⟩ : ∃ W0, (w.setCell ⟨kB, 4, none⟩ (.int .i64 (p : Int))).setCell ⟨kB, 5, none⟩ (.bool o) = W0 := ⟨_, rfl⟩
  rw [hW0] at e2 t2
  have HW0 : Hid ((w.setCell ⟨kB, 4, none⟩ (.int .i64 (p : Int))).setCell ⟨kB, 5, none⟩ (.bool o) = W0) := hW0
  have hz0 : w.heap.size ≤ W0.heap.size := t2.size
  have oE := own_litE W0 27 2 W0.heap.size (Nat.le_refl _)
  have bE := bel_alloc (Below.refl W0.heap.size W0) (.cells #[] 27)
  have d7 : (W0.alloc (.cells #[] 27)).cell? ⟨kB, 7, none⟩ = some (.slice (some ⟨gq, 0, none⟩) 1 cq) := (e2.below bE).k.cell 7
  have dz := (e2.below bE).k.lt
  have HE2 : Hid (SLies lo W0 kB vl _ _ vt _) := e2
  have HT2 : Hid (SameS lo w W0) := t2
  clear h e1 e2 t2 hq0
  go_enter Try.func25, Try.ntmps25
  have L1E := (HE2.out.below bE)
  have uf7 := L1E.k.frozen 7
  clear L1E
  go_upto_region 1 with fail
  go_cut [22] from 3 to 25 (fun s22 wx => ∃ v1 w1, v1 = s22 ∧ wx = w1.setCell ⟨kB, 7, none⟩ v1 ∧ w1.ownsRow W0.heap.size 27 2 v1 0 [] ∧ Below W0.heap.size W0 w1)
  case first =>
    go_wp2_with fail
    all_goals go_meet
    all_goals exact ⟨_, W0.alloc (.cells #[] 27), rfl, rfl, oE, bE⟩
  case rest =>
  obtain ⟨v1, w1, hv1, hwx, o1, b1⟩ := hcut
  subst hv1 hwx
  have L1 := HE2.out.below b1
  have L2 := L1.queue (vq' := v1) (ws' := []) (owns_base o1 (by omega))
  have L3 := L2.set 3 (.bool true) (S' := nwS S p o) (heap_setCell_same _ _ 3 _ _ _ L2.k) rfl rfl rfl rfl
  have T3 : SameS lo w ((w1.setCell ⟨kB, 7, none⟩ v1).setCell ⟨kB, 3, none⟩ (.bool true)) := (HT2.out.trans (SameS.of_below b1)).trans ((SameS.setCell L1.k L1.lk (.inl rfl) 7 _).trans (SameS.setCell L2.k L2.lk (.inl rfl) 3 _))
  have u7 := L1.k.cell 7
  have u3 := L1.k.cell 3
  have u1 := L1.k.cell 1
  have uf7 := L1.k.frozen 7
  have uf3 := L1.k.frozen 3
  have uz := L1.k.lt
  obtain ⟨V, hV⟩ : ∃ V, (w1.setCell ⟨kB, 7, none⟩ v1).setCell ⟨kB, 3, none⟩ (.bool true) = V := ⟨_, rfl⟩
  rw [hV] at L3 T3
  have HV : Hid ((w1.setCell ⟨kB, 7, none⟩ v1).setCell ⟨kB, 3, none⟩ (.bool true) = V) := hV
  have HL3 : Hid (SLies lo V kB vl _ v1 vt (nwS S p o)) := L3
  have HT3 : Hid (SameS lo w V) := T3
  have hzV : lo ≤ V.heap.size := Nat.le_trans hlo T3.size
  have k1 : V.cell? ⟨kB, 1, none⟩ = some (.int .i64 S.ow) := L3.k.cell 1
  have k5 : V.cell? ⟨kB, 5, none⟩ = some (.bool o) := L3.k.cell 5
  have k6 : V.cell? ⟨kB, 6, none⟩ = some (.int .i64 S.ak) := L3.k.cell 6
  have kf6 := L3.k.frozen 6
  have kz := L3.k.lt
  clear L1 L2 L3 T3 HE2 HT2 b1 o1 oE bE d7 dz q0 q1 c4 c5 f4 f5 c7 gz
  by_cases how0 : 0 ≤ S.ow
  · have HN : Hid (nxS S p o = { nwS S p o with nt := S.nt + 1 }) := by show _ = _; unfold nxS; rw [if_pos how0]
    go_wp2_with fail
    refine wp_region_held_drew (S := (fun w' => w'.cell? ⟨kB, 1, none⟩ = some (.int .i64 S.ow) ∧ w'.cell? ⟨kB, 5, none⟩ = some (.bool o) ∧ kB < w'.heap.size)) (by kernel_rfl) ?_ (fun hHeld => ?_)
    · exact ⟨k1, k5, kz⟩
    refine wpAnyH_take (i := 0) (oi := { dst := some 36, op := Op.move (Operand.tmp 0), type := 60, pos := "l04_home.go:61", after := #[], guard := none }) (v := ?r1_v0) rfl (by kernel_rfl) (by kernel_rfl) (by kernel_rfl) (fun _ _ _ h => h) (Or.inl ⟨by rfl, ?r1_hy0⟩) (by assumption) ?r1_rest0
    case r1_hy0 => intro w hSw; obtain ⟨s0, s1, s2⟩ := hSw; go_simp; try (with_reducible rfl)
    simp only [Act.put, List.setIfInBounds_toArray, List.set_cons_zero, List.set_cons_succ]
    refine wpAnyH_take (i := 1) (oi := { dst := some 37, op := Op.move (Operand.tmp 0), type := 60, pos := "l04_home.go:61", after := #[], guard := none }) (v := ?r1_v1) rfl (by kernel_rfl) (by kernel_rfl) (by kernel_rfl) (fun _ _ _ h => h) (Or.inl ⟨by rfl, ?r1_hy1⟩) (by assumption) ?r1_rest1
    case r1_hy1 => intro w hSw; obtain ⟨s0, s1, s2⟩ := hSw; go_simp; try (with_reducible rfl)
    simp only [Act.put, List.setIfInBounds_toArray, List.set_cons_zero, List.set_cons_succ]
    refine wpAnyH_take (i := 2) (oi := { dst := some 38, op := Op.nilCheck (Operand.tmp 37), type := 0, pos := "l04_home.go:61", after := #[{ on := 1, ground := Ground.data }], guard := none }) (v := ?r1_v2) rfl (by kernel_rfl) (by kernel_rfl) (by kernel_rfl) (fun _ _ _ h => h) (Or.inl ⟨by rfl, ?r1_hy2⟩) (by assumption) ?r1_rest2
    case r1_hy2 => intro w hSw; obtain ⟨s0, s1, s2⟩ := hSw; go_simp; try (with_reducible rfl)
    simp only [Act.put, List.setIfInBounds_toArray, List.set_cons_zero, List.set_cons_succ]
    refine wpAnyH_take (i := 3) (oi := { dst := some 39, op := Op.fieldAddr 62 (Operand.tmp 38) 0, type := 0, pos := "l04_home.go:61", after := #[{ on := 2, ground := Ground.data }], guard := none }) (v := ?r1_v3) rfl (by kernel_rfl) (by kernel_rfl) (by kernel_rfl) (fun _ _ _ h => h) (Or.inl ⟨by rfl, ?r1_hy3⟩) (by assumption) ?r1_rest3
    case r1_hy3 => intro w hSw; obtain ⟨s0, s1, s2⟩ := hSw; go_simp; try (with_reducible rfl)
    simp only [Act.put, List.setIfInBounds_toArray, List.set_cons_zero, List.set_cons_succ]
    refine wpAnyH_take (i := 4) (oi := { dst := some 40, op := Op.fieldAddr 30 (Operand.tmp 39) 1, type := 0, pos := "l04_home.go:61", after := #[{ on := 3, ground := Ground.data }], guard := none }) (v := ?r1_v4) rfl (by kernel_rfl) (by kernel_rfl) (by kernel_rfl) (fun _ _ _ h => h) (Or.inl ⟨by rfl, ?r1_hy4⟩) (by assumption) ?r1_rest4
    case r1_hy4 => intro w hSw; obtain ⟨s0, s1, s2⟩ := hSw; go_simp; try (with_reducible rfl)
    simp only [Act.put, List.setIfInBounds_toArray, List.set_cons_zero, List.set_cons_succ]
    refine wpAnyH_take (i := 5) (oi := { dst := some 41, op := Op.load 3 (Operand.tmp 40), type := 3, pos := "l04_home.go:61", after := #[{ on := 4, ground := Ground.data }], guard := none }) (v := ?r1_v5) rfl (by kernel_rfl) (by kernel_rfl) (by kernel_rfl) (fun _ _ _ h => h) (Or.inl ⟨by rfl, ?r1_hy5⟩) (by assumption) ?r1_rest5
    case r1_hy5 => intro w hSw; obtain ⟨s0, s1, s2⟩ := hSw; go_simp; try (with_reducible rfl)
    simp only [Act.put, List.setIfInBounds_toArray, List.set_cons_zero, List.set_cons_succ]
    refine wpAnyH_take (i := 6) (oi := { dst := some 42, op := Op.move (Operand.tmp 0), type := 60, pos := "l04_home.go:61", after := #[], guard := none }) (v := ?r1_v6) rfl (by kernel_rfl) (by kernel_rfl) (by kernel_rfl) (fun _ _ _ h => h) (Or.inl ⟨by rfl, ?r1_hy6⟩) (by assumption) ?r1_rest6
    case r1_hy6 => intro w hSw; obtain ⟨s0, s1, s2⟩ := hSw; go_simp; try (with_reducible rfl)
    simp only [Act.put, List.setIfInBounds_toArray, List.set_cons_zero, List.set_cons_succ]
    refine wpAnyH_take (i := 7) (oi := { dst := some 43, op := Op.nilCheck (Operand.tmp 42), type := 0, pos := "l04_home.go:61", after := #[{ on := 6, ground := Ground.data }], guard := none }) (v := ?r1_v7) rfl (by kernel_rfl) (by kernel_rfl) (by kernel_rfl) (fun _ _ _ h => h) (Or.inl ⟨by rfl, ?r1_hy7⟩) (by assumption) ?r1_rest7
    case r1_hy7 => intro w hSw; obtain ⟨s0, s1, s2⟩ := hSw; go_simp; try (with_reducible rfl)
    simp only [Act.put, List.setIfInBounds_toArray, List.set_cons_zero, List.set_cons_succ]
    refine wpAnyH_take (i := 8) (oi := { dst := some 44, op := Op.fieldAddr 62 (Operand.tmp 43) 0, type := 0, pos := "l04_home.go:61", after := #[{ on := 7, ground := Ground.data }], guard := none }) (v := ?r1_v8) rfl (by kernel_rfl) (by kernel_rfl) (by kernel_rfl) (fun _ _ _ h => h) (Or.inl ⟨by rfl, ?r1_hy8⟩) (by assumption) ?r1_rest8
    case r1_hy8 => intro w hSw; obtain ⟨s0, s1, s2⟩ := hSw; go_simp; try (with_reducible rfl)
    simp only [Act.put, List.setIfInBounds_toArray, List.set_cons_zero, List.set_cons_succ]
    refine wpAnyH_take (i := 9) (oi := { dst := some 45, op := Op.fieldAddr 30 (Operand.tmp 44) 4, type := 0, pos := "l04_home.go:61", after := #[{ on := 8, ground := Ground.data }], guard := none }) (v := ?r1_v9) rfl (by kernel_rfl) (by kernel_rfl) (by kernel_rfl) (fun _ _ _ h => h) (Or.inl ⟨by rfl, ?r1_hy9⟩) (by assumption) ?r1_rest9
    case r1_hy9 => intro w hSw; obtain ⟨s0, s1, s2⟩ := hSw; go_simp; try (with_reducible rfl)
    simp only [Act.put, List.setIfInBounds_toArray, List.set_cons_zero, List.set_cons_succ]
    refine wpAnyH_take (i := 10) (oi := { dst := some 46, op := Op.fieldAddr 27 (Operand.tmp 45) 1, type := 0, pos := "l04_home.go:61", after := #[{ on := 9, ground := Ground.data }], guard := none }) (v := ?r1_v10) rfl (by kernel_rfl) (by kernel_rfl) (by kernel_rfl) (fun _ _ _ h => h) (Or.inl ⟨by rfl, ?r1_hy10⟩) (by assumption) ?r1_rest10
    case r1_hy10 => intro w hSw; obtain ⟨s0, s1, s2⟩ := hSw; go_simp; try (with_reducible rfl)
    simp only [Act.put, List.setIfInBounds_toArray, List.set_cons_zero, List.set_cons_succ]
    refine wpAnyH_take (i := 11) (oi := { dst := some 47, op := Op.load 4 (Operand.tmp 46), type := 4, pos := "l04_home.go:61", after := #[{ on := 10, ground := Ground.data }], guard := none }) (v := ?r1_v11) rfl (by kernel_rfl) (by kernel_rfl) (by kernel_rfl) (fun _ _ _ h => h) (Or.inl ⟨by rfl, ?r1_hy11⟩) (by assumption) ?r1_rest11
    case r1_hy11 => intro w hSw; obtain ⟨s0, s1, s2⟩ := hSw; go_simp; try (with_reducible rfl)
    simp only [Act.put, List.setIfInBounds_toArray, List.set_cons_zero, List.set_cons_succ]
    refine wpAnyH_take (i := 12) (oi := { dst := some 48, op := Op.build 34 #[(0, Operand.const (Value.int IntKind.i64 6)), (2, Operand.tmp 47)], type := 34, pos := "l04_home.go:61", after := #[{ on := 11, ground := Ground.data }], guard := none }) (v := ?r1_v12) rfl (by kernel_rfl) (by kernel_rfl) (by kernel_rfl) (fun _ _ _ h => h) (Or.inl ⟨by rfl, ?r1_hy12⟩) (by assumption) ?r1_rest12
    case r1_hy12 => intro w hSw; obtain ⟨s0, s1, s2⟩ := hSw; go_simp; try (with_reducible rfl)
    simp only [Act.put, List.setIfInBounds_toArray, List.set_cons_zero, List.set_cons_succ]
    refine wpAnyH_ready (rs := [13]) (by kernel_rfl) (by simp) ?_
    refine AllReadyH.cons (o := { dst := some 49, op := Op.call { callee := Callee.value (Operand.func 38), args := #[Operand.tmp 36, Operand.tmp 41, Operand.tmp 48], argTypes := #[60, 3, 34] }, type := 0, pos := "l04_home.go:61", after := #[{ on := 0, ground := Ground.data }, { on := 5, ground := Ground.data }, { on := 12, ground := Ground.data }], guard := none }) rfl (fun K2 hK2 => ?_) AllReadyH.nil
    go_simp
    refine (l4Tell_any lo V.drew kB vl _ v1 vt _ (HL3.out.below (bel_drew (Below.refl _ _))) hzV S.ow 6 0 o none 0 0 (by simp [nwS]; omega)).mono ?_
    rintro e w9 ⟨rfl, vt9, L9, S9'⟩
    have S9 : SameS lo V w9 := (SameS.of_below (bel_drew (Below.refl _ _))).trans S9'
    go_wp2_with fail
    refine hK2.out _ _ ?_ (fun hHeld2 => ?_)
    · exact ⟨L9.k.cell 1, L9.k.cell 5, L9.k.lt⟩
    clear hK2 K2 hHeld
    have hHeld := hHeld2
    clear hHeld2
    try simp only [Act.put, List.setIfInBounds_toArray, List.set_cons_zero, List.set_cons_succ]
    clear S9'
    refine wpAnyH_done (by kernel_rfl) ?_ _
    have HF : Hid (_ ∧ _) := ⟨L9, HT3.out.trans S9⟩
    rw [show ({ nwS S p o with nt := (nwS S p o).nt + 1 } : SS) = nxS S p o from HN.out.symm] at HF
    clear L9 S9 hHeld
    go_wp2
    refine ⟨rfl, .tuple #[], by simp [results, Try.results25, go_sem], rfl, _, _, HF.out.1, HF.out.2⟩
  · have hown : S.ow < 0 := by omega
    cases o
    · have HN : Hid (nxS S p false = gvS { nwS S p false with ak := 0 }) := by show _ = _; unfold nxS; rw [if_neg how0]; rfl
      have L4 := HL3.out.set 6 (.int .i64 0) (S' := { nwS S p false with ak := 0 }) (heap_setCell_same _ _ 6 _ _ _ HL3.out.k) rfl rfl rfl rfl
      have T4 : SameS lo w (V.setCell ⟨kB, 6, none⟩ (.int .i64 0)) := HT3.out.trans (SameS.setCell HL3.out.k HL3.out.lk (.inl rfl) 6 _)
      have m2 := L4.k.cell 2
      have m5 : (V.setCell ⟨kB, 6, none⟩ (.int .i64 0)).cell? ⟨kB, 5, none⟩ = some (.bool false) := L4.k.cell 5
      have m6 : (V.setCell ⟨kB, 6, none⟩ (.int .i64 0)).cell? ⟨kB, 6, none⟩ = some (.int .i64 0) := L4.k.cell 6
      have mz := L4.k.lt
      obtain ⟨V4, hV4⟩ : ∃ V4, V.setCell ⟨kB, 6, none⟩ (.int .i64 0) = V4 := ⟨_, rfl⟩
      rw [hV4] at L4 T4 m2 m5 m6 mz
      have HV4 : Hid (V.setCell ⟨kB, 6, none⟩ (.int .i64 0) = V4) := hV4
      have HL4 : Hid (SLies lo V4 kB vl _ v1 vt { nwS S p false with ak := 0 }) := L4
      have HT4 : Hid (SameS lo w V4) := T4
      have hi0 : (0 : Int) < (S.rd.length : Int) := by omega
      have m2' : V4.cell? ⟨kB, 2, none⟩ = some (.slice (some ⟨g, 0, none⟩) S.rd.length cr) := m2
      clear L4 T4 m2 HL3 HT3
      go_wp2_with fail
      go_loopw [2] (fun i wr => i = .int .i64 0 ∧ wr = V4) (fun _ _ => 0)
      case atStart => exact ⟨rfl, rfl⟩
      case round =>
        obtain ⟨rfl, hwr⟩ := hrel
        subst hwr
        go_wp2_with fail
        refine (l4Give_any lo _ kB vl _ v1 vt _ HL4.out (Nat.le_trans hlo HT4.out.size) (by simpa [nwS] using hx) (by simpa [nwS] using hrd) (by simp [nwS]; omega) (by simp [nwS]; omega)).mono ?_
        rintro e w9 ⟨rfl, vt9, L9, S9⟩
        have HF : Hid (_ ∧ _) := ⟨L9, HT4.out.trans S9⟩
        rw [← HN.out] at HF
        clear L9 S9
        go_wp2
        refine ⟨rfl, .tuple #[], by simp [results, Try.results25, go_sem], rfl, _, _, HF.out.1, HF.out.2⟩
    · have HN : Hid (nxS S p true = if cntU S.rd p S.rd.length = 0 then gvS (awS S p S.rd.length) else awS S p S.rd.length) := by show _ = _; unfold nxS; rw [if_neg how0]; rfl
      have L4 := HL3.out.set 6 (.int .i64 0) (S' := awS S p 0) (heap_setCell_same _ _ 6 _ _ _ HL3.out.k) rfl (by simp [awS, nwS, goneU_zero]) rfl (by simp [awS, cntU, nwS])
      have T4 : SameS lo w (V.setCell ⟨kB, 6, none⟩ (.int .i64 0)) := HT3.out.trans (SameS.setCell HL3.out.k HL3.out.lk (.inl rfl) 6 _)
      obtain ⟨V4, hV4⟩ : ∃ V4, V.setCell ⟨kB, 6, none⟩ (.int .i64 0) = V4 := ⟨_, rfl⟩
      rw [hV4] at L4 T4
      have HV4 : Hid (V.setCell ⟨kB, 6, none⟩ (.int .i64 0) = V4) := hV4
      have HL4 : Hid (SLies lo V4 kB vl (.slice (some ⟨g, 0, none⟩) S.rd.length cr) v1 vt (awS S p 0)) := L4
      have HT4 : Hid (SameS lo w V4) := T4
      clear L4 T4 HL3 HT3
      go_wp2_with fail
      go_loopw [2] (fun i wr => ∃ k : Nat, k ≤ S.rd.length ∧ i = .int .i64 k ∧ ∃ vt', SLies lo wr kB vl (.slice (some ⟨g, 0, none⟩) S.rd.length cr) v1 vt' (awS S p k) ∧ SameS lo w wr) (fun i _ => S.rd.length - (intOf i).toNat)
      case atStart => exact ⟨0, Nat.zero_le _, rfl, vt, HL4.out, HT4.out⟩
      case round =>
        obtain ⟨k, hk, rfl, vt5, L5, T5⟩ := hrel
        have m2 : wr.cell? ⟨kB, 2, none⟩ = some (.slice (some ⟨g, 0, none⟩) S.rd.length cr) := L5.k.cell 2
        have m4 : wr.cell? ⟨kB, 4, none⟩ = some (.int .i64 (p : Int)) := L5.k.cell 4
        have m5 : wr.cell? ⟨kB, 5, none⟩ = some (.bool true) := L5.k.cell 5
        have m6 : wr.cell? ⟨kB, 6, none⟩ = some (.int .i64 (cntU S.rd p k : Int)) := L5.k.cell 6
        have mz := L5.k.lt
        have hcl := cntU_le S.rd p k
        have hzr : lo ≤ wr.heap.size := Nat.le_trans hlo T5.size
        clear HL4 HT4
        by_cases hkn : k < S.rd.length
        · have hi' : (k : Int) < (S.rd.length : Int) := by omega
          have hgl : (goneU S.rd p k).length = S.rd.length := goneU_length _ _ _
          have r5 : wr.ownsRow lo 4 1 (.slice (some ⟨g, 0, none⟩) S.rd.length cr) S.rd.length (bv (goneU S.rd p k)) := by have := L5.r; simp only [awS, hgl] at this; exact this
          have mg : wr.cell? ⟨g, k, none⟩ = some (.bool (S.rd.getD k false)) := by
            rw [r5.cellAt k (by omega), ← goneU_at S.rd p k hkn]
            simp [bv, hgl, hkn]
          have mgz := (r5.lt g rfl).2
          cases hb : S.rd.getD k false
          · have HR : Hid (SLies lo wr kB vl (.slice (some ⟨g, 0, none⟩) S.rd.length cr) v1 vt5 (awS S p (k + 1))) := by
              show SLies _ _ _ _ _ _ _ _
              have e : awS S p (k + 1) = awS S p k := by unfold awS; rw [goneU_no _ _ _ (.inl hb), cntU_no _ _ _ (.inl hb)]
              rw [e]; exact L5
            rw [hb] at mg
            have HT5 : Hid (SameS lo w wr) := T5
            clear L5 T5 r5 hb
            go_wp2_with fail
            go_roundw
            case rel => exact ⟨k + 1, by omega, by go_num, vt5, HR.out, HT5.out⟩
            case measure => simp [intOf]; omega
          · rw [hb] at mg
            by_cases hkp : k = p
            · have HR : Hid (SLies lo wr kB vl (.slice (some ⟨g, 0, none⟩) S.rd.length cr) v1 vt5 (awS S p (k + 1))) := by
                show SLies _ _ _ _ _ _ _ _
                have e : awS S p (k + 1) = awS S p k := by unfold awS; rw [goneU_no _ _ _ (.inr hkp), cntU_no _ _ _ (.inr hkp)]
                rw [e]; exact L5
              have HT5 : Hid (SameS lo w wr) := T5
              have hke : ((k : Int) == (p : Int)) = true := by simp [hkp]
              clear L5 T5 r5 hb
              subst hkp
              go_wp2_with fail
              go_roundw
              case rel => exact ⟨k + 1, by omega, by go_num, vt5, HR.out, HT5.out⟩
              case measure => simp [intOf]; omega
            · have hke : ((k : Int) == (p : Int)) = false := by simp; omega
              have hke' : ¬ ((k : Int) = (p : Int)) := by omega
              have HB1 : Hid (S.rd.getD k false = true) := hb
              have HL5 : Hid (SLies lo wr kB vl (.slice (some ⟨g, 0, none⟩) S.rd.length cr) v1 vt5 (awS S p k)) := L5
              have HT5 : Hid (SameS lo w wr) := T5
              have HGL : Hid ((goneU S.rd p k).length = S.rd.length) := hgl
              clear L5 T5 r5 hb hgl
              go_wp2_with fail
              refine (l4Tell_any lo wr kB vl _ v1 vt5 _ HL5.out hzr k 4 0 false none 0 0 (by simp [awS, nwS]; omega)).mono ?_
              rintro e w6 ⟨rfl, vt6, L6, T6⟩
              obtain ⟨L7, T7⟩ := SLies.setR (S := { awS S p k with nt := (awS S p k).nt + 1 }) (g := g) (cap := cr) L6 HGL.out k (by show k < (goneU S.rd p k).length; rw [HGL.out]; exact hkn) false
              have r6 : w6.ownsRow lo 4 1 (.slice (some ⟨g, 0, none⟩) S.rd.length cr) S.rd.length (bv (goneU S.rd p k)) := by have := L6.r; simp only [awS, HGL.out] at this; exact this
              have L8 := L7.set 6 (.int .i64 ((cntU S.rd p k : Int) + 1)) (S' := { awS S p k with rd := (goneU S.rd p k).set k false, ak := (cntU S.rd p k : Int) + 1, nt := (awS S p k).nt + 1 }) (heap_setCell_same _ _ 6 _ _ _ L7.k) rfl rfl rfl rfl
              have e8 : ({ awS S p k with rd := (goneU S.rd p k).set k false, ak := (cntU S.rd p k : Int) + 1, nt := (awS S p k).nt + 1 } : SS) = awS S p (k + 1) := by
                unfold awS
                rw [goneU_yes _ _ _ hkp, cntU_yes _ _ _ HB1.out hkp]
                simp [Nat.add_assoc]
              rw [e8] at L8
              have T8 := (HT5.out.trans T6).trans (T7.trans (SameS.setCell L7.k L7.lk (.inl rfl) 6 (.int .i64 ((cntU S.rd p k : Int) + 1))))
              have n2 : w6.cell? ⟨kB, 2, none⟩ = some (.slice (some ⟨g, 0, none⟩) S.rd.length cr) := L6.k.cell 2
              have nz := L6.k.lt
              have ng : w6.cell? ⟨g, k, none⟩ = some (.bool true) := by
                rw [r6.cellAt k (by omega), ← HB1.out, ← goneU_at S.rd p k hkn]
                simp [bv, HGL.out, hkn]
              have nf := r6.frozenAt k
              have n6 : (w6.setCell ⟨g, k, none⟩ (.bool false)).cell? ⟨kB, 6, none⟩ = some (.int .i64 (cntU S.rd p k : Int)) := L7.k.cell 6
              have nf6 := L7.k.frozen 6
              have nz6 := L7.k.lt
              have HR : Hid (_ ∧ _) := ⟨L8, T8⟩
              clear L6 T6 L7 T7 L8 T8 r6 e8 mg m2 m4 m5 m6 mz HL5 HT5
              obtain ⟨V7, hV7⟩ : ∃ V7, w6.setCell ⟨g, k, none⟩ (.bool false) = V7 := ⟨_, rfl⟩
              rw [hV7] at n6 nf6 nz6 HR
              have HV7 : Hid (w6.setCell ⟨g, k, none⟩ (.bool false) = V7) := hV7
              go_wp2_with fail
              go_roundw
              case rel => exact ⟨k + 1, by omega, by go_num, vt6, HR.out.1, HR.out.2⟩
              case measure => simp [intOf]; omega
        · have hke : k = S.rd.length := by omega
          subst hke
          have HL5 : Hid (SLies lo wr kB vl (.slice (some ⟨g, 0, none⟩) S.rd.length cr) v1 vt5 (awS S p S.rd.length)) := L5
          have HT5 : Hid (SameS lo w wr) := T5
          have HGL : Hid ((goneU S.rd p S.rd.length).length = S.rd.length) := goneU_length _ _ _
          clear L5 T5
          by_cases hc : cntU S.rd p S.rd.length = 0
          · have HN2 : Hid (nxS S p true = gvS (awS S p S.rd.length)) := by show _ = _; rw [HN.out, if_pos hc]
            rw [hc] at m6
            go_wp2_with fail
            refine (l4Give_any lo _ kB vl _ v1 vt5 _ HL5.out hzr (by simpa [awS, nwS] using hx) (by simp only [awS]; rw [HGL.out]; exact hrd) (by simp [awS, nwS]; omega) (by simp only [awS, nwS]; rw [HGL.out]; omega)).mono ?_
            rintro e w9 ⟨rfl, vt9, L9, S9⟩
            have HF : Hid (_ ∧ _) := ⟨L9, HT5.out.trans S9⟩
            rw [← HN2.out] at HF
            clear L9 S9
            go_wp2
            refine ⟨rfl, .tuple #[], by simp [results, Try.results25, go_sem], rfl, _, _, HF.out.1, HF.out.2⟩
          · have HN2 : Hid (nxS S p true = awS S p S.rd.length) := by show _ = _; rw [HN.out, if_neg hc]
            have hc' : ((cntU S.rd p S.rd.length : Int) == 0) = false := by simp; omega
            have hc2 : ¬ ((cntU S.rd p S.rd.length : Int) = 0) := by omega
            have HF : Hid (_ ∧ _) := ⟨HL5.out, HT5.out⟩
            rw [← HN2.out] at HF
            clear HL5 HT5
            go_wp2
            refine ⟨rfl, .tuple #[], by simp [results, Try.results25, go_sem], rfl, _, _, HF.out.1, HF.out.2⟩
end Go.Proofs.Ytliihkdocbpolaa
