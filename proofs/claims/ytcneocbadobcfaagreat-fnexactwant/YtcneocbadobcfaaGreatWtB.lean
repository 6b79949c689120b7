/- What impl's Want does. -/
import Derived.Test.YtcneocbadobcfaaGreatWtA
namespace Go.Proofs.YtcneocbadobcfaaGreat
open Go.RowKit
set_option linter.unusedVariables false

/-- Whether a node may want a page, and whether it then has asked. -/
def wOk (d : ND) (nodes page : Int) (own : Bool) : Bool := nodeOkB d nodes && (inB page 0 5 && (!(d.f page.toNat).q && lackB (d.f page.toNat).s own))
def wantB (d : ND) (nodes page : Int) (own : Bool) : Bool := wOk d nodes page own && askQ d page.toNat own
def wantD (d : ND) (nodes page : Int) (own : Bool) : ND := if wantB d nodes page own then askD d page.toNat own else d

theorem nodeOk_facts {d : ND} {nodes : Int} (h : nodeOkB d nodes = true) : d.nf = 6 ∧ (1 ≤ d.no ∧ d.no ≤ 4) ∧ (d.no : Int) = nodes := by
  simp only [nodeOkB, nodeB, inB, Bool.and_eq_true, decide_eq_true_eq] at h
  omega

/-- What Want answers. -/
structure WantP (d : ND) (nodes page : Int) (own : Bool) (w : World) (e : Ending) (w' : World) : Prop where
  out : ∃ p', e = .returned (.tuple #[.agg (ncells (wantD d nodes page own) p'), .bool (wantB d nodes page own)]) ∧ NOw w' (wantD d nodes page own) p' ∧ (∀ b, NBs (wantD d nodes page own) p' b → w.heap.size ≤ b) ∧ Below w.heap.size w w'

theorem Box.quad (w : World) (c0 c1 c2 c3 : Array Value) (t0 t1 t2 t3 : TypeId) : Box ((((w.alloc (.cells c0 t0)).alloc (.cells c1 t1)).alloc (.cells c2 t2)).alloc (.cells c3 t3)) w.heap.size c0 t0 ∧ Box ((((w.alloc (.cells c0 t0)).alloc (.cells c1 t1)).alloc (.cells c2 t2)).alloc (.cells c3 t3)) (w.heap.size + 1) c1 t1 ∧ Box ((((w.alloc (.cells c0 t0)).alloc (.cells c1 t1)).alloc (.cells c2 t2)).alloc (.cells c3 t3)) (w.heap.size + 1 + 1) c2 t2 ∧ Box ((((w.alloc (.cells c0 t0)).alloc (.cells c1 t1)).alloc (.cells c2 t2)).alloc (.cells c3 t3)) (w.heap.size + 1 + 1 + 1) c3 t3 := by
  obtain ⟨h0, h1, h2⟩ := Box.tri w c0 c1 c2 t0 t1 t2
  have h3 := Box.new (((w.alloc (.cells c0 t0)).alloc (.cells c1 t1)).alloc (.cells c2 t2)) c3 t3
  have e : (((w.alloc (.cells c0 t0)).alloc (.cells c1 t1)).alloc (.cells c2 t2)).heap.size = w.heap.size + 1 + 1 + 1 := by simp
  rw [e] at h3
  exact ⟨h0.below (bel_alloc (Below.refl _ _) _), h1.below (bel_alloc (Below.refl _ _) _), h2.below (bel_alloc (Below.refl _ _) _), h3⟩

/-- What Want reads. -/
structure WS (w : World) (b : Nat) (d : ND) (p : NP) (fa : Option Addr) (page : Int) (own : Bool) : Prop where
  n0 : w.cell? ⟨b, 0, none⟩ = some (.int .i64 d.id)
  n1 : w.cell? ⟨b, 1, none⟩ = some (.slice fa d.nf p.f.2)
  n2 : w.cell? ⟨b, 2, none⟩ = some (.slice p.h.1 d.nh p.h.2)
  n3 : w.cell? ⟨b, 3, none⟩ = some (.slice p.o.1 d.no p.o.2)
  n4 : w.cell? ⟨b, 4, none⟩ = some (.slice p.i.1 d.ni p.i.2)
  pg : w.cell? ⟨b + 1, 0, none⟩ = some (.int .i64 page)
  ow : w.cell? ⟨b + 1 + 1, 0, none⟩ = some (.bool own)
  z0 : b < w.heap.size
  z1 : b + 1 < w.heap.size
  z2 : b + 1 + 1 < w.heap.size
structure WF (w : World) (g off : Nat) (pg : Nat) (f : FD) (p : Pl) (q : Bool) : Prop where
  f0 : w.cell? ⟨g, off + pg * 3, none⟩ = some (.int .i64 f.s)
  f1 : w.cell? ⟨g, off + pg * 3 + 1, none⟩ = some (.slice p.1 f.xs.length p.2)
  f2 : w.cell? ⟨g, off + pg * 3 + 2, none⟩ = some (.bool q)

set_option maxRecDepth 100000 in
set_option maxHeartbeats 4000000 in
theorem want_no1 (d : ND) (p : NP) (nodes page : Int) (own : Bool) (w : World) (hd : Nsm d) (hR : NR w d p) (h1 : nodeOkB d nodes = false) (hno : wOk d nodes page own = false) :
    Calls Tryz.prog 7 #[.agg (ncells d p), .int .i64 nodes, .int .i64 page, .bool own] w fun e w' => WantP d nodes page own w e w' := by
  have B := bel_alloc (bel_alloc (bel_alloc (bel_alloc (Below.refl w.heap.size w) (.cells (ncells d p) 34)) (.cells #[.int .i64 page] 3)) (.cells #[.bool own] 4)) (.cells #[.int .i64 0, .slice none 0 0, .slice none 0 0, .slice none 0 0, .slice none 0 0] 34)
  obtain ⟨XN, XP, XO, XR⟩ := Box.quad w (ncells d p) #[.int .i64 page] #[.bool own] #[.int .i64 0, .slice none 0 0, .slice none 0 0, .slice none 0 0, .slice none 0 0] 34 3 4 34
  obtain ⟨W, hW⟩ : ∃ W, (((w.alloc (.cells (ncells d p) 34)).alloc (.cells #[.int .i64 page] 3)).alloc (.cells #[.bool own] 4)).alloc (.cells #[.int .i64 0, .slice none 0 0, .slice none 0 0, .slice none 0 0, .slice none 0 0] 34) = W := ⟨_, rfl⟩
  rw [hW] at B XN XP XO XR
  have HWE : Hid ((((w.alloc (.cells (ncells d p) 34)).alloc (.cells #[.int .i64 page] 3)).alloc (.cells #[.bool own] 4)).alloc (.cells #[.int .i64 0, .slice none 0 0, .slice none 0 0, .slice none 0 0, .slice none 0 0] 34) = W) := hW
  have KS : Hid (∀ w', Below W.heap.size W w' → WS w' w.heap.size d p p.f.1 page own) := fun w' b => by
    obtain ⟨a0, a1, a2, a3, a4, az⟩ := (XN.below b).at5
    exact ⟨a0, a1, a2, a3, a4, (XP.below b).cell 0, (XO.below b).cell 0, az, (XP.below b).lt, (XO.below b).lt⟩
  have HB : Hid (Below w.heap.size w W) := B
  have HN : Hid (∀ w', Below W.heap.size W w' → Calls Tryz.prog 24 #[.agg #[.int .i64 d.id, .slice p.f.1 d.nf p.f.2, .slice p.h.1 d.nh p.h.2, .slice p.o.1 d.no p.o.2, .slice p.i.1 d.ni p.i.2], .int .i64 nodes] w' fun e w2 => e = .returned (.bool (nodeOkB d nodes)) ∧ Below w'.heap.size w' w2) := fun w' b => implNodeOk_any d p nodes w' (fun i hi => by have := (hd.h.2 i hi).2.1; omega) ((hR.below B).below b)
  have HX : Hid (_ ∧ _ ∧ _ ∧ _) := ⟨XN, XP, XO, XR⟩
  have HR : Hid (NR w d p) := hR
  have HNO : Hid (wOk d nodes page own = false) := hno
  have HX3 : Hid (Box W (w.heap.size + 1 + 1 + 1) #[.int .i64 0, .slice none 0 0, .slice none 0 0, .slice none 0 0, .slice none 0 0] 34) := XR
  have H1 : Hid (nodeOkB d nodes = false) := h1
  clear h1 hno
  clear hW B XN XP XO XR hR
  go_enter Tryz.func7, Tryz.ntmps7
  go_wp2_with fail
  rw [HWE.out]
  refine wp_region_held_drew (S := (fun w' => WS w' w.heap.size d p p.f.1 page own ∧ True)) (by kernel_rfl) ?_ (fun hHeld => ?_)
  · exact ⟨KS.out _ (bel_drew (Below.refl _ _)), trivial⟩
  refine wpAnyH_take (i := 0) (oi := { dst := some 10, op := Op.load 34 (Operand.tmp 4), type := 34, pos := "l05_node.go:160", after := #[], guard := none }) (v := ?r4_v0) rfl (by kernel_rfl) (by kernel_rfl) (by kernel_rfl) (fun _ _ _ h => h) (Or.inl ⟨by rfl, ?r4_hy0⟩) (by assumption) ?r4_rest0
  case r4_hy0 => intro w hSw; obtain ⟨⟨s0, s1, s2, s3, s4, s5, s6, s7, s8, s9⟩, s10⟩ := hSw; go_simp; try (with_reducible rfl)
  simp only [Act.put, List.setIfInBounds_toArray, List.set_cons_zero, List.set_cons_succ]
  refine wpAnyH_take (i := 1) (oi := { dst := some 11, op := Op.move (Operand.tmp 1), type := 3, pos := "l05_node.go:160", after := #[], guard := none }) (v := ?r4_v1) rfl (by kernel_rfl) (by kernel_rfl) (by kernel_rfl) (fun _ _ _ h => h) (Or.inl ⟨by rfl, ?r4_hy1⟩) (by assumption) ?r4_rest1
  case r4_hy1 => intro w hSw; obtain ⟨⟨s0, s1, s2, s3, s4, s5, s6, s7, s8, s9⟩, s10⟩ := hSw; go_simp; try (with_reducible rfl)
  simp only [Act.put, List.setIfInBounds_toArray, List.set_cons_zero, List.set_cons_succ]
  refine wpAnyH_ready (rs := [2]) (by kernel_rfl) (by simp) ?_
  refine AllReadyH.cons (o := { dst := some 12, op := Op.call { callee := Callee.value (Operand.func 24), args := #[Operand.tmp 10, Operand.tmp 11], argTypes := #[34, 3] }, type := 4, pos := "l05_node.go:160", after := #[{ on := 0, ground := Ground.data }, { on := 1, ground := Ground.data }], guard := none }) rfl (fun K2 hK2 => ?_) AllReadyH.nil
  go_simp
  refine (HN.out _ (bel_drew (Below.refl _ _))).mono ?_
  rintro e w1 ⟨rfl, b1⟩
  replace b1 := bel_undrew b1
  rw [H1.out]
  go_wp2_with fail
  refine hK2.out _ _ ?_ (fun hHeld2 => ?_)
  · exact ⟨KS.out _ b1, trivial⟩
  clear hK2 K2 hHeld
  have hHeld := hHeld2
  clear hHeld2
  try simp only [Act.put, List.setIfInBounds_toArray, List.set_cons_zero, List.set_cons_succ]
  refine wpAnyH_take (i := 3) (oi := { dst := some 13, op := Op.unOp UnOp.not 4 (Operand.tmp 12), type := 4, pos := "l05_node.go:160", after := #[{ on := 2, ground := Ground.data }], guard := none }) (v := ?r4_v3) rfl (by kernel_rfl) (by kernel_rfl) (by kernel_rfl) (fun _ _ _ h => h) (Or.inl ⟨by rfl, ?r4_hy3⟩) (by assumption) ?r4_rest3
  case r4_hy3 => intro w hSw; obtain ⟨⟨s0, s1, s2, s3, s4, s5, s6, s7, s8, s9⟩, s10⟩ := hSw; go_simp; try (with_reducible rfl)
  simp only [Act.put, List.setIfInBounds_toArray, List.set_cons_zero, List.set_cons_succ]
  refine wpAnyH_take (i := 4) (oi := { dst := some 14, op := Op.move (Operand.tmp 13), type := 4, pos := "l05_node.go:160", after := #[{ on := 3, ground := Ground.data }, { on := 2, ground := Ground.chain }], guard := none }) (v := ?r4_v4) rfl (by kernel_rfl) (by kernel_rfl) (by kernel_rfl) (fun _ _ _ h => h) (Or.inl ⟨by rfl, ?r4_hy4⟩) (by assumption) ?r4_rest4
  case r4_hy4 => intro w hSw; obtain ⟨⟨s0, s1, s2, s3, s4, s5, s6, s7, s8, s9⟩, s10⟩ := hSw; go_simp; try (with_reducible rfl)
  simp only [Act.put, List.setIfInBounds_toArray, List.set_cons_zero, List.set_cons_succ]
  refine wpAnyH_take (i := 5) (oi := { dst := some 15, op := Op.load 3 (Operand.tmp 6), type := 3, pos := "l05_node.go:160", after := #[{ on := 4, ground := Ground.guard }], guard := some (4, false) }) (v := undef) rfl (by kernel_rfl) (by kernel_rfl) (by kernel_rfl) (fun _ _ _ h => h) (Or.inr ⟨by rfl, rfl⟩) (by assumption) ?_
  simp only [Act.put, List.setIfInBounds_toArray, List.set_cons_zero, List.set_cons_succ]
  refine wpAnyH_take (i := 6) (oi := { dst := some 16, op := Op.call { callee := Callee.value (Operand.func 25), args := #[Operand.tmp 15], argTypes := #[3] }, type := 4, pos := "l05_node.go:160", after := #[{ on := 5, ground := Ground.data }, { on := 4, ground := Ground.chain }, { on := 4, ground := Ground.guard }], guard := some (4, false) }) (v := undef) rfl (by kernel_rfl) (by kernel_rfl) (by kernel_rfl) (fun _ _ _ h => h) (Or.inr ⟨by rfl, rfl⟩) (by assumption) ?_
  simp only [Act.put, List.setIfInBounds_toArray, List.set_cons_zero, List.set_cons_succ]
  refine wpAnyH_take (i := 7) (oi := { dst := some 17, op := Op.unOp UnOp.not 4 (Operand.tmp 16), type := 4, pos := "l05_node.go:160", after := #[{ on := 6, ground := Ground.data }, { on := 4, ground := Ground.guard }], guard := some (4, false) }) (v := undef) rfl (by kernel_rfl) (by kernel_rfl) (by kernel_rfl) (fun _ _ _ h => h) (Or.inr ⟨by rfl, rfl⟩) (by assumption) ?_
  simp only [Act.put, List.setIfInBounds_toArray, List.set_cons_zero, List.set_cons_succ]
  refine wpAnyH_take (i := 8) (oi := { dst := some 18, op := Op.pick (Operand.tmp 14) (Operand.const (Value.bool true)) (Operand.tmp 17), type := 4, pos := "l05_node.go:160", after := #[{ on := 4, ground := Ground.data }, { on := 7, ground := Ground.data }], guard := none }) (v := ?r4_v8) rfl (by kernel_rfl) (by kernel_rfl) (by kernel_rfl) (fun _ _ _ h => h) (Or.inl ⟨by rfl, ?r4_hy8⟩) (by assumption) ?r4_rest8
  case r4_hy8 => intro w hSw; obtain ⟨⟨s0, s1, s2, s3, s4, s5, s6, s7, s8, s9⟩, s10⟩ := hSw; go_simp; try (with_reducible rfl)
  simp only [Act.put, List.setIfInBounds_toArray, List.set_cons_zero, List.set_cons_succ]
  refine wpAnyH_take (i := 9) (oi := { dst := some 19, op := Op.move (Operand.tmp 18), type := 4, pos := "l05_node.go:160", after := #[{ on := 8, ground := Ground.data }, { on := 6, ground := Ground.chain }], guard := none }) (v := ?r4_v9) rfl (by kernel_rfl) (by kernel_rfl) (by kernel_rfl) (fun _ _ _ h => h) (Or.inl ⟨by rfl, ?r4_hy9⟩) (by assumption) ?r4_rest9
  case r4_hy9 => intro w hSw; obtain ⟨⟨s0, s1, s2, s3, s4, s5, s6, s7, s8, s9⟩, s10⟩ := hSw; go_simp; try (with_reducible rfl)
  simp only [Act.put, List.setIfInBounds_toArray, List.set_cons_zero, List.set_cons_succ]
  refine wpAnyH_take (i := 10) (oi := { dst := some 20, op := Op.fieldAddr 34 (Operand.tmp 4) 1, type := 0, pos := "l05_node.go:160", after := #[{ on := 9, ground := Ground.guard }], guard := some (9, false) }) (v := undef) rfl (by kernel_rfl) (by kernel_rfl) (by kernel_rfl) (fun _ _ _ h => h) (Or.inr ⟨by rfl, rfl⟩) (by assumption) ?_
  simp only [Act.put, List.setIfInBounds_toArray, List.set_cons_zero, List.set_cons_succ]
  refine wpAnyH_take (i := 11) (oi := { dst := some 21, op := Op.load 29 (Operand.tmp 20), type := 29, pos := "l05_node.go:160", after := #[{ on := 10, ground := Ground.data }, { on := 9, ground := Ground.guard }], guard := some (9, false) }) (v := undef) rfl (by kernel_rfl) (by kernel_rfl) (by kernel_rfl) (fun _ _ _ h => h) (Or.inr ⟨by rfl, rfl⟩) (by assumption) ?_
  simp only [Act.put, List.setIfInBounds_toArray, List.set_cons_zero, List.set_cons_succ]
  refine wpAnyH_take (i := 12) (oi := { dst := some 22, op := Op.load 3 (Operand.tmp 6), type := 3, pos := "l05_node.go:160", after := #[{ on := 9, ground := Ground.guard }], guard := some (9, false) }) (v := undef) rfl (by kernel_rfl) (by kernel_rfl) (by kernel_rfl) (fun _ _ _ h => h) (Or.inr ⟨by rfl, rfl⟩) (by assumption) ?_
  simp only [Act.put, List.setIfInBounds_toArray, List.set_cons_zero, List.set_cons_succ]
  refine wpAnyH_take (i := 13) (oi := { dst := some 23, op := Op.indexAddr 29 (Operand.tmp 21) (Operand.tmp 22), type := 0, pos := "l05_node.go:160", after := #[{ on := 11, ground := Ground.data }, { on := 12, ground := Ground.data }, { on := 9, ground := Ground.guard }], guard := some (9, false) }) (v := undef) rfl (by kernel_rfl) (by kernel_rfl) (by kernel_rfl) (fun _ _ _ h => h) (Or.inr ⟨by rfl, rfl⟩) (by assumption) ?_
  simp only [Act.put, List.setIfInBounds_toArray, List.set_cons_zero, List.set_cons_succ]
  refine wpAnyH_take (i := 14) (oi := { dst := some 24, op := Op.fieldAddr 50 (Operand.tmp 23) 2, type := 0, pos := "l05_node.go:160", after := #[{ on := 13, ground := Ground.data }, { on := 9, ground := Ground.guard }], guard := some (9, false) }) (v := undef) rfl (by kernel_rfl) (by kernel_rfl) (by kernel_rfl) (fun _ _ _ h => h) (Or.inr ⟨by rfl, rfl⟩) (by assumption) ?_
  simp only [Act.put, List.setIfInBounds_toArray, List.set_cons_zero, List.set_cons_succ]
  refine wpAnyH_take (i := 15) (oi := { dst := some 25, op := Op.load 4 (Operand.tmp 24), type := 4, pos := "l05_node.go:160", after := #[{ on := 14, ground := Ground.data }, { on := 9, ground := Ground.guard }], guard := some (9, false) }) (v := undef) rfl (by kernel_rfl) (by kernel_rfl) (by kernel_rfl) (fun _ _ _ h => h) (Or.inr ⟨by rfl, rfl⟩) (by assumption) ?_
  simp only [Act.put, List.setIfInBounds_toArray, List.set_cons_zero, List.set_cons_succ]
  refine wpAnyH_take (i := 16) (oi := { dst := some 26, op := Op.pick (Operand.tmp 19) (Operand.const (Value.bool true)) (Operand.tmp 25), type := 4, pos := "l05_node.go:160", after := #[{ on := 9, ground := Ground.data }, { on := 15, ground := Ground.data }], guard := none }) (v := ?r4_v16) rfl (by kernel_rfl) (by kernel_rfl) (by kernel_rfl) (fun _ _ _ h => h) (Or.inl ⟨by rfl, ?r4_hy16⟩) (by assumption) ?r4_rest16
  case r4_hy16 => intro w hSw; obtain ⟨⟨s0, s1, s2, s3, s4, s5, s6, s7, s8, s9⟩, s10⟩ := hSw; go_simp; try (with_reducible rfl)
  simp only [Act.put, List.setIfInBounds_toArray, List.set_cons_zero, List.set_cons_succ]
  refine wpAnyH_take (i := 17) (oi := { dst := some 27, op := Op.move (Operand.tmp 26), type := 4, pos := "l05_node.go:160", after := #[{ on := 16, ground := Ground.data }, { on := 9, ground := Ground.chain }], guard := none }) (v := ?r4_v17) rfl (by kernel_rfl) (by kernel_rfl) (by kernel_rfl) (fun _ _ _ h => h) (Or.inl ⟨by rfl, ?r4_hy17⟩) (by assumption) ?r4_rest17
  case r4_hy17 => intro w hSw; obtain ⟨⟨s0, s1, s2, s3, s4, s5, s6, s7, s8, s9⟩, s10⟩ := hSw; go_simp; try (with_reducible rfl)
  simp only [Act.put, List.setIfInBounds_toArray, List.set_cons_zero, List.set_cons_succ]
  refine wpAnyH_take (i := 18) (oi := { dst := some 28, op := Op.fieldAddr 34 (Operand.tmp 4) 1, type := 0, pos := "l05_node.go:160", after := #[{ on := 17, ground := Ground.guard }], guard := some (17, false) }) (v := undef) rfl (by kernel_rfl) (by kernel_rfl) (by kernel_rfl) (fun _ _ _ h => h) (Or.inr ⟨by rfl, rfl⟩) (by assumption) ?_
  simp only [Act.put, List.setIfInBounds_toArray, List.set_cons_zero, List.set_cons_succ]
  refine wpAnyH_take (i := 19) (oi := { dst := some 29, op := Op.load 29 (Operand.tmp 28), type := 29, pos := "l05_node.go:160", after := #[{ on := 18, ground := Ground.data }, { on := 17, ground := Ground.guard }], guard := some (17, false) }) (v := undef) rfl (by kernel_rfl) (by kernel_rfl) (by kernel_rfl) (fun _ _ _ h => h) (Or.inr ⟨by rfl, rfl⟩) (by assumption) ?_
  simp only [Act.put, List.setIfInBounds_toArray, List.set_cons_zero, List.set_cons_succ]
  refine wpAnyH_take (i := 20) (oi := { dst := some 30, op := Op.load 3 (Operand.tmp 6), type := 3, pos := "l05_node.go:160", after := #[{ on := 17, ground := Ground.guard }], guard := some (17, false) }) (v := undef) rfl (by kernel_rfl) (by kernel_rfl) (by kernel_rfl) (fun _ _ _ h => h) (Or.inr ⟨by rfl, rfl⟩) (by assumption) ?_
  simp only [Act.put, List.setIfInBounds_toArray, List.set_cons_zero, List.set_cons_succ]
  refine wpAnyH_take (i := 21) (oi := { dst := some 31, op := Op.indexAddr 29 (Operand.tmp 29) (Operand.tmp 30), type := 0, pos := "l05_node.go:160", after := #[{ on := 19, ground := Ground.data }, { on := 20, ground := Ground.data }, { on := 17, ground := Ground.guard }], guard := some (17, false) }) (v := undef) rfl (by kernel_rfl) (by kernel_rfl) (by kernel_rfl) (fun _ _ _ h => h) (Or.inr ⟨by rfl, rfl⟩) (by assumption) ?_
  simp only [Act.put, List.setIfInBounds_toArray, List.set_cons_zero, List.set_cons_succ]
  refine wpAnyH_take (i := 22) (oi := { dst := some 32, op := Op.load 50 (Operand.tmp 31), type := 50, pos := "l05_node.go:160", after := #[{ on := 21, ground := Ground.data }, { on := 17, ground := Ground.guard }], guard := some (17, false) }) (v := undef) rfl (by kernel_rfl) (by kernel_rfl) (by kernel_rfl) (fun _ _ _ h => h) (Or.inr ⟨by rfl, rfl⟩) (by assumption) ?_
  simp only [Act.put, List.setIfInBounds_toArray, List.set_cons_zero, List.set_cons_succ]
  refine wpAnyH_take (i := 23) (oi := { dst := some 33, op := Op.load 4 (Operand.tmp 7), type := 4, pos := "l05_node.go:160", after := #[{ on := 17, ground := Ground.guard }], guard := some (17, false) }) (v := undef) rfl (by kernel_rfl) (by kernel_rfl) (by kernel_rfl) (fun _ _ _ h => h) (Or.inr ⟨by rfl, rfl⟩) (by assumption) ?_
  simp only [Act.put, List.setIfInBounds_toArray, List.set_cons_zero, List.set_cons_succ]
  refine wpAnyH_take (i := 24) (oi := { dst := some 34, op := Op.call { callee := Callee.value (Operand.func 26), args := #[Operand.tmp 32, Operand.tmp 33], argTypes := #[50, 4] }, type := 4, pos := "l05_node.go:160", after := #[{ on := 22, ground := Ground.data }, { on := 23, ground := Ground.data }, { on := 17, ground := Ground.chain }, { on := 17, ground := Ground.guard }], guard := some (17, false) }) (v := undef) rfl (by kernel_rfl) (by kernel_rfl) (by kernel_rfl) (fun _ _ _ h => h) (Or.inr ⟨by rfl, rfl⟩) (by assumption) ?_
  simp only [Act.put, List.setIfInBounds_toArray, List.set_cons_zero, List.set_cons_succ]
  refine wpAnyH_take (i := 25) (oi := { dst := some 35, op := Op.unOp UnOp.not 4 (Operand.tmp 34), type := 4, pos := "l05_node.go:160", after := #[{ on := 24, ground := Ground.data }, { on := 17, ground := Ground.guard }], guard := some (17, false) }) (v := undef) rfl (by kernel_rfl) (by kernel_rfl) (by kernel_rfl) (fun _ _ _ h => h) (Or.inr ⟨by rfl, rfl⟩) (by assumption) ?_
  simp only [Act.put, List.setIfInBounds_toArray, List.set_cons_zero, List.set_cons_succ]
  refine wpAnyH_take (i := 26) (oi := { dst := some 36, op := Op.pick (Operand.tmp 27) (Operand.const (Value.bool true)) (Operand.tmp 35), type := 4, pos := "l05_node.go:160", after := #[{ on := 17, ground := Ground.data }, { on := 25, ground := Ground.data }], guard := none }) (v := ?r4_v26) rfl (by kernel_rfl) (by kernel_rfl) (by kernel_rfl) (fun _ _ _ h => h) (Or.inl ⟨by rfl, ?r4_hy26⟩) (by assumption) ?r4_rest26
  case r4_hy26 => intro w hSw; obtain ⟨⟨s0, s1, s2, s3, s4, s5, s6, s7, s8, s9⟩, s10⟩ := hSw; go_simp; try (with_reducible rfl)
  simp only [Act.put, List.setIfInBounds_toArray, List.set_cons_zero, List.set_cons_succ]
  refine wpAnyH_done (by kernel_rfl) ?_ _
  clear hHeld
  obtain ⟨XN, XP, XO, XR⟩ := HX.out
  replace XN := XN.below b1
  replace XR := XR.below b1
  have B1 := bel_trans HB.out b1
  obtain ⟨n0, n1, n2, n3, n4, nz⟩ := XN.at5
  clear XN XP XO HX
  go_wp2_with fail
  refine (copyNode_any d p _ hd (HR.out.below B1)).mono ?_
  rintro e w9 ⟨q, rfl, N9, L9, b9⟩
  replace XR := XR.below b9
  have B9 := bel_trans B1 b9
  obtain ⟨y0, y1, y2, y3, y4, yz⟩ := XR.at5
  have f0 := XR.frozen 0
  have f1 := XR.frozen 1
  have f2 := XR.frozen 2
  have f3 := XR.frozen 3
  have f4 := XR.frozen 4
  have hz : w.heap.size + 1 + 1 + 1 < w1.heap.size := by
    have h := HX3.out.lt
    have := b1.size
    omega
  have HF : Hid (WantP d nodes page own w (.returned (.tuple #[.agg #[.int .i64 d.id, .slice q.f.1 d.nf q.f.2, .slice q.h.1 d.nh q.h.2, .slice q.o.1 d.no q.o.2, .slice q.i.1 d.ni q.i.2], .bool false])) (((((w9.setCell ⟨w.heap.size + 1 + 1 + 1, 0, none⟩ (.int .i64 d.id)).setCell ⟨w.heap.size + 1 + 1 + 1, 1, none⟩ (.slice q.f.1 d.nf q.f.2)).setCell ⟨w.heap.size + 1 + 1 + 1, 2, none⟩ (.slice q.h.1 d.nh q.h.2)).setCell ⟨w.heap.size + 1 + 1 + 1, 3, none⟩ (.slice q.o.1 d.no q.o.2)).setCell ⟨w.heap.size + 1 + 1 + 1, 4, none⟩ (.slice q.i.1 d.ni q.i.2))) := by
    have hw : wantB d nodes page own = false := by unfold wantB; rw [HNO.out]; rfl
    have on : Only w9 (((((w9.setCell ⟨w.heap.size + 1 + 1 + 1, 0, none⟩ (.int .i64 d.id)).setCell ⟨w.heap.size + 1 + 1 + 1, 1, none⟩ (.slice q.f.1 d.nf q.f.2)).setCell ⟨w.heap.size + 1 + 1 + 1, 2, none⟩ (.slice q.h.1 d.nh q.h.2)).setCell ⟨w.heap.size + 1 + 1 + 1, 3, none⟩ (.slice q.o.1 d.no q.o.2)).setCell ⟨w.heap.size + 1 + 1 + 1, 4, none⟩ (.slice q.i.1 d.ni q.i.2)) (fun b => b = w.heap.size + 1 + 1 + 1) := (((((Only.refl w9 (fun b => b = w.heap.size + 1 + 1 + 1)).setCell ⟨w.heap.size + 1 + 1 + 1, 0, none⟩ _ rfl).setCell ⟨w.heap.size + 1 + 1 + 1, 1, none⟩ _ rfl).setCell ⟨w.heap.size + 1 + 1 + 1, 2, none⟩ _ rfl).setCell ⟨w.heap.size + 1 + 1 + 1, 3, none⟩ _ rfl).setCell ⟨w.heap.size + 1 + 1 + 1, 4, none⟩ _ rfl
    refine ⟨q, ?_, ?_, ?_, ?_⟩
    · unfold wantD; rw [hw]; rfl
    · unfold wantD; rw [hw]; exact N9.sm (on.sm (fun b hb e => by have := L9 b hb; omega))
    · unfold wantD; rw [hw]; exact fun b hb => by have := L9 b hb; omega
    · exact lit_bel5 B9 (by omega)
  clear XR N9 L9 b9 B9 B1 b1 n0 n1 n2 n3 n4 nz HR
  go_wp2
  refine bodyPost_ret (v := .tuple #[.agg #[.int .i64 d.id, .slice q.f.1 d.nf q.f.2, .slice q.h.1 d.nh q.h.2, .slice q.o.1 d.no q.o.2, .slice q.i.1 d.ni q.i.2], .bool false]) (by simp [results, Tryz.results7, go_sem, y0, y1, y2, y3, y4]) rfl HF.out

set_option maxRecDepth 100000 in
set_option maxHeartbeats 4000000 in
theorem want_no2 (d : ND) (p : NP) (nodes page : Int) (own : Bool) (w : World) (hd : Nsm d) (hR : NR w d p) (h1 : nodeOkB d nodes = true) (h2 : inB page 0 5 = false) (hno : wOk d nodes page own = false) :
    Calls Tryz.prog 7 #[.agg (ncells d p), .int .i64 nodes, .int .i64 page, .bool own] w fun e w' => WantP d nodes page own w e w' := by
  have B := bel_alloc (bel_alloc (bel_alloc (bel_alloc (Below.refl w.heap.size w) (.cells (ncells d p) 34)) (.cells #[.int .i64 page] 3)) (.cells #[.bool own] 4)) (.cells #[.int .i64 0, .slice none 0 0, .slice none 0 0, .slice none 0 0, .slice none 0 0] 34)
  obtain ⟨XN, XP, XO, XR⟩ := Box.quad w (ncells d p) #[.int .i64 page] #[.bool own] #[.int .i64 0, .slice none 0 0, .slice none 0 0, .slice none 0 0, .slice none 0 0] 34 3 4 34
  obtain ⟨W, hW⟩ : ∃ W, (((w.alloc (.cells (ncells d p) 34)).alloc (.cells #[.int .i64 page] 3)).alloc (.cells #[.bool own] 4)).alloc (.cells #[.int .i64 0, .slice none 0 0, .slice none 0 0, .slice none 0 0, .slice none 0 0] 34) = W := ⟨_, rfl⟩
  rw [hW] at B XN XP XO XR
  have HWE : Hid ((((w.alloc (.cells (ncells d p) 34)).alloc (.cells #[.int .i64 page] 3)).alloc (.cells #[.bool own] 4)).alloc (.cells #[.int .i64 0, .slice none 0 0, .slice none 0 0, .slice none 0 0, .slice none 0 0] 34) = W) := hW
  have KS : Hid (∀ w', Below W.heap.size W w' → WS w' w.heap.size d p p.f.1 page own) := fun w' b => by
    obtain ⟨a0, a1, a2, a3, a4, az⟩ := (XN.below b).at5
    exact ⟨a0, a1, a2, a3, a4, (XP.below b).cell 0, (XO.below b).cell 0, az, (XP.below b).lt, (XO.below b).lt⟩
  have HB : Hid (Below w.heap.size w W) := B
  have HN : Hid (∀ w', Below W.heap.size W w' → Calls Tryz.prog 24 #[.agg #[.int .i64 d.id, .slice p.f.1 d.nf p.f.2, .slice p.h.1 d.nh p.h.2, .slice p.o.1 d.no p.o.2, .slice p.i.1 d.ni p.i.2], .int .i64 nodes] w' fun e w2 => e = .returned (.bool (nodeOkB d nodes)) ∧ Below w'.heap.size w' w2) := fun w' b => implNodeOk_any d p nodes w' (fun i hi => by have := (hd.h.2 i hi).2.1; omega) ((hR.below B).below b)
  have HX : Hid (_ ∧ _ ∧ _ ∧ _) := ⟨XN, XP, XO, XR⟩
  have HR : Hid (NR w d p) := hR
  have HNO : Hid (wOk d nodes page own = false) := hno
  have HX3 : Hid (Box W (w.heap.size + 1 + 1 + 1) #[.int .i64 0, .slice none 0 0, .slice none 0 0, .slice none 0 0, .slice none 0 0] 34) := XR
  have H1 : Hid (nodeOkB d nodes = true) := h1
  have H2 : Hid (inB page 0 5 = false) := h2
  clear h1 h2 hno
  clear hW B XN XP XO XR hR
  go_enter Tryz.func7, Tryz.ntmps7
  go_wp2_with fail
  rw [HWE.out]
  refine wp_region_held_drew (S := (fun w' => WS w' w.heap.size d p p.f.1 page own ∧ True)) (by kernel_rfl) ?_ (fun hHeld => ?_)
  · exact ⟨KS.out _ (bel_drew (Below.refl _ _)), trivial⟩
  refine wpAnyH_take (i := 0) (oi := { dst := some 10, op := Op.load 34 (Operand.tmp 4), type := 34, pos := "l05_node.go:160", after := #[], guard := none }) (v := ?r5_v0) rfl (by kernel_rfl) (by kernel_rfl) (by kernel_rfl) (fun _ _ _ h => h) (Or.inl ⟨by rfl, ?r5_hy0⟩) (by assumption) ?r5_rest0
  case r5_hy0 => intro w hSw; obtain ⟨⟨s0, s1, s2, s3, s4, s5, s6, s7, s8, s9⟩, s10⟩ := hSw; go_simp; try (with_reducible rfl)
  simp only [Act.put, List.setIfInBounds_toArray, List.set_cons_zero, List.set_cons_succ]
  refine wpAnyH_take (i := 1) (oi := { dst := some 11, op := Op.move (Operand.tmp 1), type := 3, pos := "l05_node.go:160", after := #[], guard := none }) (v := ?r5_v1) rfl (by kernel_rfl) (by kernel_rfl) (by kernel_rfl) (fun _ _ _ h => h) (Or.inl ⟨by rfl, ?r5_hy1⟩) (by assumption) ?r5_rest1
  case r5_hy1 => intro w hSw; obtain ⟨⟨s0, s1, s2, s3, s4, s5, s6, s7, s8, s9⟩, s10⟩ := hSw; go_simp; try (with_reducible rfl)
  simp only [Act.put, List.setIfInBounds_toArray, List.set_cons_zero, List.set_cons_succ]
  refine wpAnyH_ready (rs := [2]) (by kernel_rfl) (by simp) ?_
  refine AllReadyH.cons (o := { dst := some 12, op := Op.call { callee := Callee.value (Operand.func 24), args := #[Operand.tmp 10, Operand.tmp 11], argTypes := #[34, 3] }, type := 4, pos := "l05_node.go:160", after := #[{ on := 0, ground := Ground.data }, { on := 1, ground := Ground.data }], guard := none }) rfl (fun K2 hK2 => ?_) AllReadyH.nil
  go_simp
  refine (HN.out _ (bel_drew (Below.refl _ _))).mono ?_
  rintro e w1 ⟨rfl, b1⟩
  replace b1 := bel_undrew b1
  rw [H1.out]
  go_wp2_with fail
  refine hK2.out _ _ ?_ (fun hHeld2 => ?_)
  · exact ⟨KS.out _ b1, trivial⟩
  clear hK2 K2 hHeld
  have hHeld := hHeld2
  clear hHeld2
  try simp only [Act.put, List.setIfInBounds_toArray, List.set_cons_zero, List.set_cons_succ]
  refine wpAnyH_take (i := 3) (oi := { dst := some 13, op := Op.unOp UnOp.not 4 (Operand.tmp 12), type := 4, pos := "l05_node.go:160", after := #[{ on := 2, ground := Ground.data }], guard := none }) (v := ?r5_v3) rfl (by kernel_rfl) (by kernel_rfl) (by kernel_rfl) (fun _ _ _ h => h) (Or.inl ⟨by rfl, ?r5_hy3⟩) (by assumption) ?r5_rest3
  case r5_hy3 => intro w hSw; obtain ⟨⟨s0, s1, s2, s3, s4, s5, s6, s7, s8, s9⟩, s10⟩ := hSw; go_simp; try (with_reducible rfl)
  simp only [Act.put, List.setIfInBounds_toArray, List.set_cons_zero, List.set_cons_succ]
  refine wpAnyH_take (i := 4) (oi := { dst := some 14, op := Op.move (Operand.tmp 13), type := 4, pos := "l05_node.go:160", after := #[{ on := 3, ground := Ground.data }, { on := 2, ground := Ground.chain }], guard := none }) (v := ?r5_v4) rfl (by kernel_rfl) (by kernel_rfl) (by kernel_rfl) (fun _ _ _ h => h) (Or.inl ⟨by rfl, ?r5_hy4⟩) (by assumption) ?r5_rest4
  case r5_hy4 => intro w hSw; obtain ⟨⟨s0, s1, s2, s3, s4, s5, s6, s7, s8, s9⟩, s10⟩ := hSw; go_simp; try (with_reducible rfl)
  simp only [Act.put, List.setIfInBounds_toArray, List.set_cons_zero, List.set_cons_succ]
  refine wpAnyH_take (i := 5) (oi := { dst := some 15, op := Op.load 3 (Operand.tmp 6), type := 3, pos := "l05_node.go:160", after := #[{ on := 4, ground := Ground.guard }], guard := some (4, false) }) (v := ?r5_v5) rfl (by kernel_rfl) (by kernel_rfl) (by kernel_rfl) (fun _ _ _ h => h) (Or.inl ⟨by rfl, ?r5_hy5⟩) (by assumption) ?r5_rest5
  case r5_hy5 => intro w hSw; obtain ⟨⟨s0, s1, s2, s3, s4, s5, s6, s7, s8, s9⟩, s10⟩ := hSw; go_simp; try (with_reducible rfl)
  simp only [Act.put, List.setIfInBounds_toArray, List.set_cons_zero, List.set_cons_succ]
  refine wpAnyH_ready (rs := [6]) (by kernel_rfl) (by simp) ?_
  refine AllReadyH.cons (o := { dst := some 16, op := Op.call { callee := Callee.value (Operand.func 25), args := #[Operand.tmp 15], argTypes := #[3] }, type := 4, pos := "l05_node.go:160", after := #[{ on := 5, ground := Ground.data }, { on := 4, ground := Ground.chain }, { on := 4, ground := Ground.guard }], guard := some (4, false) }) rfl (fun K2 hK2 => ?_) AllReadyH.nil
  go_simp
  refine (isPage_any page _).mono ?_
  rintro e w2 ⟨rfl, h2⟩
  subst h2
  rw [H2.out]
  go_wp2_with fail
  refine hK2.out _ _ ?_ (fun hHeld2 => ?_)
  · exact ⟨KS.out _ b1, trivial⟩
  clear hK2 K2 hHeld
  have hHeld := hHeld2
  clear hHeld2
  try simp only [Act.put, List.setIfInBounds_toArray, List.set_cons_zero, List.set_cons_succ]
  refine wpAnyH_take (i := 7) (oi := { dst := some 17, op := Op.unOp UnOp.not 4 (Operand.tmp 16), type := 4, pos := "l05_node.go:160", after := #[{ on := 6, ground := Ground.data }, { on := 4, ground := Ground.guard }], guard := some (4, false) }) (v := ?r5_v7) rfl (by kernel_rfl) (by kernel_rfl) (by kernel_rfl) (fun _ _ _ h => h) (Or.inl ⟨by rfl, ?r5_hy7⟩) (by assumption) ?r5_rest7
  case r5_hy7 => intro w hSw; obtain ⟨⟨s0, s1, s2, s3, s4, s5, s6, s7, s8, s9⟩, s10⟩ := hSw; go_simp; try (with_reducible rfl)
  simp only [Act.put, List.setIfInBounds_toArray, List.set_cons_zero, List.set_cons_succ]
  refine wpAnyH_take (i := 8) (oi := { dst := some 18, op := Op.pick (Operand.tmp 14) (Operand.const (Value.bool true)) (Operand.tmp 17), type := 4, pos := "l05_node.go:160", after := #[{ on := 4, ground := Ground.data }, { on := 7, ground := Ground.data }], guard := none }) (v := ?r5_v8) rfl (by kernel_rfl) (by kernel_rfl) (by kernel_rfl) (fun _ _ _ h => h) (Or.inl ⟨by rfl, ?r5_hy8⟩) (by assumption) ?r5_rest8
  case r5_hy8 => intro w hSw; obtain ⟨⟨s0, s1, s2, s3, s4, s5, s6, s7, s8, s9⟩, s10⟩ := hSw; go_simp; try (with_reducible rfl)
  simp only [Act.put, List.setIfInBounds_toArray, List.set_cons_zero, List.set_cons_succ]
  refine wpAnyH_take (i := 9) (oi := { dst := some 19, op := Op.move (Operand.tmp 18), type := 4, pos := "l05_node.go:160", after := #[{ on := 8, ground := Ground.data }, { on := 6, ground := Ground.chain }], guard := none }) (v := ?r5_v9) rfl (by kernel_rfl) (by kernel_rfl) (by kernel_rfl) (fun _ _ _ h => h) (Or.inl ⟨by rfl, ?r5_hy9⟩) (by assumption) ?r5_rest9
  case r5_hy9 => intro w hSw; obtain ⟨⟨s0, s1, s2, s3, s4, s5, s6, s7, s8, s9⟩, s10⟩ := hSw; go_simp; try (with_reducible rfl)
  simp only [Act.put, List.setIfInBounds_toArray, List.set_cons_zero, List.set_cons_succ]
  refine wpAnyH_take (i := 10) (oi := { dst := some 20, op := Op.fieldAddr 34 (Operand.tmp 4) 1, type := 0, pos := "l05_node.go:160", after := #[{ on := 9, ground := Ground.guard }], guard := some (9, false) }) (v := undef) rfl (by kernel_rfl) (by kernel_rfl) (by kernel_rfl) (fun _ _ _ h => h) (Or.inr ⟨by rfl, rfl⟩) (by assumption) ?_
  simp only [Act.put, List.setIfInBounds_toArray, List.set_cons_zero, List.set_cons_succ]
  refine wpAnyH_take (i := 11) (oi := { dst := some 21, op := Op.load 29 (Operand.tmp 20), type := 29, pos := "l05_node.go:160", after := #[{ on := 10, ground := Ground.data }, { on := 9, ground := Ground.guard }], guard := some (9, false) }) (v := undef) rfl (by kernel_rfl) (by kernel_rfl) (by kernel_rfl) (fun _ _ _ h => h) (Or.inr ⟨by rfl, rfl⟩) (by assumption) ?_
  simp only [Act.put, List.setIfInBounds_toArray, List.set_cons_zero, List.set_cons_succ]
  refine wpAnyH_take (i := 12) (oi := { dst := some 22, op := Op.load 3 (Operand.tmp 6), type := 3, pos := "l05_node.go:160", after := #[{ on := 9, ground := Ground.guard }], guard := some (9, false) }) (v := undef) rfl (by kernel_rfl) (by kernel_rfl) (by kernel_rfl) (fun _ _ _ h => h) (Or.inr ⟨by rfl, rfl⟩) (by assumption) ?_
  simp only [Act.put, List.setIfInBounds_toArray, List.set_cons_zero, List.set_cons_succ]
  refine wpAnyH_take (i := 13) (oi := { dst := some 23, op := Op.indexAddr 29 (Operand.tmp 21) (Operand.tmp 22), type := 0, pos := "l05_node.go:160", after := #[{ on := 11, ground := Ground.data }, { on := 12, ground := Ground.data }, { on := 9, ground := Ground.guard }], guard := some (9, false) }) (v := undef) rfl (by kernel_rfl) (by kernel_rfl) (by kernel_rfl) (fun _ _ _ h => h) (Or.inr ⟨by rfl, rfl⟩) (by assumption) ?_
  simp only [Act.put, List.setIfInBounds_toArray, List.set_cons_zero, List.set_cons_succ]
  refine wpAnyH_take (i := 14) (oi := { dst := some 24, op := Op.fieldAddr 50 (Operand.tmp 23) 2, type := 0, pos := "l05_node.go:160", after := #[{ on := 13, ground := Ground.data }, { on := 9, ground := Ground.guard }], guard := some (9, false) }) (v := undef) rfl (by kernel_rfl) (by kernel_rfl) (by kernel_rfl) (fun _ _ _ h => h) (Or.inr ⟨by rfl, rfl⟩) (by assumption) ?_
  simp only [Act.put, List.setIfInBounds_toArray, List.set_cons_zero, List.set_cons_succ]
  refine wpAnyH_take (i := 15) (oi := { dst := some 25, op := Op.load 4 (Operand.tmp 24), type := 4, pos := "l05_node.go:160", after := #[{ on := 14, ground := Ground.data }, { on := 9, ground := Ground.guard }], guard := some (9, false) }) (v := undef) rfl (by kernel_rfl) (by kernel_rfl) (by kernel_rfl) (fun _ _ _ h => h) (Or.inr ⟨by rfl, rfl⟩) (by assumption) ?_
  simp only [Act.put, List.setIfInBounds_toArray, List.set_cons_zero, List.set_cons_succ]
  refine wpAnyH_take (i := 16) (oi := { dst := some 26, op := Op.pick (Operand.tmp 19) (Operand.const (Value.bool true)) (Operand.tmp 25), type := 4, pos := "l05_node.go:160", after := #[{ on := 9, ground := Ground.data }, { on := 15, ground := Ground.data }], guard := none }) (v := ?r5_v16) rfl (by kernel_rfl) (by kernel_rfl) (by kernel_rfl) (fun _ _ _ h => h) (Or.inl ⟨by rfl, ?r5_hy16⟩) (by assumption) ?r5_rest16
  case r5_hy16 => intro w hSw; obtain ⟨⟨s0, s1, s2, s3, s4, s5, s6, s7, s8, s9⟩, s10⟩ := hSw; go_simp; try (with_reducible rfl)
  simp only [Act.put, List.setIfInBounds_toArray, List.set_cons_zero, List.set_cons_succ]
  refine wpAnyH_take (i := 17) (oi := { dst := some 27, op := Op.move (Operand.tmp 26), type := 4, pos := "l05_node.go:160", after := #[{ on := 16, ground := Ground.data }, { on := 9, ground := Ground.chain }], guard := none }) (v := ?r5_v17) rfl (by kernel_rfl) (by kernel_rfl) (by kernel_rfl) (fun _ _ _ h => h) (Or.inl ⟨by rfl, ?r5_hy17⟩) (by assumption) ?r5_rest17
  case r5_hy17 => intro w hSw; obtain ⟨⟨s0, s1, s2, s3, s4, s5, s6, s7, s8, s9⟩, s10⟩ := hSw; go_simp; try (with_reducible rfl)
  simp only [Act.put, List.setIfInBounds_toArray, List.set_cons_zero, List.set_cons_succ]
  refine wpAnyH_take (i := 18) (oi := { dst := some 28, op := Op.fieldAddr 34 (Operand.tmp 4) 1, type := 0, pos := "l05_node.go:160", after := #[{ on := 17, ground := Ground.guard }], guard := some (17, false) }) (v := undef) rfl (by kernel_rfl) (by kernel_rfl) (by kernel_rfl) (fun _ _ _ h => h) (Or.inr ⟨by rfl, rfl⟩) (by assumption) ?_
  simp only [Act.put, List.setIfInBounds_toArray, List.set_cons_zero, List.set_cons_succ]
  refine wpAnyH_take (i := 19) (oi := { dst := some 29, op := Op.load 29 (Operand.tmp 28), type := 29, pos := "l05_node.go:160", after := #[{ on := 18, ground := Ground.data }, { on := 17, ground := Ground.guard }], guard := some (17, false) }) (v := undef) rfl (by kernel_rfl) (by kernel_rfl) (by kernel_rfl) (fun _ _ _ h => h) (Or.inr ⟨by rfl, rfl⟩) (by assumption) ?_
  simp only [Act.put, List.setIfInBounds_toArray, List.set_cons_zero, List.set_cons_succ]
  refine wpAnyH_take (i := 20) (oi := { dst := some 30, op := Op.load 3 (Operand.tmp 6), type := 3, pos := "l05_node.go:160", after := #[{ on := 17, ground := Ground.guard }], guard := some (17, false) }) (v := undef) rfl (by kernel_rfl) (by kernel_rfl) (by kernel_rfl) (fun _ _ _ h => h) (Or.inr ⟨by rfl, rfl⟩) (by assumption) ?_
  simp only [Act.put, List.setIfInBounds_toArray, List.set_cons_zero, List.set_cons_succ]
  refine wpAnyH_take (i := 21) (oi := { dst := some 31, op := Op.indexAddr 29 (Operand.tmp 29) (Operand.tmp 30), type := 0, pos := "l05_node.go:160", after := #[{ on := 19, ground := Ground.data }, { on := 20, ground := Ground.data }, { on := 17, ground := Ground.guard }], guard := some (17, false) }) (v := undef) rfl (by kernel_rfl) (by kernel_rfl) (by kernel_rfl) (fun _ _ _ h => h) (Or.inr ⟨by rfl, rfl⟩) (by assumption) ?_
  simp only [Act.put, List.setIfInBounds_toArray, List.set_cons_zero, List.set_cons_succ]
  refine wpAnyH_take (i := 22) (oi := { dst := some 32, op := Op.load 50 (Operand.tmp 31), type := 50, pos := "l05_node.go:160", after := #[{ on := 21, ground := Ground.data }, { on := 17, ground := Ground.guard }], guard := some (17, false) }) (v := undef) rfl (by kernel_rfl) (by kernel_rfl) (by kernel_rfl) (fun _ _ _ h => h) (Or.inr ⟨by rfl, rfl⟩) (by assumption) ?_
  simp only [Act.put, List.setIfInBounds_toArray, List.set_cons_zero, List.set_cons_succ]
  refine wpAnyH_take (i := 23) (oi := { dst := some 33, op := Op.load 4 (Operand.tmp 7), type := 4, pos := "l05_node.go:160", after := #[{ on := 17, ground := Ground.guard }], guard := some (17, false) }) (v := undef) rfl (by kernel_rfl) (by kernel_rfl) (by kernel_rfl) (fun _ _ _ h => h) (Or.inr ⟨by rfl, rfl⟩) (by assumption) ?_
  simp only [Act.put, List.setIfInBounds_toArray, List.set_cons_zero, List.set_cons_succ]
  refine wpAnyH_take (i := 24) (oi := { dst := some 34, op := Op.call { callee := Callee.value (Operand.func 26), args := #[Operand.tmp 32, Operand.tmp 33], argTypes := #[50, 4] }, type := 4, pos := "l05_node.go:160", after := #[{ on := 22, ground := Ground.data }, { on := 23, ground := Ground.data }, { on := 17, ground := Ground.chain }, { on := 17, ground := Ground.guard }], guard := some (17, false) }) (v := undef) rfl (by kernel_rfl) (by kernel_rfl) (by kernel_rfl) (fun _ _ _ h => h) (Or.inr ⟨by rfl, rfl⟩) (by assumption) ?_
  simp only [Act.put, List.setIfInBounds_toArray, List.set_cons_zero, List.set_cons_succ]
  refine wpAnyH_take (i := 25) (oi := { dst := some 35, op := Op.unOp UnOp.not 4 (Operand.tmp 34), type := 4, pos := "l05_node.go:160", after := #[{ on := 24, ground := Ground.data }, { on := 17, ground := Ground.guard }], guard := some (17, false) }) (v := undef) rfl (by kernel_rfl) (by kernel_rfl) (by kernel_rfl) (fun _ _ _ h => h) (Or.inr ⟨by rfl, rfl⟩) (by assumption) ?_
  simp only [Act.put, List.setIfInBounds_toArray, List.set_cons_zero, List.set_cons_succ]
  refine wpAnyH_take (i := 26) (oi := { dst := some 36, op := Op.pick (Operand.tmp 27) (Operand.const (Value.bool true)) (Operand.tmp 35), type := 4, pos := "l05_node.go:160", after := #[{ on := 17, ground := Ground.data }, { on := 25, ground := Ground.data }], guard := none }) (v := ?r5_v26) rfl (by kernel_rfl) (by kernel_rfl) (by kernel_rfl) (fun _ _ _ h => h) (Or.inl ⟨by rfl, ?r5_hy26⟩) (by assumption) ?r5_rest26
  case r5_hy26 => intro w hSw; obtain ⟨⟨s0, s1, s2, s3, s4, s5, s6, s7, s8, s9⟩, s10⟩ := hSw; go_simp; try (with_reducible rfl)
  simp only [Act.put, List.setIfInBounds_toArray, List.set_cons_zero, List.set_cons_succ]
  refine wpAnyH_done (by kernel_rfl) ?_ _
  clear hHeld
  obtain ⟨XN, XP, XO, XR⟩ := HX.out
  replace XN := XN.below b1
  replace XR := XR.below b1
  have B1 := bel_trans HB.out b1
  obtain ⟨n0, n1, n2, n3, n4, nz⟩ := XN.at5
  clear XN XP XO HX
  go_wp2_with fail
  refine (copyNode_any d p _ hd (HR.out.below B1)).mono ?_
  rintro e w9 ⟨q, rfl, N9, L9, b9⟩
  replace XR := XR.below b9
  have B9 := bel_trans B1 b9
  obtain ⟨y0, y1, y2, y3, y4, yz⟩ := XR.at5
  have f0 := XR.frozen 0
  have f1 := XR.frozen 1
  have f2 := XR.frozen 2
  have f3 := XR.frozen 3
  have f4 := XR.frozen 4
  have hz : w.heap.size + 1 + 1 + 1 < w2.heap.size := by
    have h := HX3.out.lt
    have := b1.size
    omega
  have HF : Hid (WantP d nodes page own w (.returned (.tuple #[.agg #[.int .i64 d.id, .slice q.f.1 d.nf q.f.2, .slice q.h.1 d.nh q.h.2, .slice q.o.1 d.no q.o.2, .slice q.i.1 d.ni q.i.2], .bool false])) (((((w9.setCell ⟨w.heap.size + 1 + 1 + 1, 0, none⟩ (.int .i64 d.id)).setCell ⟨w.heap.size + 1 + 1 + 1, 1, none⟩ (.slice q.f.1 d.nf q.f.2)).setCell ⟨w.heap.size + 1 + 1 + 1, 2, none⟩ (.slice q.h.1 d.nh q.h.2)).setCell ⟨w.heap.size + 1 + 1 + 1, 3, none⟩ (.slice q.o.1 d.no q.o.2)).setCell ⟨w.heap.size + 1 + 1 + 1, 4, none⟩ (.slice q.i.1 d.ni q.i.2))) := by
    have hw : wantB d nodes page own = false := by unfold wantB; rw [HNO.out]; rfl
    have on : Only w9 (((((w9.setCell ⟨w.heap.size + 1 + 1 + 1, 0, none⟩ (.int .i64 d.id)).setCell ⟨w.heap.size + 1 + 1 + 1, 1, none⟩ (.slice q.f.1 d.nf q.f.2)).setCell ⟨w.heap.size + 1 + 1 + 1, 2, none⟩ (.slice q.h.1 d.nh q.h.2)).setCell ⟨w.heap.size + 1 + 1 + 1, 3, none⟩ (.slice q.o.1 d.no q.o.2)).setCell ⟨w.heap.size + 1 + 1 + 1, 4, none⟩ (.slice q.i.1 d.ni q.i.2)) (fun b => b = w.heap.size + 1 + 1 + 1) := (((((Only.refl w9 (fun b => b = w.heap.size + 1 + 1 + 1)).setCell ⟨w.heap.size + 1 + 1 + 1, 0, none⟩ _ rfl).setCell ⟨w.heap.size + 1 + 1 + 1, 1, none⟩ _ rfl).setCell ⟨w.heap.size + 1 + 1 + 1, 2, none⟩ _ rfl).setCell ⟨w.heap.size + 1 + 1 + 1, 3, none⟩ _ rfl).setCell ⟨w.heap.size + 1 + 1 + 1, 4, none⟩ _ rfl
    refine ⟨q, ?_, ?_, ?_, ?_⟩
    · unfold wantD; rw [hw]; rfl
    · unfold wantD; rw [hw]; exact N9.sm (on.sm (fun b hb e => by have := L9 b hb; omega))
    · unfold wantD; rw [hw]; exact fun b hb => by have := L9 b hb; omega
    · exact lit_bel5 B9 (by omega)
  clear XR N9 L9 b9 B9 B1 b1 n0 n1 n2 n3 n4 nz HR
  go_wp2
  refine bodyPost_ret (v := .tuple #[.agg #[.int .i64 d.id, .slice q.f.1 d.nf q.f.2, .slice q.h.1 d.nh q.h.2, .slice q.o.1 d.no q.o.2, .slice q.i.1 d.ni q.i.2], .bool false]) (by simp [results, Tryz.results7, go_sem, y0, y1, y2, y3, y4]) rfl HF.out

set_option maxRecDepth 100000 in
set_option maxHeartbeats 4000000 in
theorem want_no3 (d : ND) (p : NP) (nodes : Int) (pg : Nat) (own : Bool) (w : World) (hd : Nsm d) (hR : NR w d p) (h1 : nodeOkB d nodes = true) (h2 : pg ≤ 5) (h3 : (d.f pg).q = true) (hno : wOk d nodes pg own = false) :
    Calls Tryz.prog 7 #[.agg (ncells d p), .int .i64 nodes, .int .i64 pg, .bool own] w fun e w' => WantP d nodes pg own w e w' := by
  have B := bel_alloc (bel_alloc (bel_alloc (bel_alloc (Below.refl w.heap.size w) (.cells (ncells d p) 34)) (.cells #[.int .i64 pg] 3)) (.cells #[.bool own] 4)) (.cells #[.int .i64 0, .slice none 0 0, .slice none 0 0, .slice none 0 0, .slice none 0 0] 34)
  obtain ⟨XN, XP, XO, XR⟩ := Box.quad w (ncells d p) #[.int .i64 pg] #[.bool own] #[.int .i64 0, .slice none 0 0, .slice none 0 0, .slice none 0 0, .slice none 0 0] 34 3 4 34
  obtain ⟨W, hW⟩ : ∃ W, (((w.alloc (.cells (ncells d p) 34)).alloc (.cells #[.int .i64 pg] 3)).alloc (.cells #[.bool own] 4)).alloc (.cells #[.int .i64 0, .slice none 0 0, .slice none 0 0, .slice none 0 0, .slice none 0 0] 34) = W := ⟨_, rfl⟩
  rw [hW] at B XN XP XO XR
  have HWE : Hid ((((w.alloc (.cells (ncells d p) 34)).alloc (.cells #[.int .i64 pg] 3)).alloc (.cells #[.bool own] 4)).alloc (.cells #[.int .i64 0, .slice none 0 0, .slice none 0 0, .slice none 0 0, .slice none 0 0] 34) = W) := hW
  have KS : Hid (∀ w', Below W.heap.size W w' → WS w' w.heap.size d p p.f.1 pg own) := fun w' b => by
    obtain ⟨a0, a1, a2, a3, a4, az⟩ := (XN.below b).at5
    exact ⟨a0, a1, a2, a3, a4, (XP.below b).cell 0, (XO.below b).cell 0, az, (XP.below b).lt, (XO.below b).lt⟩
  have HB : Hid (Below w.heap.size w W) := B
  have HN : Hid (∀ w', Below W.heap.size W w' → Calls Tryz.prog 24 #[.agg #[.int .i64 d.id, .slice p.f.1 d.nf p.f.2, .slice p.h.1 d.nh p.h.2, .slice p.o.1 d.no p.o.2, .slice p.i.1 d.ni p.i.2], .int .i64 nodes] w' fun e w2 => e = .returned (.bool (nodeOkB d nodes)) ∧ Below w'.heap.size w' w2) := fun w' b => implNodeOk_any d p nodes w' (fun i hi => by have := (hd.h.2 i hi).2.1; omega) ((hR.below B).below b)
  have HX : Hid (_ ∧ _ ∧ _ ∧ _) := ⟨XN, XP, XO, XR⟩
  have HR : Hid (NR w d p) := hR
  have HNO : Hid (wOk d nodes pg own = false) := hno
  have HX3 : Hid (Box W (w.heap.size + 1 + 1 + 1) #[.int .i64 0, .slice none 0 0, .slice none 0 0, .slice none 0 0, .slice none 0 0] 34) := XR
  clear hno
  obtain ⟨g, off, ha, F0, F1, F2⟩ := hR.f.at (show pg < d.nf by have := (nodeOk_facts h1).1; omega)
  rw [h3] at F2
  have hgw : g < w.heap.size := lt_of_cell F0
  have KF : Hid (∀ w', Below W.heap.size W w' → WF w' g off pg (d.f pg) (p.fp pg) true) := fun w' b => by
    have b' := bel_trans B b
    exact ⟨(b'.cell (p := ⟨g, off + pg * 3, none⟩) hgw).trans F0, (b'.cell (p := ⟨g, off + pg * 3 + 1, none⟩) hgw).trans F1, (b'.cell (p := ⟨g, off + pg * 3 + 2, none⟩) hgw).trans F2⟩
  have KS2 : Hid (∀ w', Below W.heap.size W w' → WS w' w.heap.size d p (some ⟨g, off, none⟩) pg own) := fun w' b => by rw [← ha]; exact KS.out w' b
  have HN2 : Hid (∀ w', Below W.heap.size W w' → Calls Tryz.prog 24 #[.agg #[.int .i64 d.id, .slice (some ⟨g, off, none⟩) d.nf p.f.2, .slice p.h.1 d.nh p.h.2, .slice p.o.1 d.no p.o.2, .slice p.i.1 d.ni p.i.2], .int .i64 nodes] w' fun e w2 => e = .returned (.bool (nodeOkB d nodes)) ∧ Below w'.heap.size w' w2) := fun w' b => by rw [← ha]; exact HN.out w' b
  have H1 : Hid (nodeOkB d nodes = true) := h1
  have H2 : Hid (inB (pg : Int) 0 5 = true) := by show _ = _; simp [inB]; omega
  have hi : (pg : Int) < (d.nf : Int) := by have := (nodeOk_facts h1).1; omega
  clear h1 h3 ha F0 F1 F2 hgw
  clear hW B XN XP XO XR hR
  go_enter Tryz.func7, Tryz.ntmps7
  go_wp2_with fail
  rw [HWE.out]
  refine wp_region_held_drew (S := (fun w' => WS w' w.heap.size d p (some ⟨g, off, none⟩) pg own ∧ WF w' g off pg (d.f pg) (p.fp pg) true)) (by kernel_rfl) ?_ (fun hHeld => ?_)
  · exact ⟨KS2.out _ (bel_drew (Below.refl _ _)), KF.out _ (bel_drew (Below.refl _ _))⟩
  refine wpAnyH_take (i := 0) (oi := { dst := some 10, op := Op.load 34 (Operand.tmp 4), type := 34, pos := "l05_node.go:160", after := #[], guard := none }) (v := ?r1_v0) rfl (by kernel_rfl) (by kernel_rfl) (by kernel_rfl) (fun _ _ _ h => h) (Or.inl ⟨by rfl, ?r1_hy0⟩) (by assumption) ?r1_rest0
  case r1_hy0 => intro w hSw; obtain ⟨⟨s0, s1, s2, s3, s4, s5, s6, s7, s8, s9⟩, s10, s11, s12⟩ := hSw; go_simp; try (with_reducible rfl)
  simp only [Act.put, List.setIfInBounds_toArray, List.set_cons_zero, List.set_cons_succ]
  refine wpAnyH_take (i := 1) (oi := { dst := some 11, op := Op.move (Operand.tmp 1), type := 3, pos := "l05_node.go:160", after := #[], guard := none }) (v := ?r1_v1) rfl (by kernel_rfl) (by kernel_rfl) (by kernel_rfl) (fun _ _ _ h => h) (Or.inl ⟨by rfl, ?r1_hy1⟩) (by assumption) ?r1_rest1
  case r1_hy1 => intro w hSw; obtain ⟨⟨s0, s1, s2, s3, s4, s5, s6, s7, s8, s9⟩, s10, s11, s12⟩ := hSw; go_simp; try (with_reducible rfl)
  simp only [Act.put, List.setIfInBounds_toArray, List.set_cons_zero, List.set_cons_succ]
  refine wpAnyH_ready (rs := [2]) (by kernel_rfl) (by simp) ?_
  refine AllReadyH.cons (o := { dst := some 12, op := Op.call { callee := Callee.value (Operand.func 24), args := #[Operand.tmp 10, Operand.tmp 11], argTypes := #[34, 3] }, type := 4, pos := "l05_node.go:160", after := #[{ on := 0, ground := Ground.data }, { on := 1, ground := Ground.data }], guard := none }) rfl (fun K2 hK2 => ?_) AllReadyH.nil
  go_simp
  refine (HN2.out _ (bel_drew (Below.refl _ _))).mono ?_
  rintro e w1 ⟨rfl, b1⟩
  replace b1 := bel_undrew b1
  rw [H1.out]
  go_wp2_with fail
  refine hK2.out _ _ ?_ (fun hHeld2 => ?_)
  · exact ⟨KS2.out _ b1, KF.out _ b1⟩
  clear hK2 K2 hHeld
  have hHeld := hHeld2
  clear hHeld2
  try simp only [Act.put, List.setIfInBounds_toArray, List.set_cons_zero, List.set_cons_succ]
  refine wpAnyH_take (i := 3) (oi := { dst := some 13, op := Op.unOp UnOp.not 4 (Operand.tmp 12), type := 4, pos := "l05_node.go:160", after := #[{ on := 2, ground := Ground.data }], guard := none }) (v := ?r1_v3) rfl (by kernel_rfl) (by kernel_rfl) (by kernel_rfl) (fun _ _ _ h => h) (Or.inl ⟨by rfl, ?r1_hy3⟩) (by assumption) ?r1_rest3
  case r1_hy3 => intro w hSw; obtain ⟨⟨s0, s1, s2, s3, s4, s5, s6, s7, s8, s9⟩, s10, s11, s12⟩ := hSw; go_simp; try (with_reducible rfl)
  simp only [Act.put, List.setIfInBounds_toArray, List.set_cons_zero, List.set_cons_succ]
  refine wpAnyH_take (i := 4) (oi := { dst := some 14, op := Op.move (Operand.tmp 13), type := 4, pos := "l05_node.go:160", after := #[{ on := 3, ground := Ground.data }, { on := 2, ground := Ground.chain }], guard := none }) (v := ?r1_v4) rfl (by kernel_rfl) (by kernel_rfl) (by kernel_rfl) (fun _ _ _ h => h) (Or.inl ⟨by rfl, ?r1_hy4⟩) (by assumption) ?r1_rest4
  case r1_hy4 => intro w hSw; obtain ⟨⟨s0, s1, s2, s3, s4, s5, s6, s7, s8, s9⟩, s10, s11, s12⟩ := hSw; go_simp; try (with_reducible rfl)
  simp only [Act.put, List.setIfInBounds_toArray, List.set_cons_zero, List.set_cons_succ]
  refine wpAnyH_take (i := 5) (oi := { dst := some 15, op := Op.load 3 (Operand.tmp 6), type := 3, pos := "l05_node.go:160", after := #[{ on := 4, ground := Ground.guard }], guard := some (4, false) }) (v := ?r1_v5) rfl (by kernel_rfl) (by kernel_rfl) (by kernel_rfl) (fun _ _ _ h => h) (Or.inl ⟨by rfl, ?r1_hy5⟩) (by assumption) ?r1_rest5
  case r1_hy5 => intro w hSw; obtain ⟨⟨s0, s1, s2, s3, s4, s5, s6, s7, s8, s9⟩, s10, s11, s12⟩ := hSw; go_simp; try (with_reducible rfl)
  simp only [Act.put, List.setIfInBounds_toArray, List.set_cons_zero, List.set_cons_succ]
  refine wpAnyH_ready (rs := [6]) (by kernel_rfl) (by simp) ?_
  refine AllReadyH.cons (o := { dst := some 16, op := Op.call { callee := Callee.value (Operand.func 25), args := #[Operand.tmp 15], argTypes := #[3] }, type := 4, pos := "l05_node.go:160", after := #[{ on := 5, ground := Ground.data }, { on := 4, ground := Ground.chain }, { on := 4, ground := Ground.guard }], guard := some (4, false) }) rfl (fun K2 hK2 => ?_) AllReadyH.nil
  go_simp
  refine (isPage_any pg _).mono ?_
  rintro e w2 ⟨rfl, h2⟩
  subst h2
  rw [H2.out]
  go_wp2_with fail
  refine hK2.out _ _ ?_ (fun hHeld2 => ?_)
  · exact ⟨KS2.out _ b1, KF.out _ b1⟩
  clear hK2 K2 hHeld
  have hHeld := hHeld2
  clear hHeld2
  try simp only [Act.put, List.setIfInBounds_toArray, List.set_cons_zero, List.set_cons_succ]
  refine wpAnyH_take (i := 7) (oi := { dst := some 17, op := Op.unOp UnOp.not 4 (Operand.tmp 16), type := 4, pos := "l05_node.go:160", after := #[{ on := 6, ground := Ground.data }, { on := 4, ground := Ground.guard }], guard := some (4, false) }) (v := ?r1_v7) rfl (by kernel_rfl) (by kernel_rfl) (by kernel_rfl) (fun _ _ _ h => h) (Or.inl ⟨by rfl, ?r1_hy7⟩) (by assumption) ?r1_rest7
  case r1_hy7 => intro w hSw; obtain ⟨⟨s0, s1, s2, s3, s4, s5, s6, s7, s8, s9⟩, s10, s11, s12⟩ := hSw; go_simp; try (with_reducible rfl)
  simp only [Act.put, List.setIfInBounds_toArray, List.set_cons_zero, List.set_cons_succ]
  refine wpAnyH_take (i := 8) (oi := { dst := some 18, op := Op.pick (Operand.tmp 14) (Operand.const (Value.bool true)) (Operand.tmp 17), type := 4, pos := "l05_node.go:160", after := #[{ on := 4, ground := Ground.data }, { on := 7, ground := Ground.data }], guard := none }) (v := ?r1_v8) rfl (by kernel_rfl) (by kernel_rfl) (by kernel_rfl) (fun _ _ _ h => h) (Or.inl ⟨by rfl, ?r1_hy8⟩) (by assumption) ?r1_rest8
  case r1_hy8 => intro w hSw; obtain ⟨⟨s0, s1, s2, s3, s4, s5, s6, s7, s8, s9⟩, s10, s11, s12⟩ := hSw; go_simp; try (with_reducible rfl)
  simp only [Act.put, List.setIfInBounds_toArray, List.set_cons_zero, List.set_cons_succ]
  refine wpAnyH_take (i := 9) (oi := { dst := some 19, op := Op.move (Operand.tmp 18), type := 4, pos := "l05_node.go:160", after := #[{ on := 8, ground := Ground.data }, { on := 6, ground := Ground.chain }], guard := none }) (v := ?r1_v9) rfl (by kernel_rfl) (by kernel_rfl) (by kernel_rfl) (fun _ _ _ h => h) (Or.inl ⟨by rfl, ?r1_hy9⟩) (by assumption) ?r1_rest9
  case r1_hy9 => intro w hSw; obtain ⟨⟨s0, s1, s2, s3, s4, s5, s6, s7, s8, s9⟩, s10, s11, s12⟩ := hSw; go_simp; try (with_reducible rfl)
  simp only [Act.put, List.setIfInBounds_toArray, List.set_cons_zero, List.set_cons_succ]
  refine wpAnyH_take (i := 10) (oi := { dst := some 20, op := Op.fieldAddr 34 (Operand.tmp 4) 1, type := 0, pos := "l05_node.go:160", after := #[{ on := 9, ground := Ground.guard }], guard := some (9, false) }) (v := ?r1_v10) rfl (by kernel_rfl) (by kernel_rfl) (by kernel_rfl) (fun _ _ _ h => h) (Or.inl ⟨by rfl, ?r1_hy10⟩) (by assumption) ?r1_rest10
  case r1_hy10 => intro w hSw; obtain ⟨⟨s0, s1, s2, s3, s4, s5, s6, s7, s8, s9⟩, s10, s11, s12⟩ := hSw; go_simp; try (with_reducible rfl)
  simp only [Act.put, List.setIfInBounds_toArray, List.set_cons_zero, List.set_cons_succ]
  refine wpAnyH_take (i := 11) (oi := { dst := some 21, op := Op.load 29 (Operand.tmp 20), type := 29, pos := "l05_node.go:160", after := #[{ on := 10, ground := Ground.data }, { on := 9, ground := Ground.guard }], guard := some (9, false) }) (v := ?r1_v11) rfl (by kernel_rfl) (by kernel_rfl) (by kernel_rfl) (fun _ _ _ h => h) (Or.inl ⟨by rfl, ?r1_hy11⟩) (by assumption) ?r1_rest11
  case r1_hy11 => intro w hSw; obtain ⟨⟨s0, s1, s2, s3, s4, s5, s6, s7, s8, s9⟩, s10, s11, s12⟩ := hSw; go_simp; try (with_reducible rfl)
  simp only [Act.put, List.setIfInBounds_toArray, List.set_cons_zero, List.set_cons_succ]
  refine wpAnyH_take (i := 12) (oi := { dst := some 22, op := Op.load 3 (Operand.tmp 6), type := 3, pos := "l05_node.go:160", after := #[{ on := 9, ground := Ground.guard }], guard := some (9, false) }) (v := ?r1_v12) rfl (by kernel_rfl) (by kernel_rfl) (by kernel_rfl) (fun _ _ _ h => h) (Or.inl ⟨by rfl, ?r1_hy12⟩) (by assumption) ?r1_rest12
  case r1_hy12 => intro w hSw; obtain ⟨⟨s0, s1, s2, s3, s4, s5, s6, s7, s8, s9⟩, s10, s11, s12⟩ := hSw; go_simp; try (with_reducible rfl)
  simp only [Act.put, List.setIfInBounds_toArray, List.set_cons_zero, List.set_cons_succ]
  refine wpAnyH_take (i := 13) (oi := { dst := some 23, op := Op.indexAddr 29 (Operand.tmp 21) (Operand.tmp 22), type := 0, pos := "l05_node.go:160", after := #[{ on := 11, ground := Ground.data }, { on := 12, ground := Ground.data }, { on := 9, ground := Ground.guard }], guard := some (9, false) }) (v := ?r1_v13) rfl (by kernel_rfl) (by kernel_rfl) (by kernel_rfl) (fun _ _ _ h => h) (Or.inl ⟨by rfl, ?r1_hy13⟩) (by assumption) ?r1_rest13
  case r1_hy13 => intro w hSw; obtain ⟨⟨s0, s1, s2, s3, s4, s5, s6, s7, s8, s9⟩, s10, s11, s12⟩ := hSw; go_simp; try (with_reducible rfl)
  simp only [Act.put, List.setIfInBounds_toArray, List.set_cons_zero, List.set_cons_succ]
  refine wpAnyH_take (i := 14) (oi := { dst := some 24, op := Op.fieldAddr 50 (Operand.tmp 23) 2, type := 0, pos := "l05_node.go:160", after := #[{ on := 13, ground := Ground.data }, { on := 9, ground := Ground.guard }], guard := some (9, false) }) (v := ?r1_v14) rfl (by kernel_rfl) (by kernel_rfl) (by kernel_rfl) (fun _ _ _ h => h) (Or.inl ⟨by rfl, ?r1_hy14⟩) (by assumption) ?r1_rest14
  case r1_hy14 => intro w hSw; obtain ⟨⟨s0, s1, s2, s3, s4, s5, s6, s7, s8, s9⟩, s10, s11, s12⟩ := hSw; go_simp; try (with_reducible rfl)
  simp only [Act.put, List.setIfInBounds_toArray, List.set_cons_zero, List.set_cons_succ]
  refine wpAnyH_take (i := 15) (oi := { dst := some 25, op := Op.load 4 (Operand.tmp 24), type := 4, pos := "l05_node.go:160", after := #[{ on := 14, ground := Ground.data }, { on := 9, ground := Ground.guard }], guard := some (9, false) }) (v := ?r1_v15) rfl (by kernel_rfl) (by kernel_rfl) (by kernel_rfl) (fun _ _ _ h => h) (Or.inl ⟨by rfl, ?r1_hy15⟩) (by assumption) ?r1_rest15
  case r1_hy15 => intro w hSw; obtain ⟨⟨s0, s1, s2, s3, s4, s5, s6, s7, s8, s9⟩, s10, s11, s12⟩ := hSw; go_simp; try (with_reducible rfl)
  simp only [Act.put, List.setIfInBounds_toArray, List.set_cons_zero, List.set_cons_succ]
  refine wpAnyH_take (i := 16) (oi := { dst := some 26, op := Op.pick (Operand.tmp 19) (Operand.const (Value.bool true)) (Operand.tmp 25), type := 4, pos := "l05_node.go:160", after := #[{ on := 9, ground := Ground.data }, { on := 15, ground := Ground.data }], guard := none }) (v := ?r1_v16) rfl (by kernel_rfl) (by kernel_rfl) (by kernel_rfl) (fun _ _ _ h => h) (Or.inl ⟨by rfl, ?r1_hy16⟩) (by assumption) ?r1_rest16
  case r1_hy16 => intro w hSw; obtain ⟨⟨s0, s1, s2, s3, s4, s5, s6, s7, s8, s9⟩, s10, s11, s12⟩ := hSw; go_simp; try (with_reducible rfl)
  simp only [Act.put, List.setIfInBounds_toArray, List.set_cons_zero, List.set_cons_succ]
  refine wpAnyH_take (i := 17) (oi := { dst := some 27, op := Op.move (Operand.tmp 26), type := 4, pos := "l05_node.go:160", after := #[{ on := 16, ground := Ground.data }, { on := 9, ground := Ground.chain }], guard := none }) (v := ?r1_v17) rfl (by kernel_rfl) (by kernel_rfl) (by kernel_rfl) (fun _ _ _ h => h) (Or.inl ⟨by rfl, ?r1_hy17⟩) (by assumption) ?r1_rest17
  case r1_hy17 => intro w hSw; obtain ⟨⟨s0, s1, s2, s3, s4, s5, s6, s7, s8, s9⟩, s10, s11, s12⟩ := hSw; go_simp; try (with_reducible rfl)
  simp only [Act.put, List.setIfInBounds_toArray, List.set_cons_zero, List.set_cons_succ]
  refine wpAnyH_take (i := 18) (oi := { dst := some 28, op := Op.fieldAddr 34 (Operand.tmp 4) 1, type := 0, pos := "l05_node.go:160", after := #[{ on := 17, ground := Ground.guard }], guard := some (17, false) }) (v := undef) rfl (by kernel_rfl) (by kernel_rfl) (by kernel_rfl) (fun _ _ _ h => h) (Or.inr ⟨by rfl, rfl⟩) (by assumption) ?_
  simp only [Act.put, List.setIfInBounds_toArray, List.set_cons_zero, List.set_cons_succ]
  refine wpAnyH_take (i := 19) (oi := { dst := some 29, op := Op.load 29 (Operand.tmp 28), type := 29, pos := "l05_node.go:160", after := #[{ on := 18, ground := Ground.data }, { on := 17, ground := Ground.guard }], guard := some (17, false) }) (v := undef) rfl (by kernel_rfl) (by kernel_rfl) (by kernel_rfl) (fun _ _ _ h => h) (Or.inr ⟨by rfl, rfl⟩) (by assumption) ?_
  simp only [Act.put, List.setIfInBounds_toArray, List.set_cons_zero, List.set_cons_succ]
  refine wpAnyH_take (i := 20) (oi := { dst := some 30, op := Op.load 3 (Operand.tmp 6), type := 3, pos := "l05_node.go:160", after := #[{ on := 17, ground := Ground.guard }], guard := some (17, false) }) (v := undef) rfl (by kernel_rfl) (by kernel_rfl) (by kernel_rfl) (fun _ _ _ h => h) (Or.inr ⟨by rfl, rfl⟩) (by assumption) ?_
  simp only [Act.put, List.setIfInBounds_toArray, List.set_cons_zero, List.set_cons_succ]
  refine wpAnyH_take (i := 21) (oi := { dst := some 31, op := Op.indexAddr 29 (Operand.tmp 29) (Operand.tmp 30), type := 0, pos := "l05_node.go:160", after := #[{ on := 19, ground := Ground.data }, { on := 20, ground := Ground.data }, { on := 17, ground := Ground.guard }], guard := some (17, false) }) (v := undef) rfl (by kernel_rfl) (by kernel_rfl) (by kernel_rfl) (fun _ _ _ h => h) (Or.inr ⟨by rfl, rfl⟩) (by assumption) ?_
  simp only [Act.put, List.setIfInBounds_toArray, List.set_cons_zero, List.set_cons_succ]
  refine wpAnyH_take (i := 22) (oi := { dst := some 32, op := Op.load 50 (Operand.tmp 31), type := 50, pos := "l05_node.go:160", after := #[{ on := 21, ground := Ground.data }, { on := 17, ground := Ground.guard }], guard := some (17, false) }) (v := undef) rfl (by kernel_rfl) (by kernel_rfl) (by kernel_rfl) (fun _ _ _ h => h) (Or.inr ⟨by rfl, rfl⟩) (by assumption) ?_
  simp only [Act.put, List.setIfInBounds_toArray, List.set_cons_zero, List.set_cons_succ]
  refine wpAnyH_take (i := 23) (oi := { dst := some 33, op := Op.load 4 (Operand.tmp 7), type := 4, pos := "l05_node.go:160", after := #[{ on := 17, ground := Ground.guard }], guard := some (17, false) }) (v := undef) rfl (by kernel_rfl) (by kernel_rfl) (by kernel_rfl) (fun _ _ _ h => h) (Or.inr ⟨by rfl, rfl⟩) (by assumption) ?_
  simp only [Act.put, List.setIfInBounds_toArray, List.set_cons_zero, List.set_cons_succ]
  refine wpAnyH_take (i := 24) (oi := { dst := some 34, op := Op.call { callee := Callee.value (Operand.func 26), args := #[Operand.tmp 32, Operand.tmp 33], argTypes := #[50, 4] }, type := 4, pos := "l05_node.go:160", after := #[{ on := 22, ground := Ground.data }, { on := 23, ground := Ground.data }, { on := 17, ground := Ground.chain }, { on := 17, ground := Ground.guard }], guard := some (17, false) }) (v := undef) rfl (by kernel_rfl) (by kernel_rfl) (by kernel_rfl) (fun _ _ _ h => h) (Or.inr ⟨by rfl, rfl⟩) (by assumption) ?_
  simp only [Act.put, List.setIfInBounds_toArray, List.set_cons_zero, List.set_cons_succ]
  refine wpAnyH_take (i := 25) (oi := { dst := some 35, op := Op.unOp UnOp.not 4 (Operand.tmp 34), type := 4, pos := "l05_node.go:160", after := #[{ on := 24, ground := Ground.data }, { on := 17, ground := Ground.guard }], guard := some (17, false) }) (v := undef) rfl (by kernel_rfl) (by kernel_rfl) (by kernel_rfl) (fun _ _ _ h => h) (Or.inr ⟨by rfl, rfl⟩) (by assumption) ?_
  simp only [Act.put, List.setIfInBounds_toArray, List.set_cons_zero, List.set_cons_succ]
  refine wpAnyH_take (i := 26) (oi := { dst := some 36, op := Op.pick (Operand.tmp 27) (Operand.const (Value.bool true)) (Operand.tmp 35), type := 4, pos := "l05_node.go:160", after := #[{ on := 17, ground := Ground.data }, { on := 25, ground := Ground.data }], guard := none }) (v := ?r1_v26) rfl (by kernel_rfl) (by kernel_rfl) (by kernel_rfl) (fun _ _ _ h => h) (Or.inl ⟨by rfl, ?r1_hy26⟩) (by assumption) ?r1_rest26
  case r1_hy26 => intro w hSw; obtain ⟨⟨s0, s1, s2, s3, s4, s5, s6, s7, s8, s9⟩, s10, s11, s12⟩ := hSw; go_simp; try (with_reducible rfl)
  simp only [Act.put, List.setIfInBounds_toArray, List.set_cons_zero, List.set_cons_succ]
  refine wpAnyH_done (by kernel_rfl) ?_ _
  clear hHeld
  obtain ⟨XN, XP, XO, XR⟩ := HX.out
  replace XN := XN.below b1
  replace XR := XR.below b1
  have B1 := bel_trans HB.out b1
  obtain ⟨n0, n1, n2, n3, n4, nz⟩ := XN.at5
  clear XN XP XO HX
  go_wp2_with fail
  refine (copyNode_any d p _ hd (HR.out.below B1)).mono ?_
  rintro e w9 ⟨q, rfl, N9, L9, b9⟩
  replace XR := XR.below b9
  have B9 := bel_trans B1 b9
  obtain ⟨y0, y1, y2, y3, y4, yz⟩ := XR.at5
  have f0 := XR.frozen 0
  have f1 := XR.frozen 1
  have f2 := XR.frozen 2
  have f3 := XR.frozen 3
  have f4 := XR.frozen 4
  have hz : w.heap.size + 1 + 1 + 1 < w2.heap.size := by
    have h := HX3.out.lt
    have := b1.size
    omega
  have HF : Hid (WantP d nodes pg own w (.returned (.tuple #[.agg #[.int .i64 d.id, .slice q.f.1 d.nf q.f.2, .slice q.h.1 d.nh q.h.2, .slice q.o.1 d.no q.o.2, .slice q.i.1 d.ni q.i.2], .bool false])) (((((w9.setCell ⟨w.heap.size + 1 + 1 + 1, 0, none⟩ (.int .i64 d.id)).setCell ⟨w.heap.size + 1 + 1 + 1, 1, none⟩ (.slice q.f.1 d.nf q.f.2)).setCell ⟨w.heap.size + 1 + 1 + 1, 2, none⟩ (.slice q.h.1 d.nh q.h.2)).setCell ⟨w.heap.size + 1 + 1 + 1, 3, none⟩ (.slice q.o.1 d.no q.o.2)).setCell ⟨w.heap.size + 1 + 1 + 1, 4, none⟩ (.slice q.i.1 d.ni q.i.2))) := by
    have hw : wantB d nodes pg own = false := by unfold wantB; rw [HNO.out]; rfl
    have on : Only w9 (((((w9.setCell ⟨w.heap.size + 1 + 1 + 1, 0, none⟩ (.int .i64 d.id)).setCell ⟨w.heap.size + 1 + 1 + 1, 1, none⟩ (.slice q.f.1 d.nf q.f.2)).setCell ⟨w.heap.size + 1 + 1 + 1, 2, none⟩ (.slice q.h.1 d.nh q.h.2)).setCell ⟨w.heap.size + 1 + 1 + 1, 3, none⟩ (.slice q.o.1 d.no q.o.2)).setCell ⟨w.heap.size + 1 + 1 + 1, 4, none⟩ (.slice q.i.1 d.ni q.i.2)) (fun b => b = w.heap.size + 1 + 1 + 1) := (((((Only.refl w9 (fun b => b = w.heap.size + 1 + 1 + 1)).setCell ⟨w.heap.size + 1 + 1 + 1, 0, none⟩ _ rfl).setCell ⟨w.heap.size + 1 + 1 + 1, 1, none⟩ _ rfl).setCell ⟨w.heap.size + 1 + 1 + 1, 2, none⟩ _ rfl).setCell ⟨w.heap.size + 1 + 1 + 1, 3, none⟩ _ rfl).setCell ⟨w.heap.size + 1 + 1 + 1, 4, none⟩ _ rfl
    refine ⟨q, ?_, ?_, ?_, ?_⟩
    · unfold wantD; rw [hw]; rfl
    · unfold wantD; rw [hw]; exact N9.sm (on.sm (fun b hb e => by have := L9 b hb; omega))
    · unfold wantD; rw [hw]; exact fun b hb => by have := L9 b hb; omega
    · exact lit_bel5 B9 (by omega)
  clear XR N9 L9 b9 B9 B1 b1 n0 n1 n2 n3 n4 nz HR
  go_wp2
  refine bodyPost_ret (v := .tuple #[.agg #[.int .i64 d.id, .slice q.f.1 d.nf q.f.2, .slice q.h.1 d.nh q.h.2, .slice q.o.1 d.no q.o.2, .slice q.i.1 d.ni q.i.2], .bool false]) (by simp [results, Tryz.results7, go_sem, y0, y1, y2, y3, y4]) rfl HF.out

set_option maxRecDepth 100000 in
set_option maxHeartbeats 4000000 in
theorem want_no4 (d : ND) (p : NP) (nodes : Int) (pg : Nat) (own : Bool) (w : World) (hd : Nsm d) (hR : NR w d p) (h1 : nodeOkB d nodes = true) (h2 : pg ≤ 5) (h3 : (d.f pg).q = false) (h4 : lackB (d.f pg).s own = false) (hno : wOk d nodes pg own = false) :
    Calls Tryz.prog 7 #[.agg (ncells d p), .int .i64 nodes, .int .i64 pg, .bool own] w fun e w' => WantP d nodes pg own w e w' := by
  have B := bel_alloc (bel_alloc (bel_alloc (bel_alloc (Below.refl w.heap.size w) (.cells (ncells d p) 34)) (.cells #[.int .i64 pg] 3)) (.cells #[.bool own] 4)) (.cells #[.int .i64 0, .slice none 0 0, .slice none 0 0, .slice none 0 0, .slice none 0 0] 34)
  obtain ⟨XN, XP, XO, XR⟩ := Box.quad w (ncells d p) #[.int .i64 pg] #[.bool own] #[.int .i64 0, .slice none 0 0, .slice none 0 0, .slice none 0 0, .slice none 0 0] 34 3 4 34
  obtain ⟨W, hW⟩ : ∃ W, (((w.alloc (.cells (ncells d p) 34)).alloc (.cells #[.int .i64 pg] 3)).alloc (.cells #[.bool own] 4)).alloc (.cells #[.int .i64 0, .slice none 0 0, .slice none 0 0, .slice none 0 0, .slice none 0 0] 34) = W := ⟨_, rfl⟩
  rw [hW] at B XN XP XO XR
  have HWE : Hid ((((w.alloc (.cells (ncells d p) 34)).alloc (.cells #[.int .i64 pg] 3)).alloc (.cells #[.bool own] 4)).alloc (.cells #[.int .i64 0, .slice none 0 0, .slice none 0 0, .slice none 0 0, .slice none 0 0] 34) = W) := hW
  have KS : Hid (∀ w', Below W.heap.size W w' → WS w' w.heap.size d p p.f.1 pg own) := fun w' b => by
    obtain ⟨a0, a1, a2, a3, a4, az⟩ := (XN.below b).at5
    exact ⟨a0, a1, a2, a3, a4, (XP.below b).cell 0, (XO.below b).cell 0, az, (XP.below b).lt, (XO.below b).lt⟩
  have HB : Hid (Below w.heap.size w W) := B
  have HN : Hid (∀ w', Below W.heap.size W w' → Calls Tryz.prog 24 #[.agg #[.int .i64 d.id, .slice p.f.1 d.nf p.f.2, .slice p.h.1 d.nh p.h.2, .slice p.o.1 d.no p.o.2, .slice p.i.1 d.ni p.i.2], .int .i64 nodes] w' fun e w2 => e = .returned (.bool (nodeOkB d nodes)) ∧ Below w'.heap.size w' w2) := fun w' b => implNodeOk_any d p nodes w' (fun i hi => by have := (hd.h.2 i hi).2.1; omega) ((hR.below B).below b)
  have HX : Hid (_ ∧ _ ∧ _ ∧ _) := ⟨XN, XP, XO, XR⟩
  have HR : Hid (NR w d p) := hR
  have HNO : Hid (wOk d nodes pg own = false) := hno
  have HX3 : Hid (Box W (w.heap.size + 1 + 1 + 1) #[.int .i64 0, .slice none 0 0, .slice none 0 0, .slice none 0 0, .slice none 0 0] 34) := XR
  have H4 : Hid (lackB (d.f pg).s own = false) := h4
  clear hno h4
  obtain ⟨g, off, ha, F0, F1, F2⟩ := hR.f.at (show pg < d.nf by have := (nodeOk_facts h1).1; omega)
  rw [h3] at F2
  have hgw : g < w.heap.size := lt_of_cell F0
  have KF : Hid (∀ w', Below W.heap.size W w' → WF w' g off pg (d.f pg) (p.fp pg) false) := fun w' b => by
    have b' := bel_trans B b
    exact ⟨(b'.cell (p := ⟨g, off + pg * 3, none⟩) hgw).trans F0, (b'.cell (p := ⟨g, off + pg * 3 + 1, none⟩) hgw).trans F1, (b'.cell (p := ⟨g, off + pg * 3 + 2, none⟩) hgw).trans F2⟩
  have KS2 : Hid (∀ w', Below W.heap.size W w' → WS w' w.heap.size d p (some ⟨g, off, none⟩) pg own) := fun w' b => by rw [← ha]; exact KS.out w' b
  have HN2 : Hid (∀ w', Below W.heap.size W w' → Calls Tryz.prog 24 #[.agg #[.int .i64 d.id, .slice (some ⟨g, off, none⟩) d.nf p.f.2, .slice p.h.1 d.nh p.h.2, .slice p.o.1 d.no p.o.2, .slice p.i.1 d.ni p.i.2], .int .i64 nodes] w' fun e w2 => e = .returned (.bool (nodeOkB d nodes)) ∧ Below w'.heap.size w' w2) := fun w' b => by rw [← ha]; exact HN.out w' b
  have H1 : Hid (nodeOkB d nodes = true) := h1
  have H2 : Hid (inB (pg : Int) 0 5 = true) := by show _ = _; simp [inB]; omega
  have hi : (pg : Int) < (d.nf : Int) := by have := (nodeOk_facts h1).1; omega
  clear h1 h3 ha F0 F1 F2 hgw
  clear hW B XN XP XO XR hR
  go_enter Tryz.func7, Tryz.ntmps7
  go_wp2_with fail
  rw [HWE.out]
  refine wp_region_held_drew (S := (fun w' => WS w' w.heap.size d p (some ⟨g, off, none⟩) pg own ∧ WF w' g off pg (d.f pg) (p.fp pg) false)) (by kernel_rfl) ?_ (fun hHeld => ?_)
  · exact ⟨KS2.out _ (bel_drew (Below.refl _ _)), KF.out _ (bel_drew (Below.refl _ _))⟩
  refine wpAnyH_take (i := 0) (oi := { dst := some 10, op := Op.load 34 (Operand.tmp 4), type := 34, pos := "l05_node.go:160", after := #[], guard := none }) (v := ?r2_v0) rfl (by kernel_rfl) (by kernel_rfl) (by kernel_rfl) (fun _ _ _ h => h) (Or.inl ⟨by rfl, ?r2_hy0⟩) (by assumption) ?r2_rest0
  case r2_hy0 => intro w hSw; obtain ⟨⟨s0, s1, s2, s3, s4, s5, s6, s7, s8, s9⟩, s10, s11, s12⟩ := hSw; go_simp; try (with_reducible rfl)
  simp only [Act.put, List.setIfInBounds_toArray, List.set_cons_zero, List.set_cons_succ]
  refine wpAnyH_take (i := 1) (oi := { dst := some 11, op := Op.move (Operand.tmp 1), type := 3, pos := "l05_node.go:160", after := #[], guard := none }) (v := ?r2_v1) rfl (by kernel_rfl) (by kernel_rfl) (by kernel_rfl) (fun _ _ _ h => h) (Or.inl ⟨by rfl, ?r2_hy1⟩) (by assumption) ?r2_rest1
  case r2_hy1 => intro w hSw; obtain ⟨⟨s0, s1, s2, s3, s4, s5, s6, s7, s8, s9⟩, s10, s11, s12⟩ := hSw; go_simp; try (with_reducible rfl)
  simp only [Act.put, List.setIfInBounds_toArray, List.set_cons_zero, List.set_cons_succ]
  refine wpAnyH_ready (rs := [2]) (by kernel_rfl) (by simp) ?_
  refine AllReadyH.cons (o := { dst := some 12, op := Op.call { callee := Callee.value (Operand.func 24), args := #[Operand.tmp 10, Operand.tmp 11], argTypes := #[34, 3] }, type := 4, pos := "l05_node.go:160", after := #[{ on := 0, ground := Ground.data }, { on := 1, ground := Ground.data }], guard := none }) rfl (fun K2 hK2 => ?_) AllReadyH.nil
  go_simp
  refine (HN2.out _ (bel_drew (Below.refl _ _))).mono ?_
  rintro e w1 ⟨rfl, b1⟩
  replace b1 := bel_undrew b1
  rw [H1.out]
  go_wp2_with fail
  refine hK2.out _ _ ?_ (fun hHeld2 => ?_)
  · exact ⟨KS2.out _ b1, KF.out _ b1⟩
  clear hK2 K2 hHeld
  have hHeld := hHeld2
  clear hHeld2
  try simp only [Act.put, List.setIfInBounds_toArray, List.set_cons_zero, List.set_cons_succ]
  refine wpAnyH_take (i := 3) (oi := { dst := some 13, op := Op.unOp UnOp.not 4 (Operand.tmp 12), type := 4, pos := "l05_node.go:160", after := #[{ on := 2, ground := Ground.data }], guard := none }) (v := ?r2_v3) rfl (by kernel_rfl) (by kernel_rfl) (by kernel_rfl) (fun _ _ _ h => h) (Or.inl ⟨by rfl, ?r2_hy3⟩) (by assumption) ?r2_rest3
  case r2_hy3 => intro w hSw; obtain ⟨⟨s0, s1, s2, s3, s4, s5, s6, s7, s8, s9⟩, s10, s11, s12⟩ := hSw; go_simp; try (with_reducible rfl)
  simp only [Act.put, List.setIfInBounds_toArray, List.set_cons_zero, List.set_cons_succ]
  refine wpAnyH_take (i := 4) (oi := { dst := some 14, op := Op.move (Operand.tmp 13), type := 4, pos := "l05_node.go:160", after := #[{ on := 3, ground := Ground.data }, { on := 2, ground := Ground.chain }], guard := none }) (v := ?r2_v4) rfl (by kernel_rfl) (by kernel_rfl) (by kernel_rfl) (fun _ _ _ h => h) (Or.inl ⟨by rfl, ?r2_hy4⟩) (by assumption) ?r2_rest4
  case r2_hy4 => intro w hSw; obtain ⟨⟨s0, s1, s2, s3, s4, s5, s6, s7, s8, s9⟩, s10, s11, s12⟩ := hSw; go_simp; try (with_reducible rfl)
  simp only [Act.put, List.setIfInBounds_toArray, List.set_cons_zero, List.set_cons_succ]
  refine wpAnyH_take (i := 5) (oi := { dst := some 15, op := Op.load 3 (Operand.tmp 6), type := 3, pos := "l05_node.go:160", after := #[{ on := 4, ground := Ground.guard }], guard := some (4, false) }) (v := ?r2_v5) rfl (by kernel_rfl) (by kernel_rfl) (by kernel_rfl) (fun _ _ _ h => h) (Or.inl ⟨by rfl, ?r2_hy5⟩) (by assumption) ?r2_rest5
  case r2_hy5 => intro w hSw; obtain ⟨⟨s0, s1, s2, s3, s4, s5, s6, s7, s8, s9⟩, s10, s11, s12⟩ := hSw; go_simp; try (with_reducible rfl)
  simp only [Act.put, List.setIfInBounds_toArray, List.set_cons_zero, List.set_cons_succ]
  refine wpAnyH_ready (rs := [6]) (by kernel_rfl) (by simp) ?_
  refine AllReadyH.cons (o := { dst := some 16, op := Op.call { callee := Callee.value (Operand.func 25), args := #[Operand.tmp 15], argTypes := #[3] }, type := 4, pos := "l05_node.go:160", after := #[{ on := 5, ground := Ground.data }, { on := 4, ground := Ground.chain }, { on := 4, ground := Ground.guard }], guard := some (4, false) }) rfl (fun K2 hK2 => ?_) AllReadyH.nil
  go_simp
  refine (isPage_any pg _).mono ?_
  rintro e w2 ⟨rfl, h2⟩
  subst h2
  rw [H2.out]
  go_wp2_with fail
  refine hK2.out _ _ ?_ (fun hHeld2 => ?_)
  · exact ⟨KS2.out _ b1, KF.out _ b1⟩
  clear hK2 K2 hHeld
  have hHeld := hHeld2
  clear hHeld2
  try simp only [Act.put, List.setIfInBounds_toArray, List.set_cons_zero, List.set_cons_succ]
  refine wpAnyH_take (i := 7) (oi := { dst := some 17, op := Op.unOp UnOp.not 4 (Operand.tmp 16), type := 4, pos := "l05_node.go:160", after := #[{ on := 6, ground := Ground.data }, { on := 4, ground := Ground.guard }], guard := some (4, false) }) (v := ?r2_v7) rfl (by kernel_rfl) (by kernel_rfl) (by kernel_rfl) (fun _ _ _ h => h) (Or.inl ⟨by rfl, ?r2_hy7⟩) (by assumption) ?r2_rest7
  case r2_hy7 => intro w hSw; obtain ⟨⟨s0, s1, s2, s3, s4, s5, s6, s7, s8, s9⟩, s10, s11, s12⟩ := hSw; go_simp; try (with_reducible rfl)
  simp only [Act.put, List.setIfInBounds_toArray, List.set_cons_zero, List.set_cons_succ]
  refine wpAnyH_take (i := 8) (oi := { dst := some 18, op := Op.pick (Operand.tmp 14) (Operand.const (Value.bool true)) (Operand.tmp 17), type := 4, pos := "l05_node.go:160", after := #[{ on := 4, ground := Ground.data }, { on := 7, ground := Ground.data }], guard := none }) (v := ?r2_v8) rfl (by kernel_rfl) (by kernel_rfl) (by kernel_rfl) (fun _ _ _ h => h) (Or.inl ⟨by rfl, ?r2_hy8⟩) (by assumption) ?r2_rest8
  case r2_hy8 => intro w hSw; obtain ⟨⟨s0, s1, s2, s3, s4, s5, s6, s7, s8, s9⟩, s10, s11, s12⟩ := hSw; go_simp; try (with_reducible rfl)
  simp only [Act.put, List.setIfInBounds_toArray, List.set_cons_zero, List.set_cons_succ]
  refine wpAnyH_take (i := 9) (oi := { dst := some 19, op := Op.move (Operand.tmp 18), type := 4, pos := "l05_node.go:160", after := #[{ on := 8, ground := Ground.data }, { on := 6, ground := Ground.chain }], guard := none }) (v := ?r2_v9) rfl (by kernel_rfl) (by kernel_rfl) (by kernel_rfl) (fun _ _ _ h => h) (Or.inl ⟨by rfl, ?r2_hy9⟩) (by assumption) ?r2_rest9
  case r2_hy9 => intro w hSw; obtain ⟨⟨s0, s1, s2, s3, s4, s5, s6, s7, s8, s9⟩, s10, s11, s12⟩ := hSw; go_simp; try (with_reducible rfl)
  simp only [Act.put, List.setIfInBounds_toArray, List.set_cons_zero, List.set_cons_succ]
  refine wpAnyH_take (i := 10) (oi := { dst := some 20, op := Op.fieldAddr 34 (Operand.tmp 4) 1, type := 0, pos := "l05_node.go:160", after := #[{ on := 9, ground := Ground.guard }], guard := some (9, false) }) (v := ?r2_v10) rfl (by kernel_rfl) (by kernel_rfl) (by kernel_rfl) (fun _ _ _ h => h) (Or.inl ⟨by rfl, ?r2_hy10⟩) (by assumption) ?r2_rest10
  case r2_hy10 => intro w hSw; obtain ⟨⟨s0, s1, s2, s3, s4, s5, s6, s7, s8, s9⟩, s10, s11, s12⟩ := hSw; go_simp; try (with_reducible rfl)
  simp only [Act.put, List.setIfInBounds_toArray, List.set_cons_zero, List.set_cons_succ]
  refine wpAnyH_take (i := 11) (oi := { dst := some 21, op := Op.load 29 (Operand.tmp 20), type := 29, pos := "l05_node.go:160", after := #[{ on := 10, ground := Ground.data }, { on := 9, ground := Ground.guard }], guard := some (9, false) }) (v := ?r2_v11) rfl (by kernel_rfl) (by kernel_rfl) (by kernel_rfl) (fun _ _ _ h => h) (Or.inl ⟨by rfl, ?r2_hy11⟩) (by assumption) ?r2_rest11
  case r2_hy11 => intro w hSw; obtain ⟨⟨s0, s1, s2, s3, s4, s5, s6, s7, s8, s9⟩, s10, s11, s12⟩ := hSw; go_simp; try (with_reducible rfl)
  simp only [Act.put, List.setIfInBounds_toArray, List.set_cons_zero, List.set_cons_succ]
  refine wpAnyH_take (i := 12) (oi := { dst := some 22, op := Op.load 3 (Operand.tmp 6), type := 3, pos := "l05_node.go:160", after := #[{ on := 9, ground := Ground.guard }], guard := some (9, false) }) (v := ?r2_v12) rfl (by kernel_rfl) (by kernel_rfl) (by kernel_rfl) (fun _ _ _ h => h) (Or.inl ⟨by rfl, ?r2_hy12⟩) (by assumption) ?r2_rest12
  case r2_hy12 => intro w hSw; obtain ⟨⟨s0, s1, s2, s3, s4, s5, s6, s7, s8, s9⟩, s10, s11, s12⟩ := hSw; go_simp; try (with_reducible rfl)
  simp only [Act.put, List.setIfInBounds_toArray, List.set_cons_zero, List.set_cons_succ]
  refine wpAnyH_take (i := 13) (oi := { dst := some 23, op := Op.indexAddr 29 (Operand.tmp 21) (Operand.tmp 22), type := 0, pos := "l05_node.go:160", after := #[{ on := 11, ground := Ground.data }, { on := 12, ground := Ground.data }, { on := 9, ground := Ground.guard }], guard := some (9, false) }) (v := ?r2_v13) rfl (by kernel_rfl) (by kernel_rfl) (by kernel_rfl) (fun _ _ _ h => h) (Or.inl ⟨by rfl, ?r2_hy13⟩) (by assumption) ?r2_rest13
  case r2_hy13 => intro w hSw; obtain ⟨⟨s0, s1, s2, s3, s4, s5, s6, s7, s8, s9⟩, s10, s11, s12⟩ := hSw; go_simp; try (with_reducible rfl)
  simp only [Act.put, List.setIfInBounds_toArray, List.set_cons_zero, List.set_cons_succ]
  refine wpAnyH_take (i := 14) (oi := { dst := some 24, op := Op.fieldAddr 50 (Operand.tmp 23) 2, type := 0, pos := "l05_node.go:160", after := #[{ on := 13, ground := Ground.data }, { on := 9, ground := Ground.guard }], guard := some (9, false) }) (v := ?r2_v14) rfl (by kernel_rfl) (by kernel_rfl) (by kernel_rfl) (fun _ _ _ h => h) (Or.inl ⟨by rfl, ?r2_hy14⟩) (by assumption) ?r2_rest14
  case r2_hy14 => intro w hSw; obtain ⟨⟨s0, s1, s2, s3, s4, s5, s6, s7, s8, s9⟩, s10, s11, s12⟩ := hSw; go_simp; try (with_reducible rfl)
  simp only [Act.put, List.setIfInBounds_toArray, List.set_cons_zero, List.set_cons_succ]
  refine wpAnyH_take (i := 15) (oi := { dst := some 25, op := Op.load 4 (Operand.tmp 24), type := 4, pos := "l05_node.go:160", after := #[{ on := 14, ground := Ground.data }, { on := 9, ground := Ground.guard }], guard := some (9, false) }) (v := ?r2_v15) rfl (by kernel_rfl) (by kernel_rfl) (by kernel_rfl) (fun _ _ _ h => h) (Or.inl ⟨by rfl, ?r2_hy15⟩) (by assumption) ?r2_rest15
  case r2_hy15 => intro w hSw; obtain ⟨⟨s0, s1, s2, s3, s4, s5, s6, s7, s8, s9⟩, s10, s11, s12⟩ := hSw; go_simp; try (with_reducible rfl)
  simp only [Act.put, List.setIfInBounds_toArray, List.set_cons_zero, List.set_cons_succ]
  refine wpAnyH_take (i := 16) (oi := { dst := some 26, op := Op.pick (Operand.tmp 19) (Operand.const (Value.bool true)) (Operand.tmp 25), type := 4, pos := "l05_node.go:160", after := #[{ on := 9, ground := Ground.data }, { on := 15, ground := Ground.data }], guard := none }) (v := ?r2_v16) rfl (by kernel_rfl) (by kernel_rfl) (by kernel_rfl) (fun _ _ _ h => h) (Or.inl ⟨by rfl, ?r2_hy16⟩) (by assumption) ?r2_rest16
  case r2_hy16 => intro w hSw; obtain ⟨⟨s0, s1, s2, s3, s4, s5, s6, s7, s8, s9⟩, s10, s11, s12⟩ := hSw; go_simp; try (with_reducible rfl)
  simp only [Act.put, List.setIfInBounds_toArray, List.set_cons_zero, List.set_cons_succ]
  refine wpAnyH_take (i := 17) (oi := { dst := some 27, op := Op.move (Operand.tmp 26), type := 4, pos := "l05_node.go:160", after := #[{ on := 16, ground := Ground.data }, { on := 9, ground := Ground.chain }], guard := none }) (v := ?r2_v17) rfl (by kernel_rfl) (by kernel_rfl) (by kernel_rfl) (fun _ _ _ h => h) (Or.inl ⟨by rfl, ?r2_hy17⟩) (by assumption) ?r2_rest17
  case r2_hy17 => intro w hSw; obtain ⟨⟨s0, s1, s2, s3, s4, s5, s6, s7, s8, s9⟩, s10, s11, s12⟩ := hSw; go_simp; try (with_reducible rfl)
  simp only [Act.put, List.setIfInBounds_toArray, List.set_cons_zero, List.set_cons_succ]
  refine wpAnyH_take (i := 18) (oi := { dst := some 28, op := Op.fieldAddr 34 (Operand.tmp 4) 1, type := 0, pos := "l05_node.go:160", after := #[{ on := 17, ground := Ground.guard }], guard := some (17, false) }) (v := ?r2_v18) rfl (by kernel_rfl) (by kernel_rfl) (by kernel_rfl) (fun _ _ _ h => h) (Or.inl ⟨by rfl, ?r2_hy18⟩) (by assumption) ?r2_rest18
  case r2_hy18 => intro w hSw; obtain ⟨⟨s0, s1, s2, s3, s4, s5, s6, s7, s8, s9⟩, s10, s11, s12⟩ := hSw; go_simp; try (with_reducible rfl)
  simp only [Act.put, List.setIfInBounds_toArray, List.set_cons_zero, List.set_cons_succ]
  refine wpAnyH_take (i := 19) (oi := { dst := some 29, op := Op.load 29 (Operand.tmp 28), type := 29, pos := "l05_node.go:160", after := #[{ on := 18, ground := Ground.data }, { on := 17, ground := Ground.guard }], guard := some (17, false) }) (v := ?r2_v19) rfl (by kernel_rfl) (by kernel_rfl) (by kernel_rfl) (fun _ _ _ h => h) (Or.inl ⟨by rfl, ?r2_hy19⟩) (by assumption) ?r2_rest19
  case r2_hy19 => intro w hSw; obtain ⟨⟨s0, s1, s2, s3, s4, s5, s6, s7, s8, s9⟩, s10, s11, s12⟩ := hSw; go_simp; try (with_reducible rfl)
  simp only [Act.put, List.setIfInBounds_toArray, List.set_cons_zero, List.set_cons_succ]
  refine wpAnyH_take (i := 20) (oi := { dst := some 30, op := Op.load 3 (Operand.tmp 6), type := 3, pos := "l05_node.go:160", after := #[{ on := 17, ground := Ground.guard }], guard := some (17, false) }) (v := ?r2_v20) rfl (by kernel_rfl) (by kernel_rfl) (by kernel_rfl) (fun _ _ _ h => h) (Or.inl ⟨by rfl, ?r2_hy20⟩) (by assumption) ?r2_rest20
  case r2_hy20 => intro w hSw; obtain ⟨⟨s0, s1, s2, s3, s4, s5, s6, s7, s8, s9⟩, s10, s11, s12⟩ := hSw; go_simp; try (with_reducible rfl)
  simp only [Act.put, List.setIfInBounds_toArray, List.set_cons_zero, List.set_cons_succ]
  refine wpAnyH_take (i := 21) (oi := { dst := some 31, op := Op.indexAddr 29 (Operand.tmp 29) (Operand.tmp 30), type := 0, pos := "l05_node.go:160", after := #[{ on := 19, ground := Ground.data }, { on := 20, ground := Ground.data }, { on := 17, ground := Ground.guard }], guard := some (17, false) }) (v := ?r2_v21) rfl (by kernel_rfl) (by kernel_rfl) (by kernel_rfl) (fun _ _ _ h => h) (Or.inl ⟨by rfl, ?r2_hy21⟩) (by assumption) ?r2_rest21
  case r2_hy21 => intro w hSw; obtain ⟨⟨s0, s1, s2, s3, s4, s5, s6, s7, s8, s9⟩, s10, s11, s12⟩ := hSw; go_simp; try (with_reducible rfl)
  simp only [Act.put, List.setIfInBounds_toArray, List.set_cons_zero, List.set_cons_succ]
  refine wpAnyH_take (i := 22) (oi := { dst := some 32, op := Op.load 50 (Operand.tmp 31), type := 50, pos := "l05_node.go:160", after := #[{ on := 21, ground := Ground.data }, { on := 17, ground := Ground.guard }], guard := some (17, false) }) (v := ?r2_v22) rfl (by kernel_rfl) (by kernel_rfl) (by kernel_rfl) (fun _ _ _ h => h) (Or.inl ⟨by rfl, ?r2_hy22⟩) (by assumption) ?r2_rest22
  case r2_hy22 => intro w hSw; obtain ⟨⟨s0, s1, s2, s3, s4, s5, s6, s7, s8, s9⟩, s10, s11, s12⟩ := hSw; go_simp; try (with_reducible rfl)
  simp only [Act.put, List.setIfInBounds_toArray, List.set_cons_zero, List.set_cons_succ]
  refine wpAnyH_take (i := 23) (oi := { dst := some 33, op := Op.load 4 (Operand.tmp 7), type := 4, pos := "l05_node.go:160", after := #[{ on := 17, ground := Ground.guard }], guard := some (17, false) }) (v := ?r2_v23) rfl (by kernel_rfl) (by kernel_rfl) (by kernel_rfl) (fun _ _ _ h => h) (Or.inl ⟨by rfl, ?r2_hy23⟩) (by assumption) ?r2_rest23
  case r2_hy23 => intro w hSw; obtain ⟨⟨s0, s1, s2, s3, s4, s5, s6, s7, s8, s9⟩, s10, s11, s12⟩ := hSw; go_simp; try (with_reducible rfl)
  simp only [Act.put, List.setIfInBounds_toArray, List.set_cons_zero, List.set_cons_succ]
  refine wpAnyH_ready (rs := [24]) (by kernel_rfl) (by simp) ?_
  refine AllReadyH.cons (o := { dst := some 34, op := Op.call { callee := Callee.value (Operand.func 26), args := #[Operand.tmp 32, Operand.tmp 33], argTypes := #[50, 4] }, type := 4, pos := "l05_node.go:160", after := #[{ on := 22, ground := Ground.data }, { on := 23, ground := Ground.data }, { on := 17, ground := Ground.chain }, { on := 17, ground := Ground.guard }], guard := some (17, false) }) rfl (fun K2 hK2 => ?_) AllReadyH.nil
  go_simp
  refine (lacks_any (d.f pg).s (.slice (p.fp pg).1 (d.f pg).xs.length (p.fp pg).2) false own _).mono ?_
  rintro e w3 ⟨rfl, b3⟩
  replace b1 := bel_trans b1 b3
  rw [H4.out]
  go_wp2_with fail
  refine hK2.out _ _ ?_ (fun hHeld2 => ?_)
  · exact ⟨KS2.out _ b1, KF.out _ b1⟩
  clear hK2 K2 hHeld
  have hHeld := hHeld2
  clear hHeld2
  try simp only [Act.put, List.setIfInBounds_toArray, List.set_cons_zero, List.set_cons_succ]
  refine wpAnyH_take (i := 25) (oi := { dst := some 35, op := Op.unOp UnOp.not 4 (Operand.tmp 34), type := 4, pos := "l05_node.go:160", after := #[{ on := 24, ground := Ground.data }, { on := 17, ground := Ground.guard }], guard := some (17, false) }) (v := ?r2_v25) rfl (by kernel_rfl) (by kernel_rfl) (by kernel_rfl) (fun _ _ _ h => h) (Or.inl ⟨by rfl, ?r2_hy25⟩) (by assumption) ?r2_rest25
  case r2_hy25 => intro w hSw; obtain ⟨⟨s0, s1, s2, s3, s4, s5, s6, s7, s8, s9⟩, s10, s11, s12⟩ := hSw; go_simp; try (with_reducible rfl)
  simp only [Act.put, List.setIfInBounds_toArray, List.set_cons_zero, List.set_cons_succ]
  refine wpAnyH_take (i := 26) (oi := { dst := some 36, op := Op.pick (Operand.tmp 27) (Operand.const (Value.bool true)) (Operand.tmp 35), type := 4, pos := "l05_node.go:160", after := #[{ on := 17, ground := Ground.data }, { on := 25, ground := Ground.data }], guard := none }) (v := ?r2_v26) rfl (by kernel_rfl) (by kernel_rfl) (by kernel_rfl) (fun _ _ _ h => h) (Or.inl ⟨by rfl, ?r2_hy26⟩) (by assumption) ?r2_rest26
  case r2_hy26 => intro w hSw; obtain ⟨⟨s0, s1, s2, s3, s4, s5, s6, s7, s8, s9⟩, s10, s11, s12⟩ := hSw; go_simp; try (with_reducible rfl)
  simp only [Act.put, List.setIfInBounds_toArray, List.set_cons_zero, List.set_cons_succ]
  refine wpAnyH_done (by kernel_rfl) ?_ _
  clear hHeld
  obtain ⟨XN, XP, XO, XR⟩ := HX.out
  replace XN := XN.below b1
  replace XR := XR.below b1
  have B1 := bel_trans HB.out b1
  obtain ⟨n0, n1, n2, n3, n4, nz⟩ := XN.at5
  clear XN XP XO HX
  go_wp2_with fail
  refine (copyNode_any d p _ hd (HR.out.below B1)).mono ?_
  rintro e w9 ⟨q, rfl, N9, L9, b9⟩
  replace XR := XR.below b9
  have B9 := bel_trans B1 b9
  obtain ⟨y0, y1, y2, y3, y4, yz⟩ := XR.at5
  have f0 := XR.frozen 0
  have f1 := XR.frozen 1
  have f2 := XR.frozen 2
  have f3 := XR.frozen 3
  have f4 := XR.frozen 4
  have hz : w.heap.size + 1 + 1 + 1 < w3.heap.size := by
    have h := HX3.out.lt
    have := b1.size
    omega
  have HF : Hid (WantP d nodes pg own w (.returned (.tuple #[.agg #[.int .i64 d.id, .slice q.f.1 d.nf q.f.2, .slice q.h.1 d.nh q.h.2, .slice q.o.1 d.no q.o.2, .slice q.i.1 d.ni q.i.2], .bool false])) (((((w9.setCell ⟨w.heap.size + 1 + 1 + 1, 0, none⟩ (.int .i64 d.id)).setCell ⟨w.heap.size + 1 + 1 + 1, 1, none⟩ (.slice q.f.1 d.nf q.f.2)).setCell ⟨w.heap.size + 1 + 1 + 1, 2, none⟩ (.slice q.h.1 d.nh q.h.2)).setCell ⟨w.heap.size + 1 + 1 + 1, 3, none⟩ (.slice q.o.1 d.no q.o.2)).setCell ⟨w.heap.size + 1 + 1 + 1, 4, none⟩ (.slice q.i.1 d.ni q.i.2))) := by
    have hw : wantB d nodes pg own = false := by unfold wantB; rw [HNO.out]; rfl
    have on : Only w9 (((((w9.setCell ⟨w.heap.size + 1 + 1 + 1, 0, none⟩ (.int .i64 d.id)).setCell ⟨w.heap.size + 1 + 1 + 1, 1, none⟩ (.slice q.f.1 d.nf q.f.2)).setCell ⟨w.heap.size + 1 + 1 + 1, 2, none⟩ (.slice q.h.1 d.nh q.h.2)).setCell ⟨w.heap.size + 1 + 1 + 1, 3, none⟩ (.slice q.o.1 d.no q.o.2)).setCell ⟨w.heap.size + 1 + 1 + 1, 4, none⟩ (.slice q.i.1 d.ni q.i.2)) (fun b => b = w.heap.size + 1 + 1 + 1) := (((((Only.refl w9 (fun b => b = w.heap.size + 1 + 1 + 1)).setCell ⟨w.heap.size + 1 + 1 + 1, 0, none⟩ _ rfl).setCell ⟨w.heap.size + 1 + 1 + 1, 1, none⟩ _ rfl).setCell ⟨w.heap.size + 1 + 1 + 1, 2, none⟩ _ rfl).setCell ⟨w.heap.size + 1 + 1 + 1, 3, none⟩ _ rfl).setCell ⟨w.heap.size + 1 + 1 + 1, 4, none⟩ _ rfl
    refine ⟨q, ?_, ?_, ?_, ?_⟩
    · unfold wantD; rw [hw]; rfl
    · unfold wantD; rw [hw]; exact N9.sm (on.sm (fun b hb e => by have := L9 b hb; omega))
    · unfold wantD; rw [hw]; exact fun b hb => by have := L9 b hb; omega
    · exact lit_bel5 B9 (by omega)
  clear XR N9 L9 b9 B9 B1 b1 n0 n1 n2 n3 n4 nz HR
  go_wp2
  refine bodyPost_ret (v := .tuple #[.agg #[.int .i64 d.id, .slice q.f.1 d.nf q.f.2, .slice q.h.1 d.nh q.h.2, .slice q.o.1 d.no q.o.2, .slice q.i.1 d.ni q.i.2], .bool false]) (by simp [results, Tryz.results7, go_sem, y0, y1, y2, y3, y4]) rfl HF.out

set_option maxRecDepth 100000 in
set_option maxHeartbeats 4000000 in
theorem want_yes (d : ND) (p : NP) (nodes : Int) (pg : Nat) (own : Bool) (w : World) (hd : Nsm d) (hR : NR w d p) (h1 : nodeOkB d nodes = true) (h2 : pg ≤ 5) (h3 : (d.f pg).q = false) (h4 : lackB (d.f pg).s own = true) (hno : wOk d nodes pg own = true) :
    Calls Tryz.prog 7 #[.agg (ncells d p), .int .i64 nodes, .int .i64 pg, .bool own] w fun e w' => WantP d nodes pg own w e w' := by
  have B := bel_alloc (bel_alloc (bel_alloc (bel_alloc (Below.refl w.heap.size w) (.cells (ncells d p) 34)) (.cells #[.int .i64 pg] 3)) (.cells #[.bool own] 4)) (.cells #[.int .i64 0, .slice none 0 0, .slice none 0 0, .slice none 0 0, .slice none 0 0] 34)
  obtain ⟨XN, XP, XO, XR⟩ := Box.quad w (ncells d p) #[.int .i64 pg] #[.bool own] #[.int .i64 0, .slice none 0 0, .slice none 0 0, .slice none 0 0, .slice none 0 0] 34 3 4 34
  obtain ⟨W, hW⟩ : ∃ W, (((w.alloc (.cells (ncells d p) 34)).alloc (.cells #[.int .i64 pg] 3)).alloc (.cells #[.bool own] 4)).alloc (.cells #[.int .i64 0, .slice none 0 0, .slice none 0 0, .slice none 0 0, .slice none 0 0] 34) = W := ⟨_, rfl⟩
  rw [hW] at B XN XP XO XR
  have HWE : Hid ((((w.alloc (.cells (ncells d p) 34)).alloc (.cells #[.int .i64 pg] 3)).alloc (.cells #[.bool own] 4)).alloc (.cells #[.int .i64 0, .slice none 0 0, .slice none 0 0, .slice none 0 0, .slice none 0 0] 34) = W) := hW
  have KS : Hid (∀ w', Below W.heap.size W w' → WS w' w.heap.size d p p.f.1 pg own) := fun w' b => by
    obtain ⟨a0, a1, a2, a3, a4, az⟩ := (XN.below b).at5
    exact ⟨a0, a1, a2, a3, a4, (XP.below b).cell 0, (XO.below b).cell 0, az, (XP.below b).lt, (XO.below b).lt⟩
  have HB : Hid (Below w.heap.size w W) := B
  have HN : Hid (∀ w', Below W.heap.size W w' → Calls Tryz.prog 24 #[.agg #[.int .i64 d.id, .slice p.f.1 d.nf p.f.2, .slice p.h.1 d.nh p.h.2, .slice p.o.1 d.no p.o.2, .slice p.i.1 d.ni p.i.2], .int .i64 nodes] w' fun e w2 => e = .returned (.bool (nodeOkB d nodes)) ∧ Below w'.heap.size w' w2) := fun w' b => implNodeOk_any d p nodes w' (fun i hi => by have := (hd.h.2 i hi).2.1; omega) ((hR.below B).below b)
  have HX : Hid (_ ∧ _ ∧ _ ∧ _) := ⟨XN, XP, XO, XR⟩
  have HR : Hid (NR w d p) := hR
  have HYES : Hid (wOk d nodes pg own = true) := hno
  have H4 : Hid (lackB (d.f pg).s own = true) := h4
  have HX3 : Hid (Box W (w.heap.size + 1 + 1 + 1) #[.int .i64 0, .slice none 0 0, .slice none 0 0, .slice none 0 0, .slice none 0 0] 34) := XR
  have HC := nodeOk_facts h1
  have HCC : Hid (d.nf = 6 ∧ 1 ≤ d.no ∧ d.no ≤ 4) := ⟨HC.1, HC.2.1⟩
  clear hno h4 HC
  obtain ⟨g, off, ha, F0, F1, F2⟩ := hR.f.at (show pg < d.nf by have := (nodeOk_facts h1).1; omega)
  rw [h3] at F2
  have hgw : g < w.heap.size := lt_of_cell F0
  have KF : Hid (∀ w', Below W.heap.size W w' → WF w' g off pg (d.f pg) (p.fp pg) false) := fun w' b => by
    have b' := bel_trans B b
    exact ⟨(b'.cell (p := ⟨g, off + pg * 3, none⟩) hgw).trans F0, (b'.cell (p := ⟨g, off + pg * 3 + 1, none⟩) hgw).trans F1, (b'.cell (p := ⟨g, off + pg * 3 + 2, none⟩) hgw).trans F2⟩
  have KS2 : Hid (∀ w', Below W.heap.size W w' → WS w' w.heap.size d p (some ⟨g, off, none⟩) pg own) := fun w' b => by rw [← ha]; exact KS.out w' b
  have HN2 : Hid (∀ w', Below W.heap.size W w' → Calls Tryz.prog 24 #[.agg #[.int .i64 d.id, .slice (some ⟨g, off, none⟩) d.nf p.f.2, .slice p.h.1 d.nh p.h.2, .slice p.o.1 d.no p.o.2, .slice p.i.1 d.ni p.i.2], .int .i64 nodes] w' fun e w2 => e = .returned (.bool (nodeOkB d nodes)) ∧ Below w'.heap.size w' w2) := fun w' b => by rw [← ha]; exact HN.out w' b
  have H1 : Hid (nodeOkB d nodes = true) := h1
  have H2 : Hid (inB (pg : Int) 0 5 = true) := by show _ = _; simp [inB]; omega
  have hi : (pg : Int) < (d.nf : Int) := by have := (nodeOk_facts h1).1; omega
  clear h1 h3 ha F0 F1 F2 hgw
  clear hW B XN XP XO XR hR
  go_enter Tryz.func7, Tryz.ntmps7
  go_wp2_with fail
  rw [HWE.out]
  refine wp_region_held_drew (S := (fun w' => WS w' w.heap.size d p (some ⟨g, off, none⟩) pg own ∧ WF w' g off pg (d.f pg) (p.fp pg) false)) (by kernel_rfl) ?_ (fun hHeld => ?_)
  · exact ⟨KS2.out _ (bel_drew (Below.refl _ _)), KF.out _ (bel_drew (Below.refl _ _))⟩
  refine wpAnyH_take (i := 0) (oi := { dst := some 10, op := Op.load 34 (Operand.tmp 4), type := 34, pos := "l05_node.go:160", after := #[], guard := none }) (v := ?r3_v0) rfl (by kernel_rfl) (by kernel_rfl) (by kernel_rfl) (fun _ _ _ h => h) (Or.inl ⟨by rfl, ?r3_hy0⟩) (by assumption) ?r3_rest0
  case r3_hy0 => intro w hSw; obtain ⟨⟨s0, s1, s2, s3, s4, s5, s6, s7, s8, s9⟩, s10, s11, s12⟩ := hSw; go_simp; try (with_reducible rfl)
  simp only [Act.put, List.setIfInBounds_toArray, List.set_cons_zero, List.set_cons_succ]
  refine wpAnyH_take (i := 1) (oi := { dst := some 11, op := Op.move (Operand.tmp 1), type := 3, pos := "l05_node.go:160", after := #[], guard := none }) (v := ?r3_v1) rfl (by kernel_rfl) (by kernel_rfl) (by kernel_rfl) (fun _ _ _ h => h) (Or.inl ⟨by rfl, ?r3_hy1⟩) (by assumption) ?r3_rest1
  case r3_hy1 => intro w hSw; obtain ⟨⟨s0, s1, s2, s3, s4, s5, s6, s7, s8, s9⟩, s10, s11, s12⟩ := hSw; go_simp; try (with_reducible rfl)
  simp only [Act.put, List.setIfInBounds_toArray, List.set_cons_zero, List.set_cons_succ]
  refine wpAnyH_ready (rs := [2]) (by kernel_rfl) (by simp) ?_
  refine AllReadyH.cons (o := { dst := some 12, op := Op.call { callee := Callee.value (Operand.func 24), args := #[Operand.tmp 10, Operand.tmp 11], argTypes := #[34, 3] }, type := 4, pos := "l05_node.go:160", after := #[{ on := 0, ground := Ground.data }, { on := 1, ground := Ground.data }], guard := none }) rfl (fun K2 hK2 => ?_) AllReadyH.nil
  go_simp
  refine (HN2.out _ (bel_drew (Below.refl _ _))).mono ?_
  rintro e w1 ⟨rfl, b1⟩
  replace b1 := bel_undrew b1
  rw [H1.out]
  go_wp2_with fail
  refine hK2.out _ _ ?_ (fun hHeld2 => ?_)
  · exact ⟨KS2.out _ b1, KF.out _ b1⟩
  clear hK2 K2 hHeld
  have hHeld := hHeld2
  clear hHeld2
  try simp only [Act.put, List.setIfInBounds_toArray, List.set_cons_zero, List.set_cons_succ]
  refine wpAnyH_take (i := 3) (oi := { dst := some 13, op := Op.unOp UnOp.not 4 (Operand.tmp 12), type := 4, pos := "l05_node.go:160", after := #[{ on := 2, ground := Ground.data }], guard := none }) (v := ?r3_v3) rfl (by kernel_rfl) (by kernel_rfl) (by kernel_rfl) (fun _ _ _ h => h) (Or.inl ⟨by rfl, ?r3_hy3⟩) (by assumption) ?r3_rest3
  case r3_hy3 => intro w hSw; obtain ⟨⟨s0, s1, s2, s3, s4, s5, s6, s7, s8, s9⟩, s10, s11, s12⟩ := hSw; go_simp; try (with_reducible rfl)
  simp only [Act.put, List.setIfInBounds_toArray, List.set_cons_zero, List.set_cons_succ]
  refine wpAnyH_take (i := 4) (oi := { dst := some 14, op := Op.move (Operand.tmp 13), type := 4, pos := "l05_node.go:160", after := #[{ on := 3, ground := Ground.data }, { on := 2, ground := Ground.chain }], guard := none }) (v := ?r3_v4) rfl (by kernel_rfl) (by kernel_rfl) (by kernel_rfl) (fun _ _ _ h => h) (Or.inl ⟨by rfl, ?r3_hy4⟩) (by assumption) ?r3_rest4
  case r3_hy4 => intro w hSw; obtain ⟨⟨s0, s1, s2, s3, s4, s5, s6, s7, s8, s9⟩, s10, s11, s12⟩ := hSw; go_simp; try (with_reducible rfl)
  simp only [Act.put, List.setIfInBounds_toArray, List.set_cons_zero, List.set_cons_succ]
  refine wpAnyH_take (i := 5) (oi := { dst := some 15, op := Op.load 3 (Operand.tmp 6), type := 3, pos := "l05_node.go:160", after := #[{ on := 4, ground := Ground.guard }], guard := some (4, false) }) (v := ?r3_v5) rfl (by kernel_rfl) (by kernel_rfl) (by kernel_rfl) (fun _ _ _ h => h) (Or.inl ⟨by rfl, ?r3_hy5⟩) (by assumption) ?r3_rest5
  case r3_hy5 => intro w hSw; obtain ⟨⟨s0, s1, s2, s3, s4, s5, s6, s7, s8, s9⟩, s10, s11, s12⟩ := hSw; go_simp; try (with_reducible rfl)
  simp only [Act.put, List.setIfInBounds_toArray, List.set_cons_zero, List.set_cons_succ]
  refine wpAnyH_ready (rs := [6]) (by kernel_rfl) (by simp) ?_
  refine AllReadyH.cons (o := { dst := some 16, op := Op.call { callee := Callee.value (Operand.func 25), args := #[Operand.tmp 15], argTypes := #[3] }, type := 4, pos := "l05_node.go:160", after := #[{ on := 5, ground := Ground.data }, { on := 4, ground := Ground.chain }, { on := 4, ground := Ground.guard }], guard := some (4, false) }) rfl (fun K2 hK2 => ?_) AllReadyH.nil
  go_simp
  refine (isPage_any pg _).mono ?_
  rintro e w2 ⟨rfl, h2⟩
  subst h2
  rw [H2.out]
  go_wp2_with fail
  refine hK2.out _ _ ?_ (fun hHeld2 => ?_)
  · exact ⟨KS2.out _ b1, KF.out _ b1⟩
  clear hK2 K2 hHeld
  have hHeld := hHeld2
  clear hHeld2
  try simp only [Act.put, List.setIfInBounds_toArray, List.set_cons_zero, List.set_cons_succ]
  refine wpAnyH_take (i := 7) (oi := { dst := some 17, op := Op.unOp UnOp.not 4 (Operand.tmp 16), type := 4, pos := "l05_node.go:160", after := #[{ on := 6, ground := Ground.data }, { on := 4, ground := Ground.guard }], guard := some (4, false) }) (v := ?r3_v7) rfl (by kernel_rfl) (by kernel_rfl) (by kernel_rfl) (fun _ _ _ h => h) (Or.inl ⟨by rfl, ?r3_hy7⟩) (by assumption) ?r3_rest7
  case r3_hy7 => intro w hSw; obtain ⟨⟨s0, s1, s2, s3, s4, s5, s6, s7, s8, s9⟩, s10, s11, s12⟩ := hSw; go_simp; try (with_reducible rfl)
  simp only [Act.put, List.setIfInBounds_toArray, List.set_cons_zero, List.set_cons_succ]
  refine wpAnyH_take (i := 8) (oi := { dst := some 18, op := Op.pick (Operand.tmp 14) (Operand.const (Value.bool true)) (Operand.tmp 17), type := 4, pos := "l05_node.go:160", after := #[{ on := 4, ground := Ground.data }, { on := 7, ground := Ground.data }], guard := none }) (v := ?r3_v8) rfl (by kernel_rfl) (by kernel_rfl) (by kernel_rfl) (fun _ _ _ h => h) (Or.inl ⟨by rfl, ?r3_hy8⟩) (by assumption) ?r3_rest8
  case r3_hy8 => intro w hSw; obtain ⟨⟨s0, s1, s2, s3, s4, s5, s6, s7, s8, s9⟩, s10, s11, s12⟩ := hSw; go_simp; try (with_reducible rfl)
  simp only [Act.put, List.setIfInBounds_toArray, List.set_cons_zero, List.set_cons_succ]
  refine wpAnyH_take (i := 9) (oi := { dst := some 19, op := Op.move (Operand.tmp 18), type := 4, pos := "l05_node.go:160", after := #[{ on := 8, ground := Ground.data }, { on := 6, ground := Ground.chain }], guard := none }) (v := ?r3_v9) rfl (by kernel_rfl) (by kernel_rfl) (by kernel_rfl) (fun _ _ _ h => h) (Or.inl ⟨by rfl, ?r3_hy9⟩) (by assumption) ?r3_rest9
  case r3_hy9 => intro w hSw; obtain ⟨⟨s0, s1, s2, s3, s4, s5, s6, s7, s8, s9⟩, s10, s11, s12⟩ := hSw; go_simp; try (with_reducible rfl)
  simp only [Act.put, List.setIfInBounds_toArray, List.set_cons_zero, List.set_cons_succ]
  refine wpAnyH_take (i := 10) (oi := { dst := some 20, op := Op.fieldAddr 34 (Operand.tmp 4) 1, type := 0, pos := "l05_node.go:160", after := #[{ on := 9, ground := Ground.guard }], guard := some (9, false) }) (v := ?r3_v10) rfl (by kernel_rfl) (by kernel_rfl) (by kernel_rfl) (fun _ _ _ h => h) (Or.inl ⟨by rfl, ?r3_hy10⟩) (by assumption) ?r3_rest10
  case r3_hy10 => intro w hSw; obtain ⟨⟨s0, s1, s2, s3, s4, s5, s6, s7, s8, s9⟩, s10, s11, s12⟩ := hSw; go_simp; try (with_reducible rfl)
  simp only [Act.put, List.setIfInBounds_toArray, List.set_cons_zero, List.set_cons_succ]
  refine wpAnyH_take (i := 11) (oi := { dst := some 21, op := Op.load 29 (Operand.tmp 20), type := 29, pos := "l05_node.go:160", after := #[{ on := 10, ground := Ground.data }, { on := 9, ground := Ground.guard }], guard := some (9, false) }) (v := ?r3_v11) rfl (by kernel_rfl) (by kernel_rfl) (by kernel_rfl) (fun _ _ _ h => h) (Or.inl ⟨by rfl, ?r3_hy11⟩) (by assumption) ?r3_rest11
  case r3_hy11 => intro w hSw; obtain ⟨⟨s0, s1, s2, s3, s4, s5, s6, s7, s8, s9⟩, s10, s11, s12⟩ := hSw; go_simp; try (with_reducible rfl)
  simp only [Act.put, List.setIfInBounds_toArray, List.set_cons_zero, List.set_cons_succ]
  refine wpAnyH_take (i := 12) (oi := { dst := some 22, op := Op.load 3 (Operand.tmp 6), type := 3, pos := "l05_node.go:160", after := #[{ on := 9, ground := Ground.guard }], guard := some (9, false) }) (v := ?r3_v12) rfl (by kernel_rfl) (by kernel_rfl) (by kernel_rfl) (fun _ _ _ h => h) (Or.inl ⟨by rfl, ?r3_hy12⟩) (by assumption) ?r3_rest12
  case r3_hy12 => intro w hSw; obtain ⟨⟨s0, s1, s2, s3, s4, s5, s6, s7, s8, s9⟩, s10, s11, s12⟩ := hSw; go_simp; try (with_reducible rfl)
  simp only [Act.put, List.setIfInBounds_toArray, List.set_cons_zero, List.set_cons_succ]
  refine wpAnyH_take (i := 13) (oi := { dst := some 23, op := Op.indexAddr 29 (Operand.tmp 21) (Operand.tmp 22), type := 0, pos := "l05_node.go:160", after := #[{ on := 11, ground := Ground.data }, { on := 12, ground := Ground.data }, { on := 9, ground := Ground.guard }], guard := some (9, false) }) (v := ?r3_v13) rfl (by kernel_rfl) (by kernel_rfl) (by kernel_rfl) (fun _ _ _ h => h) (Or.inl ⟨by rfl, ?r3_hy13⟩) (by assumption) ?r3_rest13
  case r3_hy13 => intro w hSw; obtain ⟨⟨s0, s1, s2, s3, s4, s5, s6, s7, s8, s9⟩, s10, s11, s12⟩ := hSw; go_simp; try (with_reducible rfl)
  simp only [Act.put, List.setIfInBounds_toArray, List.set_cons_zero, List.set_cons_succ]
  refine wpAnyH_take (i := 14) (oi := { dst := some 24, op := Op.fieldAddr 50 (Operand.tmp 23) 2, type := 0, pos := "l05_node.go:160", after := #[{ on := 13, ground := Ground.data }, { on := 9, ground := Ground.guard }], guard := some (9, false) }) (v := ?r3_v14) rfl (by kernel_rfl) (by kernel_rfl) (by kernel_rfl) (fun _ _ _ h => h) (Or.inl ⟨by rfl, ?r3_hy14⟩) (by assumption) ?r3_rest14
  case r3_hy14 => intro w hSw; obtain ⟨⟨s0, s1, s2, s3, s4, s5, s6, s7, s8, s9⟩, s10, s11, s12⟩ := hSw; go_simp; try (with_reducible rfl)
  simp only [Act.put, List.setIfInBounds_toArray, List.set_cons_zero, List.set_cons_succ]
  refine wpAnyH_take (i := 15) (oi := { dst := some 25, op := Op.load 4 (Operand.tmp 24), type := 4, pos := "l05_node.go:160", after := #[{ on := 14, ground := Ground.data }, { on := 9, ground := Ground.guard }], guard := some (9, false) }) (v := ?r3_v15) rfl (by kernel_rfl) (by kernel_rfl) (by kernel_rfl) (fun _ _ _ h => h) (Or.inl ⟨by rfl, ?r3_hy15⟩) (by assumption) ?r3_rest15
  case r3_hy15 => intro w hSw; obtain ⟨⟨s0, s1, s2, s3, s4, s5, s6, s7, s8, s9⟩, s10, s11, s12⟩ := hSw; go_simp; try (with_reducible rfl)
  simp only [Act.put, List.setIfInBounds_toArray, List.set_cons_zero, List.set_cons_succ]
  refine wpAnyH_take (i := 16) (oi := { dst := some 26, op := Op.pick (Operand.tmp 19) (Operand.const (Value.bool true)) (Operand.tmp 25), type := 4, pos := "l05_node.go:160", after := #[{ on := 9, ground := Ground.data }, { on := 15, ground := Ground.data }], guard := none }) (v := ?r3_v16) rfl (by kernel_rfl) (by kernel_rfl) (by kernel_rfl) (fun _ _ _ h => h) (Or.inl ⟨by rfl, ?r3_hy16⟩) (by assumption) ?r3_rest16
  case r3_hy16 => intro w hSw; obtain ⟨⟨s0, s1, s2, s3, s4, s5, s6, s7, s8, s9⟩, s10, s11, s12⟩ := hSw; go_simp; try (with_reducible rfl)
  simp only [Act.put, List.setIfInBounds_toArray, List.set_cons_zero, List.set_cons_succ]
  refine wpAnyH_take (i := 17) (oi := { dst := some 27, op := Op.move (Operand.tmp 26), type := 4, pos := "l05_node.go:160", after := #[{ on := 16, ground := Ground.data }, { on := 9, ground := Ground.chain }], guard := none }) (v := ?r3_v17) rfl (by kernel_rfl) (by kernel_rfl) (by kernel_rfl) (fun _ _ _ h => h) (Or.inl ⟨by rfl, ?r3_hy17⟩) (by assumption) ?r3_rest17
  case r3_hy17 => intro w hSw; obtain ⟨⟨s0, s1, s2, s3, s4, s5, s6, s7, s8, s9⟩, s10, s11, s12⟩ := hSw; go_simp; try (with_reducible rfl)
  simp only [Act.put, List.setIfInBounds_toArray, List.set_cons_zero, List.set_cons_succ]
  refine wpAnyH_take (i := 18) (oi := { dst := some 28, op := Op.fieldAddr 34 (Operand.tmp 4) 1, type := 0, pos := "l05_node.go:160", after := #[{ on := 17, ground := Ground.guard }], guard := some (17, false) }) (v := ?r3_v18) rfl (by kernel_rfl) (by kernel_rfl) (by kernel_rfl) (fun _ _ _ h => h) (Or.inl ⟨by rfl, ?r3_hy18⟩) (by assumption) ?r3_rest18
  case r3_hy18 => intro w hSw; obtain ⟨⟨s0, s1, s2, s3, s4, s5, s6, s7, s8, s9⟩, s10, s11, s12⟩ := hSw; go_simp; try (with_reducible rfl)
  simp only [Act.put, List.setIfInBounds_toArray, List.set_cons_zero, List.set_cons_succ]
  refine wpAnyH_take (i := 19) (oi := { dst := some 29, op := Op.load 29 (Operand.tmp 28), type := 29, pos := "l05_node.go:160", after := #[{ on := 18, ground := Ground.data }, { on := 17, ground := Ground.guard }], guard := some (17, false) }) (v := ?r3_v19) rfl (by kernel_rfl) (by kernel_rfl) (by kernel_rfl) (fun _ _ _ h => h) (Or.inl ⟨by rfl, ?r3_hy19⟩) (by assumption) ?r3_rest19
  case r3_hy19 => intro w hSw; obtain ⟨⟨s0, s1, s2, s3, s4, s5, s6, s7, s8, s9⟩, s10, s11, s12⟩ := hSw; go_simp; try (with_reducible rfl)
  simp only [Act.put, List.setIfInBounds_toArray, List.set_cons_zero, List.set_cons_succ]
  refine wpAnyH_take (i := 20) (oi := { dst := some 30, op := Op.load 3 (Operand.tmp 6), type := 3, pos := "l05_node.go:160", after := #[{ on := 17, ground := Ground.guard }], guard := some (17, false) }) (v := ?r3_v20) rfl (by kernel_rfl) (by kernel_rfl) (by kernel_rfl) (fun _ _ _ h => h) (Or.inl ⟨by rfl, ?r3_hy20⟩) (by assumption) ?r3_rest20
  case r3_hy20 => intro w hSw; obtain ⟨⟨s0, s1, s2, s3, s4, s5, s6, s7, s8, s9⟩, s10, s11, s12⟩ := hSw; go_simp; try (with_reducible rfl)
  simp only [Act.put, List.setIfInBounds_toArray, List.set_cons_zero, List.set_cons_succ]
  refine wpAnyH_take (i := 21) (oi := { dst := some 31, op := Op.indexAddr 29 (Operand.tmp 29) (Operand.tmp 30), type := 0, pos := "l05_node.go:160", after := #[{ on := 19, ground := Ground.data }, { on := 20, ground := Ground.data }, { on := 17, ground := Ground.guard }], guard := some (17, false) }) (v := ?r3_v21) rfl (by kernel_rfl) (by kernel_rfl) (by kernel_rfl) (fun _ _ _ h => h) (Or.inl ⟨by rfl, ?r3_hy21⟩) (by assumption) ?r3_rest21
  case r3_hy21 => intro w hSw; obtain ⟨⟨s0, s1, s2, s3, s4, s5, s6, s7, s8, s9⟩, s10, s11, s12⟩ := hSw; go_simp; try (with_reducible rfl)
  simp only [Act.put, List.setIfInBounds_toArray, List.set_cons_zero, List.set_cons_succ]
  refine wpAnyH_take (i := 22) (oi := { dst := some 32, op := Op.load 50 (Operand.tmp 31), type := 50, pos := "l05_node.go:160", after := #[{ on := 21, ground := Ground.data }, { on := 17, ground := Ground.guard }], guard := some (17, false) }) (v := ?r3_v22) rfl (by kernel_rfl) (by kernel_rfl) (by kernel_rfl) (fun _ _ _ h => h) (Or.inl ⟨by rfl, ?r3_hy22⟩) (by assumption) ?r3_rest22
  case r3_hy22 => intro w hSw; obtain ⟨⟨s0, s1, s2, s3, s4, s5, s6, s7, s8, s9⟩, s10, s11, s12⟩ := hSw; go_simp; try (with_reducible rfl)
  simp only [Act.put, List.setIfInBounds_toArray, List.set_cons_zero, List.set_cons_succ]
  refine wpAnyH_take (i := 23) (oi := { dst := some 33, op := Op.load 4 (Operand.tmp 7), type := 4, pos := "l05_node.go:160", after := #[{ on := 17, ground := Ground.guard }], guard := some (17, false) }) (v := ?r3_v23) rfl (by kernel_rfl) (by kernel_rfl) (by kernel_rfl) (fun _ _ _ h => h) (Or.inl ⟨by rfl, ?r3_hy23⟩) (by assumption) ?r3_rest23
  case r3_hy23 => intro w hSw; obtain ⟨⟨s0, s1, s2, s3, s4, s5, s6, s7, s8, s9⟩, s10, s11, s12⟩ := hSw; go_simp; try (with_reducible rfl)
  simp only [Act.put, List.setIfInBounds_toArray, List.set_cons_zero, List.set_cons_succ]
  refine wpAnyH_ready (rs := [24]) (by kernel_rfl) (by simp) ?_
  refine AllReadyH.cons (o := { dst := some 34, op := Op.call { callee := Callee.value (Operand.func 26), args := #[Operand.tmp 32, Operand.tmp 33], argTypes := #[50, 4] }, type := 4, pos := "l05_node.go:160", after := #[{ on := 22, ground := Ground.data }, { on := 23, ground := Ground.data }, { on := 17, ground := Ground.chain }, { on := 17, ground := Ground.guard }], guard := some (17, false) }) rfl (fun K2 hK2 => ?_) AllReadyH.nil
  go_simp
  refine (lacks_any (d.f pg).s (.slice (p.fp pg).1 (d.f pg).xs.length (p.fp pg).2) false own _).mono ?_
  rintro e w3 ⟨rfl, b3⟩
  replace b1 := bel_trans b1 b3
  rw [H4.out]
  go_wp2_with fail
  refine hK2.out _ _ ?_ (fun hHeld2 => ?_)
  · exact ⟨KS2.out _ b1, KF.out _ b1⟩
  clear hK2 K2 hHeld
  have hHeld := hHeld2
  clear hHeld2
  try simp only [Act.put, List.setIfInBounds_toArray, List.set_cons_zero, List.set_cons_succ]
  refine wpAnyH_take (i := 25) (oi := { dst := some 35, op := Op.unOp UnOp.not 4 (Operand.tmp 34), type := 4, pos := "l05_node.go:160", after := #[{ on := 24, ground := Ground.data }, { on := 17, ground := Ground.guard }], guard := some (17, false) }) (v := ?r3_v25) rfl (by kernel_rfl) (by kernel_rfl) (by kernel_rfl) (fun _ _ _ h => h) (Or.inl ⟨by rfl, ?r3_hy25⟩) (by assumption) ?r3_rest25
  case r3_hy25 => intro w hSw; obtain ⟨⟨s0, s1, s2, s3, s4, s5, s6, s7, s8, s9⟩, s10, s11, s12⟩ := hSw; go_simp; try (with_reducible rfl)
  simp only [Act.put, List.setIfInBounds_toArray, List.set_cons_zero, List.set_cons_succ]
  refine wpAnyH_take (i := 26) (oi := { dst := some 36, op := Op.pick (Operand.tmp 27) (Operand.const (Value.bool true)) (Operand.tmp 35), type := 4, pos := "l05_node.go:160", after := #[{ on := 17, ground := Ground.data }, { on := 25, ground := Ground.data }], guard := none }) (v := ?r3_v26) rfl (by kernel_rfl) (by kernel_rfl) (by kernel_rfl) (fun _ _ _ h => h) (Or.inl ⟨by rfl, ?r3_hy26⟩) (by assumption) ?r3_rest26
  case r3_hy26 => intro w hSw; obtain ⟨⟨s0, s1, s2, s3, s4, s5, s6, s7, s8, s9⟩, s10, s11, s12⟩ := hSw; go_simp; try (with_reducible rfl)
  simp only [Act.put, List.setIfInBounds_toArray, List.set_cons_zero, List.set_cons_succ]
  refine wpAnyH_done (by kernel_rfl) ?_ _
  clear hHeld
  obtain ⟨XN, XP, XO, XR⟩ := HX.out
  replace XN := XN.below b1
  replace XR := XR.below b1
  replace XP := XP.below b1
  replace XO := XO.below b1
  have B1 := bel_trans HB.out b1
  obtain ⟨n0, n1, n2, n3, n4, nz⟩ := XN.at5
  have hmf : ∀ (fn : Fn) (first cap : Array Value) (w : World), (Instr.makeFunc fn first cap).run Tryz.prog w = .ok (.func fn first cap) w := fun _ _ _ _ => rfl
  clear XN HX
  go_wp2_with fail
  refine (doneAt_any pg own (w.heap.size + 1) (w.heap.size + 1 + 1) d p _ hd (HR.out.below B1) h2 HCC.out.1 HCC.out.2 XP XO).mono ?_
  rintro e w9 hD
  obtain ⟨q, rfl, N9, L9, b9⟩ := hD.out
  replace XR := XR.below b9
  have B9 := bel_trans B1 b9
  have hz : w.heap.size + 1 + 1 + 1 < w3.heap.size := by
    have h := HX3.out.lt
    have := b1.size
    omega
  obtain ⟨D, hD'⟩ : ∃ D, (if askQ d pg own then askD d pg own else d) = D := ⟨_, rfl⟩
  rw [hD'] at N9 L9 ⊢
  have HDE : Hid (wantD d nodes pg own = D ∧ wantB d nodes pg own = askQ d pg own) := by
    have hb : wantB d nodes pg own = askQ d pg own := by unfold wantB; rw [HYES.out]; simp
    refine ⟨?_, hb⟩
    unfold wantD
    rw [hb]
    exact hD'
  obtain ⟨aq, haq⟩ : ∃ aq, askQ d pg own = aq := ⟨_, rfl⟩
  rw [haq] at HDE ⊢
  clear hD' hD haq
  obtain ⟨y0, y1, y2, y3, y4, yz⟩ := XR.at5
  have f0 := XR.frozen 0
  have f1 := XR.frozen 1
  have f2 := XR.frozen 2
  have f3 := XR.frozen 3
  have f4 := XR.frozen 4
  have HF : Hid (WantP d nodes pg own w (.returned (.tuple #[.agg #[.int .i64 D.id, .slice q.f.1 D.nf q.f.2, .slice q.h.1 D.nh q.h.2, .slice q.o.1 D.no q.o.2, .slice q.i.1 D.ni q.i.2], .bool aq])) (((((w9.setCell ⟨w.heap.size + 1 + 1 + 1, 0, none⟩ (.int .i64 D.id)).setCell ⟨w.heap.size + 1 + 1 + 1, 1, none⟩ (.slice q.f.1 D.nf q.f.2)).setCell ⟨w.heap.size + 1 + 1 + 1, 2, none⟩ (.slice q.h.1 D.nh q.h.2)).setCell ⟨w.heap.size + 1 + 1 + 1, 3, none⟩ (.slice q.o.1 D.no q.o.2)).setCell ⟨w.heap.size + 1 + 1 + 1, 4, none⟩ (.slice q.i.1 D.ni q.i.2))) := by
    have on : Only w9 (((((w9.setCell ⟨w.heap.size + 1 + 1 + 1, 0, none⟩ (.int .i64 D.id)).setCell ⟨w.heap.size + 1 + 1 + 1, 1, none⟩ (.slice q.f.1 D.nf q.f.2)).setCell ⟨w.heap.size + 1 + 1 + 1, 2, none⟩ (.slice q.h.1 D.nh q.h.2)).setCell ⟨w.heap.size + 1 + 1 + 1, 3, none⟩ (.slice q.o.1 D.no q.o.2)).setCell ⟨w.heap.size + 1 + 1 + 1, 4, none⟩ (.slice q.i.1 D.ni q.i.2)) (fun b => b = w.heap.size + 1 + 1 + 1) := (((((Only.refl w9 (fun b => b = w.heap.size + 1 + 1 + 1)).setCell ⟨w.heap.size + 1 + 1 + 1, 0, none⟩ _ rfl).setCell ⟨w.heap.size + 1 + 1 + 1, 1, none⟩ _ rfl).setCell ⟨w.heap.size + 1 + 1 + 1, 2, none⟩ _ rfl).setCell ⟨w.heap.size + 1 + 1 + 1, 3, none⟩ _ rfl).setCell ⟨w.heap.size + 1 + 1 + 1, 4, none⟩ _ rfl
    refine ⟨q, ?_, ?_, ?_, ?_⟩
    · rw [HDE.out.1, HDE.out.2]
    · rw [HDE.out.1]; exact N9.sm (on.sm (fun b hb e => by have := L9 b hb; omega))
    · rw [HDE.out.1]; exact fun b hb => by have := L9 b hb; omega
    · exact lit_bel5 B9 (by omega)
  clear XR N9 L9 b9 B9 B1 b1 b3 n0 n1 n2 n3 n4 nz HR XP XO HDE
  go_wp2
  refine bodyPost_ret (v := .tuple #[.agg #[.int .i64 D.id, .slice q.f.1 D.nf q.f.2, .slice q.h.1 D.nh q.h.2, .slice q.o.1 D.no q.o.2, .slice q.i.1 D.ni q.i.2], .bool aq]) (by simp [results, Tryz.results7, go_sem, y0, y1, y2, y3, y4]) rfl HF.out

theorem implWant_any (d : ND) (p : NP) (nodes page : Int) (own : Bool) (w : World) (hd : Nsm d) (hR : NR w d p) :
    Calls Tryz.prog 7 #[.agg (ncells d p), .int .i64 nodes, .int .i64 page, .bool own] w fun e w' => WantP d nodes page own w e w' := by
  cases h1 : nodeOkB d nodes
  · exact want_no1 d p nodes page own w hd hR h1 (by unfold wOk; rw [h1]; rfl)
  · cases h2 : inB page 0 5
    · exact want_no2 d p nodes page own w hd hR h1 h2 (by unfold wOk; rw [h1, h2]; rfl)
    · simp [inB] at h2
      obtain ⟨pg, rfl⟩ : ∃ pg : Nat, page = pg := ⟨page.toNat, by omega⟩
      have h2' : pg ≤ 5 := by omega
      have hin : inB (pg : Int) 0 5 = true := by simp [inB]; omega
      cases h3 : (d.f pg).q
      · cases h4 : lackB (d.f pg).s own
        · exact want_no4 d p nodes pg own w hd hR h1 h2' h3 h4 (by simp [wOk, h4])
        · exact want_yes d p nodes pg own w hd hR h1 h2' h3 h4 (by simp [wOk, h1, hin, h3, h4])
      · exact want_no3 d p nodes pg own w hd hR h1 h2' h3 (by simp [wOk, h3])
end Go.Proofs.YtcneocbadobcfaaGreat
