/- What the specification's l5Copy does: a node that is owned. -/
import Derived.Test.YtcneocbadobcfaaGreatWtV
import Derived.Test.YtcneocbadobcfaaGreatWtO
import Derived.Test.YtcneocbadobcfaaGreatSpecQ3
namespace Go.Proofs.YtcneocbadobcfaaGreat
open Go.RowKit
set_option linter.unusedVariables false

/-- What a copy of a node answers. -/
structure CopyP (d : ND) (w : World) (e : Ending) (w' : World) : Prop where
  out : ∃ p', e = .returned (.agg (ncells d p')) ∧ NOw w' d p' ∧ (∀ b, NBs d p' b → w.heap.size ≤ b) ∧ Below w.heap.size w w'

/-- The copy at work: what it reads, where it answers, what it has, its receivers. -/
structure LC (w W : World) (pc : Array Value) (bo : Nat) (cs : Array Value) (ai : Option Addr) (ci ni : Nat) (g : Nat → Int) : Prop where
  xp : Box W w.heap.size pc 34
  xr : Box W (w.heap.size + 1) #[.int .i64 0, .slice none 0 0, .slice none 0 0, .slice none 0 0, .slice none 0 0] 34
  xo : Box W bo cs 34
  gi : GO W ai ci ni g
  gl : ∀ b, blk (ai, ci) = some b → w.heap.size + 2 ≤ b ∧ b ≠ bo
  hb : w.heap.size + 2 ≤ bo
  B : Below w.heap.size w W

theorem LC.below {w W W' : World} {pc cs : Array Value} {bo ci ni : Nat} {ai : Option Addr} {g : Nat → Int} (h : LC w W pc bo cs ai ci ni g) (b : Below W.heap.size W W') : LC w W' pc bo cs ai ci ni g :=
  ⟨h.xp.below b, h.xr.below b, h.xo.below b, h.gi.sm (P := fun x => blk (ai, ci) = some x) (sm_bel b) (fun x hx => hx), h.gl, h.hb, bel_trans h.B b⟩
theorem LC.only {w W W' : World} {pc cs : Array Value} {bo ci ni : Nat} {ai : Option Addr} {g : Nat → Int} {S : Nat → Prop} (h : LC w W pc bo cs ai ci ni g) (on : Only W W' S) (hs : ∀ b, S b → w.heap.size + 2 ≤ b ∧ b ≠ bo ∧ blk (ai, ci) ≠ some b) : LC w W' pc bo cs ai ci ni g :=
  ⟨h.xp.only on (fun hx => by have := (hs _ hx).1; omega), h.xr.only on (fun hx => by have := (hs _ hx).1; omega), h.xo.only on (fun hx => (hs _ hx).2.1 rfl), h.gi.sm (P := fun x => blk (ai, ci) = some x) (on.sm (fun b hb hx => (hs b hx).2.2 hb)) (fun x hx => hx), h.gl, h.hb,
    h.B.trans ⟨on.os, on.tape, on.output, on.size, fun i hi => on.block i (by have := h.B.size; omega) (fun hx => by have := (hs i hx).1; omega)⟩⟩
theorem LC.put {w W W' : World} {pc cs cs' : Array Value} {bo ci ni : Nat} {ai : Option Addr} {g : Nat → Int} (h : LC w W pc bo cs ai ci ni g) (on : Only W W' (fun b => b = bo)) (x : Box W' bo cs' 34) : LC w W' pc bo cs' ai ci ni g :=
  ⟨h.xp.only on (fun hx => by have := h.hb; omega), h.xr.only on (fun hx => by have := h.hb; omega), x, h.gi.sm (P := fun x => blk (ai, ci) = some x) (on.sm (fun b hb hx => (h.gl b hb).2 hx)) (fun x hx => hx), h.gl, h.hb,
    h.B.trans ⟨on.os, on.tape, on.output, on.size, fun i hi => on.block i (by have := h.B.size; omega) (fun hx => by have := h.hb; omega)⟩⟩

theorem rw_nil (w : World) (e s : Nat) (f : Nat → List Value) (Q : Nat → Nat → Prop) (E : Nat → World → Prop) : Rw w e s none 0 0 0 f Q E :=
  ⟨World.ownsRow_nil _ _ _ _, fun i hi => absurd hi (Nat.not_lt_zero i), fun i hi => absurd hi (Nat.not_lt_zero i), fun i hi => absurd hi (Nat.not_lt_zero i), fun i k hi => absurd hi (Nat.not_lt_zero i), fun i hi => absurd hi (Nat.not_lt_zero i)⟩

set_option maxRecDepth 100000 in
set_option maxHeartbeats 16000000 in
theorem l5Copy_raw (d : ND) (af ah ao ai0 : Option Addr) (cf ch co ci0 : Nat) (fp : Nat → Pl) (hp : Nat → HP) (op : Nat → Pl) (ms : Nat → List M) (w : World) (hd : Nsm d) (hR : NR w d ⟨(af, cf), fp, (ah, ch), hp, (ao, co), op, ms, (ai0, ci0)⟩) :
    Calls Tryz.prog 15 #[.agg #[.int .i64 d.id, .slice af d.nf cf, .slice ah d.nh ch, .slice ao d.no co, .slice ai0 d.ni ci0]] w fun e w' => CopyP d w e w' := by
  obtain ⟨i4, hi4, hz40, hz41, hz42⟩ := info_parts info_receiver2
  obtain ⟨i1, hi1, hz10, hz11, hz12⟩ := info_parts info_frame2
  obtain ⟨i2, hi2, hz20, hz21, hz22⟩ := info_parts info_home2
  obtain ⟨i3, hi3, hz30, hz31, hz32⟩ := info_parts info_sender2
  have hRf : FR w af d.nf d.f fp := hR.f
  have hRh : HR2 w ah d.nh d.h hp := hR.h
  have hRo : SR w ao d.no d.b d.y op ms := hR.o
  have hRi : GR w ai0 d.ni d.g := hR.i
  have HM : Hid (∀ i, i < d.no → ∀ m ∈ ms i, m.xs.length ≤ 1048577) := hR.msm hd
  have HD : Hid (Nsm d) := hd
  have n1 : d.nf ≤ 1048576 := hd.f.1
  have n2 : d.nh ≤ 1048576 := hd.h.1
  have n3 : d.no ≤ 1048576 := hd.o.1
  have n4 : d.ni ≤ 1048576 := hd.i
  have HRf : Hid (FR w af d.nf d.f fp) := hRf
  have HRh : Hid (HR2 w ah d.nh d.h hp) := hRh
  have HRo : Hid (SR w ao d.no d.b d.y op ms) := hRo
  have B := bel_alloc (bel_alloc (Below.refl w.heap.size w) (.cells #[.int .i64 d.id, .slice af d.nf cf, .slice ah d.nh ch, .slice ao d.no co, .slice ai0 d.ni ci0] 34)) (.cells #[.int .i64 0, .slice none 0 0, .slice none 0 0, .slice none 0 0, .slice none 0 0] 34)
  obtain ⟨XP, XR⟩ := Box.two w #[.int .i64 d.id, .slice af d.nf cf, .slice ah d.nh ch, .slice ao d.no co, .slice ai0 d.ni ci0] #[.int .i64 0, .slice none 0 0, .slice none 0 0, .slice none 0 0, .slice none 0 0] 34 34
  obtain ⟨W0, hW0⟩ : ∃ W0, (w.alloc (.cells #[.int .i64 d.id, .slice af d.nf cf, .slice ah d.nh ch, .slice ao d.no co, .slice ai0 d.ni ci0] 34)).alloc (.cells #[.int .i64 0, .slice none 0 0, .slice none 0 0, .slice none 0 0, .slice none 0 0] 34) = W0 := ⟨_, rfl⟩
  have HWE : Hid ((w.alloc (.cells #[.int .i64 d.id, .slice af d.nf cf, .slice ah d.nh ch, .slice ao d.no co, .slice ai0 d.ni ci0] 34)).alloc (.cells #[.int .i64 0, .slice none 0 0, .slice none 0 0, .slice none 0 0, .slice none 0 0] 34) = W0) := hW0
  have HZ0 : Hid (W0.heap.size = w.heap.size + 2) := by show _ = _; rw [← hW0]; simp
  rw [hW0] at B XP XR
  have KS : Hid (∀ w', Below W0.heap.size W0 w' → w'.cell? ⟨w.heap.size, 0, none⟩ = some (.int .i64 d.id) ∧ w'.cell? ⟨w.heap.size, 4, none⟩ = some (.slice ai0 d.ni ci0) ∧ w.heap.size < w'.heap.size) := fun w' b => ⟨(XP.below b).cell 0, (XP.below b).cell 4, (XP.below b).lt⟩
  have HXP : Hid (Box W0 w.heap.size #[.int .i64 d.id, .slice af d.nf cf, .slice ah d.nh ch, .slice ao d.no co, .slice ai0 d.ni ci0] 34 ∧ Box W0 (w.heap.size + 1) #[.int .i64 0, .slice none 0 0, .slice none 0 0, .slice none 0 0, .slice none 0 0] 34 ∧ Below w.heap.size w W0) := ⟨XP, XR, B⟩
  have HRi : Hid (∀ W, Below W0.heap.size W0 W → VRow W ai0 (chunks d.ni fun i => gcells (d.g i))) := fun W b => (hRi.2.below B).below b
  clear hR hRf hRh hRo hRi hd B XP XR hW0
  go_enter Tryz.func15, Tryz.ntmps15
  go_wp2_with fail
  rw [HWE.out]
  rename_i Qx Kx hKx
  have REST : Hid (∀ (W : World) (bo : Nat) (ai : Option Addr) (ci : Nat) (v7 v8 v9 v10 v11 v12 v13 : Value), LC w W #[.int .i64 d.id, .slice af d.nf cf, .slice ah d.nh ch, .slice ao d.no co, .slice ai0 d.ni ci0] bo #[.int .i64 d.id, .slice none 0 0, .slice none 0 0, .slice none 0 0, .slice ai d.ni ci] ai ci d.ni d.g → Kx ⟨#[.agg #[.int .i64 d.id, .slice af d.nf cf, .slice ah d.nh ch, .slice ao d.no co, .slice ai0 d.ni ci0], .pointer (some ⟨w.heap.size, 0, none⟩), .pointer (some ⟨w.heap.size + 1, 0, none⟩), .pointer (some ⟨bo, 0, none⟩), undef, undef, undef, v7, v8, v9, v10, v11, v12, v13, undef, undef, undef, undef, undef, undef, undef, undef, undef, undef, undef, undef, undef, undef, undef, undef, undef, undef, undef, undef, undef, undef, undef, undef, undef, undef, undef, undef, undef, undef, undef, undef, undef, undef, undef, undef, undef, undef, undef, undef, undef, undef, undef, undef, undef, undef, undef, undef, undef, undef, undef, undef, undef, undef, undef], []⟩ W) := by
    intro W bo ai ci v7 v8 v9 v10 v11 v12 v13 hLC
    refine hKx _ _ ?_
    have HLC : Hid (LC w W #[.int .i64 d.id, .slice af d.nf cf, .slice ah d.nh ch, .slice ao d.no co, .slice ai0 d.ni ci0] bo #[.int .i64 d.id, .slice none 0 0, .slice none 0 0, .slice none 0 0, .slice ai d.ni ci] ai ci d.ni d.g) := hLC
    clear hLC
    obtain ⟨lo1, hlo1⟩ : ∃ l, W.heap.size = l := ⟨_, rfl⟩
    have HLO1 : Hid (W.heap.size = lo1) := hlo1
    clear hlo1
    have HLW1 : Hid (w.heap.size + 2 ≤ bo ∧ bo < lo1) := ⟨HLC.out.hb, by have := HLC.out.xo.lt; have := HLO1.out; omega⟩
    have HLG1 : Hid (∀ x, blk (ai, ci) = some x → x < lo1) := fun x hx => by have := GO.lt HLC.out.gi hx; have := HLO1.out; omega
    have HXo0 := HLC.out.xp.cell 1
    have hxz0 := HLC.out.xp.lt
    go_wp2_with fail
    go_loopw [4] (fun i wr => ∃ k : Nat, k ≤ d.nf ∧ i = .int .i64 k ∧ ∃ (ra1 : Option Addr) (rc1 : Nat) (rp1 : Nat → Pl), LC w wr #[.int .i64 d.id, .slice af d.nf cf, .slice ah d.nh ch, .slice ao d.no co, .slice ai0 d.ni ci0] bo #[.int .i64 d.id, .slice ra1 k rc1, .slice none 0 0, .slice none 0 0, .slice ai d.ni ci] ai ci d.ni d.g ∧ Rw wr 50 3 ra1 rc1 k k (fun i => fcells (d.f i) (rp1 i)) (fun i => QF (rp1 i)) (fun i => EF (d.f i) (rp1 i)) ∧ (∀ b, RS ra1 rc1 k (fun i => QF (rp1 i)) b → lo1 ≤ b) ∧ lo1 ≤ wr.heap.size) (fun i _ => d.nf - (intOf i).toNat)
    case atStart => exact ⟨0, Nat.zero_le _, rfl, none, 0, (fun _ => (none, 0)), HLC.out, rw_nil _ _ _ _ _ _, fun b hb => by rcases hb with hb | ⟨i, hi, _⟩; (simp [blk] at hb); omega, Nat.le_of_eq HLO1.out.symm⟩
    case round =>
      obtain ⟨k, hk, rfl, ra1, rc1, rp1, hC, hF, hlow, hlo⟩ := hrel
      clear HXo0 hxz0 HLC
      have x0 : wr.cell? ⟨w.heap.size, 1, none⟩ = some (.slice af d.nf cf) := hC.xp.cell 1
      have xz := hC.xp.lt
      by_cases hkn : k < d.nf
      · have hi' : (k : Int) < (d.nf : Int) := by omega
        have har := HRf.out.below hC.B
        have hbel := hC.B
        obtain ⟨b, off, rfl, y0, y1, y2⟩ := HRf.out.at hkn
        have hrow := har.2.2 k hkn
        have hlx : (d.f k).xs.length ≤ 1048577 := by have := HD.out.f.2 k hkn; omega
        have hb0 : b < w.heap.size := lt_of_cell y0
        replace y0 := (hbel.cell (p := ⟨b, off + k * 3, none⟩) hb0).trans y0
        replace y1 := (hbel.cell (p := ⟨b, off + k * 3 + 1, none⟩) hb0).trans y1
        replace y2 := (hbel.cell (p := ⟨b, off + k * 3 + 2, none⟩) hb0).trans y2
        have hbw : b < wr.heap.size := Nat.lt_of_lt_of_le hb0 hbel.size
        have ho0 : wr.cell? ⟨bo, 1, none⟩ = some (.slice ra1 k rc1) := hC.xo.cell 1
        have hoz := hC.xo.lt
        have KL : Hid (∀ w', Below wr.heap.size wr w' → w'.cell? ⟨w.heap.size, 1, none⟩ = some (.slice (some ⟨b, off, none⟩) d.nf cf) ∧ w'.cell? ⟨b, off + k * 3, none⟩ = some (.int .i64 (d.f k).s) ∧ w'.cell? ⟨b, off + k * 3 + 1, none⟩ = some (.slice (fp k).1 (d.f k).xs.length (fp k).2) ∧ w'.cell? ⟨b, off + k * 3 + 2, none⟩ = some (.bool (d.f k).q) ∧ bo < w'.heap.size ∧ w.heap.size < w'.heap.size) := fun w' bb => ⟨(bb.cell (p := ⟨w.heap.size, 1, none⟩) xz).trans x0, (bb.cell (p := ⟨b, off + k * 3, none⟩) hbw).trans y0, (bb.cell (p := ⟨b, off + k * 3 + 1, none⟩) hbw).trans y1, (bb.cell (p := ⟨b, off + k * 3 + 2, none⟩) hbw).trans y2, Nat.lt_of_lt_of_le hoz bb.size, Nat.lt_of_lt_of_le xz bb.size⟩
        go_wp2_with fail
        refine wp_region_held_drew (S := (fun w' => w'.cell? ⟨w.heap.size, 1, none⟩ = some (.slice (some ⟨b, off, none⟩) d.nf cf) ∧ w'.cell? ⟨b, off + k * 3, none⟩ = some (.int .i64 (d.f k).s) ∧ w'.cell? ⟨b, off + k * 3 + 1, none⟩ = some (.slice (fp k).1 (d.f k).xs.length (fp k).2) ∧ w'.cell? ⟨b, off + k * 3 + 2, none⟩ = some (.bool (d.f k).q) ∧ bo < w'.heap.size ∧ w.heap.size < w'.heap.size)) (by kernel_rfl) ?_ (fun hHeld => ?_)
        · exact KL.out _ (bel_drew (Below.refl _ _))
        refine wpAnyH_take (i := 0) (oi := { dst := some 21, op := Op.fieldAddr 34 (Operand.tmp 3) 1, type := 0, pos := "l05_node.go:36", after := #[], guard := none }) (v := ?r6_v0) rfl (by kernel_rfl) (by kernel_rfl) (by kernel_rfl) (fun _ _ _ h => h) (Or.inl ⟨by rfl, ?r6_hy0⟩) (by assumption) ?r6_rest0
        case r6_hy0 => intro w hSw; obtain ⟨s0, s1, s2, s3, s4, s5⟩ := hSw; go_simp; try (with_reducible rfl)
        simp only [Act.put, List.setIfInBounds_toArray, List.set_cons_zero, List.set_cons_succ]
        refine wpAnyH_take (i := 2) (oi := { dst := some 23, op := Op.fieldAddr 34 (Operand.tmp 1) 1, type := 0, pos := "l05_node.go:36", after := #[], guard := none }) (v := ?r6_v2) rfl (by kernel_rfl) (by kernel_rfl) (by kernel_rfl) (fun _ _ _ h => h) (Or.inl ⟨by rfl, ?r6_hy2⟩) (by assumption) ?r6_rest2
        case r6_hy2 => intro w hSw; obtain ⟨s0, s1, s2, s3, s4, s5⟩ := hSw; go_simp; try (with_reducible rfl)
        simp only [Act.put, List.setIfInBounds_toArray, List.set_cons_zero, List.set_cons_succ]
        refine wpAnyH_take (i := 3) (oi := { dst := some 24, op := Op.load 29 (Operand.tmp 23), type := 29, pos := "l05_node.go:36", after := #[{ on := 2, ground := Ground.data }], guard := none }) (v := ?r6_v3) rfl (by kernel_rfl) (by kernel_rfl) (by kernel_rfl) (fun _ _ _ h => h) (Or.inl ⟨by rfl, ?r6_hy3⟩) (by assumption) ?r6_rest3
        case r6_hy3 => intro w hSw; obtain ⟨s0, s1, s2, s3, s4, s5⟩ := hSw; go_simp; try (with_reducible rfl)
        simp only [Act.put, List.setIfInBounds_toArray, List.set_cons_zero, List.set_cons_succ]
        refine wpAnyH_take (i := 4) (oi := { dst := some 25, op := Op.move (Operand.tmp 4), type := 3, pos := "l05_node.go:36", after := #[], guard := none }) (v := ?r6_v4) rfl (by kernel_rfl) (by kernel_rfl) (by kernel_rfl) (fun _ _ _ h => h) (Or.inl ⟨by rfl, ?r6_hy4⟩) (by assumption) ?r6_rest4
        case r6_hy4 => intro w hSw; obtain ⟨s0, s1, s2, s3, s4, s5⟩ := hSw; go_simp; try (with_reducible rfl)
        simp only [Act.put, List.setIfInBounds_toArray, List.set_cons_zero, List.set_cons_succ]
        refine wpAnyH_take (i := 5) (oi := { dst := some 26, op := Op.indexAddr 29 (Operand.tmp 24) (Operand.tmp 25), type := 0, pos := "l05_node.go:36", after := #[{ on := 3, ground := Ground.data }, { on := 4, ground := Ground.data }], guard := none }) (v := ?r6_v5) rfl (by kernel_rfl) (by kernel_rfl) (by kernel_rfl) (fun _ _ _ h => h) (Or.inl ⟨by rfl, ?r6_hy5⟩) (by assumption) ?r6_rest5
        case r6_hy5 => intro w hSw; obtain ⟨s0, s1, s2, s3, s4, s5⟩ := hSw; go_simp; try (with_reducible rfl)
        simp only [Act.put, List.setIfInBounds_toArray, List.set_cons_zero, List.set_cons_succ]
        refine wpAnyH_take (i := 6) (oi := { dst := some 27, op := Op.load 50 (Operand.tmp 26), type := 50, pos := "l05_node.go:36", after := #[{ on := 5, ground := Ground.data }], guard := none }) (v := ?r6_v6) rfl (by kernel_rfl) (by kernel_rfl) (by kernel_rfl) (fun _ _ _ h => h) (Or.inl ⟨by rfl, ?r6_hy6⟩) (by assumption) ?r6_rest6
        case r6_hy6 => intro w hSw; obtain ⟨s0, s1, s2, s3, s4, s5⟩ := hSw; go_simp; try (with_reducible rfl)
        simp only [Act.put, List.setIfInBounds_toArray, List.set_cons_zero, List.set_cons_succ]
        refine wpAnyH_ready (rs := [1, 7]) (by kernel_rfl) (by simp) ?_
        refine AllReadyH.cons (o := { dst := some 22, op := Op.load 29 (Operand.tmp 21), type := 29, pos := "l05_node.go:36", after := #[{ on := 0, ground := Ground.data }], guard := none }) rfl (fun K2 hK2 => ?_) (AllReadyH.cons (o := { dst := some 28, op := Op.call { callee := Callee.value (Operand.func 46), args := #[Operand.tmp 27], argTypes := #[50] }, type := 50, pos := "l05_node.go:36", after := #[{ on := 6, ground := Ground.data }], guard := none }) rfl (fun K2 hK2 => ?_) AllReadyH.nil)
        · go_simp
          refine hK2.out _ _ ?_ (fun hHeld2 => ?_)
          · exact KL.out _ (bel_drew (Below.refl _ _))
          clear hK2 K2 hHeld
          have hHeld := hHeld2
          clear hHeld2
          try simp only [Act.put, List.setIfInBounds_toArray, List.set_cons_zero, List.set_cons_succ]
          refine wpAnyH_ready (rs := [7]) (by kernel_rfl) (by simp) ?_
          refine AllReadyH.cons (o := { dst := some 28, op := Op.call { callee := Callee.value (Operand.func 46), args := #[Operand.tmp 27], argTypes := #[50] }, type := 50, pos := "l05_node.go:36", after := #[{ on := 6, ground := Ground.data }], guard := none }) rfl (fun K2 hK2 => ?_) AllReadyH.nil
          go_simp
          refine (l3Copy_any (d.f k).s (d.f k).q (fp k).1 (fp k).2 (d.f k).xs _ hlx (hrow.below (bel_drew (Below.refl _ _)))).mono ?_
          rintro e w1 ⟨v2, rfl, o2, b1⟩
          replace b1 := bel_undrew b1
          obtain ⟨a2, c2, rfl⟩ := owns_slice o2
          replace o2 : w1.ownsRow wr.heap.size 3 1 (.slice a2 (d.f k).xs.length c2) (d.f k).xs.length ((d.f k).xs.map (Value.int .i64)) := o2
          go_wp2_with fail
          refine hK2.out _ _ ?_ (fun hHeld2 => ?_)
          · exact KL.out _ b1
          clear hK2 K2 hHeld
          have hHeld := hHeld2
          clear hHeld2
          try simp only [Act.put, List.setIfInBounds_toArray, List.set_cons_zero, List.set_cons_succ]
          refine wpAnyH_ready (rs := [8]) (by kernel_rfl) (by simp) ?_
          refine AllReadyH.cons (o := { dst := some 29, op := Op.buildSlice 29 1 #[(0, Operand.tmp 28)], type := 29, pos := "l05_node.go:36", after := #[{ on := 7, ground := Ground.data }], guard := none }) rfl (fun K2 hK2 => ?_) AllReadyH.nil
          go_simp
          refine hK2.out _ _ ?_ (fun hHeld2 => ?_)
          · exact KL.out _ (bel_alloc b1 _)
          clear hK2 K2 hHeld
          have hHeld := hHeld2
          clear hHeld2
          try simp only [Act.put, List.setIfInBounds_toArray, List.set_cons_zero, List.set_cons_succ]
          have XE := Box.new w1 #[.int .i64 (d.f k).s, .slice a2 (d.f k).xs.length c2, .bool (d.f k).q] 50
          have bE := bel_alloc (Below.refl w1.heap.size w1) (.cells #[.int .i64 (d.f k).s, .slice a2 (d.f k).xs.length c2, .bool (d.f k).q] 50)
          have b12 := bel_trans b1 bE
          have hr2 := owns_below hF.row b12
          refine wpAnyH_ready (rs := [9]) (by kernel_rfl) (by simp) ?_
          refine AllReadyH.cons (o := { dst := some 30, op := Op.call { callee := Callee.builtin Builtin.append, args := #[Operand.tmp 22, Operand.tmp 29], argTypes := #[29, 29] }, type := 29, pos := "l05_node.go:36", after := #[{ on := 1, ground := Ground.data }, { on := 8, ground := Ground.data }, { on := 7, ground := Ground.chain }], guard := none }) rfl (fun K2 hK2 => ?_) AllReadyH.nil
          refine step_append_lies _ rfl (.tmp 22) (.tmp 29) 29 rfl 0 50 i1 (.agg #[.int .i64 0, .slice none 0 0, .bool false]) 3 40 Tryz.underlying29 hi1 hz10 hz11 hz12 rfl (by decide) (.slice ra1 k rc1) k (chunks k (fun i => fcells (d.f i) (rp1 i))) (by rfl) hr2 ⟨w1.heap.size, 0, none⟩ 1 1 [.int .i64 (d.f k).s, .slice a2 (d.f k).xs.length c2, .bool (d.f k).q] (by rfl) (by rfl) (World.news_of_block XE) (by intro u hu; simp at hu; rcases hu with rfl | rfl | rfl <;> rfl) (by decide) (by unfold maxLen; omega) (by omega) (Nat.zero_le _) (w1.heap.size + 1) (by simp) ?_
          intro g cap w5 o5 g5 hg hgl
          have on5 : Only (w1.alloc (.cells #[.int .i64 (d.f k).s, .slice a2 (d.f k).xs.length c2, .bool (d.f k).q] 50)) w5 (fun x => (Value.slice ra1 k rc1).ownBlock = some x) := (Only.refl _ _).grown g5 (fun j hj => hj)
          have hSr : ∀ x, (Value.slice ra1 k rc1).ownBlock = some x → lo1 ≤ x ∧ x < wr.heap.size := fun x hx => ⟨hlow x (.inl (blk_eq hx)), (hF.row.lt x hx).2⟩
          have C2 := (hC.below b12).only on5 (fun x hx => ⟨by have := (hSr x hx).1; have := HLW1.out; omega, fun e => by have := (hSr x hx).1; have := HLW1.out; omega, fun e => by have := (hSr x hx).1; have := HLG1.out x e; omega⟩)
          have hsb : ∀ x, (Value.slice ra1 k rc1).ownBlock = some x → b ≠ x := fun x hx e => by have := (hSr x hx).1; have := HLW1.out; omega
          have k1 : w5.cell? ⟨w.heap.size, 1, none⟩ = some (.slice (some ⟨b, off, none⟩) d.nf cf) := C2.xp.cell 1
          have kk0 := (g5.cell_far ⟨b, off + k * 3, none⟩ (by have := b12.size; simp; simp at this; omega) (fun e => hsb b e.symm rfl)).trans ((b12.cell (p := ⟨b, off + k * 3, none⟩) hbw).trans y0)
          have kk1 := (g5.cell_far ⟨b, off + k * 3 + 1, none⟩ (by have := b12.size; simp; simp at this; omega) (fun e => hsb b e.symm rfl)).trans ((b12.cell (p := ⟨b, off + k * 3 + 1, none⟩) hbw).trans y1)
          have kk2 := (g5.cell_far ⟨b, off + k * 3 + 2, none⟩ (by have := b12.size; simp; simp at this; omega) (fun e => hsb b e.symm rfl)).trans ((b12.cell (p := ⟨b, off + k * 3 + 2, none⟩) hbw).trans y2)
          have kz := C2.xo.lt
          have kz2 := C2.xp.lt
          refine hK2.out _ _ ?_ (fun hHeld2 => ?_)
          · exact ⟨k1, kk0, kk1, kk2, kz, kz2⟩
          clear hK2 K2 hHeld
          have hHeld := hHeld2
          clear hHeld2
          try simp only [Act.put, List.setIfInBounds_toArray, List.set_cons_zero, List.set_cons_succ]
          refine wpAnyH_take (i := 10) (oi := { dst := some 31, op := Op.fieldAddr 34 (Operand.tmp 3) 1, type := 0, pos := "l05_node.go:36", after := #[{ on := 0, ground := Ground.phase }, { on := 1, ground := Ground.phase }, { on := 2, ground := Ground.phase }, { on := 3, ground := Ground.phase }, { on := 4, ground := Ground.phase }, { on := 5, ground := Ground.phase }, { on := 6, ground := Ground.phase }, { on := 7, ground := Ground.phase }, { on := 8, ground := Ground.phase }, { on := 9, ground := Ground.phase }], guard := none }) (v := ?r7_v10) rfl (by kernel_rfl) (by kernel_rfl) (by kernel_rfl) (fun _ _ _ h => h) (Or.inl ⟨by rfl, ?r7_hy10⟩) (by assumption) ?r7_rest10
          case r7_hy10 => intro w hSw; obtain ⟨s0, s1, s2, s3, s4, s5⟩ := hSw; go_simp; try (with_reducible rfl)
          simp only [Act.put, List.setIfInBounds_toArray, List.set_cons_zero, List.set_cons_succ]
          have of := C2.xo.frozen 1
          have k0 : w5.cell? ⟨bo, 1, none⟩ = some (.slice ra1 k rc1) := C2.xo.cell 1
          have on6 : Only w5 (w5.setCell ⟨bo, 1, none⟩ (.slice (some ⟨g, 0, none⟩) (k + 1) cap)) (fun x => x = bo) := (Only.refl w5 (fun x => x = bo)).setCell ⟨bo, 1, none⟩ _ rfl
          have xo6 : Box (w5.setCell ⟨bo, 1, none⟩ (.slice (some ⟨g, 0, none⟩) (k + 1) cap)) bo #[.int .i64 d.id, .slice (some ⟨g, 0, none⟩) (k + 1) cap, .slice none 0 0, .slice none 0 0, .slice ai d.ni ci] 34 := heap_setCell_same _ _ 1 _ _ _ C2.xo
          have C6 := C2.put on6 xo6
          have hQn : ∀ x, (QF (a2, c2)) x → wr.heap.size ≤ x ∧ x < w1.heap.size := fun x hx => o2.lt x (blk_own (p := (a2, c2)) hx)
          have o5' : w5.ownsRow 0 50 3 (.slice (some ⟨g, 0, none⟩) (k + 1) cap) (k + 1) (chunks k (fun i => fcells (d.f i) (rp1 i)) ++ fcells (d.f k) (a2, c2)) := o5
          have R5 := Rw.snoc hF b12 (cs := fcells (d.f k) (a2, c2)) (E' := EF (d.f k) (a2, c2)) (Q' := QF (a2, c2)) ((fix_f _ _ : Fix (QF (a2, c2)) (EF (d.f k) (a2, c2))) _ _ (sm_bel bE) (owns_base o2 (Nat.zero_le _))) (fix_f _ _) (fun x hx => by have h := hQn x hx; have := bE.size; omega) o5' g5 (hg.imp_right (fun e => by rw [e]; simp))
          have hol : ∀ x, RS (some ⟨g, 0, none⟩) cap (k + 1) (fun i => if i = k then QF (a2, c2) else (fun i => QF (rp1 i)) i) x → lo1 ≤ x := fun x hx => by
            rcases hx with hx | ⟨i, hi, hx⟩
            · simp [blk] at hx
              subst hx
              rcases hg with hg | hg
              · exact (hSr g hg).1
              · have := b1.size; omega
            · by_cases e : i = k
              · simp only [if_pos e] at hx
                have h := hQn x hx
                omega
              · simp only [if_neg e] at hx
                exact hlow x (.inr ⟨i, by omega, hx⟩)
          have R6 := Rw.sm R5 (on6.sm (fun x hx e => by have := hol x hx; have := HLW1.out; omega))
          have R7 : Hid (Rw (w5.setCell ⟨bo, 1, none⟩ (.slice (some ⟨g, 0, none⟩) (k + 1) cap)) 50 3 (some ⟨g, 0, none⟩) cap (k + 1) (k + 1) (fun i => fcells (d.f i) ((fun i => if i = k then (a2, c2) else rp1 i) i)) (fun i => QF ((fun i => if i = k then (a2, c2) else rp1 i) i)) (fun i => EF (d.f i) ((fun i => if i = k then (a2, c2) else rp1 i) i))) := R6.congr (fun i hi => by by_cases e : i = k; (subst e; simp); (simp [e])) (fun i hi => by by_cases e : i = k; (subst e; simp); (simp [e])) (fun i hi => by by_cases e : i = k; (subst e; simp); (simp [e]))
          have hol7 : Hid (∀ x, RS (some ⟨g, 0, none⟩) cap (k + 1) (fun i => QF ((fun i => if i = k then (a2, c2) else rp1 i) i)) x → lo1 ≤ x) := fun x hx => by
            apply hol x
            rcases hx with hx | ⟨i, hi, hx⟩
            · exact .inl hx
            · refine .inr ⟨i, hi, ?_⟩
              by_cases e : i = k
              · subst e; simpa using hx
              · simpa [e] using hx
          have HC6 : Hid _ := C6
          have hlo6 : Hid (lo1 ≤ (w5.setCell ⟨bo, 1, none⟩ (.slice (some ⟨g, 0, none⟩) (k + 1) cap)).heap.size) := by show _ ≤ _; have h1 := b12.size; have h2 := on5.size; have h3 := on6.size; omega
          have m1 : (w5.setCell ⟨bo, 1, none⟩ (.slice (some ⟨g, 0, none⟩) (k + 1) cap)).cell? ⟨w.heap.size, 1, none⟩ = some (.slice (some ⟨b, off, none⟩) d.nf cf) := C6.xp.cell 1
          have mz := C6.xo.lt
          have mz2 := C6.xp.lt
          have mm0 := (World.cell?_setCell_far w5 ⟨bo, 1, none⟩ ⟨b, off + k * 3, none⟩ (.slice (some ⟨g, 0, none⟩) (k + 1) cap) (by simp; have := HLW1.out; omega)).trans kk0
          have mm1 := (World.cell?_setCell_far w5 ⟨bo, 1, none⟩ ⟨b, off + k * 3 + 1, none⟩ (.slice (some ⟨g, 0, none⟩) (k + 1) cap) (by simp; have := HLW1.out; omega)).trans kk1
          have mm2 := (World.cell?_setCell_far w5 ⟨bo, 1, none⟩ ⟨b, off + k * 3 + 2, none⟩ (.slice (some ⟨g, 0, none⟩) (k + 1) cap) (by simp; have := HLW1.out; omega)).trans kk2
          refine wpAnyH_ready (rs := [11]) (by kernel_rfl) (by simp) ?_
          refine AllReadyH.cons (o := { dst := none, op := Op.store 29 (Operand.tmp 31) (Operand.tmp 30), type := 0, pos := "l05_node.go:36", after := #[{ on := 10, ground := Ground.data }, { on := 9, ground := Ground.data }, { on := 9, ground := Ground.chain }, { on := 0, ground := Ground.phase }, { on := 1, ground := Ground.phase }, { on := 2, ground := Ground.phase }, { on := 3, ground := Ground.phase }, { on := 4, ground := Ground.phase }, { on := 5, ground := Ground.phase }, { on := 6, ground := Ground.phase }, { on := 7, ground := Ground.phase }, { on := 8, ground := Ground.phase }, { on := 9, ground := Ground.phase }], guard := none }) rfl (fun K2 hK2 => ?_) AllReadyH.nil
          go_simp
          refine hK2.out _ _ ?_ (fun hHeld2 => ?_)
          · exact ⟨m1, mm0, mm1, mm2, mz, mz2⟩
          clear hK2 K2 hHeld
          have hHeld := hHeld2
          clear hHeld2
          try simp only [Act.put, List.setIfInBounds_toArray, List.set_cons_zero, List.set_cons_succ]
          refine wpAnyH_done (by kernel_rfl) ?_ _
          clear C6 C2 R5 R6 hol hQn o5 o5' g5 on5 on6 xo6 hHeld m1 mz mz2 k1 k0 of kz kz2 hr2 XE bE b12 b1 hSr hsb hF hC hlow mm0 kk0 y0 mm1 kk1 y1 mm2 kk2 y2 o2 hrow hlx har hbel ho0 x0 xz KL
          go_wp2
          go_roundw
          case rel => exact ⟨k + 1, by omega, by go_num, _, _, _, HC6.out, R7.out, hol7.out, hlo6.out⟩
          case measure => simp [intOf]; omega
        · go_simp
          refine (l3Copy_any (d.f k).s (d.f k).q (fp k).1 (fp k).2 (d.f k).xs _ hlx (hrow.below (bel_drew (Below.refl _ _)))).mono ?_
          rintro e w1 ⟨v2, rfl, o2, b1⟩
          replace b1 := bel_undrew b1
          obtain ⟨a2, c2, rfl⟩ := owns_slice o2
          replace o2 : w1.ownsRow wr.heap.size 3 1 (.slice a2 (d.f k).xs.length c2) (d.f k).xs.length ((d.f k).xs.map (Value.int .i64)) := o2
          go_wp2_with fail
          refine hK2.out _ _ ?_ (fun hHeld2 => ?_)
          · exact KL.out _ b1
          clear hK2 K2 hHeld
          have hHeld := hHeld2
          clear hHeld2
          try simp only [Act.put, List.setIfInBounds_toArray, List.set_cons_zero, List.set_cons_succ]
          have hob : w1.cell? ⟨bo, 1, none⟩ = some (.slice ra1 k rc1) := (hC.below b1).xo.cell 1
          have hobz := (hC.below b1).xo.lt
          refine wpAnyH_ready (rs := [1, 8]) (by kernel_rfl) (by simp) ?_
          refine AllReadyH.cons (o := { dst := some 22, op := Op.load 29 (Operand.tmp 21), type := 29, pos := "l05_node.go:36", after := #[{ on := 0, ground := Ground.data }], guard := none }) rfl (fun K2 hK2 => ?_) (AllReadyH.cons (o := { dst := some 29, op := Op.buildSlice 29 1 #[(0, Operand.tmp 28)], type := 29, pos := "l05_node.go:36", after := #[{ on := 7, ground := Ground.data }], guard := none }) rfl (fun K2 hK2 => ?_) AllReadyH.nil)
          · go_simp
            refine hK2.out _ _ ?_ (fun hHeld2 => ?_)
            · exact KL.out _ b1
            clear hK2 K2 hHeld
            have hHeld := hHeld2
            clear hHeld2
            try simp only [Act.put, List.setIfInBounds_toArray, List.set_cons_zero, List.set_cons_succ]
            refine wpAnyH_ready (rs := [8]) (by kernel_rfl) (by simp) ?_
            refine AllReadyH.cons (o := { dst := some 29, op := Op.buildSlice 29 1 #[(0, Operand.tmp 28)], type := 29, pos := "l05_node.go:36", after := #[{ on := 7, ground := Ground.data }], guard := none }) rfl (fun K2 hK2 => ?_) AllReadyH.nil
            go_simp
            refine hK2.out _ _ ?_ (fun hHeld2 => ?_)
            · exact KL.out _ (bel_alloc b1 _)
            clear hK2 K2 hHeld
            have hHeld := hHeld2
            clear hHeld2
            try simp only [Act.put, List.setIfInBounds_toArray, List.set_cons_zero, List.set_cons_succ]
            clear hob hobz
            have XE := Box.new w1 #[.int .i64 (d.f k).s, .slice a2 (d.f k).xs.length c2, .bool (d.f k).q] 50
            have bE := bel_alloc (Below.refl w1.heap.size w1) (.cells #[.int .i64 (d.f k).s, .slice a2 (d.f k).xs.length c2, .bool (d.f k).q] 50)
            have b12 := bel_trans b1 bE
            have hr2 := owns_below hF.row b12
            refine wpAnyH_ready (rs := [9]) (by kernel_rfl) (by simp) ?_
            refine AllReadyH.cons (o := { dst := some 30, op := Op.call { callee := Callee.builtin Builtin.append, args := #[Operand.tmp 22, Operand.tmp 29], argTypes := #[29, 29] }, type := 29, pos := "l05_node.go:36", after := #[{ on := 1, ground := Ground.data }, { on := 8, ground := Ground.data }, { on := 7, ground := Ground.chain }], guard := none }) rfl (fun K2 hK2 => ?_) AllReadyH.nil
            refine step_append_lies _ rfl (.tmp 22) (.tmp 29) 29 rfl 0 50 i1 (.agg #[.int .i64 0, .slice none 0 0, .bool false]) 3 40 Tryz.underlying29 hi1 hz10 hz11 hz12 rfl (by decide) (.slice ra1 k rc1) k (chunks k (fun i => fcells (d.f i) (rp1 i))) (by rfl) hr2 ⟨w1.heap.size, 0, none⟩ 1 1 [.int .i64 (d.f k).s, .slice a2 (d.f k).xs.length c2, .bool (d.f k).q] (by rfl) (by rfl) (World.news_of_block XE) (by intro u hu; simp at hu; rcases hu with rfl | rfl | rfl <;> rfl) (by decide) (by unfold maxLen; omega) (by omega) (Nat.zero_le _) (w1.heap.size + 1) (by simp) ?_
            intro g cap w5 o5 g5 hg hgl
            have on5 : Only (w1.alloc (.cells #[.int .i64 (d.f k).s, .slice a2 (d.f k).xs.length c2, .bool (d.f k).q] 50)) w5 (fun x => (Value.slice ra1 k rc1).ownBlock = some x) := (Only.refl _ _).grown g5 (fun j hj => hj)
            have hSr : ∀ x, (Value.slice ra1 k rc1).ownBlock = some x → lo1 ≤ x ∧ x < wr.heap.size := fun x hx => ⟨hlow x (.inl (blk_eq hx)), (hF.row.lt x hx).2⟩
            have C2 := (hC.below b12).only on5 (fun x hx => ⟨by have := (hSr x hx).1; have := HLW1.out; omega, fun e => by have := (hSr x hx).1; have := HLW1.out; omega, fun e => by have := (hSr x hx).1; have := HLG1.out x e; omega⟩)
            have hsb : ∀ x, (Value.slice ra1 k rc1).ownBlock = some x → b ≠ x := fun x hx e => by have := (hSr x hx).1; have := HLW1.out; omega
            have k1 : w5.cell? ⟨w.heap.size, 1, none⟩ = some (.slice (some ⟨b, off, none⟩) d.nf cf) := C2.xp.cell 1
            have kk0 := (g5.cell_far ⟨b, off + k * 3, none⟩ (by have := b12.size; simp; simp at this; omega) (fun e => hsb b e.symm rfl)).trans ((b12.cell (p := ⟨b, off + k * 3, none⟩) hbw).trans y0)
            have kk1 := (g5.cell_far ⟨b, off + k * 3 + 1, none⟩ (by have := b12.size; simp; simp at this; omega) (fun e => hsb b e.symm rfl)).trans ((b12.cell (p := ⟨b, off + k * 3 + 1, none⟩) hbw).trans y1)
            have kk2 := (g5.cell_far ⟨b, off + k * 3 + 2, none⟩ (by have := b12.size; simp; simp at this; omega) (fun e => hsb b e.symm rfl)).trans ((b12.cell (p := ⟨b, off + k * 3 + 2, none⟩) hbw).trans y2)
            have kz := C2.xo.lt
            have kz2 := C2.xp.lt
            refine hK2.out _ _ ?_ (fun hHeld2 => ?_)
            · exact ⟨k1, kk0, kk1, kk2, kz, kz2⟩
            clear hK2 K2 hHeld
            have hHeld := hHeld2
            clear hHeld2
            try simp only [Act.put, List.setIfInBounds_toArray, List.set_cons_zero, List.set_cons_succ]
            refine wpAnyH_take (i := 10) (oi := { dst := some 31, op := Op.fieldAddr 34 (Operand.tmp 3) 1, type := 0, pos := "l05_node.go:36", after := #[{ on := 0, ground := Ground.phase }, { on := 1, ground := Ground.phase }, { on := 2, ground := Ground.phase }, { on := 3, ground := Ground.phase }, { on := 4, ground := Ground.phase }, { on := 5, ground := Ground.phase }, { on := 6, ground := Ground.phase }, { on := 7, ground := Ground.phase }, { on := 8, ground := Ground.phase }, { on := 9, ground := Ground.phase }], guard := none }) (v := ?r9_v10) rfl (by kernel_rfl) (by kernel_rfl) (by kernel_rfl) (fun _ _ _ h => h) (Or.inl ⟨by rfl, ?r9_hy10⟩) (by assumption) ?r9_rest10
            case r9_hy10 => intro w hSw; obtain ⟨s0, s1, s2, s3, s4, s5⟩ := hSw; go_simp; try (with_reducible rfl)
            simp only [Act.put, List.setIfInBounds_toArray, List.set_cons_zero, List.set_cons_succ]
            have of := C2.xo.frozen 1
            have k0 : w5.cell? ⟨bo, 1, none⟩ = some (.slice ra1 k rc1) := C2.xo.cell 1
            have on6 : Only w5 (w5.setCell ⟨bo, 1, none⟩ (.slice (some ⟨g, 0, none⟩) (k + 1) cap)) (fun x => x = bo) := (Only.refl w5 (fun x => x = bo)).setCell ⟨bo, 1, none⟩ _ rfl
            have xo6 : Box (w5.setCell ⟨bo, 1, none⟩ (.slice (some ⟨g, 0, none⟩) (k + 1) cap)) bo #[.int .i64 d.id, .slice (some ⟨g, 0, none⟩) (k + 1) cap, .slice none 0 0, .slice none 0 0, .slice ai d.ni ci] 34 := heap_setCell_same _ _ 1 _ _ _ C2.xo
            have C6 := C2.put on6 xo6
            have hQn : ∀ x, (QF (a2, c2)) x → wr.heap.size ≤ x ∧ x < w1.heap.size := fun x hx => o2.lt x (blk_own (p := (a2, c2)) hx)
            have o5' : w5.ownsRow 0 50 3 (.slice (some ⟨g, 0, none⟩) (k + 1) cap) (k + 1) (chunks k (fun i => fcells (d.f i) (rp1 i)) ++ fcells (d.f k) (a2, c2)) := o5
            have R5 := Rw.snoc hF b12 (cs := fcells (d.f k) (a2, c2)) (E' := EF (d.f k) (a2, c2)) (Q' := QF (a2, c2)) ((fix_f _ _ : Fix (QF (a2, c2)) (EF (d.f k) (a2, c2))) _ _ (sm_bel bE) (owns_base o2 (Nat.zero_le _))) (fix_f _ _) (fun x hx => by have h := hQn x hx; have := bE.size; omega) o5' g5 (hg.imp_right (fun e => by rw [e]; simp))
            have hol : ∀ x, RS (some ⟨g, 0, none⟩) cap (k + 1) (fun i => if i = k then QF (a2, c2) else (fun i => QF (rp1 i)) i) x → lo1 ≤ x := fun x hx => by
              rcases hx with hx | ⟨i, hi, hx⟩
              · simp [blk] at hx
                subst hx
                rcases hg with hg | hg
                · exact (hSr g hg).1
                · have := b1.size; omega
              · by_cases e : i = k
                · simp only [if_pos e] at hx
                  have h := hQn x hx
                  omega
                · simp only [if_neg e] at hx
                  exact hlow x (.inr ⟨i, by omega, hx⟩)
            have R6 := Rw.sm R5 (on6.sm (fun x hx e => by have := hol x hx; have := HLW1.out; omega))
            have R7 : Hid (Rw (w5.setCell ⟨bo, 1, none⟩ (.slice (some ⟨g, 0, none⟩) (k + 1) cap)) 50 3 (some ⟨g, 0, none⟩) cap (k + 1) (k + 1) (fun i => fcells (d.f i) ((fun i => if i = k then (a2, c2) else rp1 i) i)) (fun i => QF ((fun i => if i = k then (a2, c2) else rp1 i) i)) (fun i => EF (d.f i) ((fun i => if i = k then (a2, c2) else rp1 i) i))) := R6.congr (fun i hi => by by_cases e : i = k; (subst e; simp); (simp [e])) (fun i hi => by by_cases e : i = k; (subst e; simp); (simp [e])) (fun i hi => by by_cases e : i = k; (subst e; simp); (simp [e]))
            have hol7 : Hid (∀ x, RS (some ⟨g, 0, none⟩) cap (k + 1) (fun i => QF ((fun i => if i = k then (a2, c2) else rp1 i) i)) x → lo1 ≤ x) := fun x hx => by
              apply hol x
              rcases hx with hx | ⟨i, hi, hx⟩
              · exact .inl hx
              · refine .inr ⟨i, hi, ?_⟩
                by_cases e : i = k
                · subst e; simpa using hx
                · simpa [e] using hx
            have HC6 : Hid _ := C6
            have hlo6 : Hid (lo1 ≤ (w5.setCell ⟨bo, 1, none⟩ (.slice (some ⟨g, 0, none⟩) (k + 1) cap)).heap.size) := by show _ ≤ _; have h1 := b12.size; have h2 := on5.size; have h3 := on6.size; omega
            have m1 : (w5.setCell ⟨bo, 1, none⟩ (.slice (some ⟨g, 0, none⟩) (k + 1) cap)).cell? ⟨w.heap.size, 1, none⟩ = some (.slice (some ⟨b, off, none⟩) d.nf cf) := C6.xp.cell 1
            have mz := C6.xo.lt
            have mz2 := C6.xp.lt
            have mm0 := (World.cell?_setCell_far w5 ⟨bo, 1, none⟩ ⟨b, off + k * 3, none⟩ (.slice (some ⟨g, 0, none⟩) (k + 1) cap) (by simp; have := HLW1.out; omega)).trans kk0
            have mm1 := (World.cell?_setCell_far w5 ⟨bo, 1, none⟩ ⟨b, off + k * 3 + 1, none⟩ (.slice (some ⟨g, 0, none⟩) (k + 1) cap) (by simp; have := HLW1.out; omega)).trans kk1
            have mm2 := (World.cell?_setCell_far w5 ⟨bo, 1, none⟩ ⟨b, off + k * 3 + 2, none⟩ (.slice (some ⟨g, 0, none⟩) (k + 1) cap) (by simp; have := HLW1.out; omega)).trans kk2
            refine wpAnyH_ready (rs := [11]) (by kernel_rfl) (by simp) ?_
            refine AllReadyH.cons (o := { dst := none, op := Op.store 29 (Operand.tmp 31) (Operand.tmp 30), type := 0, pos := "l05_node.go:36", after := #[{ on := 10, ground := Ground.data }, { on := 9, ground := Ground.data }, { on := 9, ground := Ground.chain }, { on := 0, ground := Ground.phase }, { on := 1, ground := Ground.phase }, { on := 2, ground := Ground.phase }, { on := 3, ground := Ground.phase }, { on := 4, ground := Ground.phase }, { on := 5, ground := Ground.phase }, { on := 6, ground := Ground.phase }, { on := 7, ground := Ground.phase }, { on := 8, ground := Ground.phase }, { on := 9, ground := Ground.phase }], guard := none }) rfl (fun K2 hK2 => ?_) AllReadyH.nil
            go_simp
            refine hK2.out _ _ ?_ (fun hHeld2 => ?_)
            · exact ⟨m1, mm0, mm1, mm2, mz, mz2⟩
            clear hK2 K2 hHeld
            have hHeld := hHeld2
            clear hHeld2
            try simp only [Act.put, List.setIfInBounds_toArray, List.set_cons_zero, List.set_cons_succ]
            refine wpAnyH_done (by kernel_rfl) ?_ _
            clear C6 C2 R5 R6 hol hQn o5 o5' g5 on5 on6 xo6 hHeld m1 mz mz2 k1 k0 of kz kz2 hr2 XE bE b12 b1 hSr hsb hF hC hlow mm0 kk0 y0 mm1 kk1 y1 mm2 kk2 y2 o2 hrow hlx har hbel ho0 x0 xz KL
            go_wp2
            go_roundw
            case rel => exact ⟨k + 1, by omega, by go_num, _, _, _, HC6.out, R7.out, hol7.out, hlo6.out⟩
            case measure => simp [intOf]; omega
          · go_simp
            refine hK2.out _ _ ?_ (fun hHeld2 => ?_)
            · exact KL.out _ (bel_alloc b1 _)
            clear hK2 K2 hHeld
            have hHeld := hHeld2
            clear hHeld2
            try simp only [Act.put, List.setIfInBounds_toArray, List.set_cons_zero, List.set_cons_succ]
            have bq := bel_alloc b1 (.cells #[.int .i64 (d.f k).s, .slice a2 (d.f k).xs.length c2, .bool (d.f k).q] 50)
            have hoc : (w1.alloc (.cells #[.int .i64 (d.f k).s, .slice a2 (d.f k).xs.length c2, .bool (d.f k).q] 50)).cell? ⟨bo, 1, none⟩ = some (.slice ra1 k rc1) := (hC.below bq).xo.cell 1
            have hocz := (hC.below bq).xo.lt
            refine wpAnyH_ready (rs := [1]) (by kernel_rfl) (by simp) ?_
            refine AllReadyH.cons (o := { dst := some 22, op := Op.load 29 (Operand.tmp 21), type := 29, pos := "l05_node.go:36", after := #[{ on := 0, ground := Ground.data }], guard := none }) rfl (fun K2 hK2 => ?_) AllReadyH.nil
            go_simp
            refine hK2.out _ _ ?_ (fun hHeld2 => ?_)
            · exact KL.out _ (bel_alloc b1 _)
            clear hK2 K2 hHeld
            have hHeld := hHeld2
            clear hHeld2
            try simp only [Act.put, List.setIfInBounds_toArray, List.set_cons_zero, List.set_cons_succ]
            clear hob hobz hoc hocz bq
            have XE := Box.new w1 #[.int .i64 (d.f k).s, .slice a2 (d.f k).xs.length c2, .bool (d.f k).q] 50
            have bE := bel_alloc (Below.refl w1.heap.size w1) (.cells #[.int .i64 (d.f k).s, .slice a2 (d.f k).xs.length c2, .bool (d.f k).q] 50)
            have b12 := bel_trans b1 bE
            have hr2 := owns_below hF.row b12
            refine wpAnyH_ready (rs := [9]) (by kernel_rfl) (by simp) ?_
            refine AllReadyH.cons (o := { dst := some 30, op := Op.call { callee := Callee.builtin Builtin.append, args := #[Operand.tmp 22, Operand.tmp 29], argTypes := #[29, 29] }, type := 29, pos := "l05_node.go:36", after := #[{ on := 1, ground := Ground.data }, { on := 8, ground := Ground.data }, { on := 7, ground := Ground.chain }], guard := none }) rfl (fun K2 hK2 => ?_) AllReadyH.nil
            refine step_append_lies _ rfl (.tmp 22) (.tmp 29) 29 rfl 0 50 i1 (.agg #[.int .i64 0, .slice none 0 0, .bool false]) 3 40 Tryz.underlying29 hi1 hz10 hz11 hz12 rfl (by decide) (.slice ra1 k rc1) k (chunks k (fun i => fcells (d.f i) (rp1 i))) (by rfl) hr2 ⟨w1.heap.size, 0, none⟩ 1 1 [.int .i64 (d.f k).s, .slice a2 (d.f k).xs.length c2, .bool (d.f k).q] (by rfl) (by rfl) (World.news_of_block XE) (by intro u hu; simp at hu; rcases hu with rfl | rfl | rfl <;> rfl) (by decide) (by unfold maxLen; omega) (by omega) (Nat.zero_le _) (w1.heap.size + 1) (by simp) ?_
            intro g cap w5 o5 g5 hg hgl
            have on5 : Only (w1.alloc (.cells #[.int .i64 (d.f k).s, .slice a2 (d.f k).xs.length c2, .bool (d.f k).q] 50)) w5 (fun x => (Value.slice ra1 k rc1).ownBlock = some x) := (Only.refl _ _).grown g5 (fun j hj => hj)
            have hSr : ∀ x, (Value.slice ra1 k rc1).ownBlock = some x → lo1 ≤ x ∧ x < wr.heap.size := fun x hx => ⟨hlow x (.inl (blk_eq hx)), (hF.row.lt x hx).2⟩
            have C2 := (hC.below b12).only on5 (fun x hx => ⟨by have := (hSr x hx).1; have := HLW1.out; omega, fun e => by have := (hSr x hx).1; have := HLW1.out; omega, fun e => by have := (hSr x hx).1; have := HLG1.out x e; omega⟩)
            have hsb : ∀ x, (Value.slice ra1 k rc1).ownBlock = some x → b ≠ x := fun x hx e => by have := (hSr x hx).1; have := HLW1.out; omega
            have k1 : w5.cell? ⟨w.heap.size, 1, none⟩ = some (.slice (some ⟨b, off, none⟩) d.nf cf) := C2.xp.cell 1
            have kk0 := (g5.cell_far ⟨b, off + k * 3, none⟩ (by have := b12.size; simp; simp at this; omega) (fun e => hsb b e.symm rfl)).trans ((b12.cell (p := ⟨b, off + k * 3, none⟩) hbw).trans y0)
            have kk1 := (g5.cell_far ⟨b, off + k * 3 + 1, none⟩ (by have := b12.size; simp; simp at this; omega) (fun e => hsb b e.symm rfl)).trans ((b12.cell (p := ⟨b, off + k * 3 + 1, none⟩) hbw).trans y1)
            have kk2 := (g5.cell_far ⟨b, off + k * 3 + 2, none⟩ (by have := b12.size; simp; simp at this; omega) (fun e => hsb b e.symm rfl)).trans ((b12.cell (p := ⟨b, off + k * 3 + 2, none⟩) hbw).trans y2)
            have kz := C2.xo.lt
            have kz2 := C2.xp.lt
            refine hK2.out _ _ ?_ (fun hHeld2 => ?_)
            · exact ⟨k1, kk0, kk1, kk2, kz, kz2⟩
            clear hK2 K2 hHeld
            have hHeld := hHeld2
            clear hHeld2
            try simp only [Act.put, List.setIfInBounds_toArray, List.set_cons_zero, List.set_cons_succ]
            refine wpAnyH_take (i := 10) (oi := { dst := some 31, op := Op.fieldAddr 34 (Operand.tmp 3) 1, type := 0, pos := "l05_node.go:36", after := #[{ on := 0, ground := Ground.phase }, { on := 1, ground := Ground.phase }, { on := 2, ground := Ground.phase }, { on := 3, ground := Ground.phase }, { on := 4, ground := Ground.phase }, { on := 5, ground := Ground.phase }, { on := 6, ground := Ground.phase }, { on := 7, ground := Ground.phase }, { on := 8, ground := Ground.phase }, { on := 9, ground := Ground.phase }], guard := none }) (v := ?r10_v10) rfl (by kernel_rfl) (by kernel_rfl) (by kernel_rfl) (fun _ _ _ h => h) (Or.inl ⟨by rfl, ?r10_hy10⟩) (by assumption) ?r10_rest10
            case r10_hy10 => intro w hSw; obtain ⟨s0, s1, s2, s3, s4, s5⟩ := hSw; go_simp; try (with_reducible rfl)
            simp only [Act.put, List.setIfInBounds_toArray, List.set_cons_zero, List.set_cons_succ]
            have of := C2.xo.frozen 1
            have k0 : w5.cell? ⟨bo, 1, none⟩ = some (.slice ra1 k rc1) := C2.xo.cell 1
            have on6 : Only w5 (w5.setCell ⟨bo, 1, none⟩ (.slice (some ⟨g, 0, none⟩) (k + 1) cap)) (fun x => x = bo) := (Only.refl w5 (fun x => x = bo)).setCell ⟨bo, 1, none⟩ _ rfl
            have xo6 : Box (w5.setCell ⟨bo, 1, none⟩ (.slice (some ⟨g, 0, none⟩) (k + 1) cap)) bo #[.int .i64 d.id, .slice (some ⟨g, 0, none⟩) (k + 1) cap, .slice none 0 0, .slice none 0 0, .slice ai d.ni ci] 34 := heap_setCell_same _ _ 1 _ _ _ C2.xo
            have C6 := C2.put on6 xo6
            have hQn : ∀ x, (QF (a2, c2)) x → wr.heap.size ≤ x ∧ x < w1.heap.size := fun x hx => o2.lt x (blk_own (p := (a2, c2)) hx)
            have o5' : w5.ownsRow 0 50 3 (.slice (some ⟨g, 0, none⟩) (k + 1) cap) (k + 1) (chunks k (fun i => fcells (d.f i) (rp1 i)) ++ fcells (d.f k) (a2, c2)) := o5
            have R5 := Rw.snoc hF b12 (cs := fcells (d.f k) (a2, c2)) (E' := EF (d.f k) (a2, c2)) (Q' := QF (a2, c2)) ((fix_f _ _ : Fix (QF (a2, c2)) (EF (d.f k) (a2, c2))) _ _ (sm_bel bE) (owns_base o2 (Nat.zero_le _))) (fix_f _ _) (fun x hx => by have h := hQn x hx; have := bE.size; omega) o5' g5 (hg.imp_right (fun e => by rw [e]; simp))
            have hol : ∀ x, RS (some ⟨g, 0, none⟩) cap (k + 1) (fun i => if i = k then QF (a2, c2) else (fun i => QF (rp1 i)) i) x → lo1 ≤ x := fun x hx => by
              rcases hx with hx | ⟨i, hi, hx⟩
              · simp [blk] at hx
                subst hx
                rcases hg with hg | hg
                · exact (hSr g hg).1
                · have := b1.size; omega
              · by_cases e : i = k
                · simp only [if_pos e] at hx
                  have h := hQn x hx
                  omega
                · simp only [if_neg e] at hx
                  exact hlow x (.inr ⟨i, by omega, hx⟩)
            have R6 := Rw.sm R5 (on6.sm (fun x hx e => by have := hol x hx; have := HLW1.out; omega))
            have R7 : Hid (Rw (w5.setCell ⟨bo, 1, none⟩ (.slice (some ⟨g, 0, none⟩) (k + 1) cap)) 50 3 (some ⟨g, 0, none⟩) cap (k + 1) (k + 1) (fun i => fcells (d.f i) ((fun i => if i = k then (a2, c2) else rp1 i) i)) (fun i => QF ((fun i => if i = k then (a2, c2) else rp1 i) i)) (fun i => EF (d.f i) ((fun i => if i = k then (a2, c2) else rp1 i) i))) := R6.congr (fun i hi => by by_cases e : i = k; (subst e; simp); (simp [e])) (fun i hi => by by_cases e : i = k; (subst e; simp); (simp [e])) (fun i hi => by by_cases e : i = k; (subst e; simp); (simp [e]))
            have hol7 : Hid (∀ x, RS (some ⟨g, 0, none⟩) cap (k + 1) (fun i => QF ((fun i => if i = k then (a2, c2) else rp1 i) i)) x → lo1 ≤ x) := fun x hx => by
              apply hol x
              rcases hx with hx | ⟨i, hi, hx⟩
              · exact .inl hx
              · refine .inr ⟨i, hi, ?_⟩
                by_cases e : i = k
                · subst e; simpa using hx
                · simpa [e] using hx
            have HC6 : Hid _ := C6
            have hlo6 : Hid (lo1 ≤ (w5.setCell ⟨bo, 1, none⟩ (.slice (some ⟨g, 0, none⟩) (k + 1) cap)).heap.size) := by show _ ≤ _; have h1 := b12.size; have h2 := on5.size; have h3 := on6.size; omega
            have m1 : (w5.setCell ⟨bo, 1, none⟩ (.slice (some ⟨g, 0, none⟩) (k + 1) cap)).cell? ⟨w.heap.size, 1, none⟩ = some (.slice (some ⟨b, off, none⟩) d.nf cf) := C6.xp.cell 1
            have mz := C6.xo.lt
            have mz2 := C6.xp.lt
            have mm0 := (World.cell?_setCell_far w5 ⟨bo, 1, none⟩ ⟨b, off + k * 3, none⟩ (.slice (some ⟨g, 0, none⟩) (k + 1) cap) (by simp; have := HLW1.out; omega)).trans kk0
            have mm1 := (World.cell?_setCell_far w5 ⟨bo, 1, none⟩ ⟨b, off + k * 3 + 1, none⟩ (.slice (some ⟨g, 0, none⟩) (k + 1) cap) (by simp; have := HLW1.out; omega)).trans kk1
            have mm2 := (World.cell?_setCell_far w5 ⟨bo, 1, none⟩ ⟨b, off + k * 3 + 2, none⟩ (.slice (some ⟨g, 0, none⟩) (k + 1) cap) (by simp; have := HLW1.out; omega)).trans kk2
            refine wpAnyH_ready (rs := [11]) (by kernel_rfl) (by simp) ?_
            refine AllReadyH.cons (o := { dst := none, op := Op.store 29 (Operand.tmp 31) (Operand.tmp 30), type := 0, pos := "l05_node.go:36", after := #[{ on := 10, ground := Ground.data }, { on := 9, ground := Ground.data }, { on := 9, ground := Ground.chain }, { on := 0, ground := Ground.phase }, { on := 1, ground := Ground.phase }, { on := 2, ground := Ground.phase }, { on := 3, ground := Ground.phase }, { on := 4, ground := Ground.phase }, { on := 5, ground := Ground.phase }, { on := 6, ground := Ground.phase }, { on := 7, ground := Ground.phase }, { on := 8, ground := Ground.phase }, { on := 9, ground := Ground.phase }], guard := none }) rfl (fun K2 hK2 => ?_) AllReadyH.nil
            go_simp
            refine hK2.out _ _ ?_ (fun hHeld2 => ?_)
            · exact ⟨m1, mm0, mm1, mm2, mz, mz2⟩
            clear hK2 K2 hHeld
            have hHeld := hHeld2
            clear hHeld2
            try simp only [Act.put, List.setIfInBounds_toArray, List.set_cons_zero, List.set_cons_succ]
            refine wpAnyH_done (by kernel_rfl) ?_ _
            clear C6 C2 R5 R6 hol hQn o5 o5' g5 on5 on6 xo6 hHeld m1 mz mz2 k1 k0 of kz kz2 hr2 XE bE b12 b1 hSr hsb hF hC hlow mm0 kk0 y0 mm1 kk1 y1 mm2 kk2 y2 o2 hrow hlx har hbel ho0 x0 xz KL
            go_wp2
            go_roundw
            case rel => exact ⟨k + 1, by omega, by go_num, _, _, _, HC6.out, R7.out, hol7.out, hlo6.out⟩
            case measure => simp [intOf]; omega
      · obtain rfl : k = d.nf := by omega
        have HLC : Hid (LC w wr #[.int .i64 d.id, .slice af d.nf cf, .slice ah d.nh ch, .slice ao d.no co, .slice ai0 d.ni ci0] bo #[.int .i64 d.id, .slice ra1 d.nf rc1, .slice none 0 0, .slice none 0 0, .slice ai d.ni ci] ai ci d.ni d.g) := hC
        have RWF : Hid (Rw wr 50 3 ra1 rc1 d.nf d.nf (fun i => fcells (d.f i) (rp1 i)) (fun i => QF (rp1 i)) (fun i => EF (d.f i) (rp1 i))) := hF
        have HLOWF : Hid (∀ b, RS ra1 rc1 d.nf (fun i => QF (rp1 i)) b → lo1 ≤ b) := hlow
        have hE1 : Hid (lo1 ≤ wr.heap.size) := hlo
        clear hC hF hlow hlo hkn hk
        go_wp2_with fail
        clear x0 xz
        obtain ⟨lo2, hlo2⟩ : ∃ l, wr.heap.size = l := ⟨_, rfl⟩
        have HLO2 : Hid (wr.heap.size = lo2) := hlo2
        clear hlo2
        have HLW2 : Hid (w.heap.size + 2 ≤ bo ∧ bo < lo2) := ⟨HLC.out.hb, by have := HLC.out.xo.lt; have := HLO2.out; omega⟩
        have HLG2 : Hid (∀ x, blk (ai, ci) = some x → x < lo2) := fun x hx => by have := GO.lt HLC.out.gi hx; have := HLO2.out; omega
        have HUF2 : Hid (∀ x, RS ra1 rc1 d.nf (fun i => QF (rp1 i)) x → x < lo2 ∧ lo1 ≤ x) := fun x hx => ⟨by have := Rw.slt RWF.out hx; have := HLO2.out; omega, HLOWF.out x hx⟩
        have HXo0 := HLC.out.xp.cell 2
        have hxz0 := HLC.out.xp.lt
        go_wp2_with fail
        go_loopw [5] (fun i wr => ∃ k : Nat, k ≤ d.nh ∧ i = .int .i64 k ∧ ∃ (ra2 : Option Addr) (rc2 : Nat) (rp2 : Nat → HP), LC w wr #[.int .i64 d.id, .slice af d.nf cf, .slice ah d.nh ch, .slice ao d.no co, .slice ai0 d.ni ci0] bo #[.int .i64 d.id, .slice ra1 d.nf rc1, .slice ra2 k rc2, .slice none 0 0, .slice ai d.ni ci] ai ci d.ni d.g ∧ Rw wr 93 8 ra2 rc2 k k (fun i => hcells (d.h i) (rp2 i)) (fun i => QH (rp2 i)) (fun i => EH (d.h i) (rp2 i)) ∧ (∀ b, RS ra2 rc2 k (fun i => QH (rp2 i)) b → lo2 ≤ b) ∧ Rw wr 50 3 ra1 rc1 d.nf d.nf (fun i => fcells (d.f i) (rp1 i)) (fun i => QF (rp1 i)) (fun i => EF (d.f i) (rp1 i)) ∧ lo2 ≤ wr.heap.size) (fun i _ => d.nh - (intOf i).toNat)
        case atStart => exact ⟨0, Nat.zero_le _, rfl, none, 0, (fun _ => ⟨(none, 0), (none, 0), (none, 0)⟩), HLC.out, rw_nil _ _ _ _ _ _, fun b hb => by rcases hb with hb | ⟨i, hi, _⟩; (simp [blk] at hb); omega, RWF.out, Nat.le_of_eq HLO2.out.symm⟩
        case round =>
          obtain ⟨k, hk, rfl, ra2, rc2, rp2, hC, hF, hlow, qF, hlo⟩ := hrel
          clear HXo0 hxz0 HLC RWF
          have x0 : wr.cell? ⟨w.heap.size, 2, none⟩ = some (.slice ah d.nh ch) := hC.xp.cell 2
          have xz := hC.xp.lt
          by_cases hkn : k < d.nh
          · have hi' : (k : Int) < (d.nh : Int) := by omega
            have har := HRh.out.below hC.B
            have hbel := hC.B
            obtain ⟨b, off, rfl, y0, y1, y2, y3, y4, y5, y6, y7⟩ := HRh.out.at hkn
            obtain ⟨hr1, hrr, hr3⟩ := har.2.2 k hkn
            have hlx : (d.h k).xs.length ≤ 1048577 ∧ (d.h k).bs.length ≤ 1048577 ∧ (d.h k).ws.length ≤ 1048577 := by have := HD.out.h.2 k hkn; omega
            have hb0 : b < w.heap.size := lt_of_cell y0
            replace y0 := (hbel.cell (p := ⟨b, off + k * 8, none⟩) hb0).trans y0
            replace y1 := (hbel.cell (p := ⟨b, off + k * 8 + 1, none⟩) hb0).trans y1
            replace y2 := (hbel.cell (p := ⟨b, off + k * 8 + 2, none⟩) hb0).trans y2
            replace y3 := (hbel.cell (p := ⟨b, off + k * 8 + 3, none⟩) hb0).trans y3
            replace y4 := (hbel.cell (p := ⟨b, off + k * 8 + 4, none⟩) hb0).trans y4
            replace y5 := (hbel.cell (p := ⟨b, off + k * 8 + 5, none⟩) hb0).trans y5
            replace y6 := (hbel.cell (p := ⟨b, off + k * 8 + 6, none⟩) hb0).trans y6
            replace y7 := (hbel.cell (p := ⟨b, off + k * 8 + 7, none⟩) hb0).trans y7
            have hbw : b < wr.heap.size := Nat.lt_of_lt_of_le hb0 hbel.size
            have ho0 : wr.cell? ⟨bo, 2, none⟩ = some (.slice ra2 k rc2) := hC.xo.cell 2
            have hoz := hC.xo.lt
            have KL : Hid (∀ w', Below wr.heap.size wr w' → w'.cell? ⟨w.heap.size, 2, none⟩ = some (.slice (some ⟨b, off, none⟩) d.nh ch) ∧ w'.cell? ⟨b, off + k * 8, none⟩ = some (.slice (hp k).l.1 (d.h k).xs.length (hp k).l.2) ∧ w'.cell? ⟨b, off + k * 8 + 1, none⟩ = some (.int .i64 (d.h k).ow) ∧ w'.cell? ⟨b, off + k * 8 + 2, none⟩ = some (.slice (hp k).r.1 (d.h k).bs.length (hp k).r.2) ∧ w'.cell? ⟨b, off + k * 8 + 3, none⟩ = some (.bool (d.h k).bz) ∧ w'.cell? ⟨b, off + k * 8 + 4, none⟩ = some (.int .i64 (d.h k).wh) ∧ w'.cell? ⟨b, off + k * 8 + 5, none⟩ = some (.bool (d.h k).wo) ∧ w'.cell? ⟨b, off + k * 8 + 6, none⟩ = some (.int .i64 (d.h k).ak) ∧ w'.cell? ⟨b, off + k * 8 + 7, none⟩ = some (.slice (hp k).q.1 (d.h k).ws.length (hp k).q.2) ∧ bo < w'.heap.size ∧ w.heap.size < w'.heap.size) := fun w' bb => ⟨(bb.cell (p := ⟨w.heap.size, 2, none⟩) xz).trans x0, (bb.cell (p := ⟨b, off + k * 8, none⟩) hbw).trans y0, (bb.cell (p := ⟨b, off + k * 8 + 1, none⟩) hbw).trans y1, (bb.cell (p := ⟨b, off + k * 8 + 2, none⟩) hbw).trans y2, (bb.cell (p := ⟨b, off + k * 8 + 3, none⟩) hbw).trans y3, (bb.cell (p := ⟨b, off + k * 8 + 4, none⟩) hbw).trans y4, (bb.cell (p := ⟨b, off + k * 8 + 5, none⟩) hbw).trans y5, (bb.cell (p := ⟨b, off + k * 8 + 6, none⟩) hbw).trans y6, (bb.cell (p := ⟨b, off + k * 8 + 7, none⟩) hbw).trans y7, Nat.lt_of_lt_of_le hoz bb.size, Nat.lt_of_lt_of_le xz bb.size⟩
            go_wp2_with fail
            refine wp_region_held_drew (S := (fun w' => w'.cell? ⟨w.heap.size, 2, none⟩ = some (.slice (some ⟨b, off, none⟩) d.nh ch) ∧ w'.cell? ⟨b, off + k * 8, none⟩ = some (.slice (hp k).l.1 (d.h k).xs.length (hp k).l.2) ∧ w'.cell? ⟨b, off + k * 8 + 1, none⟩ = some (.int .i64 (d.h k).ow) ∧ w'.cell? ⟨b, off + k * 8 + 2, none⟩ = some (.slice (hp k).r.1 (d.h k).bs.length (hp k).r.2) ∧ w'.cell? ⟨b, off + k * 8 + 3, none⟩ = some (.bool (d.h k).bz) ∧ w'.cell? ⟨b, off + k * 8 + 4, none⟩ = some (.int .i64 (d.h k).wh) ∧ w'.cell? ⟨b, off + k * 8 + 5, none⟩ = some (.bool (d.h k).wo) ∧ w'.cell? ⟨b, off + k * 8 + 6, none⟩ = some (.int .i64 (d.h k).ak) ∧ w'.cell? ⟨b, off + k * 8 + 7, none⟩ = some (.slice (hp k).q.1 (d.h k).ws.length (hp k).q.2) ∧ bo < w'.heap.size ∧ w.heap.size < w'.heap.size)) (by kernel_rfl) ?_ (fun hHeld => ?_)
            · exact KL.out _ (bel_drew (Below.refl _ _))
            refine wpAnyH_take (i := 0) (oi := { dst := some 39, op := Op.fieldAddr 34 (Operand.tmp 3) 2, type := 0, pos := "l05_node.go:39", after := #[], guard := none }) (v := ?r11_v0) rfl (by kernel_rfl) (by kernel_rfl) (by kernel_rfl) (fun _ _ _ h => h) (Or.inl ⟨by rfl, ?r11_hy0⟩) (by assumption) ?r11_rest0
            case r11_hy0 => intro w hSw; obtain ⟨s0, s1, s2, s3, s4, s5, s6, s7, s8, s9, s10⟩ := hSw; go_simp; try (with_reducible rfl)
            simp only [Act.put, List.setIfInBounds_toArray, List.set_cons_zero, List.set_cons_succ]
            refine wpAnyH_take (i := 2) (oi := { dst := some 41, op := Op.fieldAddr 34 (Operand.tmp 1) 2, type := 0, pos := "l05_node.go:39", after := #[], guard := none }) (v := ?r11_v2) rfl (by kernel_rfl) (by kernel_rfl) (by kernel_rfl) (fun _ _ _ h => h) (Or.inl ⟨by rfl, ?r11_hy2⟩) (by assumption) ?r11_rest2
            case r11_hy2 => intro w hSw; obtain ⟨s0, s1, s2, s3, s4, s5, s6, s7, s8, s9, s10⟩ := hSw; go_simp; try (with_reducible rfl)
            simp only [Act.put, List.setIfInBounds_toArray, List.set_cons_zero, List.set_cons_succ]
            refine wpAnyH_take (i := 3) (oi := { dst := some 42, op := Op.load 30 (Operand.tmp 41), type := 30, pos := "l05_node.go:39", after := #[{ on := 2, ground := Ground.data }], guard := none }) (v := ?r11_v3) rfl (by kernel_rfl) (by kernel_rfl) (by kernel_rfl) (fun _ _ _ h => h) (Or.inl ⟨by rfl, ?r11_hy3⟩) (by assumption) ?r11_rest3
            case r11_hy3 => intro w hSw; obtain ⟨s0, s1, s2, s3, s4, s5, s6, s7, s8, s9, s10⟩ := hSw; go_simp; try (with_reducible rfl)
            simp only [Act.put, List.setIfInBounds_toArray, List.set_cons_zero, List.set_cons_succ]
            refine wpAnyH_take (i := 4) (oi := { dst := some 43, op := Op.move (Operand.tmp 5), type := 3, pos := "l05_node.go:39", after := #[], guard := none }) (v := ?r11_v4) rfl (by kernel_rfl) (by kernel_rfl) (by kernel_rfl) (fun _ _ _ h => h) (Or.inl ⟨by rfl, ?r11_hy4⟩) (by assumption) ?r11_rest4
            case r11_hy4 => intro w hSw; obtain ⟨s0, s1, s2, s3, s4, s5, s6, s7, s8, s9, s10⟩ := hSw; go_simp; try (with_reducible rfl)
            simp only [Act.put, List.setIfInBounds_toArray, List.set_cons_zero, List.set_cons_succ]
            refine wpAnyH_take (i := 5) (oi := { dst := some 44, op := Op.indexAddr 30 (Operand.tmp 42) (Operand.tmp 43), type := 0, pos := "l05_node.go:39", after := #[{ on := 3, ground := Ground.data }, { on := 4, ground := Ground.data }], guard := none }) (v := ?r11_v5) rfl (by kernel_rfl) (by kernel_rfl) (by kernel_rfl) (fun _ _ _ h => h) (Or.inl ⟨by rfl, ?r11_hy5⟩) (by assumption) ?r11_rest5
            case r11_hy5 => intro w hSw; obtain ⟨s0, s1, s2, s3, s4, s5, s6, s7, s8, s9, s10⟩ := hSw; go_simp; try (with_reducible rfl)
            simp only [Act.put, List.setIfInBounds_toArray, List.set_cons_zero, List.set_cons_succ]
            refine wpAnyH_take (i := 6) (oi := { dst := some 45, op := Op.load 93 (Operand.tmp 44), type := 93, pos := "l05_node.go:39", after := #[{ on := 5, ground := Ground.data }], guard := none }) (v := ?r11_v6) rfl (by kernel_rfl) (by kernel_rfl) (by kernel_rfl) (fun _ _ _ h => h) (Or.inl ⟨by rfl, ?r11_hy6⟩) (by assumption) ?r11_rest6
            case r11_hy6 => intro w hSw; obtain ⟨s0, s1, s2, s3, s4, s5, s6, s7, s8, s9, s10⟩ := hSw; go_simp; try (with_reducible rfl)
            simp only [Act.put, List.setIfInBounds_toArray, List.set_cons_zero, List.set_cons_succ]
            refine wpAnyH_ready (rs := [1, 7]) (by kernel_rfl) (by simp) ?_
            refine AllReadyH.cons (o := { dst := some 40, op := Op.load 30 (Operand.tmp 39), type := 30, pos := "l05_node.go:39", after := #[{ on := 0, ground := Ground.data }], guard := none }) rfl (fun K2 hK2 => ?_) (AllReadyH.cons (o := { dst := some 46, op := Op.call { callee := Callee.value (Operand.func 47), args := #[Operand.tmp 45], argTypes := #[93] }, type := 93, pos := "l05_node.go:39", after := #[{ on := 6, ground := Ground.data }], guard := none }) rfl (fun K2 hK2 => ?_) AllReadyH.nil)
            · go_simp
              refine hK2.out _ _ ?_ (fun hHeld2 => ?_)
              · exact KL.out _ (bel_drew (Below.refl _ _))
              clear hK2 K2 hHeld
              have hHeld := hHeld2
              clear hHeld2
              try simp only [Act.put, List.setIfInBounds_toArray, List.set_cons_zero, List.set_cons_succ]
              refine wpAnyH_ready (rs := [7]) (by kernel_rfl) (by simp) ?_
              refine AllReadyH.cons (o := { dst := some 46, op := Op.call { callee := Callee.value (Operand.func 47), args := #[Operand.tmp 45], argTypes := #[93] }, type := 93, pos := "l05_node.go:39", after := #[{ on := 6, ground := Ground.data }], guard := none }) rfl (fun K2 hK2 => ?_) AllReadyH.nil
              go_simp
              refine (l4Copy_any (d.h k) (hp k) _ hlx (hr1.below (bel_drew (Below.refl _ _))) (hrr.below (bel_drew (Below.refl _ _))) (hr3.below (bel_drew (Below.refl _ _)))).mono ?_
              rintro e w1 ⟨al, cl, ar, cr, aq, cq, rfl, o2, o3, o4, b1⟩
              replace b1 := bel_undrew b1
              replace o2 : w1.ownsRow wr.heap.size 3 1 (.slice al (d.h k).xs.length cl) (d.h k).xs.length ((d.h k).xs.map (Value.int .i64)) := o2
              replace o3 : w1.ownsRow wr.heap.size 4 1 (.slice ar (d.h k).bs.length cr) (d.h k).bs.length (bv (d.h k).bs) := o3
              replace o4 : w1.ownsRow wr.heap.size 90 2 (.slice aq (d.h k).ws.length cq) (d.h k).ws.length (wv (d.h k).ws) := o4
              go_wp2_with fail
              refine hK2.out _ _ ?_ (fun hHeld2 => ?_)
              · exact KL.out _ b1
              clear hK2 K2 hHeld
              have hHeld := hHeld2
              clear hHeld2
              try simp only [Act.put, List.setIfInBounds_toArray, List.set_cons_zero, List.set_cons_succ]
              refine wpAnyH_ready (rs := [8]) (by kernel_rfl) (by simp) ?_
              refine AllReadyH.cons (o := { dst := some 47, op := Op.buildSlice 30 1 #[(0, Operand.tmp 46)], type := 30, pos := "l05_node.go:39", after := #[{ on := 7, ground := Ground.data }], guard := none }) rfl (fun K2 hK2 => ?_) AllReadyH.nil
              go_simp
              refine hK2.out _ _ ?_ (fun hHeld2 => ?_)
              · exact KL.out _ (bel_alloc b1 _)
              clear hK2 K2 hHeld
              have hHeld := hHeld2
              clear hHeld2
              try simp only [Act.put, List.setIfInBounds_toArray, List.set_cons_zero, List.set_cons_succ]
              have XE := Box.new w1 #[.slice al (d.h k).xs.length cl, .int .i64 (d.h k).ow, .slice ar (d.h k).bs.length cr, .bool (d.h k).bz, .int .i64 (d.h k).wh, .bool (d.h k).wo, .int .i64 (d.h k).ak, .slice aq (d.h k).ws.length cq] 93
              have bE := bel_alloc (Below.refl w1.heap.size w1) (.cells #[.slice al (d.h k).xs.length cl, .int .i64 (d.h k).ow, .slice ar (d.h k).bs.length cr, .bool (d.h k).bz, .int .i64 (d.h k).wh, .bool (d.h k).wo, .int .i64 (d.h k).ak, .slice aq (d.h k).ws.length cq] 93)
              have b12 := bel_trans b1 bE
              have hr2 := owns_below hF.row b12
              refine wpAnyH_ready (rs := [9]) (by kernel_rfl) (by simp) ?_
              refine AllReadyH.cons (o := { dst := some 48, op := Op.call { callee := Callee.builtin Builtin.append, args := #[Operand.tmp 40, Operand.tmp 47], argTypes := #[30, 30] }, type := 30, pos := "l05_node.go:39", after := #[{ on := 1, ground := Ground.data }, { on := 8, ground := Ground.data }, { on := 7, ground := Ground.chain }], guard := none }) rfl (fun K2 hK2 => ?_) AllReadyH.nil
              refine step_append_lies _ rfl (.tmp 40) (.tmp 47) 30 rfl 0 93 i2 (.agg #[.slice none 0 0, .int .i64 0, .slice none 0 0, .bool false, .int .i64 0, .bool false, .int .i64 0, .slice none 0 0]) 8 112 Tryz.underlying30 hi2 hz20 hz21 hz22 rfl (by decide) (.slice ra2 k rc2) k (chunks k (fun i => hcells (d.h i) (rp2 i))) (by rfl) hr2 ⟨w1.heap.size, 0, none⟩ 1 1 [.slice al (d.h k).xs.length cl, .int .i64 (d.h k).ow, .slice ar (d.h k).bs.length cr, .bool (d.h k).bz, .int .i64 (d.h k).wh, .bool (d.h k).wo, .int .i64 (d.h k).ak, .slice aq (d.h k).ws.length cq] (by rfl) (by rfl) (World.news_of_block XE) (by intro u hu; simp at hu; rcases hu with rfl | rfl | rfl | rfl | rfl | rfl | rfl | rfl <;> rfl) (by decide) (by unfold maxLen; omega) (by omega) (Nat.zero_le _) (w1.heap.size + 1) (by simp) ?_
              intro g cap w5 o5 g5 hg hgl
              have on5 : Only (w1.alloc (.cells #[.slice al (d.h k).xs.length cl, .int .i64 (d.h k).ow, .slice ar (d.h k).bs.length cr, .bool (d.h k).bz, .int .i64 (d.h k).wh, .bool (d.h k).wo, .int .i64 (d.h k).ak, .slice aq (d.h k).ws.length cq] 93)) w5 (fun x => (Value.slice ra2 k rc2).ownBlock = some x) := (Only.refl _ _).grown g5 (fun j hj => hj)
              have hSr : ∀ x, (Value.slice ra2 k rc2).ownBlock = some x → lo2 ≤ x ∧ x < wr.heap.size := fun x hx => ⟨hlow x (.inl (blk_eq hx)), (hF.row.lt x hx).2⟩
              have C2 := (hC.below b12).only on5 (fun x hx => ⟨by have := (hSr x hx).1; have := HLW2.out; omega, fun e => by have := (hSr x hx).1; have := HLW2.out; omega, fun e => by have := (hSr x hx).1; have := HLG2.out x e; omega⟩)
              have hsb : ∀ x, (Value.slice ra2 k rc2).ownBlock = some x → b ≠ x := fun x hx e => by have := (hSr x hx).1; have := HLW2.out; omega
              have k1 : w5.cell? ⟨w.heap.size, 2, none⟩ = some (.slice (some ⟨b, off, none⟩) d.nh ch) := C2.xp.cell 2
              have kk0 := (g5.cell_far ⟨b, off + k * 8, none⟩ (by have := b12.size; simp; simp at this; omega) (fun e => hsb b e.symm rfl)).trans ((b12.cell (p := ⟨b, off + k * 8, none⟩) hbw).trans y0)
              have kk1 := (g5.cell_far ⟨b, off + k * 8 + 1, none⟩ (by have := b12.size; simp; simp at this; omega) (fun e => hsb b e.symm rfl)).trans ((b12.cell (p := ⟨b, off + k * 8 + 1, none⟩) hbw).trans y1)
              have kk2 := (g5.cell_far ⟨b, off + k * 8 + 2, none⟩ (by have := b12.size; simp; simp at this; omega) (fun e => hsb b e.symm rfl)).trans ((b12.cell (p := ⟨b, off + k * 8 + 2, none⟩) hbw).trans y2)
              have kk3 := (g5.cell_far ⟨b, off + k * 8 + 3, none⟩ (by have := b12.size; simp; simp at this; omega) (fun e => hsb b e.symm rfl)).trans ((b12.cell (p := ⟨b, off + k * 8 + 3, none⟩) hbw).trans y3)
              have kk4 := (g5.cell_far ⟨b, off + k * 8 + 4, none⟩ (by have := b12.size; simp; simp at this; omega) (fun e => hsb b e.symm rfl)).trans ((b12.cell (p := ⟨b, off + k * 8 + 4, none⟩) hbw).trans y4)
              have kk5 := (g5.cell_far ⟨b, off + k * 8 + 5, none⟩ (by have := b12.size; simp; simp at this; omega) (fun e => hsb b e.symm rfl)).trans ((b12.cell (p := ⟨b, off + k * 8 + 5, none⟩) hbw).trans y5)
              have kk6 := (g5.cell_far ⟨b, off + k * 8 + 6, none⟩ (by have := b12.size; simp; simp at this; omega) (fun e => hsb b e.symm rfl)).trans ((b12.cell (p := ⟨b, off + k * 8 + 6, none⟩) hbw).trans y6)
              have kk7 := (g5.cell_far ⟨b, off + k * 8 + 7, none⟩ (by have := b12.size; simp; simp at this; omega) (fun e => hsb b e.symm rfl)).trans ((b12.cell (p := ⟨b, off + k * 8 + 7, none⟩) hbw).trans y7)
              have kz := C2.xo.lt
              have kz2 := C2.xp.lt
              refine hK2.out _ _ ?_ (fun hHeld2 => ?_)
              · exact ⟨k1, kk0, kk1, kk2, kk3, kk4, kk5, kk6, kk7, kz, kz2⟩
              clear hK2 K2 hHeld
              have hHeld := hHeld2
              clear hHeld2
              try simp only [Act.put, List.setIfInBounds_toArray, List.set_cons_zero, List.set_cons_succ]
              refine wpAnyH_take (i := 10) (oi := { dst := some 49, op := Op.fieldAddr 34 (Operand.tmp 3) 2, type := 0, pos := "l05_node.go:39", after := #[{ on := 0, ground := Ground.phase }, { on := 1, ground := Ground.phase }, { on := 2, ground := Ground.phase }, { on := 3, ground := Ground.phase }, { on := 4, ground := Ground.phase }, { on := 5, ground := Ground.phase }, { on := 6, ground := Ground.phase }, { on := 7, ground := Ground.phase }, { on := 8, ground := Ground.phase }, { on := 9, ground := Ground.phase }], guard := none }) (v := ?r12_v10) rfl (by kernel_rfl) (by kernel_rfl) (by kernel_rfl) (fun _ _ _ h => h) (Or.inl ⟨by rfl, ?r12_hy10⟩) (by assumption) ?r12_rest10
              case r12_hy10 => intro w hSw; obtain ⟨s0, s1, s2, s3, s4, s5, s6, s7, s8, s9, s10⟩ := hSw; go_simp; try (with_reducible rfl)
              simp only [Act.put, List.setIfInBounds_toArray, List.set_cons_zero, List.set_cons_succ]
              have of := C2.xo.frozen 2
              have k0 : w5.cell? ⟨bo, 2, none⟩ = some (.slice ra2 k rc2) := C2.xo.cell 2
              have on6 : Only w5 (w5.setCell ⟨bo, 2, none⟩ (.slice (some ⟨g, 0, none⟩) (k + 1) cap)) (fun x => x = bo) := (Only.refl w5 (fun x => x = bo)).setCell ⟨bo, 2, none⟩ _ rfl
              have xo6 : Box (w5.setCell ⟨bo, 2, none⟩ (.slice (some ⟨g, 0, none⟩) (k + 1) cap)) bo #[.int .i64 d.id, .slice ra1 d.nf rc1, .slice (some ⟨g, 0, none⟩) (k + 1) cap, .slice none 0 0, .slice ai d.ni ci] 34 := heap_setCell_same _ _ 2 _ _ _ C2.xo
              have C6 := C2.put on6 xo6
              have hQn : ∀ x, (QH ⟨(al, cl), (ar, cr), (aq, cq)⟩) x → wr.heap.size ≤ x ∧ x < w1.heap.size := fun x hx => by rcases hx with hx | hx | hx; exact o2.lt x (blk_own (p := (al, cl)) hx); exact o3.lt x (blk_own (p := (ar, cr)) hx); exact o4.lt x (blk_own (p := (aq, cq)) hx)
              have o5' : w5.ownsRow 0 93 8 (.slice (some ⟨g, 0, none⟩) (k + 1) cap) (k + 1) (chunks k (fun i => hcells (d.h i) (rp2 i)) ++ hcells (d.h k) ⟨(al, cl), (ar, cr), (aq, cq)⟩) := o5
              have R5 := Rw.snoc hF b12 (cs := hcells (d.h k) ⟨(al, cl), (ar, cr), (aq, cq)⟩) (E' := EH (d.h k) ⟨(al, cl), (ar, cr), (aq, cq)⟩) (Q' := QH ⟨(al, cl), (ar, cr), (aq, cq)⟩) ((fix_h _ _ : Fix (QH ⟨(al, cl), (ar, cr), (aq, cq)⟩) (EH (d.h k) ⟨(al, cl), (ar, cr), (aq, cq)⟩)) _ _ (sm_bel bE) (⟨owns_base o2 (Nat.zero_le _), owns_base o3 (Nat.zero_le _), owns_base o4 (Nat.zero_le _)⟩)) (fix_h _ _) (fun x hx => by have h := hQn x hx; have := bE.size; omega) o5' g5 (hg.imp_right (fun e => by rw [e]; simp))
              have hol : ∀ x, RS (some ⟨g, 0, none⟩) cap (k + 1) (fun i => if i = k then QH ⟨(al, cl), (ar, cr), (aq, cq)⟩ else (fun i => QH (rp2 i)) i) x → lo2 ≤ x := fun x hx => by
                rcases hx with hx | ⟨i, hi, hx⟩
                · simp [blk] at hx
                  subst hx
                  rcases hg with hg | hg
                  · exact (hSr g hg).1
                  · have := b1.size; omega
                · by_cases e : i = k
                  · simp only [if_pos e] at hx
                    have h := hQn x hx
                    omega
                  · simp only [if_neg e] at hx
                    exact hlow x (.inr ⟨i, by omega, hx⟩)
              have R6 := Rw.sm R5 (on6.sm (fun x hx e => by have := hol x hx; have := HLW2.out; omega))
              have qF6 : Hid (Rw (w5.setCell ⟨bo, 2, none⟩ (.slice (some ⟨g, 0, none⟩) (k + 1) cap)) 50 3 ra1 rc1 d.nf d.nf (fun i => fcells (d.f i) (rp1 i)) (fun i => QF (rp1 i)) (fun i => EF (d.f i) (rp1 i))) := Rw.sm (Rw.sm (Rw.sm qF (sm_bel b12)) (on5.sm (fun x hx e => by have := (hSr x e).1; have := HUF2.out x hx; omega))) (on6.sm (fun x hx e => by have := HUF2.out x hx; have := HLW1.out; omega))
              have R7 : Hid (Rw (w5.setCell ⟨bo, 2, none⟩ (.slice (some ⟨g, 0, none⟩) (k + 1) cap)) 93 8 (some ⟨g, 0, none⟩) cap (k + 1) (k + 1) (fun i => hcells (d.h i) ((fun i => if i = k then ⟨(al, cl), (ar, cr), (aq, cq)⟩ else rp2 i) i)) (fun i => QH ((fun i => if i = k then ⟨(al, cl), (ar, cr), (aq, cq)⟩ else rp2 i) i)) (fun i => EH (d.h i) ((fun i => if i = k then ⟨(al, cl), (ar, cr), (aq, cq)⟩ else rp2 i) i))) := R6.congr (fun i hi => by by_cases e : i = k; (subst e; simp); (simp [e])) (fun i hi => by by_cases e : i = k; (subst e; simp); (simp [e])) (fun i hi => by by_cases e : i = k; (subst e; simp); (simp [e]))
              have hol7 : Hid (∀ x, RS (some ⟨g, 0, none⟩) cap (k + 1) (fun i => QH ((fun i => if i = k then ⟨(al, cl), (ar, cr), (aq, cq)⟩ else rp2 i) i)) x → lo2 ≤ x) := fun x hx => by
                apply hol x
                rcases hx with hx | ⟨i, hi, hx⟩
                · exact .inl hx
                · refine .inr ⟨i, hi, ?_⟩
                  by_cases e : i = k
                  · subst e; simpa using hx
                  · simpa [e] using hx
              have HC6 : Hid _ := C6
              have hlo6 : Hid (lo2 ≤ (w5.setCell ⟨bo, 2, none⟩ (.slice (some ⟨g, 0, none⟩) (k + 1) cap)).heap.size) := by show _ ≤ _; have h1 := b12.size; have h2 := on5.size; have h3 := on6.size; omega
              have m1 : (w5.setCell ⟨bo, 2, none⟩ (.slice (some ⟨g, 0, none⟩) (k + 1) cap)).cell? ⟨w.heap.size, 2, none⟩ = some (.slice (some ⟨b, off, none⟩) d.nh ch) := C6.xp.cell 2
              have mz := C6.xo.lt
              have mz2 := C6.xp.lt
              have mm0 := (World.cell?_setCell_far w5 ⟨bo, 2, none⟩ ⟨b, off + k * 8, none⟩ (.slice (some ⟨g, 0, none⟩) (k + 1) cap) (by simp; have := HLW2.out; omega)).trans kk0
              have mm1 := (World.cell?_setCell_far w5 ⟨bo, 2, none⟩ ⟨b, off + k * 8 + 1, none⟩ (.slice (some ⟨g, 0, none⟩) (k + 1) cap) (by simp; have := HLW2.out; omega)).trans kk1
              have mm2 := (World.cell?_setCell_far w5 ⟨bo, 2, none⟩ ⟨b, off + k * 8 + 2, none⟩ (.slice (some ⟨g, 0, none⟩) (k + 1) cap) (by simp; have := HLW2.out; omega)).trans kk2
              have mm3 := (World.cell?_setCell_far w5 ⟨bo, 2, none⟩ ⟨b, off + k * 8 + 3, none⟩ (.slice (some ⟨g, 0, none⟩) (k + 1) cap) (by simp; have := HLW2.out; omega)).trans kk3
              have mm4 := (World.cell?_setCell_far w5 ⟨bo, 2, none⟩ ⟨b, off + k * 8 + 4, none⟩ (.slice (some ⟨g, 0, none⟩) (k + 1) cap) (by simp; have := HLW2.out; omega)).trans kk4
              have mm5 := (World.cell?_setCell_far w5 ⟨bo, 2, none⟩ ⟨b, off + k * 8 + 5, none⟩ (.slice (some ⟨g, 0, none⟩) (k + 1) cap) (by simp; have := HLW2.out; omega)).trans kk5
              have mm6 := (World.cell?_setCell_far w5 ⟨bo, 2, none⟩ ⟨b, off + k * 8 + 6, none⟩ (.slice (some ⟨g, 0, none⟩) (k + 1) cap) (by simp; have := HLW2.out; omega)).trans kk6
              have mm7 := (World.cell?_setCell_far w5 ⟨bo, 2, none⟩ ⟨b, off + k * 8 + 7, none⟩ (.slice (some ⟨g, 0, none⟩) (k + 1) cap) (by simp; have := HLW2.out; omega)).trans kk7
              refine wpAnyH_ready (rs := [11]) (by kernel_rfl) (by simp) ?_
              refine AllReadyH.cons (o := { dst := none, op := Op.store 30 (Operand.tmp 49) (Operand.tmp 48), type := 0, pos := "l05_node.go:39", after := #[{ on := 10, ground := Ground.data }, { on := 9, ground := Ground.data }, { on := 9, ground := Ground.chain }, { on := 0, ground := Ground.phase }, { on := 1, ground := Ground.phase }, { on := 2, ground := Ground.phase }, { on := 3, ground := Ground.phase }, { on := 4, ground := Ground.phase }, { on := 5, ground := Ground.phase }, { on := 6, ground := Ground.phase }, { on := 7, ground := Ground.phase }, { on := 8, ground := Ground.phase }, { on := 9, ground := Ground.phase }], guard := none }) rfl (fun K2 hK2 => ?_) AllReadyH.nil
              go_simp
              refine hK2.out _ _ ?_ (fun hHeld2 => ?_)
              · exact ⟨m1, mm0, mm1, mm2, mm3, mm4, mm5, mm6, mm7, mz, mz2⟩
              clear hK2 K2 hHeld
              have hHeld := hHeld2
              clear hHeld2
              try simp only [Act.put, List.setIfInBounds_toArray, List.set_cons_zero, List.set_cons_succ]
              refine wpAnyH_done (by kernel_rfl) ?_ _
              clear C6 C2 R5 R6 hol hQn o5 o5' g5 on5 on6 xo6 hHeld m1 mz mz2 k1 k0 of kz kz2 hr2 XE bE b12 b1 hSr hsb hF hC hlow mm0 kk0 y0 mm1 kk1 y1 mm2 kk2 y2 mm3 kk3 y3 mm4 kk4 y4 mm5 kk5 y5 mm6 kk6 y6 mm7 kk7 y7 o2 o3 o4 hr1 hrr hr3 hlx har hbel ho0 x0 xz KL qF
              go_wp2
              go_roundw
              case rel => exact ⟨k + 1, by omega, by go_num, _, _, _, HC6.out, R7.out, hol7.out, qF6.out, hlo6.out⟩
              case measure => simp [intOf]; omega
            · go_simp
              refine (l4Copy_any (d.h k) (hp k) _ hlx (hr1.below (bel_drew (Below.refl _ _))) (hrr.below (bel_drew (Below.refl _ _))) (hr3.below (bel_drew (Below.refl _ _)))).mono ?_
              rintro e w1 ⟨al, cl, ar, cr, aq, cq, rfl, o2, o3, o4, b1⟩
              replace b1 := bel_undrew b1
              replace o2 : w1.ownsRow wr.heap.size 3 1 (.slice al (d.h k).xs.length cl) (d.h k).xs.length ((d.h k).xs.map (Value.int .i64)) := o2
              replace o3 : w1.ownsRow wr.heap.size 4 1 (.slice ar (d.h k).bs.length cr) (d.h k).bs.length (bv (d.h k).bs) := o3
              replace o4 : w1.ownsRow wr.heap.size 90 2 (.slice aq (d.h k).ws.length cq) (d.h k).ws.length (wv (d.h k).ws) := o4
              go_wp2_with fail
              refine hK2.out _ _ ?_ (fun hHeld2 => ?_)
              · exact KL.out _ b1
              clear hK2 K2 hHeld
              have hHeld := hHeld2
              clear hHeld2
              try simp only [Act.put, List.setIfInBounds_toArray, List.set_cons_zero, List.set_cons_succ]
              have hob : w1.cell? ⟨bo, 2, none⟩ = some (.slice ra2 k rc2) := (hC.below b1).xo.cell 2
              have hobz := (hC.below b1).xo.lt
              refine wpAnyH_ready (rs := [1, 8]) (by kernel_rfl) (by simp) ?_
              refine AllReadyH.cons (o := { dst := some 40, op := Op.load 30 (Operand.tmp 39), type := 30, pos := "l05_node.go:39", after := #[{ on := 0, ground := Ground.data }], guard := none }) rfl (fun K2 hK2 => ?_) (AllReadyH.cons (o := { dst := some 47, op := Op.buildSlice 30 1 #[(0, Operand.tmp 46)], type := 30, pos := "l05_node.go:39", after := #[{ on := 7, ground := Ground.data }], guard := none }) rfl (fun K2 hK2 => ?_) AllReadyH.nil)
              · go_simp
                refine hK2.out _ _ ?_ (fun hHeld2 => ?_)
                · exact KL.out _ b1
                clear hK2 K2 hHeld
                have hHeld := hHeld2
                clear hHeld2
                try simp only [Act.put, List.setIfInBounds_toArray, List.set_cons_zero, List.set_cons_succ]
                refine wpAnyH_ready (rs := [8]) (by kernel_rfl) (by simp) ?_
                refine AllReadyH.cons (o := { dst := some 47, op := Op.buildSlice 30 1 #[(0, Operand.tmp 46)], type := 30, pos := "l05_node.go:39", after := #[{ on := 7, ground := Ground.data }], guard := none }) rfl (fun K2 hK2 => ?_) AllReadyH.nil
                go_simp
                refine hK2.out _ _ ?_ (fun hHeld2 => ?_)
                · exact KL.out _ (bel_alloc b1 _)
                clear hK2 K2 hHeld
                have hHeld := hHeld2
                clear hHeld2
                try simp only [Act.put, List.setIfInBounds_toArray, List.set_cons_zero, List.set_cons_succ]
                clear hob hobz
                have XE := Box.new w1 #[.slice al (d.h k).xs.length cl, .int .i64 (d.h k).ow, .slice ar (d.h k).bs.length cr, .bool (d.h k).bz, .int .i64 (d.h k).wh, .bool (d.h k).wo, .int .i64 (d.h k).ak, .slice aq (d.h k).ws.length cq] 93
                have bE := bel_alloc (Below.refl w1.heap.size w1) (.cells #[.slice al (d.h k).xs.length cl, .int .i64 (d.h k).ow, .slice ar (d.h k).bs.length cr, .bool (d.h k).bz, .int .i64 (d.h k).wh, .bool (d.h k).wo, .int .i64 (d.h k).ak, .slice aq (d.h k).ws.length cq] 93)
                have b12 := bel_trans b1 bE
                have hr2 := owns_below hF.row b12
                refine wpAnyH_ready (rs := [9]) (by kernel_rfl) (by simp) ?_
                refine AllReadyH.cons (o := { dst := some 48, op := Op.call { callee := Callee.builtin Builtin.append, args := #[Operand.tmp 40, Operand.tmp 47], argTypes := #[30, 30] }, type := 30, pos := "l05_node.go:39", after := #[{ on := 1, ground := Ground.data }, { on := 8, ground := Ground.data }, { on := 7, ground := Ground.chain }], guard := none }) rfl (fun K2 hK2 => ?_) AllReadyH.nil
                refine step_append_lies _ rfl (.tmp 40) (.tmp 47) 30 rfl 0 93 i2 (.agg #[.slice none 0 0, .int .i64 0, .slice none 0 0, .bool false, .int .i64 0, .bool false, .int .i64 0, .slice none 0 0]) 8 112 Tryz.underlying30 hi2 hz20 hz21 hz22 rfl (by decide) (.slice ra2 k rc2) k (chunks k (fun i => hcells (d.h i) (rp2 i))) (by rfl) hr2 ⟨w1.heap.size, 0, none⟩ 1 1 [.slice al (d.h k).xs.length cl, .int .i64 (d.h k).ow, .slice ar (d.h k).bs.length cr, .bool (d.h k).bz, .int .i64 (d.h k).wh, .bool (d.h k).wo, .int .i64 (d.h k).ak, .slice aq (d.h k).ws.length cq] (by rfl) (by rfl) (World.news_of_block XE) (by intro u hu; simp at hu; rcases hu with rfl | rfl | rfl | rfl | rfl | rfl | rfl | rfl <;> rfl) (by decide) (by unfold maxLen; omega) (by omega) (Nat.zero_le _) (w1.heap.size + 1) (by simp) ?_
                intro g cap w5 o5 g5 hg hgl
                have on5 : Only (w1.alloc (.cells #[.slice al (d.h k).xs.length cl, .int .i64 (d.h k).ow, .slice ar (d.h k).bs.length cr, .bool (d.h k).bz, .int .i64 (d.h k).wh, .bool (d.h k).wo, .int .i64 (d.h k).ak, .slice aq (d.h k).ws.length cq] 93)) w5 (fun x => (Value.slice ra2 k rc2).ownBlock = some x) := (Only.refl _ _).grown g5 (fun j hj => hj)
                have hSr : ∀ x, (Value.slice ra2 k rc2).ownBlock = some x → lo2 ≤ x ∧ x < wr.heap.size := fun x hx => ⟨hlow x (.inl (blk_eq hx)), (hF.row.lt x hx).2⟩
                have C2 := (hC.below b12).only on5 (fun x hx => ⟨by have := (hSr x hx).1; have := HLW2.out; omega, fun e => by have := (hSr x hx).1; have := HLW2.out; omega, fun e => by have := (hSr x hx).1; have := HLG2.out x e; omega⟩)
                have hsb : ∀ x, (Value.slice ra2 k rc2).ownBlock = some x → b ≠ x := fun x hx e => by have := (hSr x hx).1; have := HLW2.out; omega
                have k1 : w5.cell? ⟨w.heap.size, 2, none⟩ = some (.slice (some ⟨b, off, none⟩) d.nh ch) := C2.xp.cell 2
                have kk0 := (g5.cell_far ⟨b, off + k * 8, none⟩ (by have := b12.size; simp; simp at this; omega) (fun e => hsb b e.symm rfl)).trans ((b12.cell (p := ⟨b, off + k * 8, none⟩) hbw).trans y0)
                have kk1 := (g5.cell_far ⟨b, off + k * 8 + 1, none⟩ (by have := b12.size; simp; simp at this; omega) (fun e => hsb b e.symm rfl)).trans ((b12.cell (p := ⟨b, off + k * 8 + 1, none⟩) hbw).trans y1)
                have kk2 := (g5.cell_far ⟨b, off + k * 8 + 2, none⟩ (by have := b12.size; simp; simp at this; omega) (fun e => hsb b e.symm rfl)).trans ((b12.cell (p := ⟨b, off + k * 8 + 2, none⟩) hbw).trans y2)
                have kk3 := (g5.cell_far ⟨b, off + k * 8 + 3, none⟩ (by have := b12.size; simp; simp at this; omega) (fun e => hsb b e.symm rfl)).trans ((b12.cell (p := ⟨b, off + k * 8 + 3, none⟩) hbw).trans y3)
                have kk4 := (g5.cell_far ⟨b, off + k * 8 + 4, none⟩ (by have := b12.size; simp; simp at this; omega) (fun e => hsb b e.symm rfl)).trans ((b12.cell (p := ⟨b, off + k * 8 + 4, none⟩) hbw).trans y4)
                have kk5 := (g5.cell_far ⟨b, off + k * 8 + 5, none⟩ (by have := b12.size; simp; simp at this; omega) (fun e => hsb b e.symm rfl)).trans ((b12.cell (p := ⟨b, off + k * 8 + 5, none⟩) hbw).trans y5)
                have kk6 := (g5.cell_far ⟨b, off + k * 8 + 6, none⟩ (by have := b12.size; simp; simp at this; omega) (fun e => hsb b e.symm rfl)).trans ((b12.cell (p := ⟨b, off + k * 8 + 6, none⟩) hbw).trans y6)
                have kk7 := (g5.cell_far ⟨b, off + k * 8 + 7, none⟩ (by have := b12.size; simp; simp at this; omega) (fun e => hsb b e.symm rfl)).trans ((b12.cell (p := ⟨b, off + k * 8 + 7, none⟩) hbw).trans y7)
                have kz := C2.xo.lt
                have kz2 := C2.xp.lt
                refine hK2.out _ _ ?_ (fun hHeld2 => ?_)
                · exact ⟨k1, kk0, kk1, kk2, kk3, kk4, kk5, kk6, kk7, kz, kz2⟩
                clear hK2 K2 hHeld
                have hHeld := hHeld2
                clear hHeld2
                try simp only [Act.put, List.setIfInBounds_toArray, List.set_cons_zero, List.set_cons_succ]
                refine wpAnyH_take (i := 10) (oi := { dst := some 49, op := Op.fieldAddr 34 (Operand.tmp 3) 2, type := 0, pos := "l05_node.go:39", after := #[{ on := 0, ground := Ground.phase }, { on := 1, ground := Ground.phase }, { on := 2, ground := Ground.phase }, { on := 3, ground := Ground.phase }, { on := 4, ground := Ground.phase }, { on := 5, ground := Ground.phase }, { on := 6, ground := Ground.phase }, { on := 7, ground := Ground.phase }, { on := 8, ground := Ground.phase }, { on := 9, ground := Ground.phase }], guard := none }) (v := ?r14_v10) rfl (by kernel_rfl) (by kernel_rfl) (by kernel_rfl) (fun _ _ _ h => h) (Or.inl ⟨by rfl, ?r14_hy10⟩) (by assumption) ?r14_rest10
                case r14_hy10 => intro w hSw; obtain ⟨s0, s1, s2, s3, s4, s5, s6, s7, s8, s9, s10⟩ := hSw; go_simp; try (with_reducible rfl)
                simp only [Act.put, List.setIfInBounds_toArray, List.set_cons_zero, List.set_cons_succ]
                have of := C2.xo.frozen 2
                have k0 : w5.cell? ⟨bo, 2, none⟩ = some (.slice ra2 k rc2) := C2.xo.cell 2
                have on6 : Only w5 (w5.setCell ⟨bo, 2, none⟩ (.slice (some ⟨g, 0, none⟩) (k + 1) cap)) (fun x => x = bo) := (Only.refl w5 (fun x => x = bo)).setCell ⟨bo, 2, none⟩ _ rfl
                have xo6 : Box (w5.setCell ⟨bo, 2, none⟩ (.slice (some ⟨g, 0, none⟩) (k + 1) cap)) bo #[.int .i64 d.id, .slice ra1 d.nf rc1, .slice (some ⟨g, 0, none⟩) (k + 1) cap, .slice none 0 0, .slice ai d.ni ci] 34 := heap_setCell_same _ _ 2 _ _ _ C2.xo
                have C6 := C2.put on6 xo6
                have hQn : ∀ x, (QH ⟨(al, cl), (ar, cr), (aq, cq)⟩) x → wr.heap.size ≤ x ∧ x < w1.heap.size := fun x hx => by rcases hx with hx | hx | hx; exact o2.lt x (blk_own (p := (al, cl)) hx); exact o3.lt x (blk_own (p := (ar, cr)) hx); exact o4.lt x (blk_own (p := (aq, cq)) hx)
                have o5' : w5.ownsRow 0 93 8 (.slice (some ⟨g, 0, none⟩) (k + 1) cap) (k + 1) (chunks k (fun i => hcells (d.h i) (rp2 i)) ++ hcells (d.h k) ⟨(al, cl), (ar, cr), (aq, cq)⟩) := o5
                have R5 := Rw.snoc hF b12 (cs := hcells (d.h k) ⟨(al, cl), (ar, cr), (aq, cq)⟩) (E' := EH (d.h k) ⟨(al, cl), (ar, cr), (aq, cq)⟩) (Q' := QH ⟨(al, cl), (ar, cr), (aq, cq)⟩) ((fix_h _ _ : Fix (QH ⟨(al, cl), (ar, cr), (aq, cq)⟩) (EH (d.h k) ⟨(al, cl), (ar, cr), (aq, cq)⟩)) _ _ (sm_bel bE) (⟨owns_base o2 (Nat.zero_le _), owns_base o3 (Nat.zero_le _), owns_base o4 (Nat.zero_le _)⟩)) (fix_h _ _) (fun x hx => by have h := hQn x hx; have := bE.size; omega) o5' g5 (hg.imp_right (fun e => by rw [e]; simp))
                have hol : ∀ x, RS (some ⟨g, 0, none⟩) cap (k + 1) (fun i => if i = k then QH ⟨(al, cl), (ar, cr), (aq, cq)⟩ else (fun i => QH (rp2 i)) i) x → lo2 ≤ x := fun x hx => by
                  rcases hx with hx | ⟨i, hi, hx⟩
                  · simp [blk] at hx
                    subst hx
                    rcases hg with hg | hg
                    · exact (hSr g hg).1
                    · have := b1.size; omega
                  · by_cases e : i = k
                    · simp only [if_pos e] at hx
                      have h := hQn x hx
                      omega
                    · simp only [if_neg e] at hx
                      exact hlow x (.inr ⟨i, by omega, hx⟩)
                have R6 := Rw.sm R5 (on6.sm (fun x hx e => by have := hol x hx; have := HLW2.out; omega))
                have qF6 : Hid (Rw (w5.setCell ⟨bo, 2, none⟩ (.slice (some ⟨g, 0, none⟩) (k + 1) cap)) 50 3 ra1 rc1 d.nf d.nf (fun i => fcells (d.f i) (rp1 i)) (fun i => QF (rp1 i)) (fun i => EF (d.f i) (rp1 i))) := Rw.sm (Rw.sm (Rw.sm qF (sm_bel b12)) (on5.sm (fun x hx e => by have := (hSr x e).1; have := HUF2.out x hx; omega))) (on6.sm (fun x hx e => by have := HUF2.out x hx; have := HLW1.out; omega))
                have R7 : Hid (Rw (w5.setCell ⟨bo, 2, none⟩ (.slice (some ⟨g, 0, none⟩) (k + 1) cap)) 93 8 (some ⟨g, 0, none⟩) cap (k + 1) (k + 1) (fun i => hcells (d.h i) ((fun i => if i = k then ⟨(al, cl), (ar, cr), (aq, cq)⟩ else rp2 i) i)) (fun i => QH ((fun i => if i = k then ⟨(al, cl), (ar, cr), (aq, cq)⟩ else rp2 i) i)) (fun i => EH (d.h i) ((fun i => if i = k then ⟨(al, cl), (ar, cr), (aq, cq)⟩ else rp2 i) i))) := R6.congr (fun i hi => by by_cases e : i = k; (subst e; simp); (simp [e])) (fun i hi => by by_cases e : i = k; (subst e; simp); (simp [e])) (fun i hi => by by_cases e : i = k; (subst e; simp); (simp [e]))
                have hol7 : Hid (∀ x, RS (some ⟨g, 0, none⟩) cap (k + 1) (fun i => QH ((fun i => if i = k then ⟨(al, cl), (ar, cr), (aq, cq)⟩ else rp2 i) i)) x → lo2 ≤ x) := fun x hx => by
                  apply hol x
                  rcases hx with hx | ⟨i, hi, hx⟩
                  · exact .inl hx
                  · refine .inr ⟨i, hi, ?_⟩
                    by_cases e : i = k
                    · subst e; simpa using hx
                    · simpa [e] using hx
                have HC6 : Hid _ := C6
                have hlo6 : Hid (lo2 ≤ (w5.setCell ⟨bo, 2, none⟩ (.slice (some ⟨g, 0, none⟩) (k + 1) cap)).heap.size) := by show _ ≤ _; have h1 := b12.size; have h2 := on5.size; have h3 := on6.size; omega
                have m1 : (w5.setCell ⟨bo, 2, none⟩ (.slice (some ⟨g, 0, none⟩) (k + 1) cap)).cell? ⟨w.heap.size, 2, none⟩ = some (.slice (some ⟨b, off, none⟩) d.nh ch) := C6.xp.cell 2
                have mz := C6.xo.lt
                have mz2 := C6.xp.lt
                have mm0 := (World.cell?_setCell_far w5 ⟨bo, 2, none⟩ ⟨b, off + k * 8, none⟩ (.slice (some ⟨g, 0, none⟩) (k + 1) cap) (by simp; have := HLW2.out; omega)).trans kk0
                have mm1 := (World.cell?_setCell_far w5 ⟨bo, 2, none⟩ ⟨b, off + k * 8 + 1, none⟩ (.slice (some ⟨g, 0, none⟩) (k + 1) cap) (by simp; have := HLW2.out; omega)).trans kk1
                have mm2 := (World.cell?_setCell_far w5 ⟨bo, 2, none⟩ ⟨b, off + k * 8 + 2, none⟩ (.slice (some ⟨g, 0, none⟩) (k + 1) cap) (by simp; have := HLW2.out; omega)).trans kk2
                have mm3 := (World.cell?_setCell_far w5 ⟨bo, 2, none⟩ ⟨b, off + k * 8 + 3, none⟩ (.slice (some ⟨g, 0, none⟩) (k + 1) cap) (by simp; have := HLW2.out; omega)).trans kk3
                have mm4 := (World.cell?_setCell_far w5 ⟨bo, 2, none⟩ ⟨b, off + k * 8 + 4, none⟩ (.slice (some ⟨g, 0, none⟩) (k + 1) cap) (by simp; have := HLW2.out; omega)).trans kk4
                have mm5 := (World.cell?_setCell_far w5 ⟨bo, 2, none⟩ ⟨b, off + k * 8 + 5, none⟩ (.slice (some ⟨g, 0, none⟩) (k + 1) cap) (by simp; have := HLW2.out; omega)).trans kk5
                have mm6 := (World.cell?_setCell_far w5 ⟨bo, 2, none⟩ ⟨b, off + k * 8 + 6, none⟩ (.slice (some ⟨g, 0, none⟩) (k + 1) cap) (by simp; have := HLW2.out; omega)).trans kk6
                have mm7 := (World.cell?_setCell_far w5 ⟨bo, 2, none⟩ ⟨b, off + k * 8 + 7, none⟩ (.slice (some ⟨g, 0, none⟩) (k + 1) cap) (by simp; have := HLW2.out; omega)).trans kk7
                refine wpAnyH_ready (rs := [11]) (by kernel_rfl) (by simp) ?_
                refine AllReadyH.cons (o := { dst := none, op := Op.store 30 (Operand.tmp 49) (Operand.tmp 48), type := 0, pos := "l05_node.go:39", after := #[{ on := 10, ground := Ground.data }, { on := 9, ground := Ground.data }, { on := 9, ground := Ground.chain }, { on := 0, ground := Ground.phase }, { on := 1, ground := Ground.phase }, { on := 2, ground := Ground.phase }, { on := 3, ground := Ground.phase }, { on := 4, ground := Ground.phase }, { on := 5, ground := Ground.phase }, { on := 6, ground := Ground.phase }, { on := 7, ground := Ground.phase }, { on := 8, ground := Ground.phase }, { on := 9, ground := Ground.phase }], guard := none }) rfl (fun K2 hK2 => ?_) AllReadyH.nil
                go_simp
                refine hK2.out _ _ ?_ (fun hHeld2 => ?_)
                · exact ⟨m1, mm0, mm1, mm2, mm3, mm4, mm5, mm6, mm7, mz, mz2⟩
                clear hK2 K2 hHeld
                have hHeld := hHeld2
                clear hHeld2
                try simp only [Act.put, List.setIfInBounds_toArray, List.set_cons_zero, List.set_cons_succ]
                refine wpAnyH_done (by kernel_rfl) ?_ _
                clear C6 C2 R5 R6 hol hQn o5 o5' g5 on5 on6 xo6 hHeld m1 mz mz2 k1 k0 of kz kz2 hr2 XE bE b12 b1 hSr hsb hF hC hlow mm0 kk0 y0 mm1 kk1 y1 mm2 kk2 y2 mm3 kk3 y3 mm4 kk4 y4 mm5 kk5 y5 mm6 kk6 y6 mm7 kk7 y7 o2 o3 o4 hr1 hrr hr3 hlx har hbel ho0 x0 xz KL qF
                go_wp2
                go_roundw
                case rel => exact ⟨k + 1, by omega, by go_num, _, _, _, HC6.out, R7.out, hol7.out, qF6.out, hlo6.out⟩
                case measure => simp [intOf]; omega
              · go_simp
                refine hK2.out _ _ ?_ (fun hHeld2 => ?_)
                · exact KL.out _ (bel_alloc b1 _)
                clear hK2 K2 hHeld
                have hHeld := hHeld2
                clear hHeld2
                try simp only [Act.put, List.setIfInBounds_toArray, List.set_cons_zero, List.set_cons_succ]
                have bq := bel_alloc b1 (.cells #[.slice al (d.h k).xs.length cl, .int .i64 (d.h k).ow, .slice ar (d.h k).bs.length cr, .bool (d.h k).bz, .int .i64 (d.h k).wh, .bool (d.h k).wo, .int .i64 (d.h k).ak, .slice aq (d.h k).ws.length cq] 93)
                have hoc : (w1.alloc (.cells #[.slice al (d.h k).xs.length cl, .int .i64 (d.h k).ow, .slice ar (d.h k).bs.length cr, .bool (d.h k).bz, .int .i64 (d.h k).wh, .bool (d.h k).wo, .int .i64 (d.h k).ak, .slice aq (d.h k).ws.length cq] 93)).cell? ⟨bo, 2, none⟩ = some (.slice ra2 k rc2) := (hC.below bq).xo.cell 2
                have hocz := (hC.below bq).xo.lt
                refine wpAnyH_ready (rs := [1]) (by kernel_rfl) (by simp) ?_
                refine AllReadyH.cons (o := { dst := some 40, op := Op.load 30 (Operand.tmp 39), type := 30, pos := "l05_node.go:39", after := #[{ on := 0, ground := Ground.data }], guard := none }) rfl (fun K2 hK2 => ?_) AllReadyH.nil
                go_simp
                refine hK2.out _ _ ?_ (fun hHeld2 => ?_)
                · exact KL.out _ (bel_alloc b1 _)
                clear hK2 K2 hHeld
                have hHeld := hHeld2
                clear hHeld2
                try simp only [Act.put, List.setIfInBounds_toArray, List.set_cons_zero, List.set_cons_succ]
                clear hob hobz hoc hocz bq
                have XE := Box.new w1 #[.slice al (d.h k).xs.length cl, .int .i64 (d.h k).ow, .slice ar (d.h k).bs.length cr, .bool (d.h k).bz, .int .i64 (d.h k).wh, .bool (d.h k).wo, .int .i64 (d.h k).ak, .slice aq (d.h k).ws.length cq] 93
                have bE := bel_alloc (Below.refl w1.heap.size w1) (.cells #[.slice al (d.h k).xs.length cl, .int .i64 (d.h k).ow, .slice ar (d.h k).bs.length cr, .bool (d.h k).bz, .int .i64 (d.h k).wh, .bool (d.h k).wo, .int .i64 (d.h k).ak, .slice aq (d.h k).ws.length cq] 93)
                have b12 := bel_trans b1 bE
                have hr2 := owns_below hF.row b12
                refine wpAnyH_ready (rs := [9]) (by kernel_rfl) (by simp) ?_
                refine AllReadyH.cons (o := { dst := some 48, op := Op.call { callee := Callee.builtin Builtin.append, args := #[Operand.tmp 40, Operand.tmp 47], argTypes := #[30, 30] }, type := 30, pos := "l05_node.go:39", after := #[{ on := 1, ground := Ground.data }, { on := 8, ground := Ground.data }, { on := 7, ground := Ground.chain }], guard := none }) rfl (fun K2 hK2 => ?_) AllReadyH.nil
                refine step_append_lies _ rfl (.tmp 40) (.tmp 47) 30 rfl 0 93 i2 (.agg #[.slice none 0 0, .int .i64 0, .slice none 0 0, .bool false, .int .i64 0, .bool false, .int .i64 0, .slice none 0 0]) 8 112 Tryz.underlying30 hi2 hz20 hz21 hz22 rfl (by decide) (.slice ra2 k rc2) k (chunks k (fun i => hcells (d.h i) (rp2 i))) (by rfl) hr2 ⟨w1.heap.size, 0, none⟩ 1 1 [.slice al (d.h k).xs.length cl, .int .i64 (d.h k).ow, .slice ar (d.h k).bs.length cr, .bool (d.h k).bz, .int .i64 (d.h k).wh, .bool (d.h k).wo, .int .i64 (d.h k).ak, .slice aq (d.h k).ws.length cq] (by rfl) (by rfl) (World.news_of_block XE) (by intro u hu; simp at hu; rcases hu with rfl | rfl | rfl | rfl | rfl | rfl | rfl | rfl <;> rfl) (by decide) (by unfold maxLen; omega) (by omega) (Nat.zero_le _) (w1.heap.size + 1) (by simp) ?_
                intro g cap w5 o5 g5 hg hgl
                have on5 : Only (w1.alloc (.cells #[.slice al (d.h k).xs.length cl, .int .i64 (d.h k).ow, .slice ar (d.h k).bs.length cr, .bool (d.h k).bz, .int .i64 (d.h k).wh, .bool (d.h k).wo, .int .i64 (d.h k).ak, .slice aq (d.h k).ws.length cq] 93)) w5 (fun x => (Value.slice ra2 k rc2).ownBlock = some x) := (Only.refl _ _).grown g5 (fun j hj => hj)
                have hSr : ∀ x, (Value.slice ra2 k rc2).ownBlock = some x → lo2 ≤ x ∧ x < wr.heap.size := fun x hx => ⟨hlow x (.inl (blk_eq hx)), (hF.row.lt x hx).2⟩
                have C2 := (hC.below b12).only on5 (fun x hx => ⟨by have := (hSr x hx).1; have := HLW2.out; omega, fun e => by have := (hSr x hx).1; have := HLW2.out; omega, fun e => by have := (hSr x hx).1; have := HLG2.out x e; omega⟩)
                have hsb : ∀ x, (Value.slice ra2 k rc2).ownBlock = some x → b ≠ x := fun x hx e => by have := (hSr x hx).1; have := HLW2.out; omega
                have k1 : w5.cell? ⟨w.heap.size, 2, none⟩ = some (.slice (some ⟨b, off, none⟩) d.nh ch) := C2.xp.cell 2
                have kk0 := (g5.cell_far ⟨b, off + k * 8, none⟩ (by have := b12.size; simp; simp at this; omega) (fun e => hsb b e.symm rfl)).trans ((b12.cell (p := ⟨b, off + k * 8, none⟩) hbw).trans y0)
                have kk1 := (g5.cell_far ⟨b, off + k * 8 + 1, none⟩ (by have := b12.size; simp; simp at this; omega) (fun e => hsb b e.symm rfl)).trans ((b12.cell (p := ⟨b, off + k * 8 + 1, none⟩) hbw).trans y1)
                have kk2 := (g5.cell_far ⟨b, off + k * 8 + 2, none⟩ (by have := b12.size; simp; simp at this; omega) (fun e => hsb b e.symm rfl)).trans ((b12.cell (p := ⟨b, off + k * 8 + 2, none⟩) hbw).trans y2)
                have kk3 := (g5.cell_far ⟨b, off + k * 8 + 3, none⟩ (by have := b12.size; simp; simp at this; omega) (fun e => hsb b e.symm rfl)).trans ((b12.cell (p := ⟨b, off + k * 8 + 3, none⟩) hbw).trans y3)
                have kk4 := (g5.cell_far ⟨b, off + k * 8 + 4, none⟩ (by have := b12.size; simp; simp at this; omega) (fun e => hsb b e.symm rfl)).trans ((b12.cell (p := ⟨b, off + k * 8 + 4, none⟩) hbw).trans y4)
                have kk5 := (g5.cell_far ⟨b, off + k * 8 + 5, none⟩ (by have := b12.size; simp; simp at this; omega) (fun e => hsb b e.symm rfl)).trans ((b12.cell (p := ⟨b, off + k * 8 + 5, none⟩) hbw).trans y5)
                have kk6 := (g5.cell_far ⟨b, off + k * 8 + 6, none⟩ (by have := b12.size; simp; simp at this; omega) (fun e => hsb b e.symm rfl)).trans ((b12.cell (p := ⟨b, off + k * 8 + 6, none⟩) hbw).trans y6)
                have kk7 := (g5.cell_far ⟨b, off + k * 8 + 7, none⟩ (by have := b12.size; simp; simp at this; omega) (fun e => hsb b e.symm rfl)).trans ((b12.cell (p := ⟨b, off + k * 8 + 7, none⟩) hbw).trans y7)
                have kz := C2.xo.lt
                have kz2 := C2.xp.lt
                refine hK2.out _ _ ?_ (fun hHeld2 => ?_)
                · exact ⟨k1, kk0, kk1, kk2, kk3, kk4, kk5, kk6, kk7, kz, kz2⟩
                clear hK2 K2 hHeld
                have hHeld := hHeld2
                clear hHeld2
                try simp only [Act.put, List.setIfInBounds_toArray, List.set_cons_zero, List.set_cons_succ]
                refine wpAnyH_take (i := 10) (oi := { dst := some 49, op := Op.fieldAddr 34 (Operand.tmp 3) 2, type := 0, pos := "l05_node.go:39", after := #[{ on := 0, ground := Ground.phase }, { on := 1, ground := Ground.phase }, { on := 2, ground := Ground.phase }, { on := 3, ground := Ground.phase }, { on := 4, ground := Ground.phase }, { on := 5, ground := Ground.phase }, { on := 6, ground := Ground.phase }, { on := 7, ground := Ground.phase }, { on := 8, ground := Ground.phase }, { on := 9, ground := Ground.phase }], guard := none }) (v := ?r15_v10) rfl (by kernel_rfl) (by kernel_rfl) (by kernel_rfl) (fun _ _ _ h => h) (Or.inl ⟨by rfl, ?r15_hy10⟩) (by assumption) ?r15_rest10
                case r15_hy10 => intro w hSw; obtain ⟨s0, s1, s2, s3, s4, s5, s6, s7, s8, s9, s10⟩ := hSw; go_simp; try (with_reducible rfl)
                simp only [Act.put, List.setIfInBounds_toArray, List.set_cons_zero, List.set_cons_succ]
                have of := C2.xo.frozen 2
                have k0 : w5.cell? ⟨bo, 2, none⟩ = some (.slice ra2 k rc2) := C2.xo.cell 2
                have on6 : Only w5 (w5.setCell ⟨bo, 2, none⟩ (.slice (some ⟨g, 0, none⟩) (k + 1) cap)) (fun x => x = bo) := (Only.refl w5 (fun x => x = bo)).setCell ⟨bo, 2, none⟩ _ rfl
                have xo6 : Box (w5.setCell ⟨bo, 2, none⟩ (.slice (some ⟨g, 0, none⟩) (k + 1) cap)) bo #[.int .i64 d.id, .slice ra1 d.nf rc1, .slice (some ⟨g, 0, none⟩) (k + 1) cap, .slice none 0 0, .slice ai d.ni ci] 34 := heap_setCell_same _ _ 2 _ _ _ C2.xo
                have C6 := C2.put on6 xo6
                have hQn : ∀ x, (QH ⟨(al, cl), (ar, cr), (aq, cq)⟩) x → wr.heap.size ≤ x ∧ x < w1.heap.size := fun x hx => by rcases hx with hx | hx | hx; exact o2.lt x (blk_own (p := (al, cl)) hx); exact o3.lt x (blk_own (p := (ar, cr)) hx); exact o4.lt x (blk_own (p := (aq, cq)) hx)
                have o5' : w5.ownsRow 0 93 8 (.slice (some ⟨g, 0, none⟩) (k + 1) cap) (k + 1) (chunks k (fun i => hcells (d.h i) (rp2 i)) ++ hcells (d.h k) ⟨(al, cl), (ar, cr), (aq, cq)⟩) := o5
                have R5 := Rw.snoc hF b12 (cs := hcells (d.h k) ⟨(al, cl), (ar, cr), (aq, cq)⟩) (E' := EH (d.h k) ⟨(al, cl), (ar, cr), (aq, cq)⟩) (Q' := QH ⟨(al, cl), (ar, cr), (aq, cq)⟩) ((fix_h _ _ : Fix (QH ⟨(al, cl), (ar, cr), (aq, cq)⟩) (EH (d.h k) ⟨(al, cl), (ar, cr), (aq, cq)⟩)) _ _ (sm_bel bE) (⟨owns_base o2 (Nat.zero_le _), owns_base o3 (Nat.zero_le _), owns_base o4 (Nat.zero_le _)⟩)) (fix_h _ _) (fun x hx => by have h := hQn x hx; have := bE.size; omega) o5' g5 (hg.imp_right (fun e => by rw [e]; simp))
                have hol : ∀ x, RS (some ⟨g, 0, none⟩) cap (k + 1) (fun i => if i = k then QH ⟨(al, cl), (ar, cr), (aq, cq)⟩ else (fun i => QH (rp2 i)) i) x → lo2 ≤ x := fun x hx => by
                  rcases hx with hx | ⟨i, hi, hx⟩
                  · simp [blk] at hx
                    subst hx
                    rcases hg with hg | hg
                    · exact (hSr g hg).1
                    · have := b1.size; omega
                  · by_cases e : i = k
                    · simp only [if_pos e] at hx
                      have h := hQn x hx
                      omega
                    · simp only [if_neg e] at hx
                      exact hlow x (.inr ⟨i, by omega, hx⟩)
                have R6 := Rw.sm R5 (on6.sm (fun x hx e => by have := hol x hx; have := HLW2.out; omega))
                have qF6 : Hid (Rw (w5.setCell ⟨bo, 2, none⟩ (.slice (some ⟨g, 0, none⟩) (k + 1) cap)) 50 3 ra1 rc1 d.nf d.nf (fun i => fcells (d.f i) (rp1 i)) (fun i => QF (rp1 i)) (fun i => EF (d.f i) (rp1 i))) := Rw.sm (Rw.sm (Rw.sm qF (sm_bel b12)) (on5.sm (fun x hx e => by have := (hSr x e).1; have := HUF2.out x hx; omega))) (on6.sm (fun x hx e => by have := HUF2.out x hx; have := HLW1.out; omega))
                have R7 : Hid (Rw (w5.setCell ⟨bo, 2, none⟩ (.slice (some ⟨g, 0, none⟩) (k + 1) cap)) 93 8 (some ⟨g, 0, none⟩) cap (k + 1) (k + 1) (fun i => hcells (d.h i) ((fun i => if i = k then ⟨(al, cl), (ar, cr), (aq, cq)⟩ else rp2 i) i)) (fun i => QH ((fun i => if i = k then ⟨(al, cl), (ar, cr), (aq, cq)⟩ else rp2 i) i)) (fun i => EH (d.h i) ((fun i => if i = k then ⟨(al, cl), (ar, cr), (aq, cq)⟩ else rp2 i) i))) := R6.congr (fun i hi => by by_cases e : i = k; (subst e; simp); (simp [e])) (fun i hi => by by_cases e : i = k; (subst e; simp); (simp [e])) (fun i hi => by by_cases e : i = k; (subst e; simp); (simp [e]))
                have hol7 : Hid (∀ x, RS (some ⟨g, 0, none⟩) cap (k + 1) (fun i => QH ((fun i => if i = k then ⟨(al, cl), (ar, cr), (aq, cq)⟩ else rp2 i) i)) x → lo2 ≤ x) := fun x hx => by
                  apply hol x
                  rcases hx with hx | ⟨i, hi, hx⟩
                  · exact .inl hx
                  · refine .inr ⟨i, hi, ?_⟩
                    by_cases e : i = k
                    · subst e; simpa using hx
                    · simpa [e] using hx
                have HC6 : Hid _ := C6
                have hlo6 : Hid (lo2 ≤ (w5.setCell ⟨bo, 2, none⟩ (.slice (some ⟨g, 0, none⟩) (k + 1) cap)).heap.size) := by show _ ≤ _; have h1 := b12.size; have h2 := on5.size; have h3 := on6.size; omega
                have m1 : (w5.setCell ⟨bo, 2, none⟩ (.slice (some ⟨g, 0, none⟩) (k + 1) cap)).cell? ⟨w.heap.size, 2, none⟩ = some (.slice (some ⟨b, off, none⟩) d.nh ch) := C6.xp.cell 2
                have mz := C6.xo.lt
                have mz2 := C6.xp.lt
                have mm0 := (World.cell?_setCell_far w5 ⟨bo, 2, none⟩ ⟨b, off + k * 8, none⟩ (.slice (some ⟨g, 0, none⟩) (k + 1) cap) (by simp; have := HLW2.out; omega)).trans kk0
                have mm1 := (World.cell?_setCell_far w5 ⟨bo, 2, none⟩ ⟨b, off + k * 8 + 1, none⟩ (.slice (some ⟨g, 0, none⟩) (k + 1) cap) (by simp; have := HLW2.out; omega)).trans kk1
                have mm2 := (World.cell?_setCell_far w5 ⟨bo, 2, none⟩ ⟨b, off + k * 8 + 2, none⟩ (.slice (some ⟨g, 0, none⟩) (k + 1) cap) (by simp; have := HLW2.out; omega)).trans kk2
                have mm3 := (World.cell?_setCell_far w5 ⟨bo, 2, none⟩ ⟨b, off + k * 8 + 3, none⟩ (.slice (some ⟨g, 0, none⟩) (k + 1) cap) (by simp; have := HLW2.out; omega)).trans kk3
                have mm4 := (World.cell?_setCell_far w5 ⟨bo, 2, none⟩ ⟨b, off + k * 8 + 4, none⟩ (.slice (some ⟨g, 0, none⟩) (k + 1) cap) (by simp; have := HLW2.out; omega)).trans kk4
                have mm5 := (World.cell?_setCell_far w5 ⟨bo, 2, none⟩ ⟨b, off + k * 8 + 5, none⟩ (.slice (some ⟨g, 0, none⟩) (k + 1) cap) (by simp; have := HLW2.out; omega)).trans kk5
                have mm6 := (World.cell?_setCell_far w5 ⟨bo, 2, none⟩ ⟨b, off + k * 8 + 6, none⟩ (.slice (some ⟨g, 0, none⟩) (k + 1) cap) (by simp; have := HLW2.out; omega)).trans kk6
                have mm7 := (World.cell?_setCell_far w5 ⟨bo, 2, none⟩ ⟨b, off + k * 8 + 7, none⟩ (.slice (some ⟨g, 0, none⟩) (k + 1) cap) (by simp; have := HLW2.out; omega)).trans kk7
                refine wpAnyH_ready (rs := [11]) (by kernel_rfl) (by simp) ?_
                refine AllReadyH.cons (o := { dst := none, op := Op.store 30 (Operand.tmp 49) (Operand.tmp 48), type := 0, pos := "l05_node.go:39", after := #[{ on := 10, ground := Ground.data }, { on := 9, ground := Ground.data }, { on := 9, ground := Ground.chain }, { on := 0, ground := Ground.phase }, { on := 1, ground := Ground.phase }, { on := 2, ground := Ground.phase }, { on := 3, ground := Ground.phase }, { on := 4, ground := Ground.phase }, { on := 5, ground := Ground.phase }, { on := 6, ground := Ground.phase }, { on := 7, ground := Ground.phase }, { on := 8, ground := Ground.phase }, { on := 9, ground := Ground.phase }], guard := none }) rfl (fun K2 hK2 => ?_) AllReadyH.nil
                go_simp
                refine hK2.out _ _ ?_ (fun hHeld2 => ?_)
                · exact ⟨m1, mm0, mm1, mm2, mm3, mm4, mm5, mm6, mm7, mz, mz2⟩
                clear hK2 K2 hHeld
                have hHeld := hHeld2
                clear hHeld2
                try simp only [Act.put, List.setIfInBounds_toArray, List.set_cons_zero, List.set_cons_succ]
                refine wpAnyH_done (by kernel_rfl) ?_ _
                clear C6 C2 R5 R6 hol hQn o5 o5' g5 on5 on6 xo6 hHeld m1 mz mz2 k1 k0 of kz kz2 hr2 XE bE b12 b1 hSr hsb hF hC hlow mm0 kk0 y0 mm1 kk1 y1 mm2 kk2 y2 mm3 kk3 y3 mm4 kk4 y4 mm5 kk5 y5 mm6 kk6 y6 mm7 kk7 y7 o2 o3 o4 hr1 hrr hr3 hlx har hbel ho0 x0 xz KL qF
                go_wp2
                go_roundw
                case rel => exact ⟨k + 1, by omega, by go_num, _, _, _, HC6.out, R7.out, hol7.out, qF6.out, hlo6.out⟩
                case measure => simp [intOf]; omega
          · obtain rfl : k = d.nh := by omega
            have HLC : Hid (LC w wr #[.int .i64 d.id, .slice af d.nf cf, .slice ah d.nh ch, .slice ao d.no co, .slice ai0 d.ni ci0] bo #[.int .i64 d.id, .slice ra1 d.nf rc1, .slice ra2 d.nh rc2, .slice none 0 0, .slice ai d.ni ci] ai ci d.ni d.g) := hC
            have RWH : Hid (Rw wr 93 8 ra2 rc2 d.nh d.nh (fun i => hcells (d.h i) (rp2 i)) (fun i => QH (rp2 i)) (fun i => EH (d.h i) (rp2 i))) := hF
            have HLOWH : Hid (∀ b, RS ra2 rc2 d.nh (fun i => QH (rp2 i)) b → lo2 ≤ b) := hlow
            have RWF : Hid (Rw wr 50 3 ra1 rc1 d.nf d.nf (fun i => fcells (d.f i) (rp1 i)) (fun i => QF (rp1 i)) (fun i => EF (d.f i) (rp1 i))) := qF
            have hE2 : Hid (lo2 ≤ wr.heap.size) := hlo
            clear hC hF hlow hlo hkn hk qF
            go_wp2_with fail
            clear x0 xz
            obtain ⟨lo3, hlo3⟩ : ∃ l, wr.heap.size = l := ⟨_, rfl⟩
            have HLO3 : Hid (wr.heap.size = lo3) := hlo3
            clear hlo3
            have HLW3 : Hid (w.heap.size + 2 ≤ bo ∧ bo < lo3) := ⟨HLC.out.hb, by have := HLC.out.xo.lt; have := HLO3.out; omega⟩
            have HLG3 : Hid (∀ x, blk (ai, ci) = some x → x < lo3) := fun x hx => by have := GO.lt HLC.out.gi hx; have := HLO3.out; omega
            have HUF3 : Hid (∀ x, RS ra1 rc1 d.nf (fun i => QF (rp1 i)) x → x < lo3 ∧ lo1 ≤ x) := fun x hx => ⟨by have := Rw.slt RWF.out hx; have := HLO3.out; omega, HLOWF.out x hx⟩
            have HUH3 : Hid (∀ x, RS ra2 rc2 d.nh (fun i => QH (rp2 i)) x → x < lo3 ∧ lo2 ≤ x) := fun x hx => ⟨by have := Rw.slt RWH.out hx; have := HLO3.out; omega, HLOWH.out x hx⟩
            have HXo0 := HLC.out.xp.cell 3
            have hxz0 := HLC.out.xp.lt
            go_wp2_with fail
            go_loopw [6] (fun i wr => ∃ k : Nat, k ≤ d.no ∧ i = .int .i64 k ∧ ∃ (ra3 : Option Addr) (rc3 : Nat) (rp3 : Nat → Pl) (rm3 : Nat → List M), LC w wr #[.int .i64 d.id, .slice af d.nf cf, .slice ah d.nh ch, .slice ao d.no co, .slice ai0 d.ni ci0] bo #[.int .i64 d.id, .slice ra1 d.nf rc1, .slice ra2 d.nh rc2, .slice ra3 k rc3, .slice ai d.ni ci] ai ci d.ni d.g ∧ Rw wr 54 2 ra3 rc3 k k (fun i => scells (d.b i) (rp3 i) (rm3 i).length) (fun i => QS (rp3 i) (rm3 i)) (fun i => ES (rp3 i) (rm3 i)) ∧ (∀ b, RS ra3 rc3 k (fun i => QS (rp3 i) (rm3 i)) b → lo3 ≤ b) ∧ (∀ i, i < k → (rm3 i).map M.say = d.y i) ∧ Rw wr 50 3 ra1 rc1 d.nf d.nf (fun i => fcells (d.f i) (rp1 i)) (fun i => QF (rp1 i)) (fun i => EF (d.f i) (rp1 i)) ∧ Rw wr 93 8 ra2 rc2 d.nh d.nh (fun i => hcells (d.h i) (rp2 i)) (fun i => QH (rp2 i)) (fun i => EH (d.h i) (rp2 i)) ∧ lo3 ≤ wr.heap.size) (fun i _ => d.no - (intOf i).toNat)
            case atStart => exact ⟨0, Nat.zero_le _, rfl, none, 0, (fun _ => (none, 0)), (fun _ => []), HLC.out, rw_nil _ _ _ _ _ _, fun b hb => by rcases hb with hb | ⟨i, hi, _⟩; (simp [blk] at hb); omega, fun i hi => absurd hi (Nat.not_lt_zero i), RWF.out, RWH.out, Nat.le_of_eq HLO3.out.symm⟩
            case round =>
              obtain ⟨k, hk, rfl, ra3, rc3, rp3, rm3, hC, hF, hlow, hY, qF, qH, hlo⟩ := hrel
              have HY : Hid (∀ i, i < k → (rm3 i).map M.say = d.y i) := hY
              clear hY
              clear HXo0 hxz0 HLC RWF RWH
              have x0 : wr.cell? ⟨w.heap.size, 3, none⟩ = some (.slice ao d.no co) := hC.xp.cell 3
              have xz := hC.xp.lt
              by_cases hkn : k < d.no
              · have hi' : (k : Int) < (d.no : Int) := by omega
                have har := HRo.out.below hC.B
                have hbel := hC.B
                obtain ⟨b, off, rfl, y0, y1⟩ := HRo.out.at hkn
                obtain ⟨hm, hE⟩ := har.2.2 k hkn
                have HE : Hid ((ms k).map M.say = d.y k) := hE
                have hl2 : (d.y k).length = (ms k).length := by rw [← hE, List.length_map]
                rw [hl2] at y1
                clear hl2 hE
                have hlx := HM.out k hkn
                have hb0 : b < w.heap.size := lt_of_cell y0
                replace y0 := (hbel.cell (p := ⟨b, off + k * 2, none⟩) hb0).trans y0
                replace y1 := (hbel.cell (p := ⟨b, off + k * 2 + 1, none⟩) hb0).trans y1
                have hbw : b < wr.heap.size := Nat.lt_of_lt_of_le hb0 hbel.size
                have ho0 : wr.cell? ⟨bo, 3, none⟩ = some (.slice ra3 k rc3) := hC.xo.cell 3
                have hoz := hC.xo.lt
                have KL : Hid (∀ w', Below wr.heap.size wr w' → w'.cell? ⟨w.heap.size, 3, none⟩ = some (.slice (some ⟨b, off, none⟩) d.no co) ∧ w'.cell? ⟨b, off + k * 2, none⟩ = some (.int .i64 (d.b k)) ∧ w'.cell? ⟨b, off + k * 2 + 1, none⟩ = some (.slice (op k).1 (ms k).length (op k).2) ∧ bo < w'.heap.size ∧ w.heap.size < w'.heap.size) := fun w' bb => ⟨(bb.cell (p := ⟨w.heap.size, 3, none⟩) xz).trans x0, (bb.cell (p := ⟨b, off + k * 2, none⟩) hbw).trans y0, (bb.cell (p := ⟨b, off + k * 2 + 1, none⟩) hbw).trans y1, Nat.lt_of_lt_of_le hoz bb.size, Nat.lt_of_lt_of_le xz bb.size⟩
                go_wp2_with fail
                refine wp_region_held_drew (S := (fun w' => w'.cell? ⟨w.heap.size, 3, none⟩ = some (.slice (some ⟨b, off, none⟩) d.no co) ∧ w'.cell? ⟨b, off + k * 2, none⟩ = some (.int .i64 (d.b k)) ∧ w'.cell? ⟨b, off + k * 2 + 1, none⟩ = some (.slice (op k).1 (ms k).length (op k).2) ∧ bo < w'.heap.size ∧ w.heap.size < w'.heap.size)) (by kernel_rfl) ?_ (fun hHeld => ?_)
                · exact KL.out _ (bel_drew (Below.refl _ _))
                refine wpAnyH_take (i := 0) (oi := { dst := some 57, op := Op.fieldAddr 34 (Operand.tmp 3) 3, type := 0, pos := "l05_node.go:42", after := #[], guard := none }) (v := ?r16_v0) rfl (by kernel_rfl) (by kernel_rfl) (by kernel_rfl) (fun _ _ _ h => h) (Or.inl ⟨by rfl, ?r16_hy0⟩) (by assumption) ?r16_rest0
                case r16_hy0 => intro w hSw; obtain ⟨s0, s1, s2, s3, s4⟩ := hSw; go_simp; try (with_reducible rfl)
                simp only [Act.put, List.setIfInBounds_toArray, List.set_cons_zero, List.set_cons_succ]
                refine wpAnyH_take (i := 2) (oi := { dst := some 59, op := Op.fieldAddr 34 (Operand.tmp 1) 3, type := 0, pos := "l05_node.go:42", after := #[], guard := none }) (v := ?r16_v2) rfl (by kernel_rfl) (by kernel_rfl) (by kernel_rfl) (fun _ _ _ h => h) (Or.inl ⟨by rfl, ?r16_hy2⟩) (by assumption) ?r16_rest2
                case r16_hy2 => intro w hSw; obtain ⟨s0, s1, s2, s3, s4⟩ := hSw; go_simp; try (with_reducible rfl)
                simp only [Act.put, List.setIfInBounds_toArray, List.set_cons_zero, List.set_cons_succ]
                refine wpAnyH_take (i := 3) (oi := { dst := some 60, op := Op.load 31 (Operand.tmp 59), type := 31, pos := "l05_node.go:42", after := #[{ on := 2, ground := Ground.data }], guard := none }) (v := ?r16_v3) rfl (by kernel_rfl) (by kernel_rfl) (by kernel_rfl) (fun _ _ _ h => h) (Or.inl ⟨by rfl, ?r16_hy3⟩) (by assumption) ?r16_rest3
                case r16_hy3 => intro w hSw; obtain ⟨s0, s1, s2, s3, s4⟩ := hSw; go_simp; try (with_reducible rfl)
                simp only [Act.put, List.setIfInBounds_toArray, List.set_cons_zero, List.set_cons_succ]
                refine wpAnyH_take (i := 4) (oi := { dst := some 61, op := Op.move (Operand.tmp 6), type := 3, pos := "l05_node.go:42", after := #[], guard := none }) (v := ?r16_v4) rfl (by kernel_rfl) (by kernel_rfl) (by kernel_rfl) (fun _ _ _ h => h) (Or.inl ⟨by rfl, ?r16_hy4⟩) (by assumption) ?r16_rest4
                case r16_hy4 => intro w hSw; obtain ⟨s0, s1, s2, s3, s4⟩ := hSw; go_simp; try (with_reducible rfl)
                simp only [Act.put, List.setIfInBounds_toArray, List.set_cons_zero, List.set_cons_succ]
                refine wpAnyH_take (i := 5) (oi := { dst := some 62, op := Op.indexAddr 31 (Operand.tmp 60) (Operand.tmp 61), type := 0, pos := "l05_node.go:42", after := #[{ on := 3, ground := Ground.data }, { on := 4, ground := Ground.data }], guard := none }) (v := ?r16_v5) rfl (by kernel_rfl) (by kernel_rfl) (by kernel_rfl) (fun _ _ _ h => h) (Or.inl ⟨by rfl, ?r16_hy5⟩) (by assumption) ?r16_rest5
                case r16_hy5 => intro w hSw; obtain ⟨s0, s1, s2, s3, s4⟩ := hSw; go_simp; try (with_reducible rfl)
                simp only [Act.put, List.setIfInBounds_toArray, List.set_cons_zero, List.set_cons_succ]
                refine wpAnyH_take (i := 6) (oi := { dst := some 63, op := Op.load 54 (Operand.tmp 62), type := 54, pos := "l05_node.go:42", after := #[{ on := 5, ground := Ground.data }], guard := none }) (v := ?r16_v6) rfl (by kernel_rfl) (by kernel_rfl) (by kernel_rfl) (fun _ _ _ h => h) (Or.inl ⟨by rfl, ?r16_hy6⟩) (by assumption) ?r16_rest6
                case r16_hy6 => intro w hSw; obtain ⟨s0, s1, s2, s3, s4⟩ := hSw; go_simp; try (with_reducible rfl)
                simp only [Act.put, List.setIfInBounds_toArray, List.set_cons_zero, List.set_cons_succ]
                refine wpAnyH_ready (rs := [1, 7]) (by kernel_rfl) (by simp) ?_
                refine AllReadyH.cons (o := { dst := some 58, op := Op.load 31 (Operand.tmp 57), type := 31, pos := "l05_node.go:42", after := #[{ on := 0, ground := Ground.data }], guard := none }) rfl (fun K2 hK2 => ?_) (AllReadyH.cons (o := { dst := some 64, op := Op.call { callee := Callee.value (Operand.func 48), args := #[Operand.tmp 63], argTypes := #[54] }, type := 54, pos := "l05_node.go:42", after := #[{ on := 6, ground := Ground.data }], guard := none }) rfl (fun K2 hK2 => ?_) AllReadyH.nil)
                · go_simp
                  refine hK2.out _ _ ?_ (fun hHeld2 => ?_)
                  · exact KL.out _ (bel_drew (Below.refl _ _))
                  clear hK2 K2 hHeld
                  have hHeld := hHeld2
                  clear hHeld2
                  try simp only [Act.put, List.setIfInBounds_toArray, List.set_cons_zero, List.set_cons_succ]
                  refine wpAnyH_ready (rs := [7]) (by kernel_rfl) (by simp) ?_
                  refine AllReadyH.cons (o := { dst := some 64, op := Op.call { callee := Callee.value (Operand.func 48), args := #[Operand.tmp 63], argTypes := #[54] }, type := 54, pos := "l05_node.go:42", after := #[{ on := 6, ground := Ground.data }], guard := none }) rfl (fun K2 hK2 => ?_) AllReadyH.nil
                  go_simp
                  refine (l2Sender_any (d.b k) (op k).1 (op k).2 (ms k) _ (hm.below (bel_drew (Below.refl _ _))) hlx).mono ?_
                  rintro e w1 ⟨a2, c2, ds, rfl, hds, o2, b1⟩
                  replace b1 := bel_undrew b1
                  replace o2 : Deep w1 wr.heap.size a2 c2 ds := o2
                  have hl3 : ds.length = (ms k).length := by have := congrArg List.length hds; simpa using this
                  have HY2 : Hid (∀ i, i < k + 1 → ((fun i => if i = k then ds else rm3 i) i).map M.say = d.y i) := fun i hi => (if e : i = k then by subst e; simp only [if_pos]; exact hds.trans HE.out else by simp only [if_neg e]; exact HY.out i (by omega))
                  go_wp2_with fail
                  refine hK2.out _ _ ?_ (fun hHeld2 => ?_)
                  · exact KL.out _ b1
                  clear hK2 K2 hHeld
                  have hHeld := hHeld2
                  clear hHeld2
                  try simp only [Act.put, List.setIfInBounds_toArray, List.set_cons_zero, List.set_cons_succ]
                  refine wpAnyH_ready (rs := [8]) (by kernel_rfl) (by simp) ?_
                  refine AllReadyH.cons (o := { dst := some 65, op := Op.buildSlice 31 1 #[(0, Operand.tmp 64)], type := 31, pos := "l05_node.go:42", after := #[{ on := 7, ground := Ground.data }], guard := none }) rfl (fun K2 hK2 => ?_) AllReadyH.nil
                  go_simp
                  refine hK2.out _ _ ?_ (fun hHeld2 => ?_)
                  · exact KL.out _ (bel_alloc b1 _)
                  clear hK2 K2 hHeld
                  have hHeld := hHeld2
                  clear hHeld2
                  try simp only [Act.put, List.setIfInBounds_toArray, List.set_cons_zero, List.set_cons_succ]
                  have XE := Box.new w1 #[.int .i64 (d.b k), .slice a2 (ms k).length c2] 54
                  have bE := bel_alloc (Below.refl w1.heap.size w1) (.cells #[.int .i64 (d.b k), .slice a2 (ms k).length c2] 54)
                  have b12 := bel_trans b1 bE
                  have hr2 := owns_below hF.row b12
                  refine wpAnyH_ready (rs := [9]) (by kernel_rfl) (by simp) ?_
                  refine AllReadyH.cons (o := { dst := some 66, op := Op.call { callee := Callee.builtin Builtin.append, args := #[Operand.tmp 58, Operand.tmp 65], argTypes := #[31, 31] }, type := 31, pos := "l05_node.go:42", after := #[{ on := 1, ground := Ground.data }, { on := 8, ground := Ground.data }, { on := 7, ground := Ground.chain }], guard := none }) rfl (fun K2 hK2 => ?_) AllReadyH.nil
                  refine step_append_lies _ rfl (.tmp 58) (.tmp 65) 31 rfl 0 54 i3 (.agg #[.int .i64 0, .slice none 0 0]) 2 32 Tryz.underlying31 hi3 hz30 hz31 hz32 rfl (by decide) (.slice ra3 k rc3) k (chunks k (fun i => scells (d.b i) (rp3 i) (rm3 i).length)) (by rfl) hr2 ⟨w1.heap.size, 0, none⟩ 1 1 [.int .i64 (d.b k), .slice a2 (ms k).length c2] (by rfl) (by rfl) (World.news_of_block XE) (by intro u hu; simp at hu; rcases hu with rfl | rfl <;> rfl) (by decide) (by unfold maxLen; omega) (by omega) (Nat.zero_le _) (w1.heap.size + 1) (by simp) ?_
                  intro g cap w5 o5 g5 hg hgl
                  have on5 : Only (w1.alloc (.cells #[.int .i64 (d.b k), .slice a2 (ms k).length c2] 54)) w5 (fun x => (Value.slice ra3 k rc3).ownBlock = some x) := (Only.refl _ _).grown g5 (fun j hj => hj)
                  have hSr : ∀ x, (Value.slice ra3 k rc3).ownBlock = some x → lo3 ≤ x ∧ x < wr.heap.size := fun x hx => ⟨hlow x (.inl (blk_eq hx)), (hF.row.lt x hx).2⟩
                  have C2 := (hC.below b12).only on5 (fun x hx => ⟨by have := (hSr x hx).1; have := HLW3.out; omega, fun e => by have := (hSr x hx).1; have := HLW3.out; omega, fun e => by have := (hSr x hx).1; have := HLG3.out x e; omega⟩)
                  have hsb : ∀ x, (Value.slice ra3 k rc3).ownBlock = some x → b ≠ x := fun x hx e => by have := (hSr x hx).1; have := HLW3.out; omega
                  have k1 : w5.cell? ⟨w.heap.size, 3, none⟩ = some (.slice (some ⟨b, off, none⟩) d.no co) := C2.xp.cell 3
                  have kk0 := (g5.cell_far ⟨b, off + k * 2, none⟩ (by have := b12.size; simp; simp at this; omega) (fun e => hsb b e.symm rfl)).trans ((b12.cell (p := ⟨b, off + k * 2, none⟩) hbw).trans y0)
                  have kk1 := (g5.cell_far ⟨b, off + k * 2 + 1, none⟩ (by have := b12.size; simp; simp at this; omega) (fun e => hsb b e.symm rfl)).trans ((b12.cell (p := ⟨b, off + k * 2 + 1, none⟩) hbw).trans y1)
                  have kz := C2.xo.lt
                  have kz2 := C2.xp.lt
                  refine hK2.out _ _ ?_ (fun hHeld2 => ?_)
                  · exact ⟨k1, kk0, kk1, kz, kz2⟩
                  clear hK2 K2 hHeld
                  have hHeld := hHeld2
                  clear hHeld2
                  try simp only [Act.put, List.setIfInBounds_toArray, List.set_cons_zero, List.set_cons_succ]
                  refine wpAnyH_take (i := 10) (oi := { dst := some 67, op := Op.fieldAddr 34 (Operand.tmp 3) 3, type := 0, pos := "l05_node.go:42", after := #[{ on := 0, ground := Ground.phase }, { on := 1, ground := Ground.phase }, { on := 2, ground := Ground.phase }, { on := 3, ground := Ground.phase }, { on := 4, ground := Ground.phase }, { on := 5, ground := Ground.phase }, { on := 6, ground := Ground.phase }, { on := 7, ground := Ground.phase }, { on := 8, ground := Ground.phase }, { on := 9, ground := Ground.phase }], guard := none }) (v := ?r17_v10) rfl (by kernel_rfl) (by kernel_rfl) (by kernel_rfl) (fun _ _ _ h => h) (Or.inl ⟨by rfl, ?r17_hy10⟩) (by assumption) ?r17_rest10
                  case r17_hy10 => intro w hSw; obtain ⟨s0, s1, s2, s3, s4⟩ := hSw; go_simp; try (with_reducible rfl)
                  simp only [Act.put, List.setIfInBounds_toArray, List.set_cons_zero, List.set_cons_succ]
                  have of := C2.xo.frozen 3
                  have k0 : w5.cell? ⟨bo, 3, none⟩ = some (.slice ra3 k rc3) := C2.xo.cell 3
                  have on6 : Only w5 (w5.setCell ⟨bo, 3, none⟩ (.slice (some ⟨g, 0, none⟩) (k + 1) cap)) (fun x => x = bo) := (Only.refl w5 (fun x => x = bo)).setCell ⟨bo, 3, none⟩ _ rfl
                  have xo6 : Box (w5.setCell ⟨bo, 3, none⟩ (.slice (some ⟨g, 0, none⟩) (k + 1) cap)) bo #[.int .i64 d.id, .slice ra1 d.nf rc1, .slice ra2 d.nh rc2, .slice (some ⟨g, 0, none⟩) (k + 1) cap, .slice ai d.ni ci] 34 := heap_setCell_same _ _ 3 _ _ _ C2.xo
                  have C6 := C2.put on6 xo6
                  have hQn : ∀ x, (QS (a2, c2) ds) x → wr.heap.size ≤ x ∧ x < w1.heap.size := fun x hx => by rcases hx with hx | ⟨y, hy, hx⟩; exact o2.row.lt x (blk_own (p := (a2, c2)) hx); exact o2.lists.lt hy hx
                  have o5' : w5.ownsRow 0 54 2 (.slice (some ⟨g, 0, none⟩) (k + 1) cap) (k + 1) (chunks k (fun i => scells (d.b i) (rp3 i) (rm3 i).length) ++ scells (d.b k) (a2, c2) ds.length) := by rw [hl3]; exact o5
                  have R5 := Rw.snoc hF b12 (cs := scells (d.b k) (a2, c2) ds.length) (E' := ES (a2, c2) ds) (Q' := QS (a2, c2) ds) ((fix_s _ _ : Fix (QS (a2, c2) ds) (ES (a2, c2) ds)) _ _ (sm_bel bE) (⟨owns_base o2.row (Nat.zero_le _), o2.lists.base (Nat.zero_le _)⟩)) (fix_s _ _) (fun x hx => by have h := hQn x hx; have := bE.size; omega) o5' g5 (hg.imp_right (fun e => by rw [e]; simp))
                  have hol : ∀ x, RS (some ⟨g, 0, none⟩) cap (k + 1) (fun i => if i = k then QS (a2, c2) ds else (fun i => QS (rp3 i) (rm3 i)) i) x → lo3 ≤ x := fun x hx => by
                    rcases hx with hx | ⟨i, hi, hx⟩
                    · simp [blk] at hx
                      subst hx
                      rcases hg with hg | hg
                      · exact (hSr g hg).1
                      · have := b1.size; omega
                    · by_cases e : i = k
                      · simp only [if_pos e] at hx
                        have h := hQn x hx
                        omega
                      · simp only [if_neg e] at hx
                        exact hlow x (.inr ⟨i, by omega, hx⟩)
                  have R6 := Rw.sm R5 (on6.sm (fun x hx e => by have := hol x hx; have := HLW3.out; omega))
                  have qF6 : Hid (Rw (w5.setCell ⟨bo, 3, none⟩ (.slice (some ⟨g, 0, none⟩) (k + 1) cap)) 50 3 ra1 rc1 d.nf d.nf (fun i => fcells (d.f i) (rp1 i)) (fun i => QF (rp1 i)) (fun i => EF (d.f i) (rp1 i))) := Rw.sm (Rw.sm (Rw.sm qF (sm_bel b12)) (on5.sm (fun x hx e => by have := (hSr x e).1; have := HUF3.out x hx; omega))) (on6.sm (fun x hx e => by have := HUF3.out x hx; have := HLW1.out; omega))
                  have qH6 : Hid (Rw (w5.setCell ⟨bo, 3, none⟩ (.slice (some ⟨g, 0, none⟩) (k + 1) cap)) 93 8 ra2 rc2 d.nh d.nh (fun i => hcells (d.h i) (rp2 i)) (fun i => QH (rp2 i)) (fun i => EH (d.h i) (rp2 i))) := Rw.sm (Rw.sm (Rw.sm qH (sm_bel b12)) (on5.sm (fun x hx e => by have := (hSr x e).1; have := HUH3.out x hx; omega))) (on6.sm (fun x hx e => by have := HUH3.out x hx; have := HLW2.out; omega))
                  have R7 : Hid (Rw (w5.setCell ⟨bo, 3, none⟩ (.slice (some ⟨g, 0, none⟩) (k + 1) cap)) 54 2 (some ⟨g, 0, none⟩) cap (k + 1) (k + 1) (fun i => scells (d.b i) ((fun i => if i = k then (a2, c2) else rp3 i) i) ((fun i => if i = k then ds else rm3 i) i).length) (fun i => QS ((fun i => if i = k then (a2, c2) else rp3 i) i) ((fun i => if i = k then ds else rm3 i) i)) (fun i => ES ((fun i => if i = k then (a2, c2) else rp3 i) i) ((fun i => if i = k then ds else rm3 i) i))) := R6.congr (fun i hi => by by_cases e : i = k; (subst e; simp); (simp [e])) (fun i hi => by by_cases e : i = k; (subst e; simp); (simp [e])) (fun i hi => by by_cases e : i = k; (subst e; simp); (simp [e]))
                  have hol7 : Hid (∀ x, RS (some ⟨g, 0, none⟩) cap (k + 1) (fun i => QS ((fun i => if i = k then (a2, c2) else rp3 i) i) ((fun i => if i = k then ds else rm3 i) i)) x → lo3 ≤ x) := fun x hx => by
                    apply hol x
                    rcases hx with hx | ⟨i, hi, hx⟩
                    · exact .inl hx
                    · refine .inr ⟨i, hi, ?_⟩
                      by_cases e : i = k
                      · subst e; simpa using hx
                      · simpa [e] using hx
                  have HC6 : Hid _ := C6
                  have hlo6 : Hid (lo3 ≤ (w5.setCell ⟨bo, 3, none⟩ (.slice (some ⟨g, 0, none⟩) (k + 1) cap)).heap.size) := by show _ ≤ _; have h1 := b12.size; have h2 := on5.size; have h3 := on6.size; omega
                  have m1 : (w5.setCell ⟨bo, 3, none⟩ (.slice (some ⟨g, 0, none⟩) (k + 1) cap)).cell? ⟨w.heap.size, 3, none⟩ = some (.slice (some ⟨b, off, none⟩) d.no co) := C6.xp.cell 3
                  have mz := C6.xo.lt
                  have mz2 := C6.xp.lt
                  have mm0 := (World.cell?_setCell_far w5 ⟨bo, 3, none⟩ ⟨b, off + k * 2, none⟩ (.slice (some ⟨g, 0, none⟩) (k + 1) cap) (by simp; have := HLW3.out; omega)).trans kk0
                  have mm1 := (World.cell?_setCell_far w5 ⟨bo, 3, none⟩ ⟨b, off + k * 2 + 1, none⟩ (.slice (some ⟨g, 0, none⟩) (k + 1) cap) (by simp; have := HLW3.out; omega)).trans kk1
                  refine wpAnyH_ready (rs := [11]) (by kernel_rfl) (by simp) ?_
                  refine AllReadyH.cons (o := { dst := none, op := Op.store 31 (Operand.tmp 67) (Operand.tmp 66), type := 0, pos := "l05_node.go:42", after := #[{ on := 10, ground := Ground.data }, { on := 9, ground := Ground.data }, { on := 9, ground := Ground.chain }, { on := 0, ground := Ground.phase }, { on := 1, ground := Ground.phase }, { on := 2, ground := Ground.phase }, { on := 3, ground := Ground.phase }, { on := 4, ground := Ground.phase }, { on := 5, ground := Ground.phase }, { on := 6, ground := Ground.phase }, { on := 7, ground := Ground.phase }, { on := 8, ground := Ground.phase }, { on := 9, ground := Ground.phase }], guard := none }) rfl (fun K2 hK2 => ?_) AllReadyH.nil
                  go_simp
                  refine hK2.out _ _ ?_ (fun hHeld2 => ?_)
                  · exact ⟨m1, mm0, mm1, mz, mz2⟩
                  clear hK2 K2 hHeld
                  have hHeld := hHeld2
                  clear hHeld2
                  try simp only [Act.put, List.setIfInBounds_toArray, List.set_cons_zero, List.set_cons_succ]
                  refine wpAnyH_done (by kernel_rfl) ?_ _
                  clear C6 C2 R5 R6 hol hQn o5 o5' g5 on5 on6 xo6 hHeld m1 mz mz2 k1 k0 of kz kz2 hr2 XE bE b12 b1 hSr hsb hF hC hlow mm0 kk0 y0 mm1 kk1 y1 o2 hm hds hl3 hlx har hbel ho0 x0 xz KL qF qH
                  go_wp2
                  go_roundw
                  case rel => exact ⟨k + 1, by omega, by go_num, _, _, _, _, HC6.out, R7.out, hol7.out, HY2.out, qF6.out, qH6.out, hlo6.out⟩
                  case measure => simp [intOf]; omega
                · go_simp
                  refine (l2Sender_any (d.b k) (op k).1 (op k).2 (ms k) _ (hm.below (bel_drew (Below.refl _ _))) hlx).mono ?_
                  rintro e w1 ⟨a2, c2, ds, rfl, hds, o2, b1⟩
                  replace b1 := bel_undrew b1
                  replace o2 : Deep w1 wr.heap.size a2 c2 ds := o2
                  have hl3 : ds.length = (ms k).length := by have := congrArg List.length hds; simpa using this
                  have HY2 : Hid (∀ i, i < k + 1 → ((fun i => if i = k then ds else rm3 i) i).map M.say = d.y i) := fun i hi => (if e : i = k then by subst e; simp only [if_pos]; exact hds.trans HE.out else by simp only [if_neg e]; exact HY.out i (by omega))
                  go_wp2_with fail
                  refine hK2.out _ _ ?_ (fun hHeld2 => ?_)
                  · exact KL.out _ b1
                  clear hK2 K2 hHeld
                  have hHeld := hHeld2
                  clear hHeld2
                  try simp only [Act.put, List.setIfInBounds_toArray, List.set_cons_zero, List.set_cons_succ]
                  have hob : w1.cell? ⟨bo, 3, none⟩ = some (.slice ra3 k rc3) := (hC.below b1).xo.cell 3
                  have hobz := (hC.below b1).xo.lt
                  refine wpAnyH_ready (rs := [1, 8]) (by kernel_rfl) (by simp) ?_
                  refine AllReadyH.cons (o := { dst := some 58, op := Op.load 31 (Operand.tmp 57), type := 31, pos := "l05_node.go:42", after := #[{ on := 0, ground := Ground.data }], guard := none }) rfl (fun K2 hK2 => ?_) (AllReadyH.cons (o := { dst := some 65, op := Op.buildSlice 31 1 #[(0, Operand.tmp 64)], type := 31, pos := "l05_node.go:42", after := #[{ on := 7, ground := Ground.data }], guard := none }) rfl (fun K2 hK2 => ?_) AllReadyH.nil)
                  · go_simp
                    refine hK2.out _ _ ?_ (fun hHeld2 => ?_)
                    · exact KL.out _ b1
                    clear hK2 K2 hHeld
                    have hHeld := hHeld2
                    clear hHeld2
                    try simp only [Act.put, List.setIfInBounds_toArray, List.set_cons_zero, List.set_cons_succ]
                    refine wpAnyH_ready (rs := [8]) (by kernel_rfl) (by simp) ?_
                    refine AllReadyH.cons (o := { dst := some 65, op := Op.buildSlice 31 1 #[(0, Operand.tmp 64)], type := 31, pos := "l05_node.go:42", after := #[{ on := 7, ground := Ground.data }], guard := none }) rfl (fun K2 hK2 => ?_) AllReadyH.nil
                    go_simp
                    refine hK2.out _ _ ?_ (fun hHeld2 => ?_)
                    · exact KL.out _ (bel_alloc b1 _)
                    clear hK2 K2 hHeld
                    have hHeld := hHeld2
                    clear hHeld2
                    try simp only [Act.put, List.setIfInBounds_toArray, List.set_cons_zero, List.set_cons_succ]
                    clear hob hobz
                    have XE := Box.new w1 #[.int .i64 (d.b k), .slice a2 (ms k).length c2] 54
                    have bE := bel_alloc (Below.refl w1.heap.size w1) (.cells #[.int .i64 (d.b k), .slice a2 (ms k).length c2] 54)
                    have b12 := bel_trans b1 bE
                    have hr2 := owns_below hF.row b12
                    refine wpAnyH_ready (rs := [9]) (by kernel_rfl) (by simp) ?_
                    refine AllReadyH.cons (o := { dst := some 66, op := Op.call { callee := Callee.builtin Builtin.append, args := #[Operand.tmp 58, Operand.tmp 65], argTypes := #[31, 31] }, type := 31, pos := "l05_node.go:42", after := #[{ on := 1, ground := Ground.data }, { on := 8, ground := Ground.data }, { on := 7, ground := Ground.chain }], guard := none }) rfl (fun K2 hK2 => ?_) AllReadyH.nil
                    refine step_append_lies _ rfl (.tmp 58) (.tmp 65) 31 rfl 0 54 i3 (.agg #[.int .i64 0, .slice none 0 0]) 2 32 Tryz.underlying31 hi3 hz30 hz31 hz32 rfl (by decide) (.slice ra3 k rc3) k (chunks k (fun i => scells (d.b i) (rp3 i) (rm3 i).length)) (by rfl) hr2 ⟨w1.heap.size, 0, none⟩ 1 1 [.int .i64 (d.b k), .slice a2 (ms k).length c2] (by rfl) (by rfl) (World.news_of_block XE) (by intro u hu; simp at hu; rcases hu with rfl | rfl <;> rfl) (by decide) (by unfold maxLen; omega) (by omega) (Nat.zero_le _) (w1.heap.size + 1) (by simp) ?_
                    intro g cap w5 o5 g5 hg hgl
                    have on5 : Only (w1.alloc (.cells #[.int .i64 (d.b k), .slice a2 (ms k).length c2] 54)) w5 (fun x => (Value.slice ra3 k rc3).ownBlock = some x) := (Only.refl _ _).grown g5 (fun j hj => hj)
                    have hSr : ∀ x, (Value.slice ra3 k rc3).ownBlock = some x → lo3 ≤ x ∧ x < wr.heap.size := fun x hx => ⟨hlow x (.inl (blk_eq hx)), (hF.row.lt x hx).2⟩
                    have C2 := (hC.below b12).only on5 (fun x hx => ⟨by have := (hSr x hx).1; have := HLW3.out; omega, fun e => by have := (hSr x hx).1; have := HLW3.out; omega, fun e => by have := (hSr x hx).1; have := HLG3.out x e; omega⟩)
                    have hsb : ∀ x, (Value.slice ra3 k rc3).ownBlock = some x → b ≠ x := fun x hx e => by have := (hSr x hx).1; have := HLW3.out; omega
                    have k1 : w5.cell? ⟨w.heap.size, 3, none⟩ = some (.slice (some ⟨b, off, none⟩) d.no co) := C2.xp.cell 3
                    have kk0 := (g5.cell_far ⟨b, off + k * 2, none⟩ (by have := b12.size; simp; simp at this; omega) (fun e => hsb b e.symm rfl)).trans ((b12.cell (p := ⟨b, off + k * 2, none⟩) hbw).trans y0)
                    have kk1 := (g5.cell_far ⟨b, off + k * 2 + 1, none⟩ (by have := b12.size; simp; simp at this; omega) (fun e => hsb b e.symm rfl)).trans ((b12.cell (p := ⟨b, off + k * 2 + 1, none⟩) hbw).trans y1)
                    have kz := C2.xo.lt
                    have kz2 := C2.xp.lt
                    refine hK2.out _ _ ?_ (fun hHeld2 => ?_)
                    · exact ⟨k1, kk0, kk1, kz, kz2⟩
                    clear hK2 K2 hHeld
                    have hHeld := hHeld2
                    clear hHeld2
                    try simp only [Act.put, List.setIfInBounds_toArray, List.set_cons_zero, List.set_cons_succ]
                    refine wpAnyH_take (i := 10) (oi := { dst := some 67, op := Op.fieldAddr 34 (Operand.tmp 3) 3, type := 0, pos := "l05_node.go:42", after := #[{ on := 0, ground := Ground.phase }, { on := 1, ground := Ground.phase }, { on := 2, ground := Ground.phase }, { on := 3, ground := Ground.phase }, { on := 4, ground := Ground.phase }, { on := 5, ground := Ground.phase }, { on := 6, ground := Ground.phase }, { on := 7, ground := Ground.phase }, { on := 8, ground := Ground.phase }, { on := 9, ground := Ground.phase }], guard := none }) (v := ?r19_v10) rfl (by kernel_rfl) (by kernel_rfl) (by kernel_rfl) (fun _ _ _ h => h) (Or.inl ⟨by rfl, ?r19_hy10⟩) (by assumption) ?r19_rest10
                    case r19_hy10 => intro w hSw; obtain ⟨s0, s1, s2, s3, s4⟩ := hSw; go_simp; try (with_reducible rfl)
                    simp only [Act.put, List.setIfInBounds_toArray, List.set_cons_zero, List.set_cons_succ]
                    have of := C2.xo.frozen 3
                    have k0 : w5.cell? ⟨bo, 3, none⟩ = some (.slice ra3 k rc3) := C2.xo.cell 3
                    have on6 : Only w5 (w5.setCell ⟨bo, 3, none⟩ (.slice (some ⟨g, 0, none⟩) (k + 1) cap)) (fun x => x = bo) := (Only.refl w5 (fun x => x = bo)).setCell ⟨bo, 3, none⟩ _ rfl
                    have xo6 : Box (w5.setCell ⟨bo, 3, none⟩ (.slice (some ⟨g, 0, none⟩) (k + 1) cap)) bo #[.int .i64 d.id, .slice ra1 d.nf rc1, .slice ra2 d.nh rc2, .slice (some ⟨g, 0, none⟩) (k + 1) cap, .slice ai d.ni ci] 34 := heap_setCell_same _ _ 3 _ _ _ C2.xo
                    have C6 := C2.put on6 xo6
                    have hQn : ∀ x, (QS (a2, c2) ds) x → wr.heap.size ≤ x ∧ x < w1.heap.size := fun x hx => by rcases hx with hx | ⟨y, hy, hx⟩; exact o2.row.lt x (blk_own (p := (a2, c2)) hx); exact o2.lists.lt hy hx
                    have o5' : w5.ownsRow 0 54 2 (.slice (some ⟨g, 0, none⟩) (k + 1) cap) (k + 1) (chunks k (fun i => scells (d.b i) (rp3 i) (rm3 i).length) ++ scells (d.b k) (a2, c2) ds.length) := by rw [hl3]; exact o5
                    have R5 := Rw.snoc hF b12 (cs := scells (d.b k) (a2, c2) ds.length) (E' := ES (a2, c2) ds) (Q' := QS (a2, c2) ds) ((fix_s _ _ : Fix (QS (a2, c2) ds) (ES (a2, c2) ds)) _ _ (sm_bel bE) (⟨owns_base o2.row (Nat.zero_le _), o2.lists.base (Nat.zero_le _)⟩)) (fix_s _ _) (fun x hx => by have h := hQn x hx; have := bE.size; omega) o5' g5 (hg.imp_right (fun e => by rw [e]; simp))
                    have hol : ∀ x, RS (some ⟨g, 0, none⟩) cap (k + 1) (fun i => if i = k then QS (a2, c2) ds else (fun i => QS (rp3 i) (rm3 i)) i) x → lo3 ≤ x := fun x hx => by
                      rcases hx with hx | ⟨i, hi, hx⟩
                      · simp [blk] at hx
                        subst hx
                        rcases hg with hg | hg
                        · exact (hSr g hg).1
                        · have := b1.size; omega
                      · by_cases e : i = k
                        · simp only [if_pos e] at hx
                          have h := hQn x hx
                          omega
                        · simp only [if_neg e] at hx
                          exact hlow x (.inr ⟨i, by omega, hx⟩)
                    have R6 := Rw.sm R5 (on6.sm (fun x hx e => by have := hol x hx; have := HLW3.out; omega))
                    have qF6 : Hid (Rw (w5.setCell ⟨bo, 3, none⟩ (.slice (some ⟨g, 0, none⟩) (k + 1) cap)) 50 3 ra1 rc1 d.nf d.nf (fun i => fcells (d.f i) (rp1 i)) (fun i => QF (rp1 i)) (fun i => EF (d.f i) (rp1 i))) := Rw.sm (Rw.sm (Rw.sm qF (sm_bel b12)) (on5.sm (fun x hx e => by have := (hSr x e).1; have := HUF3.out x hx; omega))) (on6.sm (fun x hx e => by have := HUF3.out x hx; have := HLW1.out; omega))
                    have qH6 : Hid (Rw (w5.setCell ⟨bo, 3, none⟩ (.slice (some ⟨g, 0, none⟩) (k + 1) cap)) 93 8 ra2 rc2 d.nh d.nh (fun i => hcells (d.h i) (rp2 i)) (fun i => QH (rp2 i)) (fun i => EH (d.h i) (rp2 i))) := Rw.sm (Rw.sm (Rw.sm qH (sm_bel b12)) (on5.sm (fun x hx e => by have := (hSr x e).1; have := HUH3.out x hx; omega))) (on6.sm (fun x hx e => by have := HUH3.out x hx; have := HLW2.out; omega))
                    have R7 : Hid (Rw (w5.setCell ⟨bo, 3, none⟩ (.slice (some ⟨g, 0, none⟩) (k + 1) cap)) 54 2 (some ⟨g, 0, none⟩) cap (k + 1) (k + 1) (fun i => scells (d.b i) ((fun i => if i = k then (a2, c2) else rp3 i) i) ((fun i => if i = k then ds else rm3 i) i).length) (fun i => QS ((fun i => if i = k then (a2, c2) else rp3 i) i) ((fun i => if i = k then ds else rm3 i) i)) (fun i => ES ((fun i => if i = k then (a2, c2) else rp3 i) i) ((fun i => if i = k then ds else rm3 i) i))) := R6.congr (fun i hi => by by_cases e : i = k; (subst e; simp); (simp [e])) (fun i hi => by by_cases e : i = k; (subst e; simp); (simp [e])) (fun i hi => by by_cases e : i = k; (subst e; simp); (simp [e]))
                    have hol7 : Hid (∀ x, RS (some ⟨g, 0, none⟩) cap (k + 1) (fun i => QS ((fun i => if i = k then (a2, c2) else rp3 i) i) ((fun i => if i = k then ds else rm3 i) i)) x → lo3 ≤ x) := fun x hx => by
                      apply hol x
                      rcases hx with hx | ⟨i, hi, hx⟩
                      · exact .inl hx
                      · refine .inr ⟨i, hi, ?_⟩
                        by_cases e : i = k
                        · subst e; simpa using hx
                        · simpa [e] using hx
                    have HC6 : Hid _ := C6
                    have hlo6 : Hid (lo3 ≤ (w5.setCell ⟨bo, 3, none⟩ (.slice (some ⟨g, 0, none⟩) (k + 1) cap)).heap.size) := by show _ ≤ _; have h1 := b12.size; have h2 := on5.size; have h3 := on6.size; omega
                    have m1 : (w5.setCell ⟨bo, 3, none⟩ (.slice (some ⟨g, 0, none⟩) (k + 1) cap)).cell? ⟨w.heap.size, 3, none⟩ = some (.slice (some ⟨b, off, none⟩) d.no co) := C6.xp.cell 3
                    have mz := C6.xo.lt
                    have mz2 := C6.xp.lt
                    have mm0 := (World.cell?_setCell_far w5 ⟨bo, 3, none⟩ ⟨b, off + k * 2, none⟩ (.slice (some ⟨g, 0, none⟩) (k + 1) cap) (by simp; have := HLW3.out; omega)).trans kk0
                    have mm1 := (World.cell?_setCell_far w5 ⟨bo, 3, none⟩ ⟨b, off + k * 2 + 1, none⟩ (.slice (some ⟨g, 0, none⟩) (k + 1) cap) (by simp; have := HLW3.out; omega)).trans kk1
                    refine wpAnyH_ready (rs := [11]) (by kernel_rfl) (by simp) ?_
                    refine AllReadyH.cons (o := { dst := none, op := Op.store 31 (Operand.tmp 67) (Operand.tmp 66), type := 0, pos := "l05_node.go:42", after := #[{ on := 10, ground := Ground.data }, { on := 9, ground := Ground.data }, { on := 9, ground := Ground.chain }, { on := 0, ground := Ground.phase }, { on := 1, ground := Ground.phase }, { on := 2, ground := Ground.phase }, { on := 3, ground := Ground.phase }, { on := 4, ground := Ground.phase }, { on := 5, ground := Ground.phase }, { on := 6, ground := Ground.phase }, { on := 7, ground := Ground.phase }, { on := 8, ground := Ground.phase }, { on := 9, ground := Ground.phase }], guard := none }) rfl (fun K2 hK2 => ?_) AllReadyH.nil
                    go_simp
                    refine hK2.out _ _ ?_ (fun hHeld2 => ?_)
                    · exact ⟨m1, mm0, mm1, mz, mz2⟩
                    clear hK2 K2 hHeld
                    have hHeld := hHeld2
                    clear hHeld2
                    try simp only [Act.put, List.setIfInBounds_toArray, List.set_cons_zero, List.set_cons_succ]
                    refine wpAnyH_done (by kernel_rfl) ?_ _
                    clear C6 C2 R5 R6 hol hQn o5 o5' g5 on5 on6 xo6 hHeld m1 mz mz2 k1 k0 of kz kz2 hr2 XE bE b12 b1 hSr hsb hF hC hlow mm0 kk0 y0 mm1 kk1 y1 o2 hm hds hl3 hlx har hbel ho0 x0 xz KL qF qH
                    go_wp2
                    go_roundw
                    case rel => exact ⟨k + 1, by omega, by go_num, _, _, _, _, HC6.out, R7.out, hol7.out, HY2.out, qF6.out, qH6.out, hlo6.out⟩
                    case measure => simp [intOf]; omega
                  · go_simp
                    refine hK2.out _ _ ?_ (fun hHeld2 => ?_)
                    · exact KL.out _ (bel_alloc b1 _)
                    clear hK2 K2 hHeld
                    have hHeld := hHeld2
                    clear hHeld2
                    try simp only [Act.put, List.setIfInBounds_toArray, List.set_cons_zero, List.set_cons_succ]
                    have bq := bel_alloc b1 (.cells #[.int .i64 (d.b k), .slice a2 (ms k).length c2] 54)
                    have hoc : (w1.alloc (.cells #[.int .i64 (d.b k), .slice a2 (ms k).length c2] 54)).cell? ⟨bo, 3, none⟩ = some (.slice ra3 k rc3) := (hC.below bq).xo.cell 3
                    have hocz := (hC.below bq).xo.lt
                    refine wpAnyH_ready (rs := [1]) (by kernel_rfl) (by simp) ?_
                    refine AllReadyH.cons (o := { dst := some 58, op := Op.load 31 (Operand.tmp 57), type := 31, pos := "l05_node.go:42", after := #[{ on := 0, ground := Ground.data }], guard := none }) rfl (fun K2 hK2 => ?_) AllReadyH.nil
                    go_simp
                    refine hK2.out _ _ ?_ (fun hHeld2 => ?_)
                    · exact KL.out _ (bel_alloc b1 _)
                    clear hK2 K2 hHeld
                    have hHeld := hHeld2
                    clear hHeld2
                    try simp only [Act.put, List.setIfInBounds_toArray, List.set_cons_zero, List.set_cons_succ]
                    clear hob hobz hoc hocz bq
                    have XE := Box.new w1 #[.int .i64 (d.b k), .slice a2 (ms k).length c2] 54
                    have bE := bel_alloc (Below.refl w1.heap.size w1) (.cells #[.int .i64 (d.b k), .slice a2 (ms k).length c2] 54)
                    have b12 := bel_trans b1 bE
                    have hr2 := owns_below hF.row b12
                    refine wpAnyH_ready (rs := [9]) (by kernel_rfl) (by simp) ?_
                    refine AllReadyH.cons (o := { dst := some 66, op := Op.call { callee := Callee.builtin Builtin.append, args := #[Operand.tmp 58, Operand.tmp 65], argTypes := #[31, 31] }, type := 31, pos := "l05_node.go:42", after := #[{ on := 1, ground := Ground.data }, { on := 8, ground := Ground.data }, { on := 7, ground := Ground.chain }], guard := none }) rfl (fun K2 hK2 => ?_) AllReadyH.nil
                    refine step_append_lies _ rfl (.tmp 58) (.tmp 65) 31 rfl 0 54 i3 (.agg #[.int .i64 0, .slice none 0 0]) 2 32 Tryz.underlying31 hi3 hz30 hz31 hz32 rfl (by decide) (.slice ra3 k rc3) k (chunks k (fun i => scells (d.b i) (rp3 i) (rm3 i).length)) (by rfl) hr2 ⟨w1.heap.size, 0, none⟩ 1 1 [.int .i64 (d.b k), .slice a2 (ms k).length c2] (by rfl) (by rfl) (World.news_of_block XE) (by intro u hu; simp at hu; rcases hu with rfl | rfl <;> rfl) (by decide) (by unfold maxLen; omega) (by omega) (Nat.zero_le _) (w1.heap.size + 1) (by simp) ?_
                    intro g cap w5 o5 g5 hg hgl
                    have on5 : Only (w1.alloc (.cells #[.int .i64 (d.b k), .slice a2 (ms k).length c2] 54)) w5 (fun x => (Value.slice ra3 k rc3).ownBlock = some x) := (Only.refl _ _).grown g5 (fun j hj => hj)
                    have hSr : ∀ x, (Value.slice ra3 k rc3).ownBlock = some x → lo3 ≤ x ∧ x < wr.heap.size := fun x hx => ⟨hlow x (.inl (blk_eq hx)), (hF.row.lt x hx).2⟩
                    have C2 := (hC.below b12).only on5 (fun x hx => ⟨by have := (hSr x hx).1; have := HLW3.out; omega, fun e => by have := (hSr x hx).1; have := HLW3.out; omega, fun e => by have := (hSr x hx).1; have := HLG3.out x e; omega⟩)
                    have hsb : ∀ x, (Value.slice ra3 k rc3).ownBlock = some x → b ≠ x := fun x hx e => by have := (hSr x hx).1; have := HLW3.out; omega
                    have k1 : w5.cell? ⟨w.heap.size, 3, none⟩ = some (.slice (some ⟨b, off, none⟩) d.no co) := C2.xp.cell 3
                    have kk0 := (g5.cell_far ⟨b, off + k * 2, none⟩ (by have := b12.size; simp; simp at this; omega) (fun e => hsb b e.symm rfl)).trans ((b12.cell (p := ⟨b, off + k * 2, none⟩) hbw).trans y0)
                    have kk1 := (g5.cell_far ⟨b, off + k * 2 + 1, none⟩ (by have := b12.size; simp; simp at this; omega) (fun e => hsb b e.symm rfl)).trans ((b12.cell (p := ⟨b, off + k * 2 + 1, none⟩) hbw).trans y1)
                    have kz := C2.xo.lt
                    have kz2 := C2.xp.lt
                    refine hK2.out _ _ ?_ (fun hHeld2 => ?_)
                    · exact ⟨k1, kk0, kk1, kz, kz2⟩
                    clear hK2 K2 hHeld
                    have hHeld := hHeld2
                    clear hHeld2
                    try simp only [Act.put, List.setIfInBounds_toArray, List.set_cons_zero, List.set_cons_succ]
                    refine wpAnyH_take (i := 10) (oi := { dst := some 67, op := Op.fieldAddr 34 (Operand.tmp 3) 3, type := 0, pos := "l05_node.go:42", after := #[{ on := 0, ground := Ground.phase }, { on := 1, ground := Ground.phase }, { on := 2, ground := Ground.phase }, { on := 3, ground := Ground.phase }, { on := 4, ground := Ground.phase }, { on := 5, ground := Ground.phase }, { on := 6, ground := Ground.phase }, { on := 7, ground := Ground.phase }, { on := 8, ground := Ground.phase }, { on := 9, ground := Ground.phase }], guard := none }) (v := ?r20_v10) rfl (by kernel_rfl) (by kernel_rfl) (by kernel_rfl) (fun _ _ _ h => h) (Or.inl ⟨by rfl, ?r20_hy10⟩) (by assumption) ?r20_rest10
                    case r20_hy10 => intro w hSw; obtain ⟨s0, s1, s2, s3, s4⟩ := hSw; go_simp; try (with_reducible rfl)
                    simp only [Act.put, List.setIfInBounds_toArray, List.set_cons_zero, List.set_cons_succ]
                    have of := C2.xo.frozen 3
                    have k0 : w5.cell? ⟨bo, 3, none⟩ = some (.slice ra3 k rc3) := C2.xo.cell 3
                    have on6 : Only w5 (w5.setCell ⟨bo, 3, none⟩ (.slice (some ⟨g, 0, none⟩) (k + 1) cap)) (fun x => x = bo) := (Only.refl w5 (fun x => x = bo)).setCell ⟨bo, 3, none⟩ _ rfl
                    have xo6 : Box (w5.setCell ⟨bo, 3, none⟩ (.slice (some ⟨g, 0, none⟩) (k + 1) cap)) bo #[.int .i64 d.id, .slice ra1 d.nf rc1, .slice ra2 d.nh rc2, .slice (some ⟨g, 0, none⟩) (k + 1) cap, .slice ai d.ni ci] 34 := heap_setCell_same _ _ 3 _ _ _ C2.xo
                    have C6 := C2.put on6 xo6
                    have hQn : ∀ x, (QS (a2, c2) ds) x → wr.heap.size ≤ x ∧ x < w1.heap.size := fun x hx => by rcases hx with hx | ⟨y, hy, hx⟩; exact o2.row.lt x (blk_own (p := (a2, c2)) hx); exact o2.lists.lt hy hx
                    have o5' : w5.ownsRow 0 54 2 (.slice (some ⟨g, 0, none⟩) (k + 1) cap) (k + 1) (chunks k (fun i => scells (d.b i) (rp3 i) (rm3 i).length) ++ scells (d.b k) (a2, c2) ds.length) := by rw [hl3]; exact o5
                    have R5 := Rw.snoc hF b12 (cs := scells (d.b k) (a2, c2) ds.length) (E' := ES (a2, c2) ds) (Q' := QS (a2, c2) ds) ((fix_s _ _ : Fix (QS (a2, c2) ds) (ES (a2, c2) ds)) _ _ (sm_bel bE) (⟨owns_base o2.row (Nat.zero_le _), o2.lists.base (Nat.zero_le _)⟩)) (fix_s _ _) (fun x hx => by have h := hQn x hx; have := bE.size; omega) o5' g5 (hg.imp_right (fun e => by rw [e]; simp))
                    have hol : ∀ x, RS (some ⟨g, 0, none⟩) cap (k + 1) (fun i => if i = k then QS (a2, c2) ds else (fun i => QS (rp3 i) (rm3 i)) i) x → lo3 ≤ x := fun x hx => by
                      rcases hx with hx | ⟨i, hi, hx⟩
                      · simp [blk] at hx
                        subst hx
                        rcases hg with hg | hg
                        · exact (hSr g hg).1
                        · have := b1.size; omega
                      · by_cases e : i = k
                        · simp only [if_pos e] at hx
                          have h := hQn x hx
                          omega
                        · simp only [if_neg e] at hx
                          exact hlow x (.inr ⟨i, by omega, hx⟩)
                    have R6 := Rw.sm R5 (on6.sm (fun x hx e => by have := hol x hx; have := HLW3.out; omega))
                    have qF6 : Hid (Rw (w5.setCell ⟨bo, 3, none⟩ (.slice (some ⟨g, 0, none⟩) (k + 1) cap)) 50 3 ra1 rc1 d.nf d.nf (fun i => fcells (d.f i) (rp1 i)) (fun i => QF (rp1 i)) (fun i => EF (d.f i) (rp1 i))) := Rw.sm (Rw.sm (Rw.sm qF (sm_bel b12)) (on5.sm (fun x hx e => by have := (hSr x e).1; have := HUF3.out x hx; omega))) (on6.sm (fun x hx e => by have := HUF3.out x hx; have := HLW1.out; omega))
                    have qH6 : Hid (Rw (w5.setCell ⟨bo, 3, none⟩ (.slice (some ⟨g, 0, none⟩) (k + 1) cap)) 93 8 ra2 rc2 d.nh d.nh (fun i => hcells (d.h i) (rp2 i)) (fun i => QH (rp2 i)) (fun i => EH (d.h i) (rp2 i))) := Rw.sm (Rw.sm (Rw.sm qH (sm_bel b12)) (on5.sm (fun x hx e => by have := (hSr x e).1; have := HUH3.out x hx; omega))) (on6.sm (fun x hx e => by have := HUH3.out x hx; have := HLW2.out; omega))
                    have R7 : Hid (Rw (w5.setCell ⟨bo, 3, none⟩ (.slice (some ⟨g, 0, none⟩) (k + 1) cap)) 54 2 (some ⟨g, 0, none⟩) cap (k + 1) (k + 1) (fun i => scells (d.b i) ((fun i => if i = k then (a2, c2) else rp3 i) i) ((fun i => if i = k then ds else rm3 i) i).length) (fun i => QS ((fun i => if i = k then (a2, c2) else rp3 i) i) ((fun i => if i = k then ds else rm3 i) i)) (fun i => ES ((fun i => if i = k then (a2, c2) else rp3 i) i) ((fun i => if i = k then ds else rm3 i) i))) := R6.congr (fun i hi => by by_cases e : i = k; (subst e; simp); (simp [e])) (fun i hi => by by_cases e : i = k; (subst e; simp); (simp [e])) (fun i hi => by by_cases e : i = k; (subst e; simp); (simp [e]))
                    have hol7 : Hid (∀ x, RS (some ⟨g, 0, none⟩) cap (k + 1) (fun i => QS ((fun i => if i = k then (a2, c2) else rp3 i) i) ((fun i => if i = k then ds else rm3 i) i)) x → lo3 ≤ x) := fun x hx => by
                      apply hol x
                      rcases hx with hx | ⟨i, hi, hx⟩
                      · exact .inl hx
                      · refine .inr ⟨i, hi, ?_⟩
                        by_cases e : i = k
                        · subst e; simpa using hx
                        · simpa [e] using hx
                    have HC6 : Hid _ := C6
                    have hlo6 : Hid (lo3 ≤ (w5.setCell ⟨bo, 3, none⟩ (.slice (some ⟨g, 0, none⟩) (k + 1) cap)).heap.size) := by show _ ≤ _; have h1 := b12.size; have h2 := on5.size; have h3 := on6.size; omega
                    have m1 : (w5.setCell ⟨bo, 3, none⟩ (.slice (some ⟨g, 0, none⟩) (k + 1) cap)).cell? ⟨w.heap.size, 3, none⟩ = some (.slice (some ⟨b, off, none⟩) d.no co) := C6.xp.cell 3
                    have mz := C6.xo.lt
                    have mz2 := C6.xp.lt
                    have mm0 := (World.cell?_setCell_far w5 ⟨bo, 3, none⟩ ⟨b, off + k * 2, none⟩ (.slice (some ⟨g, 0, none⟩) (k + 1) cap) (by simp; have := HLW3.out; omega)).trans kk0
                    have mm1 := (World.cell?_setCell_far w5 ⟨bo, 3, none⟩ ⟨b, off + k * 2 + 1, none⟩ (.slice (some ⟨g, 0, none⟩) (k + 1) cap) (by simp; have := HLW3.out; omega)).trans kk1
                    refine wpAnyH_ready (rs := [11]) (by kernel_rfl) (by simp) ?_
                    refine AllReadyH.cons (o := { dst := none, op := Op.store 31 (Operand.tmp 67) (Operand.tmp 66), type := 0, pos := "l05_node.go:42", after := #[{ on := 10, ground := Ground.data }, { on := 9, ground := Ground.data }, { on := 9, ground := Ground.chain }, { on := 0, ground := Ground.phase }, { on := 1, ground := Ground.phase }, { on := 2, ground := Ground.phase }, { on := 3, ground := Ground.phase }, { on := 4, ground := Ground.phase }, { on := 5, ground := Ground.phase }, { on := 6, ground := Ground.phase }, { on := 7, ground := Ground.phase }, { on := 8, ground := Ground.phase }, { on := 9, ground := Ground.phase }], guard := none }) rfl (fun K2 hK2 => ?_) AllReadyH.nil
                    go_simp
                    refine hK2.out _ _ ?_ (fun hHeld2 => ?_)
                    · exact ⟨m1, mm0, mm1, mz, mz2⟩
                    clear hK2 K2 hHeld
                    have hHeld := hHeld2
                    clear hHeld2
                    try simp only [Act.put, List.setIfInBounds_toArray, List.set_cons_zero, List.set_cons_succ]
                    refine wpAnyH_done (by kernel_rfl) ?_ _
                    clear C6 C2 R5 R6 hol hQn o5 o5' g5 on5 on6 xo6 hHeld m1 mz mz2 k1 k0 of kz kz2 hr2 XE bE b12 b1 hSr hsb hF hC hlow mm0 kk0 y0 mm1 kk1 y1 o2 hm hds hl3 hlx har hbel ho0 x0 xz KL qF qH
                    go_wp2
                    go_roundw
                    case rel => exact ⟨k + 1, by omega, by go_num, _, _, _, _, HC6.out, R7.out, hol7.out, HY2.out, qF6.out, qH6.out, hlo6.out⟩
                    case measure => simp [intOf]; omega
              · obtain rfl : k = d.no := by omega
                have HLC : Hid (LC w wr #[.int .i64 d.id, .slice af d.nf cf, .slice ah d.nh ch, .slice ao d.no co, .slice ai0 d.ni ci0] bo #[.int .i64 d.id, .slice ra1 d.nf rc1, .slice ra2 d.nh rc2, .slice ra3 d.no rc3, .slice ai d.ni ci] ai ci d.ni d.g) := hC
                have RWS : Hid (Rw wr 54 2 ra3 rc3 d.no d.no (fun i => scells (d.b i) (rp3 i) (rm3 i).length) (fun i => QS (rp3 i) (rm3 i)) (fun i => ES (rp3 i) (rm3 i))) := hF
                have HLOWS : Hid (∀ b, RS ra3 rc3 d.no (fun i => QS (rp3 i) (rm3 i)) b → lo3 ≤ b) := hlow
                have RWF : Hid (Rw wr 50 3 ra1 rc1 d.nf d.nf (fun i => fcells (d.f i) (rp1 i)) (fun i => QF (rp1 i)) (fun i => EF (d.f i) (rp1 i))) := qF
                have RWH : Hid (Rw wr 93 8 ra2 rc2 d.nh d.nh (fun i => hcells (d.h i) (rp2 i)) (fun i => QH (rp2 i)) (fun i => EH (d.h i) (rp2 i))) := qH
                have hE3 : Hid (lo3 ≤ wr.heap.size) := hlo
                clear hC hF hlow hlo hkn hk qF qH
                obtain ⟨e0, e1, e2, e3, e4, ez⟩ := HLC.out.xo.at5
                obtain ⟨y0, y1, y2, y3, y4, yz⟩ := HLC.out.xr.at5
                have f0 := HLC.out.xr.frozen 0
                have f1 := HLC.out.xr.frozen 1
                have f2 := HLC.out.xr.frozen 2
                have f3 := HLC.out.xr.frozen 3
                have f4 := HLC.out.xr.frozen 4
                have HF : Hid (CopyP d w (.returned (.agg #[.int .i64 d.id, .slice ra1 d.nf rc1, .slice ra2 d.nh rc2, .slice ra3 d.no rc3, .slice ai d.ni ci])) (((((wr.setCell ⟨w.heap.size + 1, 0, none⟩ (.int .i64 d.id)).setCell ⟨w.heap.size + 1, 1, none⟩ (.slice ra1 d.nf rc1)).setCell ⟨w.heap.size + 1, 2, none⟩ (.slice ra2 d.nh rc2)).setCell ⟨w.heap.size + 1, 3, none⟩ (.slice ra3 d.no rc3)).setCell ⟨w.heap.size + 1, 4, none⟩ (.slice ai d.ni ci))) := by
                  have on : Only wr (((((wr.setCell ⟨w.heap.size + 1, 0, none⟩ (.int .i64 d.id)).setCell ⟨w.heap.size + 1, 1, none⟩ (.slice ra1 d.nf rc1)).setCell ⟨w.heap.size + 1, 2, none⟩ (.slice ra2 d.nh rc2)).setCell ⟨w.heap.size + 1, 3, none⟩ (.slice ra3 d.no rc3)).setCell ⟨w.heap.size + 1, 4, none⟩ (.slice ai d.ni ci)) (fun b => b = w.heap.size + 1) := (((((Only.refl wr (fun b => b = w.heap.size + 1)).setCell ⟨w.heap.size + 1, 0, none⟩ _ rfl).setCell ⟨w.heap.size + 1, 1, none⟩ _ rfl).setCell ⟨w.heap.size + 1, 2, none⟩ _ rfl).setCell ⟨w.heap.size + 1, 3, none⟩ _ rfl).setCell ⟨w.heap.size + 1, 4, none⟩ _ rfl
                  have HN : NOw wr d ⟨(ra1, rc1), rp1, (ra2, rc2), rp2, (ra3, rc3), rp3, rm3, (ai, ci)⟩ := by
                    refine ⟨RWF.out, RWH.out, RWS.out, HLC.out.gi, HY.out, fun b h1 h2 => ?_, fun b h1 h2 => ?_, fun b h1 h2 => ?_, fun b h1 h2 => ?_, fun b h1 h2 => ?_, fun b h1 h2 => ?_⟩
                    · have q1 := HUF2.out b h1; have q2 := HUH3.out b h2; omega
                    · have q1 := HUF3.out b h1; have q2 := HLOWS.out b h2; omega
                    · have q1 := HUF2.out b h1; have q2 := HLG1.out b h2; omega
                    · have q1 := HUH3.out b h1; have q2 := HLOWS.out b h2; omega
                    · have q1 := HUH3.out b h1; have q2 := HLG2.out b h2; omega
                    · have q1 := HLOWS.out b h1; have q2 := HLG3.out b h2; omega
                  have HL : ∀ b, NBs d ⟨(ra1, rc1), rp1, (ra2, rc2), rp2, (ra3, rc3), rp3, rm3, (ai, ci)⟩ b → w.heap.size + 2 ≤ b := fun b hb => by
                    rcases hb with hb | hb | hb | hb
                    · have q1 := HUF2.out b hb; have q2 := HLW1.out; omega
                    · have q1 := HUH3.out b hb; have q2 := HLW2.out; omega
                    · have q1 := HLOWS.out b hb; have q2 := HLW3.out; omega
                    · exact (HLC.out.gl b hb).1
                  exact ⟨⟨(ra1, rc1), rp1, (ra2, rc2), rp2, (ra3, rc3), rp3, rm3, (ai, ci)⟩, rfl, HN.sm (on.sm (fun b hb e => by have := HL b hb; omega)), fun b hb => by have := HL b hb; omega, lit_bel5 HLC.out.B (by omega)⟩
                clear RWF RWH RWS HUF2 HUF3 HUH3 HLOWF HLOWH HLOWS HLG1 HLG2 HLG3 HLC
                go_wp2
                refine bodyPost_ret (v := .agg #[.int .i64 d.id, .slice ra1 d.nf rc1, .slice ra2 d.nh rc2, .slice ra3 d.no rc3, .slice ai d.ni ci]) (by simp [results, Tryz.results15, go_sem, y0, y1, y2, y3, y4]) rfl HF.out
  refine wp_region_held_drew (S := (fun w' => w'.cell? ⟨w.heap.size, 0, none⟩ = some (.int .i64 d.id) ∧ w'.cell? ⟨w.heap.size, 4, none⟩ = some (.slice ai0 d.ni ci0) ∧ w.heap.size < w'.heap.size)) (by kernel_rfl) ?_ (fun hHeld => ?_)
  · exact KS.out _ (bel_drew (Below.refl _ _))
  refine wpAnyH_take (i := 0) (oi := { dst := some 7, op := Op.fieldAddr 34 (Operand.tmp 1) 0, type := 0, pos := "l05_node.go:34", after := #[], guard := none }) (v := ?r1_v0) rfl (by kernel_rfl) (by kernel_rfl) (by kernel_rfl) (fun _ _ _ h => h) (Or.inl ⟨by rfl, ?r1_hy0⟩) (by assumption) ?r1_rest0
  case r1_hy0 => intro w hSw; obtain ⟨s0, s1, s2⟩ := hSw; go_simp; try (with_reducible rfl)
  simp only [Act.put, List.setIfInBounds_toArray, List.set_cons_zero, List.set_cons_succ]
  refine wpAnyH_take (i := 1) (oi := { dst := some 8, op := Op.load 3 (Operand.tmp 7), type := 3, pos := "l05_node.go:34", after := #[{ on := 0, ground := Ground.data }], guard := none }) (v := ?r1_v1) rfl (by kernel_rfl) (by kernel_rfl) (by kernel_rfl) (fun _ _ _ h => h) (Or.inl ⟨by rfl, ?r1_hy1⟩) (by assumption) ?r1_rest1
  case r1_hy1 => intro w hSw; obtain ⟨s0, s1, s2⟩ := hSw; go_simp; try (with_reducible rfl)
  simp only [Act.put, List.setIfInBounds_toArray, List.set_cons_zero, List.set_cons_succ]
  refine wpAnyH_take (i := 3) (oi := { dst := some 10, op := Op.fieldAddr 34 (Operand.tmp 1) 4, type := 0, pos := "l05_node.go:34", after := #[], guard := none }) (v := ?r1_v3) rfl (by kernel_rfl) (by kernel_rfl) (by kernel_rfl) (fun _ _ _ h => h) (Or.inl ⟨by rfl, ?r1_hy3⟩) (by assumption) ?r1_rest3
  case r1_hy3 => intro w hSw; obtain ⟨s0, s1, s2⟩ := hSw; go_simp; try (with_reducible rfl)
  simp only [Act.put, List.setIfInBounds_toArray, List.set_cons_zero, List.set_cons_succ]
  refine wpAnyH_take (i := 4) (oi := { dst := some 11, op := Op.load 32 (Operand.tmp 10), type := 32, pos := "l05_node.go:34", after := #[{ on := 3, ground := Ground.data }], guard := none }) (v := ?r1_v4) rfl (by kernel_rfl) (by kernel_rfl) (by kernel_rfl) (fun _ _ _ h => h) (Or.inl ⟨by rfl, ?r1_hy4⟩) (by assumption) ?r1_rest4
  case r1_hy4 => intro w hSw; obtain ⟨s0, s1, s2⟩ := hSw; go_simp; try (with_reducible rfl)
  simp only [Act.put, List.setIfInBounds_toArray, List.set_cons_zero, List.set_cons_succ]
  refine wpAnyH_ready (rs := [2, 7]) (by kernel_rfl) (by simp) ?_
  refine AllReadyH.cons (o := { dst := some 9, op := Op.buildSlice 32 0 #[], type := 32, pos := "l05_node.go:34", after := #[], guard := none }) rfl (fun K2 hK2 => ?_) (AllReadyH.cons (o := { dst := some 3, op := Op.alloc 34, type := 0, pos := "l05_node.go:34", after := #[], guard := none }) rfl (fun K2 hK2 => ?_) AllReadyH.nil)
  · go_simp
    refine hK2.out _ _ ?_ (fun hHeld2 => ?_)
    · exact KS.out _ (bel_alloc (bel_drew (Below.refl _ _)) _)
    clear hK2 K2 hHeld
    have hHeld := hHeld2
    clear hHeld2
    try simp only [Act.put, List.setIfInBounds_toArray, List.set_cons_zero, List.set_cons_succ]
    have oE : (W0.drew.alloc (.cells #[] 100)).ownsRow W0.heap.size 100 1 (.slice (some ⟨W0.heap.size, 0, none⟩) 0 0) 0 [] := own_litE W0.drew 100 1 W0.heap.size (Nat.le_refl _)
    have bz := bel_alloc (bel_drew (Below.refl W0.heap.size W0)) (.cells #[] 100)
    refine wpAnyH_ready (rs := [5, 7]) (by kernel_rfl) (by simp) ?_
    refine AllReadyH.cons (o := { dst := some 12, op := Op.call { callee := Callee.builtin Builtin.append, args := #[Operand.tmp 9, Operand.tmp 11], argTypes := #[32, 32] }, type := 32, pos := "l05_node.go:34", after := #[{ on := 2, ground := Ground.data }, { on := 4, ground := Ground.data }], guard := none }) rfl (fun K2 hK2 => ?_) (AllReadyH.cons (o := { dst := some 3, op := Op.alloc 34, type := 0, pos := "l05_node.go:34", after := #[], guard := none }) rfl (fun K2 hK2 => ?_) AllReadyH.nil)
    · refine step_append_rowYtcneocbadobcfaaGreat rfl (.tmp 9) (.tmp 11) 32 rfl W0.heap.size 100 i4 (.agg #[.int .i64 0]) 1 8 Tryz.underlying32 hi4 hz40 hz41 hz42 rfl (by decide) (.slice (some ⟨W0.heap.size, 0, none⟩) 0 0) 0 [] (by rfl) oE ai0 d.ni ci0 (chunks d.ni fun i => gcells (d.g i)) (by rfl) (chunks_length d.ni (fun i _ => rfl)) (HRi.out _ bz).2 (chunks_one (fun i hi v hv => by simp [gcells] at hv; subst hv; rfl)) (by unfold maxLen; omega) (by omega) (by first | (simp; done) | (simp; omega)) ?_
      intro v1 w1 o1 g1
      obtain ⟨ai, ci, rfl⟩ := owns_slice o1
      simp only [Nat.zero_add, List.nil_append] at o1 ⊢
      have on1 : Only (W0.drew.alloc (.cells #[] 100)) w1 (fun x => x = W0.heap.size) := (Only.refl _ _).grown g1 (fun j hj => by simpa [Value.ownBlock] using hj.symm)
      have bw1 : Below W0.heap.size W0 w1 := bz.trans ⟨on1.os, on1.tape, on1.output, on1.size, fun i hi => on1.block i (by have := bz.size; omega) (fun e => by omega)⟩
      refine hK2.out _ _ ?_ (fun hHeld2 => ?_)
      · exact KS.out _ bw1
      clear hK2 K2 hHeld
      have hHeld := hHeld2
      clear hHeld2
      try simp only [Act.put, List.setIfInBounds_toArray, List.set_cons_zero, List.set_cons_succ]
      refine wpAnyH_take (i := 6) (oi := { dst := some 13, op := Op.build 34 #[(0, Operand.tmp 8), (4, Operand.tmp 12)], type := 34, pos := "l05_node.go:34", after := #[{ on := 1, ground := Ground.data }, { on := 5, ground := Ground.data }], guard := none }) (v := ?r3_v6) rfl (by kernel_rfl) (by kernel_rfl) (by kernel_rfl) (fun _ _ _ h => h) (Or.inl ⟨by rfl, ?r3_hy6⟩) (by assumption) ?r3_rest6
      case r3_hy6 => intro w hSw; obtain ⟨s0, s1, s2⟩ := hSw; go_simp; try (with_reducible rfl)
      simp only [Act.put, List.setIfInBounds_toArray, List.set_cons_zero, List.set_cons_succ]
      refine wpAnyH_ready (rs := [7]) (by kernel_rfl) (by simp) ?_
      refine AllReadyH.cons (o := { dst := some 3, op := Op.alloc 34, type := 0, pos := "l05_node.go:34", after := #[], guard := none }) rfl (fun K2 hK2 => ?_) AllReadyH.nil
      go_simp
      refine hK2.out _ _ ?_ (fun hHeld2 => ?_)
      · exact KS.out _ (bel_alloc bw1 _)
      clear hK2 K2 hHeld
      have hHeld := hHeld2
      clear hHeld2
      try simp only [Act.put, List.setIfInBounds_toArray, List.set_cons_zero, List.set_cons_succ]
      refine wpAnyH_ready (rs := [8]) (by kernel_rfl) (by simp) ?_
      refine AllReadyH.cons (o := { dst := none, op := Op.store 34 (Operand.tmp 3) (Operand.tmp 13), type := 0, pos := "l05_node.go:34", after := #[{ on := 7, ground := Ground.data }, { on := 6, ground := Ground.data }, { on := 5, ground := Ground.chain }, { on := 0, ground := Ground.phase }, { on := 1, ground := Ground.phase }, { on := 2, ground := Ground.phase }, { on := 3, ground := Ground.phase }, { on := 4, ground := Ground.phase }, { on := 5, ground := Ground.phase }, { on := 6, ground := Ground.phase }, { on := 7, ground := Ground.phase }], guard := none }) rfl (fun K2 hK2 => ?_) AllReadyH.nil
      go_simp
      refine hK2.out _ _ ?_ (fun hHeld2 => ?_)
      · exact KS.out _ (bel_alloc bw1 _)
      clear hK2 K2 hHeld
      have hHeld := hHeld2
      clear hHeld2
      try simp only [Act.put, List.setIfInBounds_toArray, List.set_cons_zero, List.set_cons_succ]
      refine wpAnyH_done (by kernel_rfl) ?_ _
      have hz1 : W0.heap.size + 1 ≤ w1.heap.size := by have := on1.size; simpa using this
      have hLC : LC w (w1.alloc (.cells #[.int .i64 d.id, .slice none 0 0, .slice none 0 0, .slice none 0 0, .slice ai d.ni ci] 34)) #[.int .i64 d.id, .slice af d.nf cf, .slice ah d.nh ch, .slice ao d.no co, .slice ai0 d.ni ci0] w1.heap.size #[.int .i64 d.id, .slice none 0 0, .slice none 0 0, .slice none 0 0, .slice ai d.ni ci] ai ci d.ni d.g := by
        have bA := bel_alloc (Below.refl w1.heap.size w1) (.cells #[.int .i64 d.id, .slice none 0 0, .slice none 0 0, .slice none 0 0, .slice ai d.ni ci] 34)
        obtain ⟨XP, XR, B⟩ := HXP.out
        have hz := HZ0.out
        exact ⟨(XP.below bw1).below bA, (XR.below bw1).below bA, Box.new _ _ _, owns_base (owns_below o1 bA) (Nat.zero_le _), fun b hb => by have := owns_low o1 b hb; have := (o1.lt b (blk_own hb)).2; omega, by omega, bel_trans (bel_trans B bw1) bA⟩
      obtain ⟨bo, hbo⟩ : ∃ bo, w1.heap.size = bo := ⟨_, rfl⟩
      obtain ⟨W, hW⟩ : ∃ W, w1.alloc (.cells #[.int .i64 d.id, .slice none 0 0, .slice none 0 0, .slice none 0 0, .slice ai d.ni ci] 34) = W := ⟨_, rfl⟩
      rw [hW, hbo] at hLC
      simp only [hW, hbo]
      clear hW hbo hz1 hHeld bw1 on1 o1 g1 oE bz
      exact REST.out W bo ai ci _ _ _ _ _ _ _ hLC
    · go_simp
      refine hK2.out _ _ ?_ (fun hHeld2 => ?_)
      · exact KS.out _ (bel_alloc bz _)
      clear hK2 K2 hHeld
      have hHeld := hHeld2
      clear hHeld2
      try simp only [Act.put, List.setIfInBounds_toArray, List.set_cons_zero, List.set_cons_succ]
      have XO : Box ((W0.drew.alloc (.cells #[] 100)).alloc (.cells #[.int .i64 0, .slice none 0 0, .slice none 0 0, .slice none 0 0, .slice none 0 0] 34)) (W0.heap.size + 1) #[.int .i64 0, .slice none 0 0, .slice none 0 0, .slice none 0 0, .slice none 0 0] 34 := by have h := Box.new (W0.drew.alloc (.cells #[] 100)) #[.int .i64 0, .slice none 0 0, .slice none 0 0, .slice none 0 0, .slice none 0 0] 34; simpa using h
      replace oE := owns_below oE (bel_alloc (Below.refl _ _) (.cells #[.int .i64 0, .slice none 0 0, .slice none 0 0, .slice none 0 0, .slice none 0 0] 34))
      replace bz := bel_alloc bz (.cells #[.int .i64 0, .slice none 0 0, .slice none 0 0, .slice none 0 0, .slice none 0 0] 34)
      refine wpAnyH_ready (rs := [5]) (by kernel_rfl) (by simp) ?_
      refine AllReadyH.cons (o := { dst := some 12, op := Op.call { callee := Callee.builtin Builtin.append, args := #[Operand.tmp 9, Operand.tmp 11], argTypes := #[32, 32] }, type := 32, pos := "l05_node.go:34", after := #[{ on := 2, ground := Ground.data }, { on := 4, ground := Ground.data }], guard := none }) rfl (fun K2 hK2 => ?_) AllReadyH.nil
      refine step_append_rowYtcneocbadobcfaaGreat rfl (.tmp 9) (.tmp 11) 32 rfl W0.heap.size 100 i4 (.agg #[.int .i64 0]) 1 8 Tryz.underlying32 hi4 hz40 hz41 hz42 rfl (by decide) (.slice (some ⟨W0.heap.size, 0, none⟩) 0 0) 0 [] (by rfl) oE ai0 d.ni ci0 (chunks d.ni fun i => gcells (d.g i)) (by rfl) (chunks_length d.ni (fun i _ => rfl)) (HRi.out _ bz).2 (chunks_one (fun i hi v hv => by simp [gcells] at hv; subst hv; rfl)) (by unfold maxLen; omega) (by omega) (by first | (simp; done) | (simp; omega)) ?_
      intro v1 w1 o1 g1
      obtain ⟨ai, ci, rfl⟩ := owns_slice o1
      simp only [Nat.zero_add, List.nil_append] at o1 ⊢
      have on1 : Only ((W0.drew.alloc (.cells #[] 100)).alloc (.cells #[.int .i64 0, .slice none 0 0, .slice none 0 0, .slice none 0 0, .slice none 0 0] 34)) w1 (fun x => x = W0.heap.size) := (Only.refl _ _).grown g1 (fun j hj => by simpa [Value.ownBlock] using hj.symm)
      have bw1 : Below W0.heap.size W0 w1 := bz.trans ⟨on1.os, on1.tape, on1.output, on1.size, fun i hi => on1.block i (by have := bz.size; omega) (fun e => by omega)⟩
      refine hK2.out _ _ ?_ (fun hHeld2 => ?_)
      · exact KS.out _ bw1
      clear hK2 K2 hHeld
      have hHeld := hHeld2
      clear hHeld2
      try simp only [Act.put, List.setIfInBounds_toArray, List.set_cons_zero, List.set_cons_succ]
      refine wpAnyH_take (i := 6) (oi := { dst := some 13, op := Op.build 34 #[(0, Operand.tmp 8), (4, Operand.tmp 12)], type := 34, pos := "l05_node.go:34", after := #[{ on := 1, ground := Ground.data }, { on := 5, ground := Ground.data }], guard := none }) (v := ?r4_v6) rfl (by kernel_rfl) (by kernel_rfl) (by kernel_rfl) (fun _ _ _ h => h) (Or.inl ⟨by rfl, ?r4_hy6⟩) (by assumption) ?r4_rest6
      case r4_hy6 => intro w hSw; obtain ⟨s0, s1, s2⟩ := hSw; go_simp; try (with_reducible rfl)
      simp only [Act.put, List.setIfInBounds_toArray, List.set_cons_zero, List.set_cons_succ]
      have XO1 := XO.only on1 (fun e => by omega)
      obtain ⟨e0, e1, e2, e3, e4, ez⟩ := XO1.at5
      have f0 := XO1.frozen 0
      have f1 := XO1.frozen 1
      have f2 := XO1.frozen 2
      have f3 := XO1.frozen 3
      have f4 := XO1.frozen 4
      have onS : Only w1 (((((w1.setCell ⟨W0.heap.size + 1, 0, none⟩ (.int .i64 d.id)).setCell ⟨W0.heap.size + 1, 1, none⟩ (.slice none 0 0)).setCell ⟨W0.heap.size + 1, 2, none⟩ (.slice none 0 0)).setCell ⟨W0.heap.size + 1, 3, none⟩ (.slice none 0 0)).setCell ⟨W0.heap.size + 1, 4, none⟩ (.slice ai d.ni ci)) (fun x => x = W0.heap.size + 1) := (((((Only.refl w1 (fun x => x = W0.heap.size + 1)).setCell ⟨W0.heap.size + 1, 0, none⟩ _ rfl).setCell ⟨W0.heap.size + 1, 1, none⟩ _ rfl).setCell ⟨W0.heap.size + 1, 2, none⟩ _ rfl).setCell ⟨W0.heap.size + 1, 3, none⟩ _ rfl).setCell ⟨W0.heap.size + 1, 4, none⟩ _ rfl
      have bw2 : Below W0.heap.size W0 (((((w1.setCell ⟨W0.heap.size + 1, 0, none⟩ (.int .i64 d.id)).setCell ⟨W0.heap.size + 1, 1, none⟩ (.slice none 0 0)).setCell ⟨W0.heap.size + 1, 2, none⟩ (.slice none 0 0)).setCell ⟨W0.heap.size + 1, 3, none⟩ (.slice none 0 0)).setCell ⟨W0.heap.size + 1, 4, none⟩ (.slice ai d.ni ci)) := bw1.trans ⟨onS.os, onS.tape, onS.output, onS.size, fun i hi => onS.block i (by have := bw1.size; omega) (fun e => by omega)⟩
      refine wpAnyH_ready (rs := [8]) (by kernel_rfl) (by simp) ?_
      refine AllReadyH.cons (o := { dst := none, op := Op.store 34 (Operand.tmp 3) (Operand.tmp 13), type := 0, pos := "l05_node.go:34", after := #[{ on := 7, ground := Ground.data }, { on := 6, ground := Ground.data }, { on := 5, ground := Ground.chain }, { on := 0, ground := Ground.phase }, { on := 1, ground := Ground.phase }, { on := 2, ground := Ground.phase }, { on := 3, ground := Ground.phase }, { on := 4, ground := Ground.phase }, { on := 5, ground := Ground.phase }, { on := 6, ground := Ground.phase }, { on := 7, ground := Ground.phase }], guard := none }) rfl (fun K2 hK2 => ?_) AllReadyH.nil
      go_simp
      refine hK2.out _ _ ?_ (fun hHeld2 => ?_)
      · exact KS.out _ bw2
      clear hK2 K2 hHeld
      have hHeld := hHeld2
      clear hHeld2
      try simp only [Act.put, List.setIfInBounds_toArray, List.set_cons_zero, List.set_cons_succ]
      refine wpAnyH_done (by kernel_rfl) ?_ _
      have hLC : LC w (((((w1.setCell ⟨W0.heap.size + 1, 0, none⟩ (.int .i64 d.id)).setCell ⟨W0.heap.size + 1, 1, none⟩ (.slice none 0 0)).setCell ⟨W0.heap.size + 1, 2, none⟩ (.slice none 0 0)).setCell ⟨W0.heap.size + 1, 3, none⟩ (.slice none 0 0)).setCell ⟨W0.heap.size + 1, 4, none⟩ (.slice ai d.ni ci)) #[.int .i64 d.id, .slice af d.nf cf, .slice ah d.nh ch, .slice ao d.no co, .slice ai0 d.ni ci0] (W0.heap.size + 1) #[.int .i64 d.id, .slice none 0 0, .slice none 0 0, .slice none 0 0, .slice ai d.ni ci] ai ci d.ni d.g := by
        obtain ⟨XP, XR, B⟩ := HXP.out
        have hz := HZ0.out
        have hll : ∀ b, blk (ai, ci) = some b → W0.heap.size ≤ b ∧ b ≠ W0.heap.size + 1 := fun b hb => ⟨by have := owns_low o1 b hb; omega, fun e => by subst e; exact lit_ne XO1 o1 (by decide) (blk_own hb)⟩
        exact ⟨XP.below bw2, XR.below bw2, lit_box5 XO1, owns_base (owns_only o1 onS (fun j hj e => (hll j (blk_eq hj)).2 e)) (Nat.zero_le _), fun b hb => by have := hll b hb; omega, by omega, bel_trans B bw2⟩
      obtain ⟨bo, hbo⟩ : ∃ bo, W0.heap.size + 1 = bo := ⟨_, rfl⟩
      obtain ⟨W, hW⟩ : ∃ W, (((((w1.setCell ⟨W0.heap.size + 1, 0, none⟩ (.int .i64 d.id)).setCell ⟨W0.heap.size + 1, 1, none⟩ (.slice none 0 0)).setCell ⟨W0.heap.size + 1, 2, none⟩ (.slice none 0 0)).setCell ⟨W0.heap.size + 1, 3, none⟩ (.slice none 0 0)).setCell ⟨W0.heap.size + 1, 4, none⟩ (.slice ai d.ni ci)) = W := ⟨_, rfl⟩
      rw [hW, hbo] at hLC
      rw [hW]
      simp only [hbo]
      clear hW hbo hHeld bw1 bw2 on1 onS o1 g1 oE bz XO XO1 e0 e1 e2 e3 e4 ez f0 f1 f2 f3 f4
      exact REST.out W bo ai ci _ _ _ _ _ _ _ hLC
  · go_simp
    refine hK2.out _ _ ?_ (fun hHeld2 => ?_)
    · exact KS.out _ (bel_alloc (bel_drew (Below.refl _ _)) _)
    clear hK2 K2 hHeld
    have hHeld := hHeld2
    clear hHeld2
    try simp only [Act.put, List.setIfInBounds_toArray, List.set_cons_zero, List.set_cons_succ]
    refine wpAnyH_ready (rs := [2]) (by kernel_rfl) (by simp) ?_
    refine AllReadyH.cons (o := { dst := some 9, op := Op.buildSlice 32 0 #[], type := 32, pos := "l05_node.go:34", after := #[], guard := none }) rfl (fun K2 hK2 => ?_) AllReadyH.nil
    go_simp
    refine hK2.out _ _ ?_ (fun hHeld2 => ?_)
    · exact KS.out _ (bel_alloc (bel_alloc (bel_drew (Below.refl _ _)) _) _)
    clear hK2 K2 hHeld
    have hHeld := hHeld2
    clear hHeld2
    try simp only [Act.put, List.setIfInBounds_toArray, List.set_cons_zero, List.set_cons_succ]
    have XO : Box ((W0.drew.alloc (.cells #[.int .i64 0, .slice none 0 0, .slice none 0 0, .slice none 0 0, .slice none 0 0] 34)).alloc (.cells #[] 100)) W0.heap.size #[.int .i64 0, .slice none 0 0, .slice none 0 0, .slice none 0 0, .slice none 0 0] 34 := (Box.new W0.drew #[.int .i64 0, .slice none 0 0, .slice none 0 0, .slice none 0 0, .slice none 0 0] 34).below (bel_alloc (Below.refl _ _) _)
    have bz := bel_alloc (bel_alloc (bel_drew (Below.refl W0.heap.size W0)) (.cells #[.int .i64 0, .slice none 0 0, .slice none 0 0, .slice none 0 0, .slice none 0 0] 34)) (.cells #[] 100)
    have oE : ((W0.drew.alloc (.cells #[.int .i64 0, .slice none 0 0, .slice none 0 0, .slice none 0 0, .slice none 0 0] 34)).alloc (.cells #[] 100)).ownsRow W0.heap.size 100 1 (.slice (some ⟨W0.heap.size + 1, 0, none⟩) 0 0) 0 [] := by have h := own_litE (W0.drew.alloc (.cells #[.int .i64 0, .slice none 0 0, .slice none 0 0, .slice none 0 0, .slice none 0 0] 34)) 100 1 W0.heap.size (by simp); simpa using h
    refine wpAnyH_ready (rs := [5]) (by kernel_rfl) (by simp) ?_
    refine AllReadyH.cons (o := { dst := some 12, op := Op.call { callee := Callee.builtin Builtin.append, args := #[Operand.tmp 9, Operand.tmp 11], argTypes := #[32, 32] }, type := 32, pos := "l05_node.go:34", after := #[{ on := 2, ground := Ground.data }, { on := 4, ground := Ground.data }], guard := none }) rfl (fun K2 hK2 => ?_) AllReadyH.nil
    refine step_append_rowYtcneocbadobcfaaGreat rfl (.tmp 9) (.tmp 11) 32 rfl W0.heap.size 100 i4 (.agg #[.int .i64 0]) 1 8 Tryz.underlying32 hi4 hz40 hz41 hz42 rfl (by decide) (.slice (some ⟨W0.heap.size + 1, 0, none⟩) 0 0) 0 [] (by rfl) oE ai0 d.ni ci0 (chunks d.ni fun i => gcells (d.g i)) (by rfl) (chunks_length d.ni (fun i _ => rfl)) (HRi.out _ bz).2 (chunks_one (fun i hi v hv => by simp [gcells] at hv; subst hv; rfl)) (by unfold maxLen; omega) (by omega) (by first | (simp; done) | (simp; omega)) ?_
    intro v1 w1 o1 g1
    obtain ⟨ai, ci, rfl⟩ := owns_slice o1
    simp only [Nat.zero_add, List.nil_append] at o1 ⊢
    have on1 : Only ((W0.drew.alloc (.cells #[.int .i64 0, .slice none 0 0, .slice none 0 0, .slice none 0 0, .slice none 0 0] 34)).alloc (.cells #[] 100)) w1 (fun x => x = W0.heap.size + 1) := (Only.refl _ _).grown g1 (fun j hj => by simpa [Value.ownBlock] using hj.symm)
    have bw1 : Below W0.heap.size W0 w1 := bz.trans ⟨on1.os, on1.tape, on1.output, on1.size, fun i hi => on1.block i (by have := bz.size; omega) (fun e => by omega)⟩
    refine hK2.out _ _ ?_ (fun hHeld2 => ?_)
    · exact KS.out _ bw1
    clear hK2 K2 hHeld
    have hHeld := hHeld2
    clear hHeld2
    try simp only [Act.put, List.setIfInBounds_toArray, List.set_cons_zero, List.set_cons_succ]
    refine wpAnyH_take (i := 6) (oi := { dst := some 13, op := Op.build 34 #[(0, Operand.tmp 8), (4, Operand.tmp 12)], type := 34, pos := "l05_node.go:34", after := #[{ on := 1, ground := Ground.data }, { on := 5, ground := Ground.data }], guard := none }) (v := ?r5_v6) rfl (by kernel_rfl) (by kernel_rfl) (by kernel_rfl) (fun _ _ _ h => h) (Or.inl ⟨by rfl, ?r5_hy6⟩) (by assumption) ?r5_rest6
    case r5_hy6 => intro w hSw; obtain ⟨s0, s1, s2⟩ := hSw; go_simp; try (with_reducible rfl)
    simp only [Act.put, List.setIfInBounds_toArray, List.set_cons_zero, List.set_cons_succ]
    have XO1 := XO.only on1 (fun e => by omega)
    obtain ⟨e0, e1, e2, e3, e4, ez⟩ := XO1.at5
    have f0 := XO1.frozen 0
    have f1 := XO1.frozen 1
    have f2 := XO1.frozen 2
    have f3 := XO1.frozen 3
    have f4 := XO1.frozen 4
    have onS : Only w1 (((((w1.setCell ⟨W0.heap.size, 0, none⟩ (.int .i64 d.id)).setCell ⟨W0.heap.size, 1, none⟩ (.slice none 0 0)).setCell ⟨W0.heap.size, 2, none⟩ (.slice none 0 0)).setCell ⟨W0.heap.size, 3, none⟩ (.slice none 0 0)).setCell ⟨W0.heap.size, 4, none⟩ (.slice ai d.ni ci)) (fun x => x = W0.heap.size) := (((((Only.refl w1 (fun x => x = W0.heap.size)).setCell ⟨W0.heap.size, 0, none⟩ _ rfl).setCell ⟨W0.heap.size, 1, none⟩ _ rfl).setCell ⟨W0.heap.size, 2, none⟩ _ rfl).setCell ⟨W0.heap.size, 3, none⟩ _ rfl).setCell ⟨W0.heap.size, 4, none⟩ _ rfl
    have bw2 : Below W0.heap.size W0 (((((w1.setCell ⟨W0.heap.size, 0, none⟩ (.int .i64 d.id)).setCell ⟨W0.heap.size, 1, none⟩ (.slice none 0 0)).setCell ⟨W0.heap.size, 2, none⟩ (.slice none 0 0)).setCell ⟨W0.heap.size, 3, none⟩ (.slice none 0 0)).setCell ⟨W0.heap.size, 4, none⟩ (.slice ai d.ni ci)) := bw1.trans ⟨onS.os, onS.tape, onS.output, onS.size, fun i hi => onS.block i (by have := bw1.size; omega) (fun e => by omega)⟩
    refine wpAnyH_ready (rs := [8]) (by kernel_rfl) (by simp) ?_
    refine AllReadyH.cons (o := { dst := none, op := Op.store 34 (Operand.tmp 3) (Operand.tmp 13), type := 0, pos := "l05_node.go:34", after := #[{ on := 7, ground := Ground.data }, { on := 6, ground := Ground.data }, { on := 5, ground := Ground.chain }, { on := 0, ground := Ground.phase }, { on := 1, ground := Ground.phase }, { on := 2, ground := Ground.phase }, { on := 3, ground := Ground.phase }, { on := 4, ground := Ground.phase }, { on := 5, ground := Ground.phase }, { on := 6, ground := Ground.phase }, { on := 7, ground := Ground.phase }], guard := none }) rfl (fun K2 hK2 => ?_) AllReadyH.nil
    go_simp
    refine hK2.out _ _ ?_ (fun hHeld2 => ?_)
    · exact KS.out _ bw2
    clear hK2 K2 hHeld
    have hHeld := hHeld2
    clear hHeld2
    try simp only [Act.put, List.setIfInBounds_toArray, List.set_cons_zero, List.set_cons_succ]
    refine wpAnyH_done (by kernel_rfl) ?_ _
    have hLC : LC w (((((w1.setCell ⟨W0.heap.size, 0, none⟩ (.int .i64 d.id)).setCell ⟨W0.heap.size, 1, none⟩ (.slice none 0 0)).setCell ⟨W0.heap.size, 2, none⟩ (.slice none 0 0)).setCell ⟨W0.heap.size, 3, none⟩ (.slice none 0 0)).setCell ⟨W0.heap.size, 4, none⟩ (.slice ai d.ni ci)) #[.int .i64 d.id, .slice af d.nf cf, .slice ah d.nh ch, .slice ao d.no co, .slice ai0 d.ni ci0] (W0.heap.size) #[.int .i64 d.id, .slice none 0 0, .slice none 0 0, .slice none 0 0, .slice ai d.ni ci] ai ci d.ni d.g := by
      obtain ⟨XP, XR, B⟩ := HXP.out
      have hz := HZ0.out
      have hll : ∀ b, blk (ai, ci) = some b → W0.heap.size ≤ b ∧ b ≠ W0.heap.size := fun b hb => ⟨by have := owns_low o1 b hb; omega, fun e => by subst e; exact lit_ne XO1 o1 (by decide) (blk_own hb)⟩
      exact ⟨XP.below bw2, XR.below bw2, lit_box5 XO1, owns_base (owns_only o1 onS (fun j hj e => (hll j (blk_eq hj)).2 e)) (Nat.zero_le _), fun b hb => by have := hll b hb; omega, by omega, bel_trans B bw2⟩
    obtain ⟨bo, hbo⟩ : ∃ bo, W0.heap.size = bo := ⟨_, rfl⟩
    obtain ⟨W, hW⟩ : ∃ W, (((((w1.setCell ⟨W0.heap.size, 0, none⟩ (.int .i64 d.id)).setCell ⟨W0.heap.size, 1, none⟩ (.slice none 0 0)).setCell ⟨W0.heap.size, 2, none⟩ (.slice none 0 0)).setCell ⟨W0.heap.size, 3, none⟩ (.slice none 0 0)).setCell ⟨W0.heap.size, 4, none⟩ (.slice ai d.ni ci)) = W := ⟨_, rfl⟩
    rw [hW, hbo] at hLC
    rw [hW]
    simp only [hbo]
    clear hW hbo hHeld bw1 bw2 on1 onS o1 g1 oE bz XO XO1 e0 e1 e2 e3 e4 ez f0 f1 f2 f3 f4
    exact REST.out W bo ai ci _ _ _ _ _ _ _ hLC

theorem l5Copy_any (d : ND) (p : NP) (w : World) (hd : Nsm d) (hR : NR w d p) : Calls Tryz.prog 15 #[.agg (ncells d p)] w fun e w' => CopyP d w e w' := by
  obtain ⟨⟨af, cf⟩, fp, ⟨ah, ch⟩, hp, ⟨ao, co⟩, op, ms, ⟨ai0, ci0⟩⟩ := p
  exact l5Copy_raw d af ah ao ai0 cf ch co ci0 fp hp op ms w hd hR
end Go.Proofs.YtcneocbadobcfaaGreat
