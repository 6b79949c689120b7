/- What impl's (station) ask and Want's deed do. -/
import Derived.Test.YtcneocbadobcfaaGreatWtX
import Derived.Test.YtcneocbadobcfaaGreatWtN
namespace Go.Proofs.YtcneocbadobcfaaGreat
open Go.RowKit
set_option linter.unusedVariables false

def askS (pg : Nat) (own : Bool) : Say := (if own then 2 else 1, (pg : Int), false, [])
def askQ (d : ND) (pg : Nat) (own : Bool) : Bool := sB (d.b (pg % d.no)) (d.y (pg % d.no) ++ [askS pg own])
/-- A node that has asked. -/
def askD (d : ND) (pg : Nat) (own : Bool) : ND := { d with f := fun i => if i = pg then ⟨(d.f pg).s, (d.f pg).xs, true⟩ else d.f i, y := fun i => if i = pg % d.no then d.y (pg % d.no) ++ [askS pg own] else d.y i }

theorem frame_ask {w : World} {g c n k : Nat} {d : Nat → FD} {p : Nat → Pl} (h : FO w (some ⟨g, 0, none⟩) c n d p) (hk : k < n) :
    FO (w.setCell ⟨g, k * 3 + 2, none⟩ (.bool true)) (some ⟨g, 0, none⟩) c n (fun i => if i = k then ⟨(d k).s, (d k).xs, true⟩ else d i) p := by
  have r := owns_stored h.row (fun i _ => rfl) hk (j := 2) (by decide) (.bool true)
  have on : Only w (w.setCell ⟨g, k * 3 + 2, none⟩ (.bool true)) (fun b => b = g ∨ QF (p k) b) := (Only.refl w _).setCell ⟨g, k * 3 + 2, none⟩ _ (.inl rfl)
  have he : EF (d k) (p k) (w.setCell ⟨g, k * 3 + 2, none⟩ (.bool true)) := owns_setCell (h.el k hk) (fun b hb e => h.out k hk g rfl (by have e' : g = b := e; rw [e']; exact blk_eq hb)) _
  refine (Rw.turn h hk on r (E' := EF (d k) (p k)) he (fix_f _ _)).congr (fun i hi => ?_) (fun i hi => rfl) (fun i hi => ?_)
  · by_cases e : i = k
    · subst e; simp [fcells]
    · simp [e]
  · by_cases e : i = k
    · subst e; simp only [if_pos]; rfl
    · simp [e]

/-- What asking leaves. -/
def AskP (m pg : Nat) (own : Bool) (d : ND) (p : NP) (j : Bool) (w w' : World) : Prop :=
  Box w' m (stc d p (j || !(askQ d pg own))) 123 ∧ Only w w' (fun b => b = m ∨ blk p.f = some b ∨ blk p.o = some b) ∧
  (askQ d pg own = true → ∃ (op : Nat → Pl) (ms : Nat → List M), NOw w' (askD d pg own) { p with op := op, ms := ms } ∧ ∀ b, NBs (askD d pg own) { p with op := op, ms := ms } b → NBs d p b ∨ w.heap.size ≤ b)

theorem say_of {w : World} {d : ND} {p : NP} (h : NOw w d p) {i : Nat} (hi : i < d.no) (m : M) : (p.ms i ++ [m]).map M.say = d.y i ++ [m.say] := by
  rw [List.map_append, h.e i hi]
  rfl

theorem ask_end {m pg g : Nat} {own : Bool} {d : ND} {p : NP} {j : Bool} {w wa w' : World} (hN : NOw w d p) (hg : p.f.1 = some ⟨g, 0, none⟩) (hpg : pg < d.nf) (hno : pg % d.no < d.no) (hm : m < w.heap.size) (hmn : ∀ b, NBs d p b → b ≠ m) (ba : Below w.heap.size w wa)
    (T : TellP m (pg % d.no) (askS pg own).1 pg d p j (wa.setCell ⟨g, pg * 3 + 2, none⟩ (.bool true)) w') : AskP m pg own d p j w w' := by
  obtain ⟨pl, ds, t1, t2, t3, t4, t5⟩ := T
  have hsz : wa.heap.size = (wa.setCell ⟨g, pg * 3 + 2, none⟩ (.bool true)).heap.size := by simp
  have hw := ba.size
  have eS : (M.mk (askS pg own).1 pg false none 0 []).say = askS pg own := rfl
  have eq : senderB (d.b (pg % d.no)) (p.ms (pg % d.no) ++ [⟨(askS pg own).1, pg, false, none, 0, []⟩]) = askQ d pg own := by
    rw [senderB_eq, say_of hN hno, eS]
    rfl
  rw [eq] at t1 t3
  have hfg : blk p.f = some g := by unfold blk; rw [hg]; rfl
  have oa : Only w (wa.setCell ⟨g, pg * 3 + 2, none⟩ (.bool true)) (fun b => b = g) := ((Only.refl w (fun b => b = g)).below ba).setCell ⟨g, pg * 3 + 2, none⟩ _ rfl
  refine ⟨t1, (oa.more (fun b hb => .inr (.inl (by rw [hb]; exact hfg)))).trans (t5.more (fun b hb => ?_)), fun hq => ?_⟩
  · rcases hb with hb | hb
    · exact .inl hb
    · exact .inr (.inr hb)
  · rw [hq] at t3
    simp only [if_true] at t3
    have hNa := hN.below ba
    have hf0 : FO wa (some ⟨g, 0, none⟩) p.f.2 d.nf d.f p.fp := by rw [← hg]; exact hNa.f
    have hf1 := frame_ask hf0 hpg
    rw [← hg] at hf1
    have oS : ∀ {P : Nat → Prop}, (∀ b, P b → NBs d p b) → (∀ b, P b → blk p.o ≠ some b) → Sm P (wa.setCell ⟨g, pg * 3 + 2, none⟩ (.bool true)) w' := fun hP hPo => t5.sm (fun b hb hs => by
      rcases hs with hs | hs
      · exact hmn b (hP b hb) hs
      · exact hPo b hb hs)
    have oF : ∀ {P : Nat → Prop}, (∀ b, P b → ¬ RS p.f.1 p.f.2 d.nf (fun i => QF (p.fp i)) b) → Sm P wa (wa.setCell ⟨g, pg * 3 + 2, none⟩ (.bool true)) := fun hP => ((Only.refl wa (fun b => b = g)).setCell ⟨g, pg * 3 + 2, none⟩ _ rfl).sm (fun b hb hs => by
      subst hs
      exact hP b hb (.inl hfg))
    have sub : ∀ b, RS p.o.1 p.o.2 d.no (fun i => QS ((fun i => if i = pg % d.no then pl else p.op i) i) ((fun i => if i = pg % d.no then ds else p.ms i) i)) b → RS p.o.1 p.o.2 d.no (fun i => QS (p.op i) (p.ms i)) b ∨ w.heap.size ≤ b := fun b hb => by
      rcases hb with hb | ⟨i, hi, hb⟩
      · exact .inl (.inl hb)
      · by_cases e : i = pg % d.no
        · subst e
          simp only [if_pos] at hb
          have := t4 b hb
          exact .inr (by omega)
        · simp only [if_neg e] at hb
          exact .inl (.inr ⟨i, hi, hb⟩)
    refine ⟨fun i => if i = pg % d.no then pl else p.op i, fun i => if i = pg % d.no then ds else p.ms i, ⟨?_, ?_, t2, ?_, fun i hi => ?_, hN.fh, fun b h1 h2 => ?_, hN.fi, fun b h1 h2 => ?_, hN.hi, fun b h1 h2 => ?_⟩, fun b hb => ?_⟩
    · exact Rw.sm hf1 (oS (fun b hb => .inl hb) (fun b hb ho => hN.fo b hb (.inl ho)))
    · exact Rw.sm (Rw.sm hNa.h (oF (fun b hb hf => hN.fh b hf hb))) (oS (fun b hb => .inr (.inl hb)) (fun b hb ho => hN.ho b hb (.inl ho)))
    · exact GO.sm (P := fun b => blk p.i = some b) (GO.sm (P := fun b => blk p.i = some b) hNa.i (oF (fun b hb hf => hN.fi b hf hb)) (fun b hb => hb)) (oS (fun b hb => .inr (.inr (.inr hb))) (fun b hb ho => hN.oi b (.inl ho) hb)) (fun b hb => hb)
    · by_cases e : i = pg % d.no
      · subst e
        simp only [askD, if_pos]
        rw [t3, say_of hN hno, eS]
      · simp only [askD, if_neg e]
        exact hN.e i hi
    · rcases sub b h2 with h | h
      · exact hN.fo b h1 h
      · have := hN.lt (.inl h1)
        omega
    · rcases sub b h2 with h | h
      · exact hN.ho b h1 h
      · have := hN.lt (.inr (.inl h1))
        omega
    · rcases sub b h1 with h | h
      · exact hN.oi b h h2
      · have := hN.lt (.inr (.inr (.inr h2)))
        omega
    · rcases hb with hb | hb | hb | hb
      · exact .inl (.inl hb)
      · exact .inl (.inr (.inl hb))
      · rcases sub b hb with h | h
        · exact .inl (.inr (.inr (.inl h)))
        · exact .inr h
      · exact .inl (.inr (.inr (.inr hb)))

theorem AskP.drew {m pg : Nat} {own : Bool} {d : ND} {p : NP} {j : Bool} {w w' : World} (h : AskP m pg own d p j w w') : AskP m pg own d p j w w'.drew := by
  obtain ⟨h1, h2, h3⟩ := h
  refine ⟨h1.below (bel_drew (Below.refl _ _)), h2.below (bel_drew (Below.refl _ _)), fun hq => ?_⟩
  obtain ⟨op, ms, h4, h5⟩ := h3 hq
  exact ⟨op, ms, h4.below (bel_drew (Below.refl _ _)), h5⟩

set_option maxRecDepth 100000 in
set_option maxHeartbeats 4000000 in
theorem ask_any (m pg : Nat) (own : Bool) (d : ND) (p : NP) (j : Bool) (w : World) (hs : Nsm d) (X : Box w m (stc d p j) 123) (hN : NOw w d p) (hmn : ∀ b, NBs d p b → b ≠ m) (hpg : pg ≤ 5) (hnf : d.nf = 6) (hno : 1 ≤ d.no ∧ d.no ≤ 4) :
    Calls Tryz.prog 30 #[.pointer (some ⟨m, 0, none⟩), .int .i64 pg, .bool own] w fun e w' => e = .returned (.tuple #[]) ∧ AskP m pg own d p j w w' := by
  have hml := hN.msm hs
  have hdi : pg % d.no < d.no := Nat.mod_lt _ (by omega)
  obtain ⟨g, hg⟩ := owns_addr hN.f.row (by omega)
  have hgz : g < w.heap.size := (hN.f.row.lt g (by rw [hg]; rfl)).2
  have hgm : g ≠ m := hmn g (.inl (.inl (by unfold blk; rw [hg]; rfl)))
  have hm := X.lt
  have bA := bel_alloc (Below.refl w.heap.size w) (.cells #[.int .i64 (askS pg own).1, .int .i64 pg, .bool false, .slice none 0 0] 58)
  have XM := Box.new w #[.int .i64 (askS pg own).1, .int .i64 pg, .bool false, .slice none 0 0] 58
  obtain ⟨Z, hZ⟩ : ∃ Z, w.alloc (.cells #[.int .i64 (askS pg own).1, .int .i64 pg, .bool false, .slice none 0 0] 58) = Z := ⟨_, rfl⟩
  have HEND : Hid (∀ w', TellP m (pg % d.no) (askS pg own).1 pg d p j (Z.setCell ⟨g, pg * 3 + 2, none⟩ (.bool true)) w' → AskP m pg own d p j w w') := fun w' T => ask_end hN hg (by omega) hdi hm hmn (by rw [hZ] at bA; exact bA) T
  have HT : Hid (Calls Tryz.prog 79 #[.pointer (some ⟨m, 0, none⟩), .int .i64 ((pg % d.no : Nat) : Int), .agg #[.int .i64 (askS pg own).1, .int .i64 pg, .bool false, .slice none 0 0]] (Z.setCell ⟨g, pg * 3 + 2, none⟩ (.bool true)).drew fun e w' => e = .returned (.tuple #[]) ∧ TellP m (pg % d.no) (askS pg own).1 pg d p j (Z.setCell ⟨g, pg * 3 + 2, none⟩ (.bool true)).drew w') := by
    rw [hZ] at bA
    have on : Only Z (Z.setCell ⟨g, pg * 3 + 2, none⟩ (.bool true)) (fun b => b = g) := (Only.refl Z (fun b => b = g)).setCell ⟨g, pg * 3 + 2, none⟩ _ rfl
    have bd : Below (Z.setCell ⟨g, pg * 3 + 2, none⟩ (.bool true)).heap.size (Z.setCell ⟨g, pg * 3 + 2, none⟩ (.bool true)) (Z.setCell ⟨g, pg * 3 + 2, none⟩ (.bool true)).drew := bel_drew (Below.refl _ _)
    refine tellS_any m (pg % d.no) (askS pg own).1 pg d p j _ (((X.below bA).only on (fun e => hgm e.symm)).below bd) ((Rw.sm (hN.below bA).o (on.sm (fun b hb e => by subst e; exact hN.fo b (.inl (by unfold blk; rw [hg]; rfl)) hb))).below bd) hdi (by omega) ?_ (hml _ hdi).2 (fun b hb => hmn b (.inr (.inr (.inl hb))))
    have h1 := congrArg List.length (hN.e _ hdi)
    rw [List.length_map] at h1
    have := (hs.o.2 _ hdi).1
    omega
  have HH : Hid (Calls Tryz.prog 80 #[.pointer (some ⟨m, 0, none⟩), .int .i64 pg] (Z.setCell ⟨g, pg * 3 + 2, none⟩ (.bool true)).drew fun e w' => e = .returned (.int .i64 ((pg % d.no : Nat) : Int)) ∧ w' = (Z.setCell ⟨g, pg * 3 + 2, none⟩ (.bool true)).drew) := by
    rw [hZ] at bA
    have on : Only Z (Z.setCell ⟨g, pg * 3 + 2, none⟩ (.bool true)) (fun b => b = g) := (Only.refl Z (fun b => b = g)).setCell ⟨g, pg * 3 + 2, none⟩ _ rfl
    exact homeOf_any m d p j pg _ hpg hno (((X.below bA).only on (fun e => hgm e.symm)).below (bel_drew (Below.refl _ _)))
  obtain ⟨x0, x1, x2, x3, x4, x5, xz⟩ := (X.below bA).at6
  rw [hg] at x4
  have HPO : Hid (¬ blk p.o = some w.heap.size) := fun e => by have := hN.lt (.inr (.inr (.inl (.inl e)))); omega
  have hi : (pg : Int) < (d.nf : Int) := by omega
  have of := (hN.below bA).f.row
  rw [hg] at of
  have c2 := owns_chunk of (fun i _ => rfl) (show pg < d.nf by omega) (j := 2) (by decide)
  simp only [fcells, List.getElem?_cons_zero, List.getElem?_cons_succ] at c2
  have fz := of.frozenAt (pg * 3 + 2)
  have HZ : Hid (Z.heap.size = w.heap.size + 1) := by show _ = _; rw [← hZ]; simp
  have HXM : Hid (∀ (W : World), W.heap[w.heap.size]? = Z.heap[w.heap.size]? → Box W w.heap.size #[.int .i64 (askS pg own).1, .int .i64 pg, .bool false, .slice none 0 0] 58) := fun W e => by
    rw [hZ] at XM
    exact e.trans XM
  have HZE : Hid (w.alloc (.cells #[.int .i64 (askS pg own).1, .int .i64 pg, .bool false, .slice none 0 0] 58) = Z) := hZ
  clear of hN X XM bA hml hmn hs hZ
  cases own
  · simp only [askS, Bool.false_eq_true, if_false] at c2 fz x0 x1 x2 x3 x4 x5 xz
    go_enter Tryz.func30, Tryz.ntmps30
    go_wp2_with fail
    clear x0 x1 x2 x3 x4 x5 xz c2 fz
    have he := HZE.out
    simp only [askS, Bool.false_eq_true, if_false] at he
    rw [← World.setCell_alloc_past _ g (pg * 3 + 2) (.bool true) hgz, he]
    clear he
    have XM := HXM.out (Z.setCell ⟨g, pg * 3 + 2, none⟩ (.bool true)).drew (Below.heap_setCell Z ⟨g, pg * 3 + 2, none⟩ (.bool true) w.heap.size (by simp; omega))
    obtain ⟨y0, y1, y2, y3, yz⟩ := XM.at4
    simp only [askS, Bool.false_eq_true, if_false] at y0
    refine wp_region_held_drew (S := (fun w' => w'.cell? ⟨w.heap.size, 0, none⟩ = some (.int .i64 1) ∧ w'.cell? ⟨w.heap.size, 1, none⟩ = some (.int .i64 pg) ∧ w'.cell? ⟨w.heap.size, 2, none⟩ = some (.bool false) ∧ w'.cell? ⟨w.heap.size, 3, none⟩ = some (.slice none 0 0) ∧ w.heap.size < w'.heap.size)) (by kernel_rfl) ?_ (fun hHeld => ?_)
    · exact ⟨y0, y1, y2, y3, yz⟩
    refine wpAnyH_take (i := 0) (oi := { dst := some 18, op := Op.move (Operand.tmp 0), type := 65, pos := "l05_node.go:126", after := #[], guard := none }) (v := ?r1_v0) rfl (by kernel_rfl) (by kernel_rfl) (by kernel_rfl) (fun _ _ _ h => h) (Or.inl ⟨by rfl, ?r1_hy0⟩) (by assumption) ?r1_rest0
    case r1_hy0 => intro w hSw; obtain ⟨s0, s1, s2, s3, s4⟩ := hSw; go_simp; try (with_reducible rfl)
    simp only [Act.put, List.setIfInBounds_toArray, List.set_cons_zero, List.set_cons_succ]
    refine wpAnyH_take (i := 1) (oi := { dst := some 19, op := Op.nilCheck (Operand.tmp 18), type := 0, pos := "l05_node.go:126", after := #[{ on := 0, ground := Ground.data }], guard := none }) (v := ?r1_v1) rfl (by kernel_rfl) (by kernel_rfl) (by kernel_rfl) (fun _ _ _ h => h) (Or.inl ⟨by rfl, ?r1_hy1⟩) (by assumption) ?r1_rest1
    case r1_hy1 => intro w hSw; obtain ⟨s0, s1, s2, s3, s4⟩ := hSw; go_simp; try (with_reducible rfl)
    simp only [Act.put, List.setIfInBounds_toArray, List.set_cons_zero, List.set_cons_succ]
    refine wpAnyH_take (i := 2) (oi := { dst := some 20, op := Op.fieldAddr 123 (Operand.tmp 19) 0, type := 0, pos := "l05_node.go:126", after := #[{ on := 1, ground := Ground.data }], guard := none }) (v := ?r1_v2) rfl (by kernel_rfl) (by kernel_rfl) (by kernel_rfl) (fun _ _ _ h => h) (Or.inl ⟨by rfl, ?r1_hy2⟩) (by assumption) ?r1_rest2
    case r1_hy2 => intro w hSw; obtain ⟨s0, s1, s2, s3, s4⟩ := hSw; go_simp; try (with_reducible rfl)
    simp only [Act.put, List.setIfInBounds_toArray, List.set_cons_zero, List.set_cons_succ]
    refine wpAnyH_take (i := 3) (oi := { dst := some 21, op := Op.move (Operand.tmp 0), type := 65, pos := "l05_node.go:126", after := #[], guard := none }) (v := ?r1_v3) rfl (by kernel_rfl) (by kernel_rfl) (by kernel_rfl) (fun _ _ _ h => h) (Or.inl ⟨by rfl, ?r1_hy3⟩) (by assumption) ?r1_rest3
    case r1_hy3 => intro w hSw; obtain ⟨s0, s1, s2, s3, s4⟩ := hSw; go_simp; try (with_reducible rfl)
    simp only [Act.put, List.setIfInBounds_toArray, List.set_cons_zero, List.set_cons_succ]
    refine wpAnyH_take (i := 4) (oi := { dst := some 22, op := Op.nilCheck (Operand.tmp 21), type := 0, pos := "l05_node.go:126", after := #[{ on := 3, ground := Ground.data }], guard := none }) (v := ?r1_v4) rfl (by kernel_rfl) (by kernel_rfl) (by kernel_rfl) (fun _ _ _ h => h) (Or.inl ⟨by rfl, ?r1_hy4⟩) (by assumption) ?r1_rest4
    case r1_hy4 => intro w hSw; obtain ⟨s0, s1, s2, s3, s4⟩ := hSw; go_simp; try (with_reducible rfl)
    simp only [Act.put, List.setIfInBounds_toArray, List.set_cons_zero, List.set_cons_succ]
    refine wpAnyH_take (i := 5) (oi := { dst := some 23, op := Op.fieldAddr 123 (Operand.tmp 22) 0, type := 0, pos := "l05_node.go:126", after := #[{ on := 4, ground := Ground.data }], guard := none }) (v := ?r1_v5) rfl (by kernel_rfl) (by kernel_rfl) (by kernel_rfl) (fun _ _ _ h => h) (Or.inl ⟨by rfl, ?r1_hy5⟩) (by assumption) ?r1_rest5
    case r1_hy5 => intro w hSw; obtain ⟨s0, s1, s2, s3, s4⟩ := hSw; go_simp; try (with_reducible rfl)
    simp only [Act.put, List.setIfInBounds_toArray, List.set_cons_zero, List.set_cons_succ]
    refine wpAnyH_take (i := 6) (oi := { dst := some 24, op := Op.move (Operand.tmp 1), type := 3, pos := "l05_node.go:126", after := #[], guard := none }) (v := ?r1_v6) rfl (by kernel_rfl) (by kernel_rfl) (by kernel_rfl) (fun _ _ _ h => h) (Or.inl ⟨by rfl, ?r1_hy6⟩) (by assumption) ?r1_rest6
    case r1_hy6 => intro w hSw; obtain ⟨s0, s1, s2, s3, s4⟩ := hSw; go_simp; try (with_reducible rfl)
    simp only [Act.put, List.setIfInBounds_toArray, List.set_cons_zero, List.set_cons_succ]
    refine wpAnyH_take (i := 8) (oi := { dst := some 26, op := Op.load 58 (Operand.tmp 6), type := 58, pos := "l05_node.go:126", after := #[], guard := none }) (v := ?r1_v8) rfl (by kernel_rfl) (by kernel_rfl) (by kernel_rfl) (fun _ _ _ h => h) (Or.inl ⟨by rfl, ?r1_hy8⟩) (by assumption) ?r1_rest8
    case r1_hy8 => intro w hSw; obtain ⟨s0, s1, s2, s3, s4⟩ := hSw; go_simp; try (with_reducible rfl)
    simp only [Act.put, List.setIfInBounds_toArray, List.set_cons_zero, List.set_cons_succ]
    refine wpAnyH_ready (rs := [7]) (by kernel_rfl) (by simp) ?_
    refine AllReadyH.cons (o := { dst := some 25, op := Op.call { callee := Callee.value (Operand.func 80), args := #[Operand.tmp 23, Operand.tmp 24], argTypes := #[121, 3] }, type := 3, pos := "l05_node.go:126", after := #[{ on := 5, ground := Ground.data }, { on := 6, ground := Ground.data }], guard := none }) rfl (fun K2 hK2 => ?_) AllReadyH.nil
    go_simp
    refine HH.out.mono ?_
    rintro e w1 ⟨rfl, h1⟩
    subst h1
    go_wp2_with fail
    refine hK2.out _ _ ?_ (fun hHeld2 => ?_)
    · exact ⟨y0, y1, y2, y3, yz⟩
    clear hK2 K2 hHeld
    have hHeld := hHeld2
    clear hHeld2
    try simp only [Act.put, List.setIfInBounds_toArray, List.set_cons_zero, List.set_cons_succ]
    refine wpAnyH_ready (rs := [9]) (by kernel_rfl) (by simp) ?_
    refine AllReadyH.cons (o := { dst := some 27, op := Op.call { callee := Callee.value (Operand.func 79), args := #[Operand.tmp 20, Operand.tmp 25, Operand.tmp 26], argTypes := #[121, 3, 58] }, type := 0, pos := "l05_node.go:126", after := #[{ on := 2, ground := Ground.data }, { on := 7, ground := Ground.data }, { on := 8, ground := Ground.data }, { on := 7, ground := Ground.chain }], guard := none }) rfl (fun K2 hK2 => ?_) AllReadyH.nil
    go_simp
    refine HT.out.mono ?_
    rintro e w2 ⟨rfl, T2⟩
    have YK : w2.heap[w.heap.size]? = _ := T2.elim (fun pl h => h.elim (fun ds h => h.2.2.2.2.block w.heap.size (by have := HZ.out; simp; omega) (fun e => by rcases e with e | e; omega; exact absurd e (HPO.out))))
    have XM2 := HXM.out w2 (YK.trans (Below.heap_setCell Z ⟨g, pg * 3 + 2, none⟩ (.bool true) w.heap.size (by simp; omega)))
    obtain ⟨z0, z1, z2, z3, zz⟩ := XM2.at4
    simp only [askS, Bool.false_eq_true, if_false] at z0
    go_wp2_with fail
    refine hK2.out _ _ ?_ (fun hHeld2 => ?_)
    · exact ⟨z0, z1, z2, z3, zz⟩
    clear hK2 K2 hHeld
    have hHeld := hHeld2
    clear hHeld2
    try simp only [Act.put, List.setIfInBounds_toArray, List.set_cons_zero, List.set_cons_succ]
    refine wpAnyH_done (by kernel_rfl) ?_ _
    have HF : Hid (AskP m pg false d p j w w2) := HEND.out w2 (by
      obtain ⟨pl, ds, h1, h2, h3, h4, h5⟩ := T2
      exact ⟨pl, ds, h1, h2, h3, h4, ⟨h5.os, h5.tape, h5.output, h5.size, h5.block⟩⟩)
    clear hHeld T2 z0 z1 z2 z3 zz y0 y1 y2 y3 yz XM XM2 YK
    go_wp2
    exact ⟨rfl, .tuple #[], by simp [results, Tryz.results30, go_sem], rfl, HF.out⟩
  · simp only [askS, if_true] at c2 fz x0 x1 x2 x3 x4 x5 xz
    go_enter Tryz.func30, Tryz.ntmps30
    go_wp2_with fail
    clear x0 x1 x2 x3 x4 x5 xz c2 fz
    have he := HZE.out
    simp only [askS, if_true] at he
    rw [← World.setCell_alloc_past _ g (pg * 3 + 2) (.bool true) hgz, he]
    clear he
    have XM := HXM.out (Z.setCell ⟨g, pg * 3 + 2, none⟩ (.bool true)).drew (Below.heap_setCell Z ⟨g, pg * 3 + 2, none⟩ (.bool true) w.heap.size (by simp; omega))
    obtain ⟨y0, y1, y2, y3, yz⟩ := XM.at4
    simp only [askS, if_true] at y0
    refine wp_region_held_drew (S := (fun w' => w'.cell? ⟨w.heap.size, 0, none⟩ = some (.int .i64 2) ∧ w'.cell? ⟨w.heap.size, 1, none⟩ = some (.int .i64 pg) ∧ w'.cell? ⟨w.heap.size, 2, none⟩ = some (.bool false) ∧ w'.cell? ⟨w.heap.size, 3, none⟩ = some (.slice none 0 0) ∧ w.heap.size < w'.heap.size)) (by kernel_rfl) ?_ (fun hHeld => ?_)
    · exact ⟨y0, y1, y2, y3, yz⟩
    refine wpAnyH_take (i := 0) (oi := { dst := some 18, op := Op.move (Operand.tmp 0), type := 65, pos := "l05_node.go:126", after := #[], guard := none }) (v := ?r2_v0) rfl (by kernel_rfl) (by kernel_rfl) (by kernel_rfl) (fun _ _ _ h => h) (Or.inl ⟨by rfl, ?r2_hy0⟩) (by assumption) ?r2_rest0
    case r2_hy0 => intro w hSw; obtain ⟨s0, s1, s2, s3, s4⟩ := hSw; go_simp; try (with_reducible rfl)
    simp only [Act.put, List.setIfInBounds_toArray, List.set_cons_zero, List.set_cons_succ]
    refine wpAnyH_take (i := 1) (oi := { dst := some 19, op := Op.nilCheck (Operand.tmp 18), type := 0, pos := "l05_node.go:126", after := #[{ on := 0, ground := Ground.data }], guard := none }) (v := ?r2_v1) rfl (by kernel_rfl) (by kernel_rfl) (by kernel_rfl) (fun _ _ _ h => h) (Or.inl ⟨by rfl, ?r2_hy1⟩) (by assumption) ?r2_rest1
    case r2_hy1 => intro w hSw; obtain ⟨s0, s1, s2, s3, s4⟩ := hSw; go_simp; try (with_reducible rfl)
    simp only [Act.put, List.setIfInBounds_toArray, List.set_cons_zero, List.set_cons_succ]
    refine wpAnyH_take (i := 2) (oi := { dst := some 20, op := Op.fieldAddr 123 (Operand.tmp 19) 0, type := 0, pos := "l05_node.go:126", after := #[{ on := 1, ground := Ground.data }], guard := none }) (v := ?r2_v2) rfl (by kernel_rfl) (by kernel_rfl) (by kernel_rfl) (fun _ _ _ h => h) (Or.inl ⟨by rfl, ?r2_hy2⟩) (by assumption) ?r2_rest2
    case r2_hy2 => intro w hSw; obtain ⟨s0, s1, s2, s3, s4⟩ := hSw; go_simp; try (with_reducible rfl)
    simp only [Act.put, List.setIfInBounds_toArray, List.set_cons_zero, List.set_cons_succ]
    refine wpAnyH_take (i := 3) (oi := { dst := some 21, op := Op.move (Operand.tmp 0), type := 65, pos := "l05_node.go:126", after := #[], guard := none }) (v := ?r2_v3) rfl (by kernel_rfl) (by kernel_rfl) (by kernel_rfl) (fun _ _ _ h => h) (Or.inl ⟨by rfl, ?r2_hy3⟩) (by assumption) ?r2_rest3
    case r2_hy3 => intro w hSw; obtain ⟨s0, s1, s2, s3, s4⟩ := hSw; go_simp; try (with_reducible rfl)
    simp only [Act.put, List.setIfInBounds_toArray, List.set_cons_zero, List.set_cons_succ]
    refine wpAnyH_take (i := 4) (oi := { dst := some 22, op := Op.nilCheck (Operand.tmp 21), type := 0, pos := "l05_node.go:126", after := #[{ on := 3, ground := Ground.data }], guard := none }) (v := ?r2_v4) rfl (by kernel_rfl) (by kernel_rfl) (by kernel_rfl) (fun _ _ _ h => h) (Or.inl ⟨by rfl, ?r2_hy4⟩) (by assumption) ?r2_rest4
    case r2_hy4 => intro w hSw; obtain ⟨s0, s1, s2, s3, s4⟩ := hSw; go_simp; try (with_reducible rfl)
    simp only [Act.put, List.setIfInBounds_toArray, List.set_cons_zero, List.set_cons_succ]
    refine wpAnyH_take (i := 5) (oi := { dst := some 23, op := Op.fieldAddr 123 (Operand.tmp 22) 0, type := 0, pos := "l05_node.go:126", after := #[{ on := 4, ground := Ground.data }], guard := none }) (v := ?r2_v5) rfl (by kernel_rfl) (by kernel_rfl) (by kernel_rfl) (fun _ _ _ h => h) (Or.inl ⟨by rfl, ?r2_hy5⟩) (by assumption) ?r2_rest5
    case r2_hy5 => intro w hSw; obtain ⟨s0, s1, s2, s3, s4⟩ := hSw; go_simp; try (with_reducible rfl)
    simp only [Act.put, List.setIfInBounds_toArray, List.set_cons_zero, List.set_cons_succ]
    refine wpAnyH_take (i := 6) (oi := { dst := some 24, op := Op.move (Operand.tmp 1), type := 3, pos := "l05_node.go:126", after := #[], guard := none }) (v := ?r2_v6) rfl (by kernel_rfl) (by kernel_rfl) (by kernel_rfl) (fun _ _ _ h => h) (Or.inl ⟨by rfl, ?r2_hy6⟩) (by assumption) ?r2_rest6
    case r2_hy6 => intro w hSw; obtain ⟨s0, s1, s2, s3, s4⟩ := hSw; go_simp; try (with_reducible rfl)
    simp only [Act.put, List.setIfInBounds_toArray, List.set_cons_zero, List.set_cons_succ]
    refine wpAnyH_take (i := 8) (oi := { dst := some 26, op := Op.load 58 (Operand.tmp 6), type := 58, pos := "l05_node.go:126", after := #[], guard := none }) (v := ?r2_v8) rfl (by kernel_rfl) (by kernel_rfl) (by kernel_rfl) (fun _ _ _ h => h) (Or.inl ⟨by rfl, ?r2_hy8⟩) (by assumption) ?r2_rest8
    case r2_hy8 => intro w hSw; obtain ⟨s0, s1, s2, s3, s4⟩ := hSw; go_simp; try (with_reducible rfl)
    simp only [Act.put, List.setIfInBounds_toArray, List.set_cons_zero, List.set_cons_succ]
    refine wpAnyH_ready (rs := [7]) (by kernel_rfl) (by simp) ?_
    refine AllReadyH.cons (o := { dst := some 25, op := Op.call { callee := Callee.value (Operand.func 80), args := #[Operand.tmp 23, Operand.tmp 24], argTypes := #[121, 3] }, type := 3, pos := "l05_node.go:126", after := #[{ on := 5, ground := Ground.data }, { on := 6, ground := Ground.data }], guard := none }) rfl (fun K2 hK2 => ?_) AllReadyH.nil
    go_simp
    refine HH.out.mono ?_
    rintro e w1 ⟨rfl, h1⟩
    subst h1
    go_wp2_with fail
    refine hK2.out _ _ ?_ (fun hHeld2 => ?_)
    · exact ⟨y0, y1, y2, y3, yz⟩
    clear hK2 K2 hHeld
    have hHeld := hHeld2
    clear hHeld2
    try simp only [Act.put, List.setIfInBounds_toArray, List.set_cons_zero, List.set_cons_succ]
    refine wpAnyH_ready (rs := [9]) (by kernel_rfl) (by simp) ?_
    refine AllReadyH.cons (o := { dst := some 27, op := Op.call { callee := Callee.value (Operand.func 79), args := #[Operand.tmp 20, Operand.tmp 25, Operand.tmp 26], argTypes := #[121, 3, 58] }, type := 0, pos := "l05_node.go:126", after := #[{ on := 2, ground := Ground.data }, { on := 7, ground := Ground.data }, { on := 8, ground := Ground.data }, { on := 7, ground := Ground.chain }], guard := none }) rfl (fun K2 hK2 => ?_) AllReadyH.nil
    go_simp
    refine HT.out.mono ?_
    rintro e w2 ⟨rfl, T2⟩
    have YK : w2.heap[w.heap.size]? = _ := T2.elim (fun pl h => h.elim (fun ds h => h.2.2.2.2.block w.heap.size (by have := HZ.out; simp; omega) (fun e => by rcases e with e | e; omega; exact absurd e (HPO.out))))
    have XM2 := HXM.out w2 (YK.trans (Below.heap_setCell Z ⟨g, pg * 3 + 2, none⟩ (.bool true) w.heap.size (by simp; omega)))
    obtain ⟨z0, z1, z2, z3, zz⟩ := XM2.at4
    simp only [askS, if_true] at z0
    go_wp2_with fail
    refine hK2.out _ _ ?_ (fun hHeld2 => ?_)
    · exact ⟨z0, z1, z2, z3, zz⟩
    clear hK2 K2 hHeld
    have hHeld := hHeld2
    clear hHeld2
    try simp only [Act.put, List.setIfInBounds_toArray, List.set_cons_zero, List.set_cons_succ]
    refine wpAnyH_done (by kernel_rfl) ?_ _
    have HF : Hid (AskP m pg true d p j w w2) := HEND.out w2 (by
      obtain ⟨pl, ds, h1, h2, h3, h4, h5⟩ := T2
      exact ⟨pl, ds, h1, h2, h3, h4, ⟨h5.os, h5.tape, h5.output, h5.size, h5.block⟩⟩)
    clear hHeld T2 z0 z1 z2 z3 zz y0 y1 y2 y3 yz XM XM2 YK
    go_wp2
    exact ⟨rfl, .tuple #[], by simp [results, Tryz.results30, go_sem], rfl, HF.out⟩

set_option maxRecDepth 100000 in
set_option maxHeartbeats 2000000 in
theorem deed_any (m pg : Nat) (own : Bool) (bp bo : Nat) (d : ND) (p : NP) (j : Bool) (w : World) (hs : Nsm d) (X : Box w m (stc d p j) 123) (hN : NOw w d p) (hmn : ∀ b, NBs d p b → b ≠ m) (hpg : pg ≤ 5) (hnf : d.nf = 6) (hno : 1 ≤ d.no ∧ d.no ≤ 4) (XP : Box w bp #[.int .i64 pg] 3) (XO : Box w bo #[.bool own] 4) :
    Calls Tryz.prog 29 #[.pointer (some ⟨m, 0, none⟩), .pointer (some ⟨bp, 0, none⟩), .pointer (some ⟨bo, 0, none⟩)] w fun e w' => e = .returned (.tuple #[]) ∧ AskP m pg own d p j w w' := by
  have c0 : w.cell? ⟨bp, 0, none⟩ = some (.int .i64 pg) := XP.cell 0
  have c1 : w.cell? ⟨bo, 0, none⟩ = some (.bool own) := XO.cell 0
  have z0 := XP.lt
  have z1 := XO.lt
  go_enter Tryz.func29, Tryz.ntmps29
  go_wp2_with fail
  refine (ask_any m pg own d p j w hs X hN hmn hpg hnf hno).mono ?_
  rintro e w1 ⟨rfl, A⟩
  clear X hN hmn XP XO c0 c1 z0 z1
  go_wp2
  exact ⟨rfl, .tuple #[], by simp [results, Tryz.results29, go_sem], rfl, A⟩
end Go.Proofs.YtcneocbadobcfaaGreat
