/- What impl's HomeHear does where it hears. -/
import Derived.Test.YtliihkdocbpolaaKpF
import Derived.Test.YtliihkdocbpolaaHomO
import Derived.Test.YtliihkdocbpolaaPacket
namespace Go.Proofs.Ytliihkdocbpolaa
open Go.RowKit Go.Maps
set_option linter.unusedVariables false
set_option linter.unusedSimpArgs false

theorem BeginR.nd {S S' : KS} (h : BeginR S S') : S'.nd = S.nd := by
  rcases h with ⟨h, rfl⟩ | ⟨h, ho, hl, rfl⟩ | ⟨a, c, h, ho, hl, rfl⟩ | ⟨a, c, h, ho, rfl⟩ <;> rfl
theorem StepsR.keeps {S S' : KS} (h : StepsR S S') : S'.nd = S.nd ∧ S'.rd.length = S.rd.length := by
  obtain ⟨n, hn⟩ := h
  induction n generalizing S' with
  | zero =>
    obtain rfl : S' = S := hn
    exact ⟨rfl, rfl⟩
  | succ n ih =>
    obtain ⟨S1, h1, t⟩ := hn
    have ih := ih h1
    obtain ⟨_, p, ws, _, hB⟩ := t
    have h1 := hB.nd
    have h2 := hB.keeps.2.1
    simp only [nowS] at h1 h2
    exact ⟨h1.trans ih.1, h2.trans ih.2⟩

/-- 'v, ok := m[k]' as a step of a region that draws. -/
theorem step_lookup_ok {H : Type} {P : Program} (w : World) {ops : Array Oper} {o : Oper} {a : Act} {K2 : Act → World → Prop} {Q : Exit → Act → World → Prop} {E0 : Prop} (hg : o.guard = none) (m x : Operand) (t : TypeId) (hop : o.op = Op.lookup t m x true)
    (k e : TypeId) (K : Keyed P k) (ht : P.underlying t = some (.map k e)) (R : Value → Option (DataW H × List MemPlace)) {z : Value} (hz : (zeroValue e).run P w = .ok z w) (zd : DataW H) (zp : List MemPlace) (hzd : R z = some (zd, zp)) (b n : Nat) (D : DataW H)
    (hm : a.eval m = .map (some b)) (hown : w.ownsMap P k R b n D) (key : Value) (kl : Lit) (hx : a.eval x = key) (hkey : keyOf P k key = some kl)
    (hK : ∀ v ps, R v = some (D.atKey kl zd, ps) → K2 (a.put o.dst (.tuple #[v, .bool (Maps.has D kl)])) w) :
    if Region.wanted o (yielded ops a.tmps) = true then Oper.wp P o a w K2 Q else E0 := by
  have hw : Region.wanted o (yielded ops a.tmps) = true := by simp [Region.wanted, hg]
  rw [if_pos hw]
  obtain ⟨v, ps, hrun, hv⟩ := hown.look_ok K ht hz hzd hkey
  unfold Oper.wp
  simp [execOp, hop, hm, hx, hrun, Result.andThen]
  exact hK v ps hv

theorem zero_func (w : World) : (zeroValue 49).run Try.prog w = .ok .nilFunc w := by
  simp [zeroValue, go_sem]
  rfl

theorem row4_cells {w : World} {b off : Nat} {x0 x1 x2 x3 : Int} (h : Row .i64 w (some ⟨b, off, none⟩) [x0, x1, x2, x3]) : w.cell? ⟨b, off, none⟩ = some (.int .i64 x0) ∧ w.cell? ⟨b, off + 1, none⟩ = some (.int .i64 x1) ∧ w.cell? ⟨b, off + 2, none⟩ = some (.int .i64 x2) ∧ w.cell? ⟨b, off + 3, none⟩ = some (.int .i64 x3) := by
  have key : ∀ i, i < 4 → w.cell? ⟨b, off + i, none⟩ = some (.int .i64 ([x0, x1, x2, x3].getD i 0)) := fun i hi => by
    obtain ⟨b', o', e, hc⟩ := h.2 i (by simpa using hi)
    simp at e
    obtain ⟨rfl, rfl⟩ := e
    exact hc
  exact ⟨key 0 (by omega), key 1 (by omega), key 2 (by omega), key 3 (by omega)⟩

/-- What a method of a home at work does where it hears. -/
def Hears (f : Nat) (fr : Int) (m : Value) (w : World) (aq : Option Addr) (cq n : Nat) (S0 : KS) (R : KS → Prop) : Prop :=
  ∀ (lo : Nat) (W : World) (kB mB : Nat), lo ≤ W.heap.size → KLies lo W kB mB aq cq (.slice none 0 0) S0 n → Below w.heap.size w W → w.heap.size ≤ lo →
    Calls Try.prog f #[.pointer (some ⟨kB, 0, none⟩), .int .i64 fr, m] W fun e w' => e = .returned (.bool true) ∧ ∃ S1 aw' cw' vt' n', R S1 ∧ KLies lo w' kB mB aw' cw' vt' S1 n' ∧ S1.ws.length ≤ cw' ∧ KOk S1 n' ∧ S1.nd = S1.rd.length ∧ Same lo W w'

set_option maxRecDepth 100000 in
set_option maxHeartbeats 4000000 in
theorem implHear_yes (pg fr mk ow wh ak : Int) (mo bz wo : Bool) (am : Option Addr) (cm : Nat) (ys : List Int) (bl ol : Nat) (ar aq : Option Addr) (cl cr cq : Nat) (x0 x1 x2 x3 : Int) (bs : List Bool) (ws : List (Int × Bool)) (w : World)
    (hal : Row .i64 w (some ⟨bl, ol, none⟩) [x0, x1, x2, x3]) (hr : VRow w ar (bv bs)) (hq : VRow w aq (wv ws)) (hqb : ∀ b off s, aq = some ⟨b, off, s⟩ → b < w.heap.size) (hm : Row .i64 w am ys)
    (hok : homeB bs.length ow wh ak [x0, x1, x2, x3] bs.length ws = true) (hmok : msgOkB mk pg mo ys = true) (hfr : nodePB fr bs.length = true) (hbs : bs.length ≤ 4) (hws : ws.length ≤ 12) (hwd : [x0, x1, x2, x3].all wordB = true)
    (f : Nat) (hf : f = 31 ∨ f = 32 ∨ f = 33) (hwf : (Lit.int .i64 mk).wf = true) (hat : hearD.atKey (.int .i64 mk) (.lit .nil) = fd f) (hhas : Maps.has hearD (.int .i64 mk) = true)
    (R : KS → Prop) (hcall : Hears f fr (.agg #[.int .i64 mk, .int .i64 pg, .bool mo, .slice am ys.length cm]) w aq cq bs.length ⟨pg, bs.length, x0, x1, x2, x3, ow, bs, bz, wh, wo, ak, ws, []⟩ R) :
    Calls Try.prog 7 #[.agg (hcells (some ⟨bl, ol, none⟩) ar aq cl bs.length cr ws.length cq ow wh ak bz wo), .int .i64 bs.length, .int .i64 pg, .int .i64 fr, .agg #[.int .i64 mk, .int .i64 pg, .bool mo, .slice am ys.length cm]] w fun e w' =>
      ∃ S1 S2 vl vr vq vt, R S1 ∧ GoR S1 S2 ∧ e = .returned (.tuple #[.agg #[vl, .int .i64 S2.ow, vr, .bool S2.bz, .int .i64 S2.wh, .bool S2.wo, .int .i64 S2.ak, vq], vt]) ∧ w'.ownsRow w.heap.size 3 1 vl 4 ([S2.x0, S2.x1, S2.x2, S2.x3].map (Value.int .i64)) ∧ w'.ownsRow w.heap.size 4 1 vr S2.rd.length (bv S2.rd) ∧ w'.ownsRow w.heap.size 27 2 vq S2.ws.length (wv S2.ws) ∧
        w'.ownsRow w.heap.size 36 5 vt S2.ts.length (tflat S2.ts) ∧ (∀ t ∈ S2.ts, w'.ownsRow w.heap.size 3 1 t.2.v t.2.xs.length (t.2.xs.map (Value.int .i64))) ∧ Below w.heap.size w w' := by
  have b0 := bel_alloc (bel_alloc (bel_alloc (Below.refl w.heap.size w) (.cells (hcells (some ⟨bl, ol, none⟩) ar aq cl bs.length cr ws.length cq ow wh ak bz wo) 30)) (.cells #[.int .i64 mk, .int .i64 pg, .bool mo, .slice am ys.length cm] 34)) (.cells zeroHome 30)
  have X01 := Box.two w (hcells (some ⟨bl, ol, none⟩) ar aq cl bs.length cr ws.length cq ow wh ak bz wo) #[.int .i64 mk, .int .i64 pg, .bool mo, .slice am ys.length cm] 30 34
  have b00 := bel_alloc (Below.refl ((w.alloc (.cells (hcells (some ⟨bl, ol, none⟩) ar aq cl bs.length cr ws.length cq ow wh ak bz wo) 30)).alloc (.cells #[.int .i64 mk, .int .i64 pg, .bool mo, .slice am ys.length cm] 34)).heap.size ((w.alloc (.cells (hcells (some ⟨bl, ol, none⟩) ar aq cl bs.length cr ws.length cq ow wh ak bz wo) 30)).alloc (.cells #[.int .i64 mk, .int .i64 pg, .bool mo, .slice am ys.length cm] 34))) (.cells zeroHome 30)
  have X0 := X01.1.below b00
  have X1 := X01.2.below b00
  have X2 := Box.new ((w.alloc (.cells (hcells (some ⟨bl, ol, none⟩) ar aq cl bs.length cr ws.length cq ow wh ak bz wo) 30)).alloc (.cells #[.int .i64 mk, .int .i64 pg, .bool mo, .slice am ys.length cm] 34)) zeroHome 30
  simp only [World.size_alloc] at X2
  clear X01 b00
  have H1 : Hid (∀ W : World, Below w.heap.size w W → Calls Try.prog 12 #[.agg #[.slice (some ⟨bl, ol, none⟩) 4 cl, .int .i64 ow, .slice ar bs.length cr, .bool bz, .int .i64 wh, .bool wo, .int .i64 ak, .slice aq ws.length cq], .int .i64 bs.length] W fun e w' => e = .returned (.bool true) ∧ Below W.heap.size W w') := fun W b => by
    have := implHomeOk_any bs.length ow wh ak bz wo (some ⟨bl, ol, none⟩) ar aq cl bs.length cr cq [x0, x1, x2, x3] ws W (by omega) (hal.below b) (hq.below b)
    rw [hok] at this
    exact this
  have H2 : Hid (∀ W : World, Below w.heap.size w W → Calls Try.prog 13 #[.agg #[.int .i64 mk, .int .i64 pg, .bool mo, .slice am ys.length cm]] W fun e w' => e = .returned (.bool true) ∧ Below W.heap.size W w') := fun W b => by
    have := msgOk_any mk pg mo am cm ys W (hm.below b)
    rw [hmok] at this
    exact this
  have H3 : Hid (∀ W : World, Calls Try.prog 14 #[.int .i64 fr, .int .i64 bs.length] W fun e w' => e = .returned (.bool true) ∧ w' = W) := fun W => by
    have := isNode_any fr bs.length W
    rw [hfr] at this
    exact this
  go_enter Try.func7, Try.ntmps7
  go_wp2_with fail
  refine (H1.out _ b0).mono ?_
  rintro e w1 ⟨rfl, b1⟩
  replace X0 := X0.below b1
  replace X1 := X1.below b1
  replace X2 := X2.below b1
  have B1 := bel_trans b0 b1
  clear b0 b1 H1
  obtain ⟨m0, m1, m2, m3, mz⟩ := X1.at4
  go_wp2_with fail
  refine (H2.out _ B1).mono ?_
  rintro e w2 ⟨rfl, b2⟩
  replace X0 := X0.below b2
  replace X1 := X1.below b2
  replace X2 := X2.below b2
  have B2 := bel_trans B1 b2
  clear b2 H2 m0 m1 m2 m3 mz
  obtain ⟨m0, m1, m2, m3, mz⟩ := X1.at4
  go_wp2_with fail
  refine (H3.out _).mono ?_
  rintro e w3 ⟨rfl, h⟩
  subst h
  have u0 := X0.cell 0
  have u1 := X0.cell 1
  have u2 := X0.cell 2
  have u3 := X0.cell 3
  have u4 := X0.cell 4
  have u5 := X0.cell 5
  have u6 := X0.cell 6
  have u7 := X0.cell 7
  have xz := X0.lt
  have HZ2 : Hid (w.heap.size + 1 + 1 < w3.heap.size) := X2.lt
  go_wp2_with fail
  obtain ⟨r0, r1, r2, r3⟩ := row4_cells (hal.below B2)
  refine (keeperOf_any pg ow wh ak bz wo bl ol ar aq cl cr cq x0 x1 x2 x3 bs ws w3 hbs (by omega) r0 r1 r2 r3 hwd (hr.below B2) (hq.below B2) (fun b off s e => Nat.lt_of_lt_of_le (hqb b off s e) B2.size)).mono ?_
  rintro e w4 ⟨kB, mB, rfl, L4, b4⟩
  replace X0 := X0.below b4
  replace X1 := X1.below b4
  replace X2 := X2.below b4
  have B4 := bel_trans B2 b4
  have hlo : w.heap.size ≤ w3.heap.size := B2.size
  have hlo4 : w3.heap.size ≤ w4.heap.size := b4.size
  have hl0 : w.heap.size < w3.heap.size := xz
  have hl1 : w.heap.size + 1 < w3.heap.size := mz
  have hl2 : w.heap.size + 1 + 1 < w3.heap.size := HZ2.out
  clear u0 u1 u2 u3 u4 u5 u6 u7 xz m0 m1 m2 m3 mz r0 r1 r2 r3 b4 B2 H3
  go_wp2_with fail
  refine wp_region_held_drew (S := (fun w' => w'.cell? ⟨w.heap.size + 1, 0, none⟩ = some (.int .i64 mk))) (by kernel_rfl) ?_ (fun hHeld => ?_)
  · exact X1.cell 0
  refine wpAnyH_take (i := 0) (oi := { dst := some 42, op := Op.move (Operand.tmp 12), type := 47, pos := "l04_home.go:220", after := #[], guard := none }) (v := ?r1_v0) rfl (by kernel_rfl) (by kernel_rfl) (by kernel_rfl) (fun _ _ _ h => h) (Or.inl ⟨by rfl, ?r1_hy0⟩) (by assumption) ?r1_rest0
  case r1_hy0 => intro w hSw; (try dsimp only at hSw); go_simp; try (with_reducible rfl)
  simp only [Act.put, List.setIfInBounds_toArray, List.set_cons_zero, List.set_cons_succ]
  refine wpAnyH_take (i := 2) (oi := { dst := some 44, op := Op.fieldAddr 34 (Operand.tmp 9) 0, type := 0, pos := "l04_home.go:220", after := #[], guard := none }) (v := ?r1_v2) rfl (by kernel_rfl) (by kernel_rfl) (by kernel_rfl) (fun _ _ _ h => h) (Or.inl ⟨by rfl, ?r1_hy2⟩) (by assumption) ?r1_rest2
  case r1_hy2 => intro w hSw; (try dsimp only at hSw); go_simp; try (with_reducible rfl)
  simp only [Act.put, List.setIfInBounds_toArray, List.set_cons_zero, List.set_cons_succ]
  refine wpAnyH_take (i := 3) (oi := { dst := some 45, op := Op.load 3 (Operand.tmp 44), type := 3, pos := "l04_home.go:220", after := #[{ on := 2, ground := Ground.data }], guard := none }) (v := ?r1_v3) rfl (by kernel_rfl) (by kernel_rfl) (by kernel_rfl) (fun _ _ _ h => h) (Or.inl ⟨by rfl, ?r1_hy3⟩) (by assumption) ?r1_rest3
  case r1_hy3 => intro w hSw; (try dsimp only at hSw); go_simp; try (with_reducible rfl)
  simp only [Act.put, List.setIfInBounds_toArray, List.set_cons_zero, List.set_cons_succ]
  refine wpAnyH_ready (rs := [1]) (by kernel_rfl) (by simp) ?_
  refine AllReadyH.cons (o := { dst := some 43, op := Op.call { callee := Callee.value (Operand.func 17), args := #[Operand.tmp 42], argTypes := #[47] }, type := 51, pos := "l04_home.go:220", after := #[{ on := 0, ground := Ground.data }], guard := none }) rfl (fun K2 hK2 => ?_) AllReadyH.nil
  go_simp
  refine (hearings_any kB _).mono ?_
  rintro e w5 ⟨rfl, o5, b5⟩
  have b5 := bel_undrew b5
  go_wp2_with fail
  refine hK2.out _ _ ?_ (fun hHeld2 => ?_)
  · exact (X1.below b5).cell 0
  clear hK2 K2 hHeld
  have hHeld := hHeld2
  clear hHeld2
  try simp only [Act.put, List.setIfInBounds_toArray, List.set_cons_zero, List.set_cons_succ]
  refine wpAnyH_ready (rs := [4]) (by kernel_rfl) (by simp) ?_
  refine AllReadyH.cons (o := { dst := some 46, op := Op.lookup 51 (Operand.tmp 43) (Operand.tmp 45) true, type := 50, pos := "l04_home.go:220", after := #[{ on := 1, ground := Ground.data }, { on := 3, ground := Ground.data }], guard := none }) rfl (fun K2 hK2 => ?_) AllReadyH.nil
  refine step_lookup_ok _ rfl _ _ 51 rfl 3 49 lawInt Try.underlying51 (funcElem kB) (zero_func _) (.lit .nil) [] (funcElem_nil kB) _ 4 hearD rfl o5 _ _ rfl (keyOf_int_mk Try.underlying3 hwf) ?_
  intro v5 ps5 hv5
  rw [hat] at hv5
  have ev := funcElem_inv hv5
  subst ev
  rw [hhas]
  refine hK2.out _ _ ?_ (fun hHeld2 => ?_)
  · exact (X1.below b5).cell 0
  clear hK2 K2 hHeld
  have hHeld := hHeld2
  clear hHeld2
  try simp only [Act.put, List.setIfInBounds_toArray, List.set_cons_zero, List.set_cons_succ]
  refine wpAnyH_take (i := 5) (oi := { dst := some 41, op := Op.move (Operand.tmp 46), type := 50, pos := "l04_home.go:220", after := #[{ on := 4, ground := Ground.data }], guard := none }) (v := ?r1_v5) rfl (by kernel_rfl) (by kernel_rfl) (by kernel_rfl) (fun _ _ _ h => h) (Or.inl ⟨by rfl, ?r1_hy5⟩) (by assumption) ?r1_rest5
  case r1_hy5 => intro w hSw; (try dsimp only at hSw); go_simp; try (with_reducible rfl)
  simp only [Act.put, List.setIfInBounds_toArray, List.set_cons_zero, List.set_cons_succ]
  refine wpAnyH_take (i := 6) (oi := { dst := some 47, op := Op.extract (Operand.tmp 41) 0, type := 49, pos := "l04_home.go:220", after := #[{ on := 5, ground := Ground.data }], guard := none }) (v := ?r1_v6) rfl (by kernel_rfl) (by kernel_rfl) (by kernel_rfl) (fun _ _ _ h => h) (Or.inl ⟨by rfl, ?r1_hy6⟩) (by assumption) ?r1_rest6
  case r1_hy6 => intro w hSw; (try dsimp only at hSw); go_simp; try (with_reducible rfl)
  simp only [Act.put, List.setIfInBounds_toArray, List.set_cons_zero, List.set_cons_succ]
  refine wpAnyH_take (i := 7) (oi := { dst := some 48, op := Op.extract (Operand.tmp 41) 1, type := 4, pos := "l04_home.go:220", after := #[{ on := 5, ground := Ground.data }, { on := 8, ground := Ground.gcOnly Departure.lateStores }], guard := none }) (v := ?r1_v7) rfl (by kernel_rfl) (by kernel_rfl) (by kernel_rfl) (fun _ _ _ h => h) (Or.inl ⟨by rfl, ?r1_hy7⟩) (by assumption) ?r1_rest7
  case r1_hy7 => intro w hSw; (try dsimp only at hSw); go_simp; try (with_reducible rfl)
  simp only [Act.put, List.setIfInBounds_toArray, List.set_cons_zero, List.set_cons_succ]
  refine wpAnyH_take (i := 8) (oi := { dst := some 13, op := Op.assign (Operand.tmp 47), type := 49, pos := "l04_home.go:220", after := #[{ on := 6, ground := Ground.data }, { on := 1, ground := Ground.chain }, { on := 0, ground := Ground.phase }, { on := 1, ground := Ground.phase }, { on := 2, ground := Ground.phase }, { on := 3, ground := Ground.phase }, { on := 4, ground := Ground.phase }, { on := 5, ground := Ground.phase }, { on := 6, ground := Ground.phase }, { on := 7, ground := Ground.textOnly Departure.lateStores }], guard := none }) (v := ?r1_v8) rfl (by kernel_rfl) (by kernel_rfl) (by kernel_rfl) (fun _ _ _ h => h) (Or.inl ⟨by rfl, ?r1_hy8⟩) (by assumption) ?r1_rest8
  case r1_hy8 => intro w hSw; (try dsimp only at hSw); go_simp; try (with_reducible rfl)
  simp only [Act.put, List.setIfInBounds_toArray, List.set_cons_zero, List.set_cons_succ]
  refine wpAnyH_take (i := 9) (oi := { dst := some 14, op := Op.assign (Operand.tmp 48), type := 4, pos := "l04_home.go:220", after := #[{ on := 7, ground := Ground.data }, { on := 8, ground := Ground.chain }, { on := 0, ground := Ground.phase }, { on := 1, ground := Ground.phase }, { on := 2, ground := Ground.phase }, { on := 3, ground := Ground.phase }, { on := 4, ground := Ground.phase }, { on := 5, ground := Ground.phase }, { on := 6, ground := Ground.phase }, { on := 7, ground := Ground.phase }, { on := 8, ground := Ground.phase }], guard := none }) (v := ?r1_v9) rfl (by kernel_rfl) (by kernel_rfl) (by kernel_rfl) (fun _ _ _ h => h) (Or.inl ⟨by rfl, ?r1_hy9⟩) (by assumption) ?r1_rest9
  case r1_hy9 => intro w hSw; (try dsimp only at hSw); go_simp; try (with_reducible rfl)
  simp only [Act.put, List.setIfInBounds_toArray, List.set_cons_zero, List.set_cons_succ]
  refine wpAnyH_done (by kernel_rfl) ?_ _
  replace X0 := X0.below b5
  replace X1 := X1.below b5
  replace X2 := X2.below b5
  have L5 := L4.below b5
  have B5 := bel_trans B4 b5
  have hlo5 := Nat.le_trans hlo4 b5.size
  clear b5 L4 B4 o5 hHeld hlo4
  obtain ⟨m0, m1, m2, m3, mz⟩ := X1.at4
  have HC := hcall w3.heap.size w5 kB mB hlo5 L5 B5 hlo
  clear hcall hat hhas hwf hok hmok hfr hal hr hq hqb hm L5
  rcases hf with rfl | rfl | rfl
  · go_wp2_with fail
    refine HC.mono ?_
    rintro e w6 ⟨rfl, S1, aw6, cw6, vt6, n6, hR, L6, hc6, hK6, hnd6, hS6⟩
    clear m0 m1 m2 m3 mz HC
    go_wp2_with fail
    refine (goOn_any w3.heap.size w6 kB mB aw6 cw6 vt6 S1 n6 L6 (Nat.le_trans hlo5 hS6.size) hK6 hc6).mono ?_
    rintro e w7 ⟨rfl, S2, aw7, cw7, vt7, n7, hG, L7, hc7, hK7, hS7⟩
    have hS := hS6.trans hS7
    replace X2 := X2.same hS (by decide) (by decide)
    have B7 : Below w.heap.size w w7 := ⟨hS.os.trans B5.os, hS.tape.trans B5.tape, hS.output.trans B5.output, by have := hS.size; have := B5.size; omega, fun i hi => (hS.low i (by omega) (by have := B5.size; omega)).trans (B5.block i hi)⟩
    have hkp := hG.1.keeps
    have hnd7 : S2.nd = S2.rd.length := by rw [hkp.1, hkp.2, hnd6]
    obtain ⟨at7, ct7, rfl⟩ := owns_slice L7.t
    have hz7 := B7.size
    have hlo7 : w3.heap.size ≤ w7.heap.size := Nat.le_trans hlo5 hS.size
    clear X0 X1 L6 hc6 hK6 hS6 hS7 hS B5 hlo5 hkp hnd6 hc7
    have k7 := L7.k.cell 13
    have kz7 := L7.k.lt
    have xz7 := X2.lt
    have hne : ¬ kB = w.heap.size + 1 + 1 := fun e => by have := L7.lk; omega
    go_wp2_with fail
    refine wp_region_held_drew (S := (fun w' => w'.cell? ⟨kB, 13, none⟩ = some (.slice at7 S2.ts.length ct7))) (by kernel_rfl) ?_ (fun hHeld => ?_)
    · exact k7
    refine wpAnyH_take (i := 0) (oi := { dst := some 62, op := Op.move (Operand.tmp 12), type := 47, pos := "l04_home.go:225", after := #[], guard := none }) (v := ?r2_v0) rfl (by kernel_rfl) (by kernel_rfl) (by kernel_rfl) (fun _ _ _ h => h) (Or.inl ⟨by rfl, ?r2_hy0⟩) (by assumption) ?r2_rest0
    case r2_hy0 => intro w hSw; (try dsimp only at hSw); go_simp; try (with_reducible rfl)
    simp only [Act.put, List.setIfInBounds_toArray, List.set_cons_zero, List.set_cons_succ]
    refine wpAnyH_take (i := 2) (oi := { dst := some 64, op := Op.move (Operand.tmp 12), type := 47, pos := "l04_home.go:225", after := #[{ on := 6, ground := Ground.gcOnly Departure.lateStores }], guard := none }) (v := ?r2_v2) rfl (by kernel_rfl) (by kernel_rfl) (by kernel_rfl) (fun _ _ _ h => h) (Or.inl ⟨by rfl, ?r2_hy2⟩) (by assumption) ?r2_rest2
    case r2_hy2 => intro w hSw; (try dsimp only at hSw); go_simp; try (with_reducible rfl)
    simp only [Act.put, List.setIfInBounds_toArray, List.set_cons_zero, List.set_cons_succ]
    refine wpAnyH_take (i := 3) (oi := { dst := some 65, op := Op.nilCheck (Operand.tmp 64), type := 0, pos := "l04_home.go:225", after := #[{ on := 2, ground := Ground.data }, { on := 6, ground := Ground.gcOnly Departure.lateStores }], guard := none }) (v := ?r2_v3) rfl (by kernel_rfl) (by kernel_rfl) (by kernel_rfl) (fun _ _ _ h => h) (Or.inl ⟨by rfl, ?r2_hy3⟩) (by assumption) ?r2_rest3
    case r2_hy3 => intro w hSw; (try dsimp only at hSw); go_simp; try (with_reducible rfl)
    simp only [Act.put, List.setIfInBounds_toArray, List.set_cons_zero, List.set_cons_succ]
    refine wpAnyH_take (i := 4) (oi := { dst := some 66, op := Op.fieldAddr 58 (Operand.tmp 65) 9, type := 0, pos := "l04_home.go:225", after := #[{ on := 3, ground := Ground.data }, { on := 6, ground := Ground.gcOnly Departure.lateStores }], guard := none }) (v := ?r2_v4) rfl (by kernel_rfl) (by kernel_rfl) (by kernel_rfl) (fun _ _ _ h => h) (Or.inl ⟨by rfl, ?r2_hy4⟩) (by assumption) ?r2_rest4
    case r2_hy4 => intro w hSw; (try dsimp only at hSw); go_simp; try (with_reducible rfl)
    simp only [Act.put, List.setIfInBounds_toArray, List.set_cons_zero, List.set_cons_succ]
    refine wpAnyH_take (i := 5) (oi := { dst := some 67, op := Op.load 37 (Operand.tmp 66), type := 37, pos := "l04_home.go:225", after := #[{ on := 4, ground := Ground.data }, { on := 6, ground := Ground.gcOnly Departure.lateStores }], guard := none }) (v := ?r2_v5) rfl (by kernel_rfl) (by kernel_rfl) (by kernel_rfl) (fun _ _ _ h => h) (Or.inl ⟨by rfl, ?r2_hy5⟩) (by assumption) ?r2_rest5
    case r2_hy5 => intro w hSw; (try dsimp only at hSw); go_simp; try (with_reducible rfl)
    simp only [Act.put, List.setIfInBounds_toArray, List.set_cons_zero, List.set_cons_succ]
    refine wpAnyH_ready (rs := [1]) (by kernel_rfl) (by simp) ?_
    refine AllReadyH.cons (o := { dst := some 63, op := Op.call { callee := Callee.value (Operand.func 19), args := #[Operand.tmp 62], argTypes := #[47] }, type := 30, pos := "l04_home.go:225", after := #[{ on := 0, ground := Ground.data }], guard := none }) rfl (fun K2 hK2 => ?_) AllReadyH.nil
    go_simp
    refine (home_any w3.heap.size _ kB mB aw7 cw7 _ S2 n7 (L7.below (bel_drew (Below.refl _ _))) hK7.rd hnd7 hK7.wl).mono ?_
    rintro e w8 ⟨vl, vr, vq, rfl, ol8, or8, oq8, b8⟩
    have b8 := bel_undrew b8
    obtain ⟨al8, cl8, rfl⟩ := owns_slice ol8
    obtain ⟨ar8, cr8, rfl⟩ := owns_slice or8
    obtain ⟨aq8, cq8, rfl⟩ := owns_slice oq8
    go_wp2_with fail
    refine hK2.out _ _ ?_ (fun hHeld2 => ?_)
    · exact (L7.k.below b8).cell 13
    clear hK2 K2 hHeld
    have hHeld := hHeld2
    clear hHeld2
    try simp only [Act.put, List.setIfInBounds_toArray, List.set_cons_zero, List.set_cons_succ]
    have X8 := X2.below b8
    have K8 := L7.k.below b8
    have x0 := X8.cell 0
    have x1 := X8.cell 1
    have x2 := X8.cell 2
    have x3 := X8.cell 3
    have x4 := X8.cell 4
    have x5 := X8.cell 5
    have x6 := X8.cell 6
    have x7 := X8.cell 7
    have y0 := X8.frozen 0
    have y1 := X8.frozen 1
    have y2 := X8.frozen 2
    have y3 := X8.frozen 3
    have y4 := X8.frozen 4
    have y5 := X8.frozen 5
    have y6 := X8.frozen 6
    have y7 := X8.frozen 7
    have xz8 := X8.lt
    refine wpAnyH_ready (rs := [6]) (by kernel_rfl) (by simp) ?_
    refine AllReadyH.cons (o := { dst := none, op := Op.store 30 (Operand.tmp 10) (Operand.tmp 63), type := 0, pos := "l04_home.go:225", after := #[{ on := 1, ground := Ground.data }, { on := 1, ground := Ground.chain }, { on := 0, ground := Ground.phase }, { on := 1, ground := Ground.phase }, { on := 2, ground := Ground.textOnly Departure.lateStores }, { on := 3, ground := Ground.textOnly Departure.lateStores }, { on := 4, ground := Ground.textOnly Departure.lateStores }, { on := 5, ground := Ground.textOnly Departure.lateStores }], guard := none }) rfl (fun K2 hK2 => ?_) AllReadyH.nil
    go_simp
    have K9 := set8_far K8 (w.heap.size + 1 + 1) hne (.slice al8 4 cl8) (.int .i64 S2.ow) (.slice ar8 S2.rd.length cr8) (.bool S2.bz) (.int .i64 S2.wh) (.bool S2.wo) (.int .i64 S2.ak) (.slice aq8 S2.ws.length cq8)
    refine hK2.out _ _ ?_ (fun hHeld2 => ?_)
    · exact K9.cell 13
    clear hK2 K2 hHeld
    have hHeld := hHeld2
    clear hHeld2
    try simp only [Act.put, List.setIfInBounds_toArray, List.set_cons_zero, List.set_cons_succ]
    refine wpAnyH_take (i := 7) (oi := { dst := some 11, op := Op.assign (Operand.tmp 67), type := 37, pos := "l04_home.go:225", after := #[{ on := 5, ground := Ground.data }, { on := 6, ground := Ground.chain }, { on := 0, ground := Ground.phase }, { on := 1, ground := Ground.phase }, { on := 2, ground := Ground.phase }, { on := 3, ground := Ground.phase }, { on := 4, ground := Ground.phase }, { on := 5, ground := Ground.phase }, { on := 6, ground := Ground.phase }], guard := none }) (v := ?r2_v7) rfl (by kernel_rfl) (by kernel_rfl) (by kernel_rfl) (fun _ _ _ h => h) (Or.inl ⟨by rfl, ?r2_hy7⟩) (by assumption) ?r2_rest7
    case r2_hy7 => intro w hSw; (try dsimp only at hSw); go_simp; try (with_reducible rfl)
    simp only [Act.put, List.setIfInBounds_toArray, List.set_cons_zero, List.set_cons_succ]
    refine wpAnyH_done (by kernel_rfl) ?_ _
    have X9 := set8_box X8 (.slice al8 4 cl8) (.int .i64 S2.ow) (.slice ar8 S2.rd.length cr8) (.bool S2.bz) (.int .i64 S2.wh) (.bool S2.wo) (.int .i64 S2.ak) (.slice aq8 S2.ws.length cq8)
    have t0 := X9.cell 0
    have t1 := X9.cell 1
    have t2 := X9.cell 2
    have t3 := X9.cell 3
    have t4 := X9.cell 4
    have t5 := X9.cell 5
    have t6 := X9.cell 6
    have t7 := X9.cell 7
    have HF : Hid (_ ∧ _ ∧ _ ∧ _ ∧ _ ∧ _) := ⟨set8_owns (owns_base ol8 (show w.heap.size ≤ _ by simp; omega)) (w.heap.size + 1 + 1) (fun j hj e => by have := (ol8.lt j hj).1; simp at this; omega) (.slice al8 4 cl8) (.int .i64 S2.ow) (.slice ar8 S2.rd.length cr8) (.bool S2.bz) (.int .i64 S2.wh) (.bool S2.wo) (.int .i64 S2.ak) (.slice aq8 S2.ws.length cq8), set8_owns (owns_base or8 (show w.heap.size ≤ _ by simp; omega)) (w.heap.size + 1 + 1) (fun j hj e => by have := (or8.lt j hj).1; simp at this; omega) (.slice al8 4 cl8) (.int .i64 S2.ow) (.slice ar8 S2.rd.length cr8) (.bool S2.bz) (.int .i64 S2.wh) (.bool S2.wo) (.int .i64 S2.ak) (.slice aq8 S2.ws.length cq8), set8_owns (owns_base oq8 (show w.heap.size ≤ _ by simp; omega)) (w.heap.size + 1 + 1) (fun j hj e => by have := (oq8.lt j hj).1; simp at this; omega) (.slice al8 4 cl8) (.int .i64 S2.ow) (.slice ar8 S2.rd.length cr8) (.bool S2.bz) (.int .i64 S2.wh) (.bool S2.wo) (.int .i64 S2.ak) (.slice aq8 S2.ws.length cq8), set8_owns (owns_base (owns_below L7.t b8) hlo) (w.heap.size + 1 + 1) (fun j hj e => by have := (L7.t.lt j hj).1; omega) (.slice al8 4 cl8) (.int .i64 S2.ow) (.slice ar8 S2.rd.length cr8) (.bool S2.bz) (.int .i64 S2.wh) (.bool S2.wo) (.int .i64 S2.ak) (.slice aq8 S2.ws.length cq8), fun t ht => set8_owns (owns_base (owns_below (L7.l t ht) b8) hlo) (w.heap.size + 1 + 1) (fun j hj e => by have := ((L7.l t ht).lt j hj).1; omega) (.slice al8 4 cl8) (.int .i64 S2.ow) (.slice ar8 S2.rd.length cr8) (.bool S2.bz) (.int .i64 S2.wh) (.bool S2.wo) (.int .i64 S2.ak) (.slice aq8 S2.ws.length cq8), set8_below (bel_trans B7 b8) (w.heap.size + 1 + 1) (by omega) (.slice al8 4 cl8) (.int .i64 S2.ow) (.slice ar8 S2.rd.length cr8) (.bool S2.bz) (.int .i64 S2.wh) (.bool S2.wo) (.int .i64 S2.ak) (.slice aq8 S2.ws.length cq8)⟩
    clear X9 X8 X2 K9 K8 L7 ol8 or8 oq8 b8 B7 hHeld x0 y0 x1 y1 x2 y2 x3 y3 x4 y4 x5 y5 x6 y6 x7 y7
    go_wp2
    refine bodyPost_ret (v := .tuple #[.agg #[.slice al8 4 cl8, .int .i64 S2.ow, .slice ar8 S2.rd.length cr8, .bool S2.bz, .int .i64 S2.wh, .bool S2.wo, .int .i64 S2.ak, .slice aq8 S2.ws.length cq8], .slice at7 S2.ts.length ct7]) (by simp [results, Try.results7, go_sem, t0, t1, t2, t3, t4, t5, t6, t7]) rfl ⟨S1, S2, _, _, _, _, hR, hG, rfl, HF.out.1, HF.out.2.1, HF.out.2.2.1, HF.out.2.2.2.1, HF.out.2.2.2.2.1, HF.out.2.2.2.2.2⟩
  · go_wp2_with fail
    refine HC.mono ?_
    rintro e w6 ⟨rfl, S1, aw6, cw6, vt6, n6, hR, L6, hc6, hK6, hnd6, hS6⟩
    clear m0 m1 m2 m3 mz HC
    go_wp2_with fail
    refine (goOn_any w3.heap.size w6 kB mB aw6 cw6 vt6 S1 n6 L6 (Nat.le_trans hlo5 hS6.size) hK6 hc6).mono ?_
    rintro e w7 ⟨rfl, S2, aw7, cw7, vt7, n7, hG, L7, hc7, hK7, hS7⟩
    have hS := hS6.trans hS7
    replace X2 := X2.same hS (by decide) (by decide)
    have B7 : Below w.heap.size w w7 := ⟨hS.os.trans B5.os, hS.tape.trans B5.tape, hS.output.trans B5.output, by have := hS.size; have := B5.size; omega, fun i hi => (hS.low i (by omega) (by have := B5.size; omega)).trans (B5.block i hi)⟩
    have hkp := hG.1.keeps
    have hnd7 : S2.nd = S2.rd.length := by rw [hkp.1, hkp.2, hnd6]
    obtain ⟨at7, ct7, rfl⟩ := owns_slice L7.t
    have hz7 := B7.size
    have hlo7 : w3.heap.size ≤ w7.heap.size := Nat.le_trans hlo5 hS.size
    clear X0 X1 L6 hc6 hK6 hS6 hS7 hS B5 hlo5 hkp hnd6 hc7
    have k7 := L7.k.cell 13
    have kz7 := L7.k.lt
    have xz7 := X2.lt
    have hne : ¬ kB = w.heap.size + 1 + 1 := fun e => by have := L7.lk; omega
    go_wp2_with fail
    refine wp_region_held_drew (S := (fun w' => w'.cell? ⟨kB, 13, none⟩ = some (.slice at7 S2.ts.length ct7))) (by kernel_rfl) ?_ (fun hHeld => ?_)
    · exact k7
    refine wpAnyH_take (i := 0) (oi := { dst := some 62, op := Op.move (Operand.tmp 12), type := 47, pos := "l04_home.go:225", after := #[], guard := none }) (v := ?r3_v0) rfl (by kernel_rfl) (by kernel_rfl) (by kernel_rfl) (fun _ _ _ h => h) (Or.inl ⟨by rfl, ?r3_hy0⟩) (by assumption) ?r3_rest0
    case r3_hy0 => intro w hSw; (try dsimp only at hSw); go_simp; try (with_reducible rfl)
    simp only [Act.put, List.setIfInBounds_toArray, List.set_cons_zero, List.set_cons_succ]
    refine wpAnyH_take (i := 2) (oi := { dst := some 64, op := Op.move (Operand.tmp 12), type := 47, pos := "l04_home.go:225", after := #[{ on := 6, ground := Ground.gcOnly Departure.lateStores }], guard := none }) (v := ?r3_v2) rfl (by kernel_rfl) (by kernel_rfl) (by kernel_rfl) (fun _ _ _ h => h) (Or.inl ⟨by rfl, ?r3_hy2⟩) (by assumption) ?r3_rest2
    case r3_hy2 => intro w hSw; (try dsimp only at hSw); go_simp; try (with_reducible rfl)
    simp only [Act.put, List.setIfInBounds_toArray, List.set_cons_zero, List.set_cons_succ]
    refine wpAnyH_take (i := 3) (oi := { dst := some 65, op := Op.nilCheck (Operand.tmp 64), type := 0, pos := "l04_home.go:225", after := #[{ on := 2, ground := Ground.data }, { on := 6, ground := Ground.gcOnly Departure.lateStores }], guard := none }) (v := ?r3_v3) rfl (by kernel_rfl) (by kernel_rfl) (by kernel_rfl) (fun _ _ _ h => h) (Or.inl ⟨by rfl, ?r3_hy3⟩) (by assumption) ?r3_rest3
    case r3_hy3 => intro w hSw; (try dsimp only at hSw); go_simp; try (with_reducible rfl)
    simp only [Act.put, List.setIfInBounds_toArray, List.set_cons_zero, List.set_cons_succ]
    refine wpAnyH_take (i := 4) (oi := { dst := some 66, op := Op.fieldAddr 58 (Operand.tmp 65) 9, type := 0, pos := "l04_home.go:225", after := #[{ on := 3, ground := Ground.data }, { on := 6, ground := Ground.gcOnly Departure.lateStores }], guard := none }) (v := ?r3_v4) rfl (by kernel_rfl) (by kernel_rfl) (by kernel_rfl) (fun _ _ _ h => h) (Or.inl ⟨by rfl, ?r3_hy4⟩) (by assumption) ?r3_rest4
    case r3_hy4 => intro w hSw; (try dsimp only at hSw); go_simp; try (with_reducible rfl)
    simp only [Act.put, List.setIfInBounds_toArray, List.set_cons_zero, List.set_cons_succ]
    refine wpAnyH_take (i := 5) (oi := { dst := some 67, op := Op.load 37 (Operand.tmp 66), type := 37, pos := "l04_home.go:225", after := #[{ on := 4, ground := Ground.data }, { on := 6, ground := Ground.gcOnly Departure.lateStores }], guard := none }) (v := ?r3_v5) rfl (by kernel_rfl) (by kernel_rfl) (by kernel_rfl) (fun _ _ _ h => h) (Or.inl ⟨by rfl, ?r3_hy5⟩) (by assumption) ?r3_rest5
    case r3_hy5 => intro w hSw; (try dsimp only at hSw); go_simp; try (with_reducible rfl)
    simp only [Act.put, List.setIfInBounds_toArray, List.set_cons_zero, List.set_cons_succ]
    refine wpAnyH_ready (rs := [1]) (by kernel_rfl) (by simp) ?_
    refine AllReadyH.cons (o := { dst := some 63, op := Op.call { callee := Callee.value (Operand.func 19), args := #[Operand.tmp 62], argTypes := #[47] }, type := 30, pos := "l04_home.go:225", after := #[{ on := 0, ground := Ground.data }], guard := none }) rfl (fun K2 hK2 => ?_) AllReadyH.nil
    go_simp
    refine (home_any w3.heap.size _ kB mB aw7 cw7 _ S2 n7 (L7.below (bel_drew (Below.refl _ _))) hK7.rd hnd7 hK7.wl).mono ?_
    rintro e w8 ⟨vl, vr, vq, rfl, ol8, or8, oq8, b8⟩
    have b8 := bel_undrew b8
    obtain ⟨al8, cl8, rfl⟩ := owns_slice ol8
    obtain ⟨ar8, cr8, rfl⟩ := owns_slice or8
    obtain ⟨aq8, cq8, rfl⟩ := owns_slice oq8
    go_wp2_with fail
    refine hK2.out _ _ ?_ (fun hHeld2 => ?_)
    · exact (L7.k.below b8).cell 13
    clear hK2 K2 hHeld
    have hHeld := hHeld2
    clear hHeld2
    try simp only [Act.put, List.setIfInBounds_toArray, List.set_cons_zero, List.set_cons_succ]
    have X8 := X2.below b8
    have K8 := L7.k.below b8
    have x0 := X8.cell 0
    have x1 := X8.cell 1
    have x2 := X8.cell 2
    have x3 := X8.cell 3
    have x4 := X8.cell 4
    have x5 := X8.cell 5
    have x6 := X8.cell 6
    have x7 := X8.cell 7
    have y0 := X8.frozen 0
    have y1 := X8.frozen 1
    have y2 := X8.frozen 2
    have y3 := X8.frozen 3
    have y4 := X8.frozen 4
    have y5 := X8.frozen 5
    have y6 := X8.frozen 6
    have y7 := X8.frozen 7
    have xz8 := X8.lt
    refine wpAnyH_ready (rs := [6]) (by kernel_rfl) (by simp) ?_
    refine AllReadyH.cons (o := { dst := none, op := Op.store 30 (Operand.tmp 10) (Operand.tmp 63), type := 0, pos := "l04_home.go:225", after := #[{ on := 1, ground := Ground.data }, { on := 1, ground := Ground.chain }, { on := 0, ground := Ground.phase }, { on := 1, ground := Ground.phase }, { on := 2, ground := Ground.textOnly Departure.lateStores }, { on := 3, ground := Ground.textOnly Departure.lateStores }, { on := 4, ground := Ground.textOnly Departure.lateStores }, { on := 5, ground := Ground.textOnly Departure.lateStores }], guard := none }) rfl (fun K2 hK2 => ?_) AllReadyH.nil
    go_simp
    have K9 := set8_far K8 (w.heap.size + 1 + 1) hne (.slice al8 4 cl8) (.int .i64 S2.ow) (.slice ar8 S2.rd.length cr8) (.bool S2.bz) (.int .i64 S2.wh) (.bool S2.wo) (.int .i64 S2.ak) (.slice aq8 S2.ws.length cq8)
    refine hK2.out _ _ ?_ (fun hHeld2 => ?_)
    · exact K9.cell 13
    clear hK2 K2 hHeld
    have hHeld := hHeld2
    clear hHeld2
    try simp only [Act.put, List.setIfInBounds_toArray, List.set_cons_zero, List.set_cons_succ]
    refine wpAnyH_take (i := 7) (oi := { dst := some 11, op := Op.assign (Operand.tmp 67), type := 37, pos := "l04_home.go:225", after := #[{ on := 5, ground := Ground.data }, { on := 6, ground := Ground.chain }, { on := 0, ground := Ground.phase }, { on := 1, ground := Ground.phase }, { on := 2, ground := Ground.phase }, { on := 3, ground := Ground.phase }, { on := 4, ground := Ground.phase }, { on := 5, ground := Ground.phase }, { on := 6, ground := Ground.phase }], guard := none }) (v := ?r3_v7) rfl (by kernel_rfl) (by kernel_rfl) (by kernel_rfl) (fun _ _ _ h => h) (Or.inl ⟨by rfl, ?r3_hy7⟩) (by assumption) ?r3_rest7
    case r3_hy7 => intro w hSw; (try dsimp only at hSw); go_simp; try (with_reducible rfl)
    simp only [Act.put, List.setIfInBounds_toArray, List.set_cons_zero, List.set_cons_succ]
    refine wpAnyH_done (by kernel_rfl) ?_ _
    have X9 := set8_box X8 (.slice al8 4 cl8) (.int .i64 S2.ow) (.slice ar8 S2.rd.length cr8) (.bool S2.bz) (.int .i64 S2.wh) (.bool S2.wo) (.int .i64 S2.ak) (.slice aq8 S2.ws.length cq8)
    have t0 := X9.cell 0
    have t1 := X9.cell 1
    have t2 := X9.cell 2
    have t3 := X9.cell 3
    have t4 := X9.cell 4
    have t5 := X9.cell 5
    have t6 := X9.cell 6
    have t7 := X9.cell 7
    have HF : Hid (_ ∧ _ ∧ _ ∧ _ ∧ _ ∧ _) := ⟨set8_owns (owns_base ol8 (show w.heap.size ≤ _ by simp; omega)) (w.heap.size + 1 + 1) (fun j hj e => by have := (ol8.lt j hj).1; simp at this; omega) (.slice al8 4 cl8) (.int .i64 S2.ow) (.slice ar8 S2.rd.length cr8) (.bool S2.bz) (.int .i64 S2.wh) (.bool S2.wo) (.int .i64 S2.ak) (.slice aq8 S2.ws.length cq8), set8_owns (owns_base or8 (show w.heap.size ≤ _ by simp; omega)) (w.heap.size + 1 + 1) (fun j hj e => by have := (or8.lt j hj).1; simp at this; omega) (.slice al8 4 cl8) (.int .i64 S2.ow) (.slice ar8 S2.rd.length cr8) (.bool S2.bz) (.int .i64 S2.wh) (.bool S2.wo) (.int .i64 S2.ak) (.slice aq8 S2.ws.length cq8), set8_owns (owns_base oq8 (show w.heap.size ≤ _ by simp; omega)) (w.heap.size + 1 + 1) (fun j hj e => by have := (oq8.lt j hj).1; simp at this; omega) (.slice al8 4 cl8) (.int .i64 S2.ow) (.slice ar8 S2.rd.length cr8) (.bool S2.bz) (.int .i64 S2.wh) (.bool S2.wo) (.int .i64 S2.ak) (.slice aq8 S2.ws.length cq8), set8_owns (owns_base (owns_below L7.t b8) hlo) (w.heap.size + 1 + 1) (fun j hj e => by have := (L7.t.lt j hj).1; omega) (.slice al8 4 cl8) (.int .i64 S2.ow) (.slice ar8 S2.rd.length cr8) (.bool S2.bz) (.int .i64 S2.wh) (.bool S2.wo) (.int .i64 S2.ak) (.slice aq8 S2.ws.length cq8), fun t ht => set8_owns (owns_base (owns_below (L7.l t ht) b8) hlo) (w.heap.size + 1 + 1) (fun j hj e => by have := ((L7.l t ht).lt j hj).1; omega) (.slice al8 4 cl8) (.int .i64 S2.ow) (.slice ar8 S2.rd.length cr8) (.bool S2.bz) (.int .i64 S2.wh) (.bool S2.wo) (.int .i64 S2.ak) (.slice aq8 S2.ws.length cq8), set8_below (bel_trans B7 b8) (w.heap.size + 1 + 1) (by omega) (.slice al8 4 cl8) (.int .i64 S2.ow) (.slice ar8 S2.rd.length cr8) (.bool S2.bz) (.int .i64 S2.wh) (.bool S2.wo) (.int .i64 S2.ak) (.slice aq8 S2.ws.length cq8)⟩
    clear X9 X8 X2 K9 K8 L7 ol8 or8 oq8 b8 B7 hHeld x0 y0 x1 y1 x2 y2 x3 y3 x4 y4 x5 y5 x6 y6 x7 y7
    go_wp2
    refine bodyPost_ret (v := .tuple #[.agg #[.slice al8 4 cl8, .int .i64 S2.ow, .slice ar8 S2.rd.length cr8, .bool S2.bz, .int .i64 S2.wh, .bool S2.wo, .int .i64 S2.ak, .slice aq8 S2.ws.length cq8], .slice at7 S2.ts.length ct7]) (by simp [results, Try.results7, go_sem, t0, t1, t2, t3, t4, t5, t6, t7]) rfl ⟨S1, S2, _, _, _, _, hR, hG, rfl, HF.out.1, HF.out.2.1, HF.out.2.2.1, HF.out.2.2.2.1, HF.out.2.2.2.2.1, HF.out.2.2.2.2.2⟩
  · go_wp2_with fail
    refine HC.mono ?_
    rintro e w6 ⟨rfl, S1, aw6, cw6, vt6, n6, hR, L6, hc6, hK6, hnd6, hS6⟩
    clear m0 m1 m2 m3 mz HC
    go_wp2_with fail
    refine (goOn_any w3.heap.size w6 kB mB aw6 cw6 vt6 S1 n6 L6 (Nat.le_trans hlo5 hS6.size) hK6 hc6).mono ?_
    rintro e w7 ⟨rfl, S2, aw7, cw7, vt7, n7, hG, L7, hc7, hK7, hS7⟩
    have hS := hS6.trans hS7
    replace X2 := X2.same hS (by decide) (by decide)
    have B7 : Below w.heap.size w w7 := ⟨hS.os.trans B5.os, hS.tape.trans B5.tape, hS.output.trans B5.output, by have := hS.size; have := B5.size; omega, fun i hi => (hS.low i (by omega) (by have := B5.size; omega)).trans (B5.block i hi)⟩
    have hkp := hG.1.keeps
    have hnd7 : S2.nd = S2.rd.length := by rw [hkp.1, hkp.2, hnd6]
    obtain ⟨at7, ct7, rfl⟩ := owns_slice L7.t
    have hz7 := B7.size
    have hlo7 : w3.heap.size ≤ w7.heap.size := Nat.le_trans hlo5 hS.size
    clear X0 X1 L6 hc6 hK6 hS6 hS7 hS B5 hlo5 hkp hnd6 hc7
    have k7 := L7.k.cell 13
    have kz7 := L7.k.lt
    have xz7 := X2.lt
    have hne : ¬ kB = w.heap.size + 1 + 1 := fun e => by have := L7.lk; omega
    go_wp2_with fail
    refine wp_region_held_drew (S := (fun w' => w'.cell? ⟨kB, 13, none⟩ = some (.slice at7 S2.ts.length ct7))) (by kernel_rfl) ?_ (fun hHeld => ?_)
    · exact k7
    refine wpAnyH_take (i := 0) (oi := { dst := some 62, op := Op.move (Operand.tmp 12), type := 47, pos := "l04_home.go:225", after := #[], guard := none }) (v := ?r4_v0) rfl (by kernel_rfl) (by kernel_rfl) (by kernel_rfl) (fun _ _ _ h => h) (Or.inl ⟨by rfl, ?r4_hy0⟩) (by assumption) ?r4_rest0
    case r4_hy0 => intro w hSw; (try dsimp only at hSw); go_simp; try (with_reducible rfl)
    simp only [Act.put, List.setIfInBounds_toArray, List.set_cons_zero, List.set_cons_succ]
    refine wpAnyH_take (i := 2) (oi := { dst := some 64, op := Op.move (Operand.tmp 12), type := 47, pos := "l04_home.go:225", after := #[{ on := 6, ground := Ground.gcOnly Departure.lateStores }], guard := none }) (v := ?r4_v2) rfl (by kernel_rfl) (by kernel_rfl) (by kernel_rfl) (fun _ _ _ h => h) (Or.inl ⟨by rfl, ?r4_hy2⟩) (by assumption) ?r4_rest2
    case r4_hy2 => intro w hSw; (try dsimp only at hSw); go_simp; try (with_reducible rfl)
    simp only [Act.put, List.setIfInBounds_toArray, List.set_cons_zero, List.set_cons_succ]
    refine wpAnyH_take (i := 3) (oi := { dst := some 65, op := Op.nilCheck (Operand.tmp 64), type := 0, pos := "l04_home.go:225", after := #[{ on := 2, ground := Ground.data }, { on := 6, ground := Ground.gcOnly Departure.lateStores }], guard := none }) (v := ?r4_v3) rfl (by kernel_rfl) (by kernel_rfl) (by kernel_rfl) (fun _ _ _ h => h) (Or.inl ⟨by rfl, ?r4_hy3⟩) (by assumption) ?r4_rest3
    case r4_hy3 => intro w hSw; (try dsimp only at hSw); go_simp; try (with_reducible rfl)
    simp only [Act.put, List.setIfInBounds_toArray, List.set_cons_zero, List.set_cons_succ]
    refine wpAnyH_take (i := 4) (oi := { dst := some 66, op := Op.fieldAddr 58 (Operand.tmp 65) 9, type := 0, pos := "l04_home.go:225", after := #[{ on := 3, ground := Ground.data }, { on := 6, ground := Ground.gcOnly Departure.lateStores }], guard := none }) (v := ?r4_v4) rfl (by kernel_rfl) (by kernel_rfl) (by kernel_rfl) (fun _ _ _ h => h) (Or.inl ⟨by rfl, ?r4_hy4⟩) (by assumption) ?r4_rest4
    case r4_hy4 => intro w hSw; (try dsimp only at hSw); go_simp; try (with_reducible rfl)
    simp only [Act.put, List.setIfInBounds_toArray, List.set_cons_zero, List.set_cons_succ]
    refine wpAnyH_take (i := 5) (oi := { dst := some 67, op := Op.load 37 (Operand.tmp 66), type := 37, pos := "l04_home.go:225", after := #[{ on := 4, ground := Ground.data }, { on := 6, ground := Ground.gcOnly Departure.lateStores }], guard := none }) (v := ?r4_v5) rfl (by kernel_rfl) (by kernel_rfl) (by kernel_rfl) (fun _ _ _ h => h) (Or.inl ⟨by rfl, ?r4_hy5⟩) (by assumption) ?r4_rest5
    case r4_hy5 => intro w hSw; (try dsimp only at hSw); go_simp; try (with_reducible rfl)
    simp only [Act.put, List.setIfInBounds_toArray, List.set_cons_zero, List.set_cons_succ]
    refine wpAnyH_ready (rs := [1]) (by kernel_rfl) (by simp) ?_
    refine AllReadyH.cons (o := { dst := some 63, op := Op.call { callee := Callee.value (Operand.func 19), args := #[Operand.tmp 62], argTypes := #[47] }, type := 30, pos := "l04_home.go:225", after := #[{ on := 0, ground := Ground.data }], guard := none }) rfl (fun K2 hK2 => ?_) AllReadyH.nil
    go_simp
    refine (home_any w3.heap.size _ kB mB aw7 cw7 _ S2 n7 (L7.below (bel_drew (Below.refl _ _))) hK7.rd hnd7 hK7.wl).mono ?_
    rintro e w8 ⟨vl, vr, vq, rfl, ol8, or8, oq8, b8⟩
    have b8 := bel_undrew b8
    obtain ⟨al8, cl8, rfl⟩ := owns_slice ol8
    obtain ⟨ar8, cr8, rfl⟩ := owns_slice or8
    obtain ⟨aq8, cq8, rfl⟩ := owns_slice oq8
    go_wp2_with fail
    refine hK2.out _ _ ?_ (fun hHeld2 => ?_)
    · exact (L7.k.below b8).cell 13
    clear hK2 K2 hHeld
    have hHeld := hHeld2
    clear hHeld2
    try simp only [Act.put, List.setIfInBounds_toArray, List.set_cons_zero, List.set_cons_succ]
    have X8 := X2.below b8
    have K8 := L7.k.below b8
    have x0 := X8.cell 0
    have x1 := X8.cell 1
    have x2 := X8.cell 2
    have x3 := X8.cell 3
    have x4 := X8.cell 4
    have x5 := X8.cell 5
    have x6 := X8.cell 6
    have x7 := X8.cell 7
    have y0 := X8.frozen 0
    have y1 := X8.frozen 1
    have y2 := X8.frozen 2
    have y3 := X8.frozen 3
    have y4 := X8.frozen 4
    have y5 := X8.frozen 5
    have y6 := X8.frozen 6
    have y7 := X8.frozen 7
    have xz8 := X8.lt
    refine wpAnyH_ready (rs := [6]) (by kernel_rfl) (by simp) ?_
    refine AllReadyH.cons (o := { dst := none, op := Op.store 30 (Operand.tmp 10) (Operand.tmp 63), type := 0, pos := "l04_home.go:225", after := #[{ on := 1, ground := Ground.data }, { on := 1, ground := Ground.chain }, { on := 0, ground := Ground.phase }, { on := 1, ground := Ground.phase }, { on := 2, ground := Ground.textOnly Departure.lateStores }, { on := 3, ground := Ground.textOnly Departure.lateStores }, { on := 4, ground := Ground.textOnly Departure.lateStores }, { on := 5, ground := Ground.textOnly Departure.lateStores }], guard := none }) rfl (fun K2 hK2 => ?_) AllReadyH.nil
    go_simp
    have K9 := set8_far K8 (w.heap.size + 1 + 1) hne (.slice al8 4 cl8) (.int .i64 S2.ow) (.slice ar8 S2.rd.length cr8) (.bool S2.bz) (.int .i64 S2.wh) (.bool S2.wo) (.int .i64 S2.ak) (.slice aq8 S2.ws.length cq8)
    refine hK2.out _ _ ?_ (fun hHeld2 => ?_)
    · exact K9.cell 13
    clear hK2 K2 hHeld
    have hHeld := hHeld2
    clear hHeld2
    try simp only [Act.put, List.setIfInBounds_toArray, List.set_cons_zero, List.set_cons_succ]
    refine wpAnyH_take (i := 7) (oi := { dst := some 11, op := Op.assign (Operand.tmp 67), type := 37, pos := "l04_home.go:225", after := #[{ on := 5, ground := Ground.data }, { on := 6, ground := Ground.chain }, { on := 0, ground := Ground.phase }, { on := 1, ground := Ground.phase }, { on := 2, ground := Ground.phase }, { on := 3, ground := Ground.phase }, { on := 4, ground := Ground.phase }, { on := 5, ground := Ground.phase }, { on := 6, ground := Ground.phase }], guard := none }) (v := ?r4_v7) rfl (by kernel_rfl) (by kernel_rfl) (by kernel_rfl) (fun _ _ _ h => h) (Or.inl ⟨by rfl, ?r4_hy7⟩) (by assumption) ?r4_rest7
    case r4_hy7 => intro w hSw; (try dsimp only at hSw); go_simp; try (with_reducible rfl)
    simp only [Act.put, List.setIfInBounds_toArray, List.set_cons_zero, List.set_cons_succ]
    refine wpAnyH_done (by kernel_rfl) ?_ _
    have X9 := set8_box X8 (.slice al8 4 cl8) (.int .i64 S2.ow) (.slice ar8 S2.rd.length cr8) (.bool S2.bz) (.int .i64 S2.wh) (.bool S2.wo) (.int .i64 S2.ak) (.slice aq8 S2.ws.length cq8)
    have t0 := X9.cell 0
    have t1 := X9.cell 1
    have t2 := X9.cell 2
    have t3 := X9.cell 3
    have t4 := X9.cell 4
    have t5 := X9.cell 5
    have t6 := X9.cell 6
    have t7 := X9.cell 7
    have HF : Hid (_ ∧ _ ∧ _ ∧ _ ∧ _ ∧ _) := ⟨set8_owns (owns_base ol8 (show w.heap.size ≤ _ by simp; omega)) (w.heap.size + 1 + 1) (fun j hj e => by have := (ol8.lt j hj).1; simp at this; omega) (.slice al8 4 cl8) (.int .i64 S2.ow) (.slice ar8 S2.rd.length cr8) (.bool S2.bz) (.int .i64 S2.wh) (.bool S2.wo) (.int .i64 S2.ak) (.slice aq8 S2.ws.length cq8), set8_owns (owns_base or8 (show w.heap.size ≤ _ by simp; omega)) (w.heap.size + 1 + 1) (fun j hj e => by have := (or8.lt j hj).1; simp at this; omega) (.slice al8 4 cl8) (.int .i64 S2.ow) (.slice ar8 S2.rd.length cr8) (.bool S2.bz) (.int .i64 S2.wh) (.bool S2.wo) (.int .i64 S2.ak) (.slice aq8 S2.ws.length cq8), set8_owns (owns_base oq8 (show w.heap.size ≤ _ by simp; omega)) (w.heap.size + 1 + 1) (fun j hj e => by have := (oq8.lt j hj).1; simp at this; omega) (.slice al8 4 cl8) (.int .i64 S2.ow) (.slice ar8 S2.rd.length cr8) (.bool S2.bz) (.int .i64 S2.wh) (.bool S2.wo) (.int .i64 S2.ak) (.slice aq8 S2.ws.length cq8), set8_owns (owns_base (owns_below L7.t b8) hlo) (w.heap.size + 1 + 1) (fun j hj e => by have := (L7.t.lt j hj).1; omega) (.slice al8 4 cl8) (.int .i64 S2.ow) (.slice ar8 S2.rd.length cr8) (.bool S2.bz) (.int .i64 S2.wh) (.bool S2.wo) (.int .i64 S2.ak) (.slice aq8 S2.ws.length cq8), fun t ht => set8_owns (owns_base (owns_below (L7.l t ht) b8) hlo) (w.heap.size + 1 + 1) (fun j hj e => by have := ((L7.l t ht).lt j hj).1; omega) (.slice al8 4 cl8) (.int .i64 S2.ow) (.slice ar8 S2.rd.length cr8) (.bool S2.bz) (.int .i64 S2.wh) (.bool S2.wo) (.int .i64 S2.ak) (.slice aq8 S2.ws.length cq8), set8_below (bel_trans B7 b8) (w.heap.size + 1 + 1) (by omega) (.slice al8 4 cl8) (.int .i64 S2.ow) (.slice ar8 S2.rd.length cr8) (.bool S2.bz) (.int .i64 S2.wh) (.bool S2.wo) (.int .i64 S2.ak) (.slice aq8 S2.ws.length cq8)⟩
    clear X9 X8 X2 K9 K8 L7 ol8 or8 oq8 b8 B7 hHeld x0 y0 x1 y1 x2 y2 x3 y3 x4 y4 x5 y5 x6 y6 x7 y7
    go_wp2
    refine bodyPost_ret (v := .tuple #[.agg #[.slice al8 4 cl8, .int .i64 S2.ow, .slice ar8 S2.rd.length cr8, .bool S2.bz, .int .i64 S2.wh, .bool S2.wo, .int .i64 S2.ak, .slice aq8 S2.ws.length cq8], .slice at7 S2.ts.length ct7]) (by simp [results, Try.results7, go_sem, t0, t1, t2, t3, t4, t5, t6, t7]) rfl ⟨S1, S2, _, _, _, _, hR, hG, rfl, HF.out.1, HF.out.2.1, HF.out.2.2.1, HF.out.2.2.2.1, HF.out.2.2.2.2.1, HF.out.2.2.2.2.2⟩
end Go.Proofs.Ytliihkdocbpolaa
