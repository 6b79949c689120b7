/- What impl.Coming answers. -/
import Derived.Deep.AppendLies
import Derived.Test.YtiaiomjoapbalaaGreatNfL
import Derived.Test.YtiaiomjoapbalaaGreatRvI
import Derived.Test.YtiaiomjoapbalaaGreatTrS
import Derived.Test.YtiaiomjoapbalaaGreatCopy
import Derived.Test.YtiaiomjoapbalaaGreatWoI
namespace Go.Proofs.YtiaiomjoapbalaaGreat
open Go.RowKit Go.Shelf
set_option linter.unusedVariables false

attribute [local go_sem] Oper.semAt_some

theorem owns_turned {A B : World} {row : Option Nat} {base e size n : Nat} {v : Value} {xs : List Value} (h : A.ownsRow base e size v n xs) (hg : A.grownBy B row) (hr : ∀ r, row = some r → ∃ o : Obj, A.heap[r]? = some o ∧ o.isCells = false) : B.ownsRow base e size v n xs := by
  refine h.kept hg ?_
  rcases h.2 with ⟨rfl, _⟩ | ⟨g, cap, cur, rfl, _, hgb, _⟩
  · exact .inl rfl
  · refine .inr fun e' => ?_
    obtain ⟨o, ho, hc⟩ := hr g (by simpa [Value.ownBlock] using e'.symm)
    rw [hgb] at ho; cases ho; cases hc
theorem deep_turned {A B : World} {row : Option Nat} {lo c : Nat} {a : Option Addr} {ds : List M} (h : Deep A lo a c ds) (hg : A.grownBy B row) (hr : ∀ r, row = some r → ∃ o : Obj, A.heap[r]? = some o ∧ o.isCells = false) : Deep B lo a c ds :=
  ⟨owns_turned h.row hg hr, fun m hm => owns_turned (h.lists.1 m hm) hg hr, h.lists.2⟩

/-- An append at a step of a region that draws, inside a fence. -/
theorem stepIn_append_lies {F : Fence} {nf : Nat} {P : Program} {w : World} {ops : Array Oper} {o : Oper} {a : Act} {K : Act → World → Prop} {Q : Exit → Act → World → Prop} {E : Prop} (hgd : o.guard = none) (s x : Operand) (t : TypeId)
    (ho : o.op = .call { callee := .builtin .append, args := #[s, x], argTypes := #[t, t] })
    (base : Nat) (e : TypeId) (i : TypeInfo) (z : Value) (size bytes : Nat) (ht : P.underlying t = some (.slice e)) (hi : P.info? e = some i) (hz : i.zero = some z)
    (hsize : i.size = size) (hby : i.bytes = bytes) (hzs : z.cells.size = size) (hsz : 0 < size)
    (v : Value) (n : Nat) (xs : List Value) (hs : a.eval s = v) (hown : w.ownsRow base e size v n xs)
    (ad : Addr) (m c : Nat) (news : List Value) (hx : a.eval x = .slice (some ad) m c) (hl : news.length = m * size) (hnews : ∀ j u, news[j]? = some u → w.cell? (ad.add j) = some u) (h1 : ∀ u ∈ news, u.oneCell' = true)
    (hm : 0 < m) (h63 : n + m ≤ maxLen) (hbytes : (n + m) * bytes ≤ 140737488355328) (hbase : base ≤ w.heap.size) (H : Nat) (hH : w.heap.size = H)
    (h : ∀ g cap w', w'.ownsRow base e size (.slice (some ⟨g, 0, none⟩) (n + m) cap) (n + m) (xs ++ news) → w.grownBy w' v.ownBlock → (v.ownBlock = some g ∨ g = H) → g < w'.heap.size → K (a.put o.dst (.slice (some ⟨g, 0, none⟩) (n + m) cap)) w') :
    if Region.wanted o (yielded ops a.tmps) = true then Oper.wpIn F nf P o a w K Q else E := by
  have hw : Region.wanted o (yielded ops a.tmps) = true := by simp [Region.wanted, hgd]
  rw [if_pos hw]
  obtain ⟨g, cap, w', hr, h2, h3, h4, h5⟩ := run_append_lies (P := P) w t o.type base e i z size bytes ht hi hz hsize hby hzs hsz v n xs hown ad m c news hl hnews h1 hm h63 hbytes hbase H hH
  unfold Oper.wpIn
  refine ⟨?_, ?_⟩
  · simp [Oper.about, ho, resolve, Target.leads, Sem.run_pure]
  · rw [Oper.semAt_plain F _ _ (by rw [ho]; intro c hc'; cases hc')]
    simp [execOp, ho, resolve, invoke, builtin, hs, hx, hr, Result.andThen]
    exact h g cap w' h2 h3 h4 h5

/-- What lies between two rounds: those that have come, copied, in a row of their own. -/
def CmI (w : World) (R lo : Nat) (pre : List (MS w)) (W : World) : Prop := ∃ (ds : List M) (a : Option Addr) (c : Nat), Box W R #[.slice a ds.length c] 27 ∧ Deep W lo a c ds ∧ ds.map M.say = pre.map (fun x => x.1.say) ∧ Below w.heap.size w W ∧ lo ≤ W.heap.size

theorem cm_own {w : World} {R lo : Nat} {B : Nat} (hB : w.heap.size ≤ B) : OwnFrom B (CmI w R lo) := fun s X Y row hs hg hr => by
  obtain ⟨ds, a, c, h1, h2, h3, h4, h5⟩ := hs
  exact ⟨ds, a, c, box_grown h1 hg (fun r e => (hr r e).2), deep_turned h2 hg (fun r e => (hr r e).2), h3, ownFrom_below (β := Unit) (Nat.le_refl _) hB () X Y row h4 hg hr, Nat.le_trans h5 hg.size⟩

theorem keeps_of_below {W W' : World} (b : Below W.heap.size W W') : KeepsOthers W W' := ⟨b.size, fun k o h _ => (b.block k (Array.getElem?_eq_some_iff.1 h).1).trans h⟩

/-- A round's end. -/
theorem cm_fin {w W V w5 w6 : World} {R lo Bl Bg B n c g3 cap3 c5 : Nat} {a a5 : Option Addr} {pre : List (MS w)} {x : MS w} {ds : List M}
    (HI : ds.length = n ∧ ds.map M.say = pre.map (fun x => x.1.say) ∧ Below w.heap.size w W ∧ lo ≤ W.heap.size ∧ Deep W lo a c ds ∧ Box W R #[.slice a n c] 27) (hR : w.heap.size ≤ R ∧ R < lo) (hB : R < Bl ∧ Bl < lo ∧ R < Bg ∧ Bg < lo)
    (bV : Below W.heap.size W V) (b5 : Below V.heap.size V w5) (o5 : w5.ownsRow V.heap.size 3 1 (.slice a5 x.1.xs.length c5) x.1.xs.length (x.1.xs.map (Value.int .i64)))
    (g6 : (w5.alloc (.cells #[.int .i64 x.1.k, .int .i64 x.1.p, .bool x.1.o, .slice a5 x.1.xs.length c5] 55)).grownBy w6 (Value.slice a n c).ownBlock)
    (o6 : w6.ownsRow lo 55 4 (.slice (some ⟨g3, 0, none⟩) (n + 1) cap3) (n + 1) (flat ds ++ [.int .i64 x.1.k, .int .i64 x.1.p, .bool x.1.o, .slice a5 x.1.xs.length c5])) :
    Box w6 R #[.slice a n c] 27 ∧ KeepsFrom B W (w6.setCell ⟨R, 0, none⟩ (.slice (some ⟨g3, 0, none⟩) (n + 1) cap3)) ∧ KpN w.heap.size Bl Bg W (w6.setCell ⟨R, 0, none⟩ (.slice (some ⟨g3, 0, none⟩) (n + 1) cap3)) ∧ CmI w R lo (pre ++ [x]) (w6.setCell ⟨R, 0, none⟩ (.slice (some ⟨g3, 0, none⟩) (n + 1) cap3)) := by
  obtain ⟨rfl, hs, hW, hlo, hD, hX⟩ := HI
  have bA := bel_alloc (Below.refl w5.heap.size w5) (.cells #[.int .i64 x.1.k, .int .i64 x.1.p, .bool x.1.o, .slice a5 x.1.xs.length c5] 55)
  have bb := bel_trans (bel_trans bV b5) bA
  have hz := bV.size
  have hz2 := bb.size
  have hrow : ∀ j, (Value.slice a ds.length c).ownBlock = some j → lo ≤ j := fun j hj => (hD.row.lt j hj).1
  have X6 : ∀ (m : Nat) (cs : Array Value) (t : TypeId), m < lo → Box W m cs t → Box w6 m cs t := fun m cs t hm h => (h.below bb).kept g6 (fun j hj e => by have := hrow j hj; omega)
  have hL1 : Lists V lo ds := hD.lists.below bV
  obtain ⟨c1, c2⟩ := com_step (w0 := w) (owns_below hD.row bV) hL1 (by omega) b5 o5 g6 o6
  have hlen : (ds ++ [(⟨x.1.k, x.1.p, x.1.o, a5, c5, x.1.xs⟩ : M)]).length = ds.length + 1 := by simp
  rw [hlen] at c1
  have D6 : Deep w6 lo (some ⟨g3, 0, none⟩) cap3 (ds ++ [(⟨x.1.k, x.1.p, x.1.o, a5, c5, x.1.xs⟩ : M)]) := ⟨by rw [hlen]; exact c1, c2⟩
  have B6 : Below w.heap.size w w6 := (hW.trans (bb.mono hW.size)).grown g6 (by have := hW.size; omega) (fun j hj => by have := hrow j hj; omega)
  have BW : Below w.heap.size W w6 := (bb.mono hW.size).grown g6 (by have := hW.size; omega) (fun j hj => by have := hrow j hj; omega)
  refine ⟨X6 R _ _ hR.2 hX, ?_, ⟨BW.setCell (p := ⟨R, 0, none⟩) hR.1 _, fun cs t h => (X6 Bl cs t hB.2.1 h).far _ _ (by simp; omega), fun cs t h => (X6 Bg cs t hB.2.2.2 h).far _ _ (by simp; omega)⟩, ?_⟩
  · refine (((keeps_of_below bb).trans (KeepsOthers.of_grownBy g6 fun j o ej hj => ?_)).trans (KeepsOthers.setCell _ _ _)).from _
    rcases (owns_below hD.row bb).2 with ⟨hv, _⟩ | ⟨g, cap, cur, hv, _, hgb, _⟩
    · rw [hv] at ej; simp [Value.ownBlock] at ej
    · rw [hv] at ej
      obtain rfl : g = j := by simpa [Value.ownBlock] using ej
      rw [hgb] at hj; cases hj; rfl
  · refine ⟨_, _, _, by rw [hlen]; exact box_set1 (X6 R _ _ hR.2 hX) _, D6.far _ _ hR.2, ?_, B6.setCell (p := ⟨R, 0, none⟩) hR.1 _, ?_⟩
    · rw [List.map_append, List.map_append, hs]
      rfl
    · have := g6.size
      have := (KeepsOthers.setCell w6 ⟨R, 0, none⟩ (.slice (some ⟨g3, 0, none⟩) (ds.length + 1) cap3)).size
      omega

theorem cm_say {d : WoD} {f t : Nat} {w : World} {ns : List (MS w)} {ds : List M} (hsay : (ns.map Subtype.val).map M.say = (d.d f).y t) (h : ds.map M.say = ((ns.drop ((d.d t).g f - (d.d f).b t).toNat).reverse).map (fun x => x.1.say)) : ds.reverse.map M.say = comD d f t := by
  rw [List.map_reverse, h, List.map_reverse, List.reverse_reverse]
  unfold comD comY
  rw [← hsay, List.map_map, ← List.map_drop]
  rfl

set_option maxRecDepth 100000 in
set_option maxHeartbeats 4000000 in
theorem implComing_in (d : WoD) (p : WoP) (f t : Nat) (w : World) (hbs : ∀ i, i < d.nn → ∀ j, j < (d.d i).nh → ((d.d i).h j).bs.length ≤ 1048577) (hR : WoR w d p) (hw : worldB d = true) (hf : f < d.nn) (ht : t < d.nn) :
    Calls Tryz.prog 8 #[.agg (wcells d p), .int .i64 (f : Int), .int .i64 (t : Int)] w (MsgsP (comD d f t) w) := by
  obtain ⟨i0, hi, hz0, hz1, hz2⟩ := info_parts info_msg
  have hok := WOk.of hw
  refine (callsIn_wide (n := 6)).1 ?_
  obtain ⟨sb1, sb2, sb3, sb4⟩ := sB_parts (hok.o f hf t ht)
  obtain ⟨gb1, gb2⟩ := hok.g t ht f hf
  have hsz : d.size = (d.nn : Int) := hok.n.1
  have hn4 := hok.n.2.2
  have bA := bel_alloc (Below.refl w.heap.size w) (.cells (wcells d p) 32)
  have XW := Box.new w (wcells d p) 32
  have HR : Hid (WoR w d p) := hR
  have HOK : Hid (WOk d) := hok
  have HW : Hid (worldB d = true) := hw
  have HF : Hid (inB (f : Int) 0 (d.size - 1) = true) := by show _ = _; simp [inB]; omega
  have HT : Hid (inB (t : Int) 0 (d.size - 1) = true) := by show _ = _; simp [inB]; omega
  have HD4 : Hid (d.size ≤ 4) := by show _ ≤ _; omega
  clear hR hok hw hsz hn4
  refine callsIn_of_wp_marks Tryz.func8 rfl trivial ?_ rfl
  simp only [Tryz.ntmps8, List.size_toArray, List.length_cons, List.length_nil, Nat.reduceAdd, Nat.reduceSub, Array.replicate_succ, Array.replicate_zero, List.push_toArray, List.append_toArray, List.nil_append, List.cons_append]
  gi_wp2
  refine ⟨trivial, ?_⟩
  refine (callsIn_wide.2 (implWorldOk_any d p _ hbs (HR.out.below bA))).mono ?_
  rintro e w1 ⟨rfl, b1⟩
  rw [HW.out]
  replace XW := XW.below b1
  have B1 := bel_trans bA b1
  clear bA b1
  obtain ⟨x0, x1, x2, xz⟩ := XW.at3
  gi_wp2
  refine ⟨trivial, ?_⟩
  refine (callsIn_wide.2 (isNode_h (f : Int) d.size _ HD4.out)).mono ?_
  rintro e w2 ⟨rfl, h⟩
  replace h := h.symm
  subst h
  rw [HF.out]
  gi_wp2
  refine ⟨trivial, ?_⟩
  refine (callsIn_wide.2 (isNode_h (t : Int) d.size _ HD4.out)).mono ?_
  rintro e w2 ⟨rfl, h⟩
  replace h := h.symm
  subst h
  rw [HT.out]
  gi_wp2
  refine ⟨trivial, ?_⟩
  have bB := bel_alloc (Below.refl w1.heap.size w1) (.cells #[.slice none 0 0] 27)
  have XR := Box.new w1 #[.slice none 0 0] 27
  refine (callsIn_wide.2 (newestFirst_any d p f t w _ HR.out (bel_trans B1 bB) HOK.out hf ht)).mono ?_
  rintro e w3 ⟨q1, q2, ns, Bl, Bg, rfl, hM, hsay, hXl, hXg, ⟨hl, hg⟩, b3⟩
  replace XR := XR.below b3
  have B3 := bel_trans (bel_trans B1 bB) b3
  have hsz1 := B1.size
  clear b3 bB x0 x1 x2 xz XW
  simp only [World.size_alloc] at hl hg
  have hnl : ns.length = ((d.d f).y t).length := by rw [← hsay]; simp
  gi_wp2
  have hlo := XR.lt
  have hl2 := hXl.lt
  have hg2 := hXg.lt
  have HM : Hid (MRow w q1 (ns.map Subtype.val)) := hM
  refine wpIn_rangeFunc_ownH (F := Fence.wide) rfl (by decide) (gf := 52) (lb := #[.pointer (some ⟨Bl, 0, none⟩), .pointer (some ⟨Bg, 0, none⟩)]) rfl trivial (enters_of Tryz.func52 (by kernel_rfl) rfl)
    (nf_stops Fence.wide (6 - 1) trivial rfl (by decide) Bl Bg ((d.d f).b t) ((d.d t).g f) q1 q2 w ns hM sb1 ⟨gb1, gb2⟩ (by omega) w3 hXl hXg B3) kpn_t (kpn_b B3.size) (Below.refl _ _) (fun _ => rfl)
    (CmI w w1.heap.size w3.heap.size) (fun _ _ _ => False) (cm_own B3.size) (fun _ _ _ _ _ hs _ _ => hs)
    ⟨[], none, 0, XR, ⟨World.ownsRow_nil _ _ _ _, Lists.nil _ _⟩, rfl, B3, Nat.le_refl _⟩
    (fun x a' W => ∃ Bx, Box W Bx #[.int .i64 x.1.k, .int .i64 x.1.p, .bool x.1.o, .slice x.1.a x.1.xs.length x.1.c] 55 ∧ a' = { tmps := #[Value.agg (wcells d p), Value.int IntKind.i64 f, Value.int IntKind.i64 t, Value.pointer (some { block := w.heap.size, off := 0 }), undef, undef, Value.slice none 0 0, Value.pointer (some { block := w1.heap.size, off := 0 }), Value.pointer (some { block := Bx, off := 0 }), Value.agg #[Value.int IntKind.i64 d.size, Value.slice p.n.fst d.nn p.n.snd, Value.slice p.k.fst d.nk p.k.snd], Value.bool true, Value.bool false, Value.bool false, Value.int IntKind.i64 f, Value.pointer (some { block := w.heap.size, off := 0 }), Value.int IntKind.i64 d.size, Value.bool true, Value.bool false, Value.bool false, Value.bool false, Value.int IntKind.i64 t, Value.pointer (some { block := w.heap.size, off := 0 }), Value.int IntKind.i64 d.size, Value.bool true, Value.bool false, Value.bool false, Value.agg #[Value.int IntKind.i64 d.size, Value.slice p.n.fst d.nn p.n.snd, Value.slice p.k.fst d.nk p.k.snd], Value.int IntKind.i64 f, Value.int IntKind.i64 t, Value.func (Fn.func 52) #[] #[Value.pointer (some { block := Bl, off := 0 }), Value.pointer (some { block := Bg, off := 0 })], x.1.val, undef, undef, undef, undef, undef, undef, undef, undef], defers := [] })
    (fun x a' _ X Y row hs hg hr => by obtain ⟨Bx, h2, h3⟩ := hs; exact ⟨Bx, box_grown h2 hg (fun r e => (hr r e).2), h3⟩)
    ?assign ?body ?done ?stop
  case assign =>
    rintro l pre x W K ⟨ds, a, c, xr, dp, hs, hB, hlo'⟩ hK
    gi_wp2
    have ba := bel_alloc (Below.refl W.heap.size W) (.cells #[.int .i64 x.1.k, .int .i64 x.1.p, .bool x.1.o, .slice x.1.a x.1.xs.length x.1.c] 55)
    exact hK _ _ ((KeepsOthers.alloc _ _).from _) ⟨(Below.refl _ W).alloc hB.size _, fun cs t h => h.below ba, fun cs t h => h.below ba⟩ ⟨ds, a, c, xr.below ba, dp.below ba, hs, hB.alloc hB.size _, Nat.le_trans hlo' ba.size⟩ ⟨W.heap.size, Box.new W _ 55, rfl⟩
  case body =>
    rintro l pre x a' W hlw ⟨r, hr⟩ ⟨ds, a, c, xr, dp, hs, hB, hlo'⟩ ⟨Bx, bX, rfl⟩ hlt
    obtain ⟨⟨mk, mp, mo, ma, mc, mxs⟩, hrow, hmok⟩ := x
    dsimp only [M.val] at bX ⊢
    obtain ⟨n, hn⟩ : ∃ n, ds.length = n := ⟨_, rfl⟩
    rw [hn] at xr
    have HI : Hid (ds.length = n ∧ ds.map M.say = pre.map (fun x => x.1.say) ∧ Below w.heap.size w W ∧ w3.heap.size ≤ W.heap.size ∧ Deep W w3.heap.size a c ds ∧ Box W w1.heap.size #[.slice a n c] 27) := ⟨hn, hs, hB, hlo', dp, xr⟩
    have hn30 : n ≤ 29 := by
      have h1 := congrArg List.length hs
      simp only [List.length_map] at h1
      omega
    have HX : Hid (Row .i64 w ma mxs ∧ mxs.length ≤ 4) := ⟨hrow, (okS_len hmok).1⟩
    obtain ⟨V, hV⟩ : ∃ V, W.drew = V := ⟨_, rfl⟩
    have bV : Below W.heap.size W V := by rw [← hV]; exact below_drewN (Below.refl _ _) 1
    replace xr := xr.below bV
    replace bX := bX.below bV
    have HV : Hid (Below W.heap.size W V) := bV
    have r0 := box_cell1 xr
    have fz := xr.frozen 0
    obtain ⟨y0, y1, y2, y3, yz⟩ := bX.at4
    clear hs hB hlo' dp xr bX hn bV hr hlt
    gi_wp2
    refine wpIn_region_any (by kernel_rfl) ?_
    change wpAnyIn _ _ _ _ _ _ _ _ _ (World.drew _)
    rw [hV]
    clear hV
    refine wpAnyIn_ready (rs := [0, 1]) (by kernel_rfl) (by simp) ?_
    refine AllReadyIn.cons rfl (fun K hK => ?_) (AllReadyIn.cons rfl (fun K hK => ?_) AllReadyIn.nil)
    · go_simp
      refine hK _ _ ?_
      clear hK K
      refine wpAnyIn_ready (rs := [1]) (by kernel_rfl) (by simp) ?_
      refine AllReadyIn.cons rfl (fun K hK => ?_) AllReadyIn.nil
      go_simp
      refine hK _ _ ?_
      clear hK K
      refine wpAnyIn_ready (rs := [2]) (by kernel_rfl) (by simp) ?_
      refine AllReadyIn.cons rfl (fun K hK => ?_) AllReadyIn.nil
      go_simp
      refine ⟨trivial, (CallsIn.inRound l (callsIn_wide.2 (copyMsg_any mk mp mo ma mc mxs V (by have := HX.out.2; omega) (HX.out.1.below (bel_trans HI.out.2.2.1 HV.out))))).mono ?_⟩
      rintro e w5 ⟨v, rfl, o5, b5⟩
      obtain ⟨a5, c5, rfl⟩ := owns_slice o5
      have r5 := box_cell1 ((HI.out.2.2.2.2.2.below HV.out).below b5)
      have hr5 := owns_below (owns_below (owns_below HI.out.2.2.2.2.1.row HV.out) b5) (bel_alloc (Below.refl w5.heap.size w5) (.cells #[.int .i64 mk, .int .i64 mp, .bool mo, .slice a5 mxs.length c5] 55))
      rw [HI.out.1] at hr5
      have HO5 : Hid (w5.ownsRow V.heap.size 3 1 (.slice a5 mxs.length c5) mxs.length (mxs.map (Value.int .i64))) := o5
      have HB5 : Hid (Below V.heap.size V w5) := b5
      have HR5 : Hid ((w5.alloc (.cells #[.int .i64 mk, .int .i64 mp, .bool mo, .slice a5 mxs.length c5] 55)).ownsRow w3.heap.size 55 4 (.slice a n c) n (flat ds)) := hr5
      have hz5 : Hid (w3.heap.size ≤ w5.heap.size) := Nat.le_trans HI.out.2.2.2.1 (Nat.le_trans HV.out.size b5.size)
      have q5 := lt_of_cell r5
      clear o5 b5 hr5
      refine hK _ _ ?_
      clear hK K
      refine wpAnyIn_ready (rs := [3]) (by kernel_rfl) (by simp) ?_
      refine AllReadyIn.cons rfl (fun K hK => ?_) AllReadyIn.nil
      go_simp
      refine hK _ _ ?_
      clear hK K
      refine wpAnyIn_ready (rs := [4]) (by kernel_rfl) (by simp) ?_
      refine AllReadyIn.cons rfl (fun K hK => ?_) AllReadyIn.nil
      refine stepIn_append_lies rfl (.tmp 31) (.tmp 34) 27 rfl w3.heap.size 55 i0 (.agg #[.int .i64 0, .int .i64 0, .bool false, .slice none 0 0]) 4 48 Tryz.underlying27 hi hz0 hz1 hz2 rfl (by decide) (.slice a n c) n (flat ds) (by rfl) HR5.out ⟨w5.heap.size, 0, none⟩ 1 1 [.int .i64 mk, .int .i64 mp, .bool mo, .slice a5 mxs.length c5] (by rfl) (by rfl) (new_one _ _ _ _ _) (four_one _ _ _ _ _ _) (by decide) (by unfold maxLen; omega) (by omega) (by have := hz5.out; simp; omega) _ rfl ?_
      intro g3 cap3 w6 o6 g6 at6 lt6
      have FIN : Hid _ := cm_fin (Bl := Bl) (Bg := Bg) (B := w3.heap.size) (x := ⟨⟨mk, mp, mo, ma, mc, mxs⟩, hrow, hmok⟩) HI.out ⟨hsz1, hlo⟩ ⟨by omega, hl2, by omega, hg2⟩ HV.out HB5.out HO5.out g6 o6
      have r6 := box_cell1 FIN.out.1
      have f6 := FIN.out.1.frozen 0
      clear o6 g6 at6
      refine hK _ _ ?_
      clear hK K
      refine wpAnyIn_ready (rs := [5]) (by kernel_rfl) (by simp) ?_
      refine AllReadyIn.cons rfl (fun K hK => ?_) AllReadyIn.nil
      go_simp
      refine hK _ _ ?_
      clear hK K
      refine wpAnyIn_done (by kernel_rfl) ?_ _
      gi_wp2
      exact ⟨FIN.out.2.1, FIN.out.2.2.1, FIN.out.2.2.2⟩
    · go_simp
      refine hK _ _ ?_
      clear hK K
      refine wpAnyIn_ready (rs := [0, 2]) (by kernel_rfl) (by simp) ?_
      refine AllReadyIn.cons rfl (fun K hK => ?_) (AllReadyIn.cons rfl (fun K hK => ?_) AllReadyIn.nil)
      · go_simp
        refine hK _ _ ?_
        clear hK K
        refine wpAnyIn_ready (rs := [2]) (by kernel_rfl) (by simp) ?_
        refine AllReadyIn.cons rfl (fun K hK => ?_) AllReadyIn.nil
        go_simp
        refine ⟨trivial, (CallsIn.inRound l (callsIn_wide.2 (copyMsg_any mk mp mo ma mc mxs V (by have := HX.out.2; omega) (HX.out.1.below (bel_trans HI.out.2.2.1 HV.out))))).mono ?_⟩
        rintro e w5 ⟨v, rfl, o5, b5⟩
        obtain ⟨a5, c5, rfl⟩ := owns_slice o5
        have r5 := box_cell1 ((HI.out.2.2.2.2.2.below HV.out).below b5)
        have hr5 := owns_below (owns_below (owns_below HI.out.2.2.2.2.1.row HV.out) b5) (bel_alloc (Below.refl w5.heap.size w5) (.cells #[.int .i64 mk, .int .i64 mp, .bool mo, .slice a5 mxs.length c5] 55))
        rw [HI.out.1] at hr5
        have HO5 : Hid (w5.ownsRow V.heap.size 3 1 (.slice a5 mxs.length c5) mxs.length (mxs.map (Value.int .i64))) := o5
        have HB5 : Hid (Below V.heap.size V w5) := b5
        have HR5 : Hid ((w5.alloc (.cells #[.int .i64 mk, .int .i64 mp, .bool mo, .slice a5 mxs.length c5] 55)).ownsRow w3.heap.size 55 4 (.slice a n c) n (flat ds)) := hr5
        have hz5 : Hid (w3.heap.size ≤ w5.heap.size) := Nat.le_trans HI.out.2.2.2.1 (Nat.le_trans HV.out.size b5.size)
        have q5 := lt_of_cell r5
        clear o5 b5 hr5
        refine hK _ _ ?_
        clear hK K
        refine wpAnyIn_ready (rs := [3]) (by kernel_rfl) (by simp) ?_
        refine AllReadyIn.cons rfl (fun K hK => ?_) AllReadyIn.nil
        go_simp
        refine hK _ _ ?_
        clear hK K
        refine wpAnyIn_ready (rs := [4]) (by kernel_rfl) (by simp) ?_
        refine AllReadyIn.cons rfl (fun K hK => ?_) AllReadyIn.nil
        refine stepIn_append_lies rfl (.tmp 31) (.tmp 34) 27 rfl w3.heap.size 55 i0 (.agg #[.int .i64 0, .int .i64 0, .bool false, .slice none 0 0]) 4 48 Tryz.underlying27 hi hz0 hz1 hz2 rfl (by decide) (.slice a n c) n (flat ds) (by rfl) HR5.out ⟨w5.heap.size, 0, none⟩ 1 1 [.int .i64 mk, .int .i64 mp, .bool mo, .slice a5 mxs.length c5] (by rfl) (by rfl) (new_one _ _ _ _ _) (four_one _ _ _ _ _ _) (by decide) (by unfold maxLen; omega) (by omega) (by have := hz5.out; simp; omega) _ rfl ?_
        intro g3 cap3 w6 o6 g6 at6 lt6
        have FIN : Hid _ := cm_fin (Bl := Bl) (Bg := Bg) (B := w3.heap.size) (x := ⟨⟨mk, mp, mo, ma, mc, mxs⟩, hrow, hmok⟩) HI.out ⟨hsz1, hlo⟩ ⟨by omega, hl2, by omega, hg2⟩ HV.out HB5.out HO5.out g6 o6
        have r6 := box_cell1 FIN.out.1
        have f6 := FIN.out.1.frozen 0
        clear o6 g6 at6
        refine hK _ _ ?_
        clear hK K
        refine wpAnyIn_ready (rs := [5]) (by kernel_rfl) (by simp) ?_
        refine AllReadyIn.cons rfl (fun K hK => ?_) AllReadyIn.nil
        go_simp
        refine hK _ _ ?_
        clear hK K
        refine wpAnyIn_done (by kernel_rfl) ?_ _
        gi_wp2
        exact ⟨FIN.out.2.1, FIN.out.2.2.1, FIN.out.2.2.2⟩
      · go_simp
        refine ⟨trivial, (CallsIn.inRound l (callsIn_wide.2 (copyMsg_any mk mp mo ma mc mxs V (by have := HX.out.2; omega) (HX.out.1.below (bel_trans HI.out.2.2.1 HV.out))))).mono ?_⟩
        rintro e w5 ⟨v, rfl, o5, b5⟩
        obtain ⟨a5, c5, rfl⟩ := owns_slice o5
        have r5 := box_cell1 ((HI.out.2.2.2.2.2.below HV.out).below b5)
        have hr5 := owns_below (owns_below (owns_below HI.out.2.2.2.2.1.row HV.out) b5) (bel_alloc (Below.refl w5.heap.size w5) (.cells #[.int .i64 mk, .int .i64 mp, .bool mo, .slice a5 mxs.length c5] 55))
        rw [HI.out.1] at hr5
        have HO5 : Hid (w5.ownsRow V.heap.size 3 1 (.slice a5 mxs.length c5) mxs.length (mxs.map (Value.int .i64))) := o5
        have HB5 : Hid (Below V.heap.size V w5) := b5
        have HR5 : Hid ((w5.alloc (.cells #[.int .i64 mk, .int .i64 mp, .bool mo, .slice a5 mxs.length c5] 55)).ownsRow w3.heap.size 55 4 (.slice a n c) n (flat ds)) := hr5
        have hz5 : Hid (w3.heap.size ≤ w5.heap.size) := Nat.le_trans HI.out.2.2.2.1 (Nat.le_trans HV.out.size b5.size)
        have q5 := lt_of_cell r5
        clear o5 b5 hr5
        refine hK _ _ ?_
        clear hK K
        refine wpAnyIn_ready (rs := [0, 3]) (by kernel_rfl) (by simp) ?_
        refine AllReadyIn.cons rfl (fun K hK => ?_) (AllReadyIn.cons rfl (fun K hK => ?_) AllReadyIn.nil)
        · go_simp
          refine hK _ _ ?_
          clear hK K
          refine wpAnyIn_ready (rs := [3]) (by kernel_rfl) (by simp) ?_
          refine AllReadyIn.cons rfl (fun K hK => ?_) AllReadyIn.nil
          go_simp
          refine hK _ _ ?_
          clear hK K
          refine wpAnyIn_ready (rs := [4]) (by kernel_rfl) (by simp) ?_
          refine AllReadyIn.cons rfl (fun K hK => ?_) AllReadyIn.nil
          refine stepIn_append_lies rfl (.tmp 31) (.tmp 34) 27 rfl w3.heap.size 55 i0 (.agg #[.int .i64 0, .int .i64 0, .bool false, .slice none 0 0]) 4 48 Tryz.underlying27 hi hz0 hz1 hz2 rfl (by decide) (.slice a n c) n (flat ds) (by rfl) HR5.out ⟨w5.heap.size, 0, none⟩ 1 1 [.int .i64 mk, .int .i64 mp, .bool mo, .slice a5 mxs.length c5] (by rfl) (by rfl) (new_one _ _ _ _ _) (four_one _ _ _ _ _ _) (by decide) (by unfold maxLen; omega) (by omega) (by have := hz5.out; simp; omega) _ rfl ?_
          intro g3 cap3 w6 o6 g6 at6 lt6
          have FIN : Hid _ := cm_fin (Bl := Bl) (Bg := Bg) (B := w3.heap.size) (x := ⟨⟨mk, mp, mo, ma, mc, mxs⟩, hrow, hmok⟩) HI.out ⟨hsz1, hlo⟩ ⟨by omega, hl2, by omega, hg2⟩ HV.out HB5.out HO5.out g6 o6
          have r6 := box_cell1 FIN.out.1
          have f6 := FIN.out.1.frozen 0
          clear o6 g6 at6
          refine hK _ _ ?_
          clear hK K
          refine wpAnyIn_ready (rs := [5]) (by kernel_rfl) (by simp) ?_
          refine AllReadyIn.cons rfl (fun K hK => ?_) AllReadyIn.nil
          go_simp
          refine hK _ _ ?_
          clear hK K
          refine wpAnyIn_done (by kernel_rfl) ?_ _
          gi_wp2
          exact ⟨FIN.out.2.1, FIN.out.2.2.1, FIN.out.2.2.2⟩
        · go_simp
          refine hK _ _ ?_
          clear hK K
          refine wpAnyIn_ready (rs := [0]) (by kernel_rfl) (by simp) ?_
          refine AllReadyIn.cons rfl (fun K hK => ?_) AllReadyIn.nil
          go_simp
          refine hK _ _ ?_
          clear hK K
          refine wpAnyIn_ready (rs := [4]) (by kernel_rfl) (by simp) ?_
          refine AllReadyIn.cons rfl (fun K hK => ?_) AllReadyIn.nil
          refine stepIn_append_lies rfl (.tmp 31) (.tmp 34) 27 rfl w3.heap.size 55 i0 (.agg #[.int .i64 0, .int .i64 0, .bool false, .slice none 0 0]) 4 48 Tryz.underlying27 hi hz0 hz1 hz2 rfl (by decide) (.slice a n c) n (flat ds) (by rfl) HR5.out ⟨w5.heap.size, 0, none⟩ 1 1 [.int .i64 mk, .int .i64 mp, .bool mo, .slice a5 mxs.length c5] (by rfl) (by rfl) (new_one _ _ _ _ _) (four_one _ _ _ _ _ _) (by decide) (by unfold maxLen; omega) (by omega) (by have := hz5.out; simp; omega) _ rfl ?_
          intro g3 cap3 w6 o6 g6 at6 lt6
          have FIN : Hid _ := cm_fin (Bl := Bl) (Bg := Bg) (B := w3.heap.size) (x := ⟨⟨mk, mp, mo, ma, mc, mxs⟩, hrow, hmok⟩) HI.out ⟨hsz1, hlo⟩ ⟨by omega, hl2, by omega, hg2⟩ HV.out HB5.out HO5.out g6 o6
          have r6 := box_cell1 FIN.out.1
          have f6 := FIN.out.1.frozen 0
          clear o6 g6 at6
          refine hK _ _ ?_
          clear hK K
          refine wpAnyIn_ready (rs := [5]) (by kernel_rfl) (by simp) ?_
          refine AllReadyIn.cons rfl (fun K hK => ?_) AllReadyIn.nil
          go_simp
          refine hK _ _ ?_
          clear hK K
          refine wpAnyIn_done (by kernel_rfl) ?_ _
          gi_wp2
          exact ⟨FIN.out.2.1, FIN.out.2.2.1, FIN.out.2.2.2⟩
  case done =>
    rintro D ys W hD rfl ⟨ds, a, c, xr, dp, hs, hB, hlo'⟩ hK
    have h30 : ds.length ≤ 30 := by
      have h1 := congrArg List.length hs
      simp only [List.length_map, List.length_reverse, List.length_drop] at h1
      omega
    have HSY : Hid (ds.reverse.map M.say = comD d f t) := cm_say hsay hs
    have hcell : ∀ (j : Nat) (o : Obj), (Value.slice a ds.length c).ownBlock = some j → W.heap[j]? = some o → o.isCells = true := fun j o ej hj => by
      rcases dp.row.2 with ⟨hv, _⟩ | ⟨g, cap, cur, hv, _, hgb, _⟩
      · rw [hv] at ej; simp [Value.ownBlock] at ej
      · rw [hv] at ej
        obtain rfl : g = j := by simpa [Value.ownBlock] using ej
        rw [hgb] at hj; cases hj; rfl
    have hrow : ∀ j, (Value.slice a ds.length c).ownBlock = some j → w3.heap.size ≤ j := fun j hj => (dp.row.lt j hj).1
    have key : ∀ w5, Deep w5 w3.heap.size a c ds.reverse → W.grownBy w5 (Value.slice a ds.length c).ownBlock → Box w5 w1.heap.size #[.slice a ds.length c] 27 ∧ w5.heap[D]? = some (.deferred (some [])) ∧ MsgsP (comD d f t) w (.returned (.slice a ds.length c)) (w5.putObj D (.deferred none)) := fun w5 d5 g5 => by
      have hK5 := (KeepsOthers.of_grownBy g5 hcell).same D _ hK rfl
      have hs3 := B3.size
      refine ⟨xr.kept g5 (fun j hj e => by have := hrow j hj; omega), hK5, a, c, ds.reverse, by rw [List.length_reverse], HSY.out, ?_, ?_⟩
      · have d6 := deep_turned d5 (grownBy_putObj' w5 D (.deferred none)) (fun r e => by cases e; exact ⟨_, hK5, rfl⟩)
        exact ⟨owns_base d6.row hs3, d6.lists.base hs3⟩
      · exact (hB.grown g5 (Nat.le_trans hs3 hlo') (fun j hj => Nat.le_trans hs3 (hrow j hj))).trans (belowK_b (w := w) (Nat.le_refl _) w5 D _ _ (Nat.le_trans hs3 hD) hK5 rfl rfl)
    have KEY : Hid _ := key
    have r0 := box_cell1 xr
    have HD : Hid (Deep W w3.heap.size a c ds) := dp
    have RV : Hid _ := reverse_any W w3.heap.size a c ds h30 dp
    obtain ⟨n, hn⟩ : ∃ n, ds.length = n := ⟨_, rfl⟩
    rw [hn] at r0 KEY RV
    clear hs hB xr dp hcell hrow key hK hsay hn h30
    gi_wp2
    refine ⟨trivial, (callsIn_wide.2 RV.out).mono ?_⟩
    rintro e w5 ⟨⟨v, rfl⟩, d5, g5⟩
    obtain ⟨x5, hK5, hP⟩ := KEY.out w5 d5 g5
    have r5 := box_cell1 x5
    have HP : Hid _ := hP
    have HK5 : Hid _ := hK5
    clear d5 g5 hP x5 hK5 r0
    gi_wp2
    refine ⟨by simp, .inl ⟨_, _, rfl, run_takeDeferred HK5.out, ?_⟩⟩
    refine ⟨.slice a n c, ?_, HP.out⟩
    simp [results, Tryz.f8, go_sem]
  case stop =>
    rintro D c pre W hD hp h hK
    exact h.elim

theorem msgs_no {d : WoD} {f t : Int} (h : comW d f t = []) {w w' : World} (b : Below w.heap.size w w') : MsgsP (comW d f t) w (.returned (.slice none 0 0)) w' := msgs_none h (World.ownsRow_nil _ _ _ _) b

set_option maxRecDepth 100000 in
set_option maxHeartbeats 4000000 in
theorem implComing_any (d : WoD) (p : WoP) (f t : Int) (w : World) (hbs : ∀ i, i < d.nn → ∀ j, j < (d.d i).nh → ((d.d i).h j).bs.length ≤ 1048577) (hR : WoR w d p) :
    Calls Tryz.prog 8 #[.agg (wcells d p), .int .i64 f, .int .i64 t] w (MsgsP (comW d f t) w) := by
  cases hw : worldB d
  · have HC : Hid (comW d f t = []) := comW_no (by rw [hw]; rfl)
    have B := bel_alloc (Below.refl w.heap.size w) (.cells (wcells d p) 32)
    have hR1 := hR.below B
    have HW : Hid (worldB d = false) := hw
    clear hR hw
    refine (callsIn_wide (n := 6)).1 ?_
    refine callsIn_of_wp_marks Tryz.func8 rfl trivial ?_ rfl
    simp only [Tryz.ntmps8, List.size_toArray, List.length_cons, List.length_nil, Nat.reduceAdd, Nat.reduceSub, Array.replicate_succ, Array.replicate_zero, List.push_toArray, List.append_toArray, List.nil_append, List.cons_append]
    gi_wp2
    refine ⟨trivial, (callsIn_wide.2 (implWorldOk_any d p _ hbs hR1)).mono ?_⟩
    rintro e w1 ⟨rfl, b1⟩
    rw [HW.out]
    have HF : Hid (Below w.heap.size w w1) := bel_trans B b1
    clear b1 hR1 B
    gi_wp2
    refine ⟨trivial, ?_⟩
    gi_wp2
    refine ⟨trivial, ?_⟩
    gi_wp2
    refine ⟨.slice none 0 0, ?_, msgs_no HC.out HF.out⟩
    simp [results, Tryz.f8, go_sem]
  · cases h1 : inB f 0 (d.size - 1)
    · have HC : Hid (comW d f t = []) := comW_no (by rw [hw, h1]; rfl)
      have H1 : Hid (inB f 0 (d.size - 1) = false) := h1
      clear h1
      have B := bel_alloc (Below.refl w.heap.size w) (.cells (wcells d p) 32)
      have XW := Box.new w (wcells d p) 32
      have hR1 := hR.below B
      have HW : Hid (worldB d = true) := hw
      have HD4 : Hid (d.size ≤ 4) := by have h1 := (WOk.of hw).n.1; have h2 := (WOk.of hw).n.2.2; show _ ≤ _; omega
      clear hR hw
      refine (callsIn_wide (n := 6)).1 ?_
      refine callsIn_of_wp_marks Tryz.func8 rfl trivial ?_ rfl
      simp only [Tryz.ntmps8, List.size_toArray, List.length_cons, List.length_nil, Nat.reduceAdd, Nat.reduceSub, Array.replicate_succ, Array.replicate_zero, List.push_toArray, List.append_toArray, List.nil_append, List.cons_append]
      gi_wp2
      refine ⟨trivial, (callsIn_wide.2 (implWorldOk_any d p _ hbs hR1)).mono ?_⟩
      rintro e w1 ⟨rfl, b1⟩
      rw [HW.out]
      have HF : Hid (Below w.heap.size w w1) := bel_trans B b1
      obtain ⟨x0, x1, x2, xz⟩ := (XW.below b1).at3
      clear b1 hR1 B XW
      gi_wp2
      refine ⟨trivial, (callsIn_wide.2 (isNode_h f d.size _ HD4.out)).mono ?_⟩
      rintro e w2 ⟨rfl, h⟩
      replace h := h.symm
      subst h
      rw [H1.out]
      gi_wp2
      refine ⟨trivial, ?_⟩
      gi_wp2
      refine ⟨.slice none 0 0, ?_, msgs_no HC.out HF.out⟩
      simp [results, Tryz.f8, go_sem]
    · cases h2 : inB t 0 (d.size - 1)
      · have HC : Hid (comW d f t = []) := comW_no (by rw [hw, h1, h2]; rfl)
        have H1 : Hid (inB f 0 (d.size - 1) = true) := h1
        have H2 : Hid (inB t 0 (d.size - 1) = false) := h2
        clear h1 h2
        have B := bel_alloc (Below.refl w.heap.size w) (.cells (wcells d p) 32)
        have XW := Box.new w (wcells d p) 32
        have hR1 := hR.below B
        have HW : Hid (worldB d = true) := hw
        have HD4 : Hid (d.size ≤ 4) := by have h1 := (WOk.of hw).n.1; have h2 := (WOk.of hw).n.2.2; show _ ≤ _; omega
        clear hR hw
        refine (callsIn_wide (n := 6)).1 ?_
        refine callsIn_of_wp_marks Tryz.func8 rfl trivial ?_ rfl
        simp only [Tryz.ntmps8, List.size_toArray, List.length_cons, List.length_nil, Nat.reduceAdd, Nat.reduceSub, Array.replicate_succ, Array.replicate_zero, List.push_toArray, List.append_toArray, List.nil_append, List.cons_append]
        gi_wp2
        refine ⟨trivial, (callsIn_wide.2 (implWorldOk_any d p _ hbs hR1)).mono ?_⟩
        rintro e w1 ⟨rfl, b1⟩
        rw [HW.out]
        have HF : Hid (Below w.heap.size w w1) := bel_trans B b1
        obtain ⟨x0, x1, x2, xz⟩ := (XW.below b1).at3
        clear b1 hR1 B XW
        gi_wp2
        refine ⟨trivial, (callsIn_wide.2 (isNode_h f d.size _ HD4.out)).mono ?_⟩
        rintro e w2 ⟨rfl, h⟩
        replace h := h.symm
        subst h
        rw [H1.out]
        gi_wp2
        refine ⟨trivial, (callsIn_wide.2 (isNode_h t d.size _ HD4.out)).mono ?_⟩
        rintro e w2 ⟨rfl, h⟩
        replace h := h.symm
        subst h
        rw [H2.out]
        gi_wp2
        refine ⟨.slice none 0 0, ?_, msgs_no HC.out HF.out⟩
        simp [results, Tryz.f8, go_sem]
      · have hok := WOk.of hw
        have hsz : d.size = (d.nn : Int) := hok.n.1
        obtain ⟨f0, f1⟩ : 0 ≤ f ∧ f ≤ d.size - 1 := by simpa [inB] using h1
        obtain ⟨t0, t1⟩ : 0 ≤ t ∧ t ≤ d.size - 1 := by simpa [inB] using h2
        obtain ⟨fn, rfl⟩ : ∃ x : Nat, f = (x : Int) := ⟨f.toNat, by omega⟩
        obtain ⟨tn, rfl⟩ : ∃ x : Nat, t = (x : Int) := ⟨t.toNat, by omega⟩
        have e : comW d (fn : Int) (tn : Int) = comD d fn tn := comW_yes (by rw [hw, h1, h2]; rfl)
        rw [e]
        exact implComing_in d p fn tn w hbs hR hw (by omega) (by omega)
end Go.Proofs.YtiaiomjoapbalaaGreat
