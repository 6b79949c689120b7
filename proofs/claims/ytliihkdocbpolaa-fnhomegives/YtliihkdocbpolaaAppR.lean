/- 'append' of a row that is read, nil or not; what the specification's l4Copy does. -/
import Derived.Test.YtliihkdocbpolaaHomT
import Derived.Test.YtliihkdocbpolaaHomN
import Derived.Test.YtliihkdocbpolaaKeep
import Derived.Test.YtliihkdocbpolaaInfos
import Derived.Deep.AppendLies
namespace Go
open Go.RowKit
theorem run_append_noneYtliihkdocbpolaa {P : Program} {w : World} (base : Nat) (t ty e : TypeId) (i : TypeInfo) (size : Nat) (ht : P.underlying t = some (.slice e)) (hi : P.info? e = some i)
    (v : Value) (n c : Nat) (xs : List Value) (hown : w.ownsRow base e size v n xs) :
    (Builtin.append_ #[t, t] ty #[v, .slice none 0 c]).run P w = .ok v w := by
  rcases hown.2 with ⟨rfl, rfl⟩ | ⟨g, cap, cur, rfl, _, _, hnc, _⟩
  · simp [Builtin.append_, run_underlying ht, sizeOf, typeInfo, hi, Builtin.lenOf, Builtin.firstCells]
  · simp [Builtin.append_, run_underlying ht, sizeOf, typeInfo, hi, Builtin.lenOf, Builtin.firstCells, hnc, storeCells]

theorem wp_append_rowYtliihkdocbpolaa {P : Program} {w : World} {o : Oper} {a : Act} {K : Act → World → Prop} {Q : Exit → Act → World → Prop} (s x : Operand) (t : TypeId)
    (ho : o.op = .call { callee := .builtin .append, args := #[s, x], argTypes := #[t, t] })
    (base : Nat) (e : TypeId) (i : TypeInfo) (z : Value) (size bytes : Nat) (ht : P.underlying t = some (.slice e)) (hi : P.info? e = some i) (hz : i.zero = some z)
    (hsize : i.size = size) (hby : i.bytes = bytes) (hzs : z.cells.size = size) (hsz : 0 < size)
    (v : Value) (n : Nat) (xs : List Value) (hs : a.eval s = v) (hown : w.ownsRow base e size v n xs)
    (av : Option Addr) (m c : Nat) (news : List Value) (hx : a.eval x = .slice av m c) (hl : news.length = m * size) (hnews : ∀ j u, news[j]? = some u → ∃ b off, av = some ⟨b, off, none⟩ ∧ w.cell? ⟨b, off + j, none⟩ = some u) (h1 : ∀ u ∈ news, u.oneCell' = true)
    (h63 : n + m ≤ maxLen) (hbytes : (n + m) * bytes ≤ 140737488355328) (hbase : base ≤ w.heap.size)
    (h : ∀ v' w', w'.ownsRow base e size v' (n + m) (xs ++ news) → w.grownBy w' v.ownBlock → K (a.put o.dst v') w') : o.wp P a w K Q := by
  cases av with
  | none =>
    have hm : news = [] := by
      cases hn : news with
      | nil => rfl
      | cons u us =>
        obtain ⟨b, off, hb, _⟩ := hnews 0 u (by rw [hn]; rfl)
        cases hb
    subst hm
    have hm0 : m = 0 := by
      rcases Nat.mul_eq_zero.1 (show m * size = 0 by simpa using hl.symm) with h | h
      · exact h
      · omega
    subst hm0
    have hr := run_append_noneYtliihkdocbpolaa (P := P) base t o.type e i size ht hi v n c xs hown
    unfold Oper.wp execOp
    simp only [ho, resolve, invoke, builtin, Sem.run_bind, Sem.run_pure, Result.andThen_ok, List.map_toArray, List.map_cons, List.map_nil, hs, hx, hr]
    exact h v w (by simpa using hown) (World.grownBy.refl _ _)
  | some ad =>
    refine wp_append_own w s x t ho base e i z size bytes ht hi hz hsize hby hzs hsz v n xs hs hown ad m c news hx hl (fun j u hu => ?_) h1 h63 hbytes hbase (fun v' w' h2 h3 _ => h v' w' h2 h3)
    obtain ⟨b, off, hb, hc⟩ := hnews j u hu
    simp only [Option.some.injEq] at hb
    subst hb
    have e1 : (⟨b, off, none⟩ : Addr).add j = ⟨b, off + j, none⟩ := by
      unfold Addr.add
      split <;> simp_all
    rw [e1]
    exact hc

theorem wpList_append_rowYtliihkdocbpolaa {P : Program} {w : World} {ops : Array Oper} {rest : List Oper} {o : Oper} {a : Act} {Q : Exit → Act → World → Prop} (hgd : o.guard = none) (s x : Operand) (t : TypeId)
    (ho : o.op = .call { callee := .builtin .append, args := #[s, x], argTypes := #[t, t] })
    (base : Nat) (e : TypeId) (i : TypeInfo) (z : Value) (size bytes : Nat) (ht : P.underlying t = some (.slice e)) (hi : P.info? e = some i) (hz : i.zero = some z)
    (hsize : i.size = size) (hby : i.bytes = bytes) (hzs : z.cells.size = size) (hsz : 0 < size)
    (v : Value) (n : Nat) (xs : List Value) (hs : a.eval s = v) (hown : w.ownsRow base e size v n xs)
    (av : Option Addr) (m c : Nat) (news : List Value) (hx : a.eval x = .slice av m c) (hl : news.length = m * size) (hnews : ∀ j u, news[j]? = some u → ∃ b off, av = some ⟨b, off, none⟩ ∧ w.cell? ⟨b, off + j, none⟩ = some u) (h1 : ∀ u ∈ news, u.oneCell' = true)
    (h63 : n + m ≤ maxLen) (hbytes : (n + m) * bytes ≤ 140737488355328) (hbase : base ≤ w.heap.size)
    (h : ∀ v' w', w'.ownsRow base e size v' (n + m) (xs ++ news) → w.grownBy w' v.ownBlock → wpList P ops Q rest (a.put o.dst v') w') : wpList P ops Q (o :: rest) a w :=
  wpList_plain hgd fun _ hK => wp_append_rowYtliihkdocbpolaa s x t ho base e i z size bytes ht hi hz hsize hby hzs hsz v n xs hs hown av m c news hx hl hnews h1 h63 hbytes hbase fun v' w' h2 h3 => hK _ _ (h v' w' h2 h3)

theorem step_append_rowYtliihkdocbpolaa {P : Program} {w : World} {ops : Array Oper} {o : Oper} {a : Act} {K : Act → World → Prop} {Q : Exit → Act → World → Prop} {E : Prop} (hgd : o.guard = none) (s x : Operand) (t : TypeId)
    (ho : o.op = .call { callee := .builtin .append, args := #[s, x], argTypes := #[t, t] })
    (base : Nat) (e : TypeId) (i : TypeInfo) (z : Value) (size bytes : Nat) (ht : P.underlying t = some (.slice e)) (hi : P.info? e = some i) (hz : i.zero = some z)
    (hsize : i.size = size) (hby : i.bytes = bytes) (hzs : z.cells.size = size) (hsz : 0 < size)
    (v : Value) (n : Nat) (xs : List Value) (hs : a.eval s = v) (hown : w.ownsRow base e size v n xs)
    (av : Option Addr) (m c : Nat) (news : List Value) (hx : a.eval x = .slice av m c) (hl : news.length = m * size) (hnews : ∀ j u, news[j]? = some u → ∃ b off, av = some ⟨b, off, none⟩ ∧ w.cell? ⟨b, off + j, none⟩ = some u) (h1 : ∀ u ∈ news, u.oneCell' = true)
    (h63 : n + m ≤ maxLen) (hbytes : (n + m) * bytes ≤ 140737488355328) (hbase : base ≤ w.heap.size)
    (h : ∀ v' w', w'.ownsRow base e size v' (n + m) (xs ++ news) → w.grownBy w' v.ownBlock → K (a.put o.dst v') w') : if Region.wanted o (yielded ops a.tmps) = true then Oper.wp P o a w K Q else E := by
  have hw : Region.wanted o (yielded ops a.tmps) = true := by simp [Region.wanted, hgd]
  rw [if_pos hw]
  exact wp_append_rowYtliihkdocbpolaa s x t ho base e i z size bytes ht hi hz hsize hby hzs hsz v n xs hs hown av m c news hx hl hnews h1 h63 hbytes hbase h
end Go
namespace Go.Proofs.Ytliihkdocbpolaa
open Go.RowKit
set_option linter.unusedVariables false

theorem row_v {w : World} {a : Option Addr} {xs : List Int} (h : Row .i64 w a xs) (hl : xs.length ≤ 1048577) : VRow w a (xs.map (Value.int .i64)) := by
  refine ⟨by rw [List.length_map]; omega, fun i v hv => ?_⟩
  have hi : i < xs.length := by
    have := (List.getElem?_eq_some_iff.1 hv).1
    simpa using this
  obtain ⟨b, off, e, hc⟩ := h.2 i hi
  refine ⟨b, off, e, ?_⟩
  rw [hc]
  rw [List.getElem?_map, List.getElem?_eq_getElem hi] at hv
  simp at hv
  rw [← hv]
  simp [hi]

theorem wv_oneR (ws : List (Int × Bool)) : ∀ v ∈ wv ws, v.oneCell' = true := by
  intro v hv
  simp only [wv, List.mem_flatMap] at hv
  obtain ⟨p, _, hp⟩ := hv
  simp at hp
  rcases hp with rfl | rfl <;> rfl
theorem bv_oneR (bs : List Bool) : ∀ v ∈ bv bs, v.oneCell' = true := by
  intro v hv
  simp only [bv, List.mem_map] at hv
  obtain ⟨p, _, rfl⟩ := hv
  rfl

theorem own_litE (W : World) (e s base : Nat) (h : base ≤ W.heap.size) : (W.alloc (.cells #[] e)).ownsRow base e s (.slice (some ⟨W.heap.size, 0, none⟩) 0 0) 0 [] :=
  World.ownsRow_lit W #[] 0 h (by simp [maxLen]) (by simp)

set_option maxRecDepth 100000 in
set_option maxHeartbeats 4000000 in
theorem l4Copy_p (ow wh ak : Int) (bz wo : Bool) (xs : List Int) (bs : List Bool) (ws : List (Int × Bool)) (al ar aq : Option Addr) (cl cr cq : Nat) (w : World) (hx : xs.length ≤ 1048577 ∧ bs.length ≤ 1048577 ∧ ws.length ≤ 1048577) (hal : Row .i64 w al xs) (har : VRow w ar (bv bs)) (haq : VRow w aq (wv ws)) :
    Calls Try.prog 23 #[.agg #[.slice al xs.length cl, .int .i64 ow, .slice ar bs.length cr, .bool bz, .int .i64 wh, .bool wo, .int .i64 ak, .slice aq ws.length cq]] w fun e w' => ∃ a1 c1 a2 c2 a3 c3, e = .returned (.agg #[.slice a1 xs.length c1, .int .i64 ow, .slice a2 bs.length c2, .bool bz, .int .i64 wh, .bool wo, .int .i64 ak, .slice a3 ws.length c3]) ∧ w'.ownsRow w.heap.size 3 1 (.slice a1 xs.length c1) xs.length (xs.map (Value.int .i64)) ∧ w'.ownsRow w.heap.size 4 1 (.slice a2 bs.length c2) bs.length (bv bs) ∧ w'.ownsRow w.heap.size 27 2 (.slice a3 ws.length c3) ws.length (wv ws) ∧ Below w.heap.size w w' := by
  obtain ⟨i1, hi1, hz10, hz11, hz12⟩ := info_parts info_i64
  obtain ⟨i2, hi2, hz20, hz21, hz22⟩ := info_parts info_bool
  obtain ⟨i3, hi3, hz30, hz31, hz32⟩ := info_parts info_wait
  have B := bel_alloc (bel_alloc (Below.refl w.heap.size w) (.cells #[.slice al xs.length cl, .int .i64 ow, .slice ar bs.length cr, .bool bz, .int .i64 wh, .bool wo, .int .i64 ak, .slice aq ws.length cq] 30)) (.cells #[.slice none 0 0, .int .i64 0, .slice none 0 0, .bool false, .int .i64 0, .bool false, .int .i64 0, .slice none 0 0] 30)
  obtain ⟨X0, X1⟩ := Box.two w #[.slice al xs.length cl, .int .i64 ow, .slice ar bs.length cr, .bool bz, .int .i64 wh, .bool wo, .int .i64 ak, .slice aq ws.length cq] #[.slice none 0 0, .int .i64 0, .slice none 0 0, .bool false, .int .i64 0, .bool false, .int .i64 0, .slice none 0 0] 30 30
  obtain ⟨hx1, hx2, hx3⟩ := hx
  obtain ⟨W0, hW0⟩ : ∃ W0, (w.alloc (.cells #[.slice al xs.length cl, .int .i64 ow, .slice ar bs.length cr, .bool bz, .int .i64 wh, .bool wo, .int .i64 ak, .slice aq ws.length cq] 30)).alloc (.cells #[.slice none 0 0, .int .i64 0, .slice none 0 0, .bool false, .int .i64 0, .bool false, .int .i64 0, .slice none 0 0] 30) = W0 := ⟨_, rfl⟩
  have HWE : Hid ((w.alloc (.cells #[.slice al xs.length cl, .int .i64 ow, .slice ar bs.length cr, .bool bz, .int .i64 wh, .bool wo, .int .i64 ak, .slice aq ws.length cq] 30)).alloc (.cells #[.slice none 0 0, .int .i64 0, .slice none 0 0, .bool false, .int .i64 0, .bool false, .int .i64 0, .slice none 0 0] 30) = W0) := hW0
  have HZ0 : Hid (W0.heap.size = w.heap.size + 2) := by show _ = _; rw [← hW0]; simp
  rw [hW0] at B X0 X1
  have HV1 := row_v hal hx1
  clear hal
  go_enter Try.func23, Try.ntmps23
  have oE1 := own_litE W0 3 1 W0.heap.size (Nat.le_refl _)
  have bE1 := bel_alloc (Below.refl W0.heap.size W0) (.cells #[] 3)
  have x1 : (W0.alloc (.cells #[] 3)).cell? ⟨w.heap.size, 0, none⟩ = some (.slice al xs.length cl) := (X0.below bE1).cell 0
  have xz1 := (X0.below bE1).lt
  have hv1 := (HV1.below B).below bE1
  go_wp2_with (at_builtin; refine wpList_append_rowYtliihkdocbpolaa rfl (.tmp 3) (.tmp 5) 24 rfl W0.heap.size 3 i1 (.int .i64 0) 1 8 Try.underlying24 hi1 hz10 hz11 hz12 rfl (by decide) (.slice (some ⟨W0.heap.size, 0, none⟩) 0 0) 0 [] (by rfl) oE1 al xs.length cl (xs.map (Value.int .i64)) (by rfl) (by simp) hv1.2 (by intro u hu; obtain ⟨x, _, rfl⟩ := List.mem_map.1 hu; rfl) (by unfold maxLen; omega) (by omega) (by simp) ?_)
  intro v1 w1 o1 g1
  obtain ⟨a1, c1, rfl⟩ := owns_slice o1
  have on1 : Only (W0.alloc (.cells #[] 3)) w1 (fun x => x = W0.heap.size) := (Only.refl _ _).grown g1 (fun j hj => by simpa [Value.ownBlock] using hj.symm)
  replace X0 := (X0.below bE1).only on1 (fun e => by have := X0.lt; omega)
  replace X1 := (X1.below bE1).only on1 (fun e => by have := X1.lt; omega)
  replace B : Below w.heap.size w w1 := (bel_trans B bE1).trans ⟨on1.os, on1.tape, on1.output, on1.size, fun i hi => on1.block i (by have := (bel_trans B bE1).size; omega) (fun e => by have := B.size; omega)⟩
  have L1 : Hid (∀ j, (Value.slice a1 xs.length c1).ownBlock = some j → w.heap.size + 2 ≤ j) := fun j h => by have := (o1.lt j h).1; have := HZ0.out; omega
  replace o1 := owns_base o1 (b' := w.heap.size) (by have := HZ0.out; omega)
  have hz1 : w.heap.size + 2 ≤ w1.heap.size := by have h1 := on1.size; simp at h1; have := HZ0.out; omega
  clear oE1 bE1 hv1 g1 on1 x1 xz1
  obtain ⟨y0, y1, y2, y3, y4, y5, y6, y7, yz⟩ := at8' X0
  have fz := X0.frozen 0
  replace X0 : Box (w1.setCell ⟨w.heap.size, 0, none⟩ (.slice a1 xs.length c1)) w.heap.size #[.slice a1 xs.length c1, .int .i64 ow, .slice ar bs.length cr, .bool bz, .int .i64 wh, .bool wo, .int .i64 ak, .slice aq ws.length cq] 30 := heap_setCell_same _ _ 0 _ _ _ X0
  replace X1 := X1.far ⟨w.heap.size, 0, none⟩ (.slice a1 xs.length c1) (by first | omega | (simp; done) | (simp; omega))
  replace B := bel_setCell B ⟨w.heap.size, 0, none⟩ (.slice a1 xs.length c1) (by first | omega | (simp; done) | (simp; omega))
  replace o1 := owns_setCell o1 (a := ⟨w.heap.size, 0, none⟩) (fun j hj he => by have := L1.out j hj; subst he; simp at this; omega) (.slice a1 xs.length c1)
  obtain ⟨V1, hV1⟩ : ∃ V, w1.setCell ⟨w.heap.size, 0, none⟩ (.slice a1 xs.length c1) = V := ⟨_, rfl⟩
  have HVE1 : Hid (w1.setCell ⟨w.heap.size, 0, none⟩ (.slice a1 xs.length c1) = V1) := hV1
  rw [hV1] at X0 X1 B o1
  have hzV1 : w.heap.size + 2 ≤ V1.heap.size := by rw [← hV1]; simpa using hz1
  have oE2 := own_litE V1 4 1 V1.heap.size (Nat.le_refl _)
  have bE2 := bel_alloc (Below.refl V1.heap.size V1) (.cells #[] 4)
  have x2 : (V1.alloc (.cells #[] 4)).cell? ⟨w.heap.size, 2, none⟩ = some (.slice ar bs.length cr) := (X0.below bE2).cell 2
  have xz2 := (X0.below bE2).lt
  have hv2 := (har.below B).below bE2
  go_wp2_with (at_builtin; refine wpList_append_rowYtliihkdocbpolaa rfl (.tmp 8) (.tmp 10) 25 rfl V1.heap.size 4 i2 (.bool false) 1 1 Try.underlying25 hi2 hz20 hz21 hz22 rfl (by decide) (.slice (some ⟨V1.heap.size, 0, none⟩) 0 0) 0 [] (by rfl) oE2 ar bs.length cr (bv bs) (by rfl) (by rw [bv_length]; omega) hv2.2 (bv_oneR _) (by unfold maxLen; omega) (by omega) (by simp) ?_)
  intro v2 w2 o2 g2
  obtain ⟨a2, c2, rfl⟩ := owns_slice o2
  have on2 : Only (V1.alloc (.cells #[] 4)) w2 (fun x => x = V1.heap.size) := (Only.refl _ _).grown g2 (fun j hj => by simpa [Value.ownBlock] using hj.symm)
  replace X0 := (X0.below bE2).only on2 (fun e => by have := X0.lt; omega)
  replace X1 := (X1.below bE2).only on2 (fun e => by have := X1.lt; omega)
  replace B : Below w.heap.size w w2 := (bel_trans B bE2).trans ⟨on2.os, on2.tape, on2.output, on2.size, fun i hi => on2.block i (by have := (bel_trans B bE2).size; omega) (fun e => by have := B.size; omega)⟩
  replace o1 := owns_only (owns_below o1 bE2) on2 (fun x hx e => by have := (o1.lt x hx).2; omega)
  have L2 : Hid (∀ j, (Value.slice a2 bs.length c2).ownBlock = some j → w.heap.size + 2 ≤ j) := fun j h => by have := (o2.lt j h).1; have := HZ0.out; omega
  replace o2 := owns_base o2 (b' := w.heap.size) (by have := HZ0.out; omega)
  have hz2 : w.heap.size + 2 ≤ w2.heap.size := by have h1 := on2.size; simp at h1; have := HZ0.out; omega
  clear oE2 bE2 hv2 g2 on2 x2 xz2
  obtain ⟨y0, y1, y2, y3, y4, y5, y6, y7, yz⟩ := at8' X0
  have fz := X0.frozen 2
  replace X0 : Box (w2.setCell ⟨w.heap.size, 2, none⟩ (.slice a2 bs.length c2)) w.heap.size #[.slice a1 xs.length c1, .int .i64 ow, .slice a2 bs.length c2, .bool bz, .int .i64 wh, .bool wo, .int .i64 ak, .slice aq ws.length cq] 30 := heap_setCell_same _ _ 2 _ _ _ X0
  replace X1 := X1.far ⟨w.heap.size, 2, none⟩ (.slice a2 bs.length c2) (by first | omega | (simp; done) | (simp; omega))
  replace B := bel_setCell B ⟨w.heap.size, 2, none⟩ (.slice a2 bs.length c2) (by first | omega | (simp; done) | (simp; omega))
  replace o1 := owns_setCell o1 (a := ⟨w.heap.size, 2, none⟩) (fun j hj he => by have := L1.out j hj; subst he; simp at this; omega) (.slice a2 bs.length c2)
  replace o2 := owns_setCell o2 (a := ⟨w.heap.size, 2, none⟩) (fun j hj he => by have := L2.out j hj; subst he; simp at this; omega) (.slice a2 bs.length c2)
  obtain ⟨V2, hV2⟩ : ∃ V, w2.setCell ⟨w.heap.size, 2, none⟩ (.slice a2 bs.length c2) = V := ⟨_, rfl⟩
  have HVE2 : Hid (w2.setCell ⟨w.heap.size, 2, none⟩ (.slice a2 bs.length c2) = V2) := hV2
  rw [hV2] at X0 X1 B o1 o2
  have hzV2 : w.heap.size + 2 ≤ V2.heap.size := by rw [← hV2]; simpa using hz2
  have oE3 := own_litE V2 27 2 V2.heap.size (Nat.le_refl _)
  have bE3 := bel_alloc (Below.refl V2.heap.size V2) (.cells #[] 27)
  have x3 : (V2.alloc (.cells #[] 27)).cell? ⟨w.heap.size, 7, none⟩ = some (.slice aq ws.length cq) := (X0.below bE3).cell 7
  have xz3 := (X0.below bE3).lt
  have hv3 := (haq.below B).below bE3
  go_wp2_with (at_builtin; refine wpList_append_rowYtliihkdocbpolaa rfl (.tmp 13) (.tmp 15) 28 rfl V2.heap.size 27 i3 (.agg #[.int .i64 0, .bool false]) 2 16 Try.underlying28 hi3 hz30 hz31 hz32 rfl (by decide) (.slice (some ⟨V2.heap.size, 0, none⟩) 0 0) 0 [] (by rfl) oE3 aq ws.length cq (wv ws) (by rfl) (wv_length _) hv3.2 (wv_oneR _) (by unfold maxLen; omega) (by omega) (by simp) ?_)
  intro v3 w3 o3 g3
  obtain ⟨a3, c3, rfl⟩ := owns_slice o3
  have on3 : Only (V2.alloc (.cells #[] 27)) w3 (fun x => x = V2.heap.size) := (Only.refl _ _).grown g3 (fun j hj => by simpa [Value.ownBlock] using hj.symm)
  replace X0 := (X0.below bE3).only on3 (fun e => by have := X0.lt; omega)
  replace X1 := (X1.below bE3).only on3 (fun e => by have := X1.lt; omega)
  replace B : Below w.heap.size w w3 := (bel_trans B bE3).trans ⟨on3.os, on3.tape, on3.output, on3.size, fun i hi => on3.block i (by have := (bel_trans B bE3).size; omega) (fun e => by have := B.size; omega)⟩
  replace o1 := owns_only (owns_below o1 bE3) on3 (fun x hx e => by have := (o1.lt x hx).2; omega)
  replace o2 := owns_only (owns_below o2 bE3) on3 (fun x hx e => by have := (o2.lt x hx).2; omega)
  have L3 : Hid (∀ j, (Value.slice a3 ws.length c3).ownBlock = some j → w.heap.size + 2 ≤ j) := fun j h => by have := (o3.lt j h).1; have := HZ0.out; omega
  replace o3 := owns_base o3 (b' := w.heap.size) (by have := HZ0.out; omega)
  have hz3 : w.heap.size + 2 ≤ w3.heap.size := by have h1 := on3.size; simp at h1; have := HZ0.out; omega
  clear oE3 bE3 hv3 g3 on3 x3 xz3
  obtain ⟨x0, x1, x2, x3, x4, x5, x6, x7, zx⟩ := at8' X0
  have fz := X0.frozen 7
  obtain ⟨y0, y1, y2, y3, y4, y5, y6, y7, zy⟩ := at8' X1
  have g0 := X1.frozen 0
  have g1 := X1.frozen 1
  have g2 := X1.frozen 2
  have g3 := X1.frozen 3
  have g4 := X1.frozen 4
  have g5 := X1.frozen 5
  have g6 := X1.frozen 6
  have g7 := X1.frozen 7
  have HB : Hid (Below w.heap.size w w3) := B
  have O1 : Hid _ := o1
  have O2 : Hid _ := o2
  have O3 : Hid _ := o3
  clear X0 X1 B o1 o2 o3 HV1 har haq
  go_wp2
  refine bodyPost_ret (v := .agg #[.slice a1 xs.length c1, .int .i64 ow, .slice a2 bs.length c2, .bool bz, .int .i64 wh, .bool wo, .int .i64 ak, .slice a3 ws.length c3]) (by simp [results, Try.results23, go_sem, y0, y1, y2, y3, y4, y5, y6, y7]) rfl ⟨a1, c1, a2, c2, a3, c3, rfl, ?_, ?_, ?_, ?_⟩
  · repeat refine owns_setCell ?_ ?_ _
    · exact O1.out
    all_goals (intro j h; have := L1.out j h; simp; omega)
  · repeat refine owns_setCell ?_ ?_ _
    · exact O2.out
    all_goals (intro j h; have := L2.out j h; simp; omega)
  · repeat refine owns_setCell ?_ ?_ _
    · exact O3.out
    all_goals (intro j h; have := L3.out j h; simp; omega)
  · repeat refine bel_setCell ?_ _ _ ?_
    · exact HB.out
    all_goals (simp; try omega)
end Go.Proofs.Ytliihkdocbpolaa
