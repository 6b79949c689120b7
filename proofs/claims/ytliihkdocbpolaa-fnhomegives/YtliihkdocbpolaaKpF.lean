/- KpM and KpF: see the heads of the parts. -/
import Derived.Test.YtliihkdocbpolaaKpH
/- What impl's keeperOf does. -/
namespace Go.Proofs.Ytliihkdocbpolaa
open Go.RowKit Go.Maps
set_option linter.unusedVariables false
set_option linter.unusedSimpArgs false

/-- The readers among the first k. -/
def rdTo (bs : List Bool) (k : Nat) : List Bool := (List.range bs.length).map fun (i : Nat) => bs.getD i false && decide (i < k)
theorem rdTo_length (bs : List Bool) (k : Nat) : (rdTo bs k).length = bs.length := by simp [rdTo]
theorem rdTo_getD (bs : List Bool) (k i : Nat) (hi : i < bs.length) : (rdTo bs k).getD i false = (bs.getD i false && decide (i < k)) := by simp [rdTo, List.getD, hi]
theorem rdTo_all (bs : List Bool) : rdTo bs bs.length = bs := by
  refine List.ext_getElem (rdTo_length _ _) fun i h1 h2 => ?_
  simp [rdTo, h2]
theorem rdTo_no {bs : List Bool} {k : Nat} (h : bs.getD k false = false) : rdTo bs (k + 1) = rdTo bs k := by
  refine List.ext_getElem (by simp [rdTo]) fun i h1 h2 => ?_
  simp [rdTo] at h1 ⊢
  by_cases e : i = k
  · subst e
    simp at h
    simp [h1] at h
    simp [h1, h]
  · have : (i < k + 1) ↔ i < k := by omega
    simp [this]
theorem rdTo_yes {bs : List Bool} {k : Nat} (hk : k < bs.length) (h : bs.getD k false = true) : rdTo bs (k + 1) = rdAdd (rdTo bs k) k := by
  refine List.ext_getElem (by simp [rdTo, rdAdd]) fun i h1 h2 => ?_
  have hi : i < bs.length := by simpa [rdTo] using h1
  have e1 : (rdTo bs (k + 1))[i] = (rdTo bs (k + 1)).getD i false := by simp [List.getD, h1]
  have e2 : (rdAdd (rdTo bs k) k)[i] = ((rdTo bs k).getD i false || decide ((i : Int) = k)) := by simp [rdAdd]
  rw [e1, e2, rdTo_getD _ _ _ hi, rdTo_getD _ _ _ hi]
  by_cases e : i = k
  · subst e
    rw [h]
    simp
  · have h3 : decide (i < k + 1) = decide (i < k) := by simp; omega
    have h4 : ¬ (i : Int) = k := by omega
    simp [h3, h4]
theorem rdTo_B0 (bs : List Bool) (i : Int) : rdB (rdTo bs 0) i = false := by
  unfold rdB
  by_cases hi : i.toNat < bs.length
  · rw [rdTo_getD _ _ _ hi]
    simp
  · have : (rdTo bs 0).getD i.toNat false = false := by simp [List.getElem?_eq_none (show (rdTo bs 0).length ≤ i.toNat by rw [rdTo_length]; omega)]
    rw [this]
    simp

abbrev hcells (al ar aq : Option Addr) (cl nr cr nq cq : Nat) (ow wh ak : Int) (bz wo : Bool) : Array Value := #[.slice al 4 cl, .int .i64 ow, .slice ar nr cr, .bool bz, .int .i64 wh, .bool wo, .int .i64 ak, .slice aq nq cq]

set_option maxRecDepth 100000 in
set_option maxHeartbeats 2000000 in
theorem keeperOf_any (pg ow wh ak : Int) (bz wo : Bool) (bl ol : Nat) (ar aq : Option Addr) (cl cr cq : Nat) (x0 x1 x2 x3 : Int) (bs : List Bool) (ws : List (Int × Bool)) (w : World) (hbs : bs.length ≤ 4) (hws : ws.length ≤ 20)
    (h0 : w.cell? ⟨bl, ol, none⟩ = some (.int .i64 x0)) (h1 : w.cell? ⟨bl, ol + 1, none⟩ = some (.int .i64 x1)) (h2 : w.cell? ⟨bl, ol + 2, none⟩ = some (.int .i64 x2)) (h3 : w.cell? ⟨bl, ol + 3, none⟩ = some (.int .i64 x3)) (hw : [x0, x1, x2, x3].all wordB = true)
    (hr : VRow w ar (bv bs)) (hq : VRow w aq (wv ws)) (hqb : ∀ b off s, aq = some ⟨b, off, s⟩ → b < w.heap.size) :
    Calls Try.prog 16 #[.agg (hcells (some ⟨bl, ol, none⟩) ar aq cl bs.length cr ws.length cq ow wh ak bz wo), .int .i64 pg] w fun e w' =>
      ∃ kB mB, e = .returned (.pointer (some ⟨kB, 0, none⟩)) ∧ KLies w.heap.size w' kB mB aq cq (.slice none 0 0) ⟨pg, bs.length, x0, x1, x2, x3, ow, bs, bz, wh, wo, ak, ws, []⟩ bs.length ∧ Below w.heap.size w w' := by
  have hmm := @run_makeMap Try.prog
  have b0 := bel_alloc (Below.refl w.heap.size w) (.cells (hcells (some ⟨bl, ol, none⟩) ar aq cl bs.length cr ws.length cq ow wh ak bz wo) 30)
  have X0 := Box.new w (hcells (some ⟨bl, ol, none⟩) ar aq cl bs.length cr ws.length cq ow wh ak bz wo) 30
  have bb : bl < w.heap.size := lt_of_cell h0
  replace h0 := (b0.cell (p := ⟨bl, ol, none⟩) bb).trans h0
  replace h1 := (b0.cell (p := ⟨bl, ol + 1, none⟩) bb).trans h1
  replace h2 := (b0.cell (p := ⟨bl, ol + 2, none⟩) bb).trans h2
  replace h3 := (b0.cell (p := ⟨bl, ol + 3, none⟩) bb).trans h3
  have HG : Hid (_ ∧ _ ∧ _ ∧ _) := ⟨h0, h1, h2, h3⟩
  clear h0 h1 h2 h3 bb
  go_enter Try.func16, Try.ntmps16
  go_wp2_with fail
  refine (words_four bl ol cl x0 x1 x2 x3 _ HG.out.1 HG.out.2.1 HG.out.2.2.1 HG.out.2.2.2).mono ?_
  rintro e w1 ⟨c0, c1, c2, c3, rfl, hc, b1⟩
  obtain ⟨rfl, rfl, rfl, rfl⟩ := hc hw
  clear hc HG hw
  replace X0 := X0.below b1
  have B1 := bel_trans b0 b1
  have x0 := X0.cell 0
  have x1 := X0.cell 1
  have x2 := X0.cell 2
  have x3 := X0.cell 3
  have x4 := X0.cell 4
  have x5 := X0.cell 5
  have x6 := X0.cell 6
  have x7 := X0.cell 7
  have z1 := X0.lt
  have AL := bel_alloc (bel_alloc (bel_alloc (Below.refl w1.heap.size w1) (.cells #[.int .i64 c0, .int .i64 c1, .int .i64 c2, .int .i64 c3] 54)) (.map #[] 0)) (.cells #[.int .i64 pg, .int .i64 (bs.length : Int), .int .i64 c0, .int .i64 c1, .int .i64 c2, .int .i64 c3, .int .i64 ow, .map (some (w1.heap.size + 1)), .bool bz, .int .i64 wh, .bool wo, .int .i64 ak, .slice aq ws.length cq, .slice none 0 0] 58)
  have X4 := X0.below AL
  have y2 := X4.cell 2
  have B4 := bel_trans B1 AL
  have KB := Box.new ((w1.alloc (.cells #[.int .i64 c0, .int .i64 c1, .int .i64 c2, .int .i64 c3] 54)).alloc (.map #[] 0)) #[.int .i64 pg, .int .i64 (bs.length : Int), .int .i64 c0, .int .i64 c1, .int .i64 c2, .int .i64 c3, .int .i64 ow, .map (some (w1.heap.size + 1)), .bool bz, .int .i64 wh, .bool wo, .int .i64 ak, .slice aq ws.length cq, .slice none 0 0] 58
  have MB := (World.ownsMap_made (H := Unit) (w1.alloc (.cells #[.int .i64 c0, .int .i64 c1, .int .i64 c2, .int .i64 c3] 54)) Try.prog 3 (unitElem (H := Unit))).alloc (.cells #[.int .i64 pg, .int .i64 (bs.length : Int), .int .i64 c0, .int .i64 c1, .int .i64 c2, .int .i64 c3, .int .i64 ow, .map (some (w1.heap.size + 1)), .bool bz, .int .i64 wh, .bool wo, .int .i64 ak, .slice aq ws.length cq, .slice none 0 0] 58)
  simp only [World.size_alloc] at KB MB
  have hzw : w.heap.size ≤ w1.heap.size := B1.size
  have hL : KLies w.heap.size _ (w1.heap.size + 1 + 1) (w1.heap.size + 1) aq cq (.slice none 0 0) ⟨pg, bs.length, c0, c1, c2, c3, ow, rdTo bs 0, bz, wh, wo, ak, ws, []⟩ 0 :=
    ⟨by omega, by omega, KB, ⟨_, MB, fun i hi => by rw [rdTo_B0]; rfl⟩, ⟨hq.below B4, fun b off s e => .inl (hqb b off s e)⟩, World.ownsRow_nil _ _ _ _, fun t ht => by simp at ht⟩
  have hr4 := hr.below B4
  clear b0 b1 KB MB AL B1 X0
  go_wp2_with fail
  go_loopw [37] (fun i wr => ∃ k : Nat, k ≤ bs.length ∧ i = .int .i64 k ∧ KLies w.heap.size wr (w1.heap.size + 1 + 1) (w1.heap.size + 1) aq cq (.slice none 0 0) ⟨pg, bs.length, c0, c1, c2, c3, ow, rdTo bs k, bz, wh, wo, ak, ws, []⟩ k ∧ Below w.heap.size w wr) (fun i _ => bs.length - (intOf i).toNat)
  case atStart => exact ⟨0, Nat.zero_le _, rfl, hL, B4⟩
  case round =>
    clear hL B4 hr4 X4 y2 x0 x1 x2 x3 x4 x5 x6 x7 hmm
    obtain ⟨k, hk, rfl, hL, hB⟩ := hrel
    by_cases hkn : k < bs.length
    · obtain ⟨ba, oa, rfl, hca⟩ := (hr.below hB).bool k hkn
      have hi' : (k : Int) < (bs.length : Int) := by omega
      have k7 := hL.k.cell 7
      have kz := hL.k.lt
      cases hbk : bs.getD k false
      · rw [hbk] at hca
        rw [← rdTo_no hbk] at hL
        have HR : Hid (_ ∧ _) := ⟨hL.mono (Nat.le_succ _), hB⟩
        clear hL hB hr hbk
        go_wp2
        go_roundw
        case rel => exact ⟨k + 1, by omega, by go_num, HR.out.1, HR.out.2⟩
        case measure => simp [intOf]; omega
      · rw [hbk] at hca
        obtain ⟨D, oD, hD⟩ := hL.r
        have HNX : Hid (∀ w3, w3.ownsMap Try.prog 3 (unitElem (H := Unit)) (w1.heap.size + 1) (k + 1) (D.put (.int .i64 k) (.agg [])) → wr.grownBy w3 (some (w1.heap.size + 1)) → KLies w.heap.size w3 (w1.heap.size + 1 + 1) (w1.heap.size + 1) aq cq (.slice none 0 0) ⟨pg, bs.length, c0, c1, c2, c3, ow, rdTo bs (k + 1), bz, wh, wo, ak, ws, []⟩ (k + 1) ∧ Below w.heap.size w w3) := fun w3 o3 g3 => by
          rw [rdTo_yes hkn hbk]
          exact ⟨(hL.turn g3 (SetAt.add hD oD.isMap (by rw [rdTo_length]; omega) trivial o3)).1, hB.grown g3 hB.size (fun j hj => by cases hj; omega)⟩
        have hwf : (Lit.int .i64 (k : Int)).wf = true := WalkArith.wf_i64 (by omega)
        clear hL hB hr hbk hD
        go_wp2_with (at_mapUpdate; refine wpList_mapUpdate_in _ rfl _ _ _ 55 rfl 3 74 lawInt Try.underlying55 (unitElem (H := Unit)) (w1.heap.size + 1) k D rfl oD (by unfold maxLen; omega) _ _ _ rfl rfl (keyOf_int_mk Try.underlying3 hwf) (.agg []) [] unitElem_mk ?_; intro w3 oD3 hturn3; have HR : Hid (_ ∧ _) := HNX.out w3 oD3 hturn3.grown; clear HNX oD3 hturn3)
        go_roundw
        case rel => exact ⟨k + 1, by omega, by go_num, HR.out.1, HR.out.2⟩
        case measure => simp [intOf]; omega
    · have : k = bs.length := by omega
      subst this
      rw [rdTo_all] at hL
      have HR : Hid (_ ∧ _) := ⟨hL, hB⟩
      clear hL hB hr
      go_wp2
      go_ret
      exact ⟨_, _, rfl, HR.out.1, HR.out.2⟩
end Go.Proofs.Ytliihkdocbpolaa

/- What impl's (keeper) hearings does: a map of method values. -/
namespace Go.Proofs.Ytliihkdocbpolaa
open Go.RowKit Go.Maps
set_option linter.unusedVariables false
set_option linter.unusedSimpArgs false

/-- A method of the home at kB, as a value. -/
abbrev meth (kB f : Nat) : Value := .func (Fn.func f) #[.pointer (some ⟨kB, 0, none⟩)] #[]

/-- How such a value reads: by its function's number. -/
def funcElem (kB : Nat) (v : Value) : Option (DataW Unit × List MemPlace) := match v with
  | .func (.func f) first caps => (match first.toList, caps.toList with
    | [.pointer (some ⟨b, 0, none⟩)], [] => if b = kB then some (.lit (.int .i64 (f : Int)), []) else none
    | _, _ => none)
  | .nilFunc => some (.lit .nil, [])
  | _ => none
theorem funcElem_mk (kB f : Nat) : funcElem kB (meth kB f) = some (.lit (.int .i64 (f : Int)), []) := by
  simp [funcElem, meth]
theorem funcElem_nil (kB : Nat) : funcElem kB .nilFunc = some (.lit .nil, []) := rfl
theorem funcElem_inv {kB : Nat} {v : Value} {f : Nat} {ps : List MemPlace} (h : funcElem kB v = some (.lit (.int .i64 (f : Int)), ps)) : v = meth kB f := by
  unfold funcElem at h
  split at h
  · split at h
    · rename_i h1 h2
      split at h
      · rename_i hb
        simp only [Option.some.injEq, Prod.mk.injEq, DataW.lit.injEq, Lit.int.injEq, true_and] at h
        have hf := Int.ofNat.inj h.1
        have e1 := Array.toList_inj.1 (h1.trans (show _ = (#[.pointer (some ⟨kB, 0, none⟩)] : Array Value).toList by rw [hb]))
        have e2 := Array.toList_inj.1 (h2.trans (show _ = (#[] : Array Value).toList from rfl))
        rw [hf, e1, e2]
      · cases h
    · cases h
  · simp at h
  · cases h

/-- An entry of a map's literal, in a plain region. -/
theorem wpList_insert_in {H : Type} {P : Program} (w : World) {ops : Array Oper} {rest : List Oper} {o : Oper} {a : Act} {Q : Exit → Act → World → Prop} (hg : o.guard = none) (m x v : Operand) (t : TypeId) (hop : o.op = Op.insert t m x v)
    (k e : TypeId) (K : Keyed P k) (ht : P.underlying t = some (.map k e)) (R : Value → Option (DataW H × List MemPlace)) (b n : Nat) (D : DataW H)
    (hm : a.eval m = .map (some b)) (hown : w.ownsMap P k R b n D) (hn : n < maxLen) (key val : Value) (kl : Lit) (hx : a.eval x = key) (hv : a.eval v = val) (hkey : keyOf P k key = some kl)
    (d : DataW H) (ps : List MemPlace) (hval : R val = some (d, ps))
    (hK : ∀ w', w'.ownsMap P k R b (n + 1) (D.put kl d) → w.mapTurned w' b → wpList P ops Q rest (a.put o.dst undef) w') :
    wpList P ops Q (o :: rest) a w := by
  refine wpList_plain hg fun K' hK' => ?_
  obtain ⟨w', hrun, r1, r2⟩ := hown.store K ht hn hkey hval
  unfold Oper.wp
  simp [execOp, hop, hm, hx, hv, hrun, Result.andThen]
  exact hK' _ _ (hK w' r1 r2)

abbrev fd (f : Nat) : DataW Unit := .lit (.int .i64 (f : Int))
/-- What a home hears, and by what. -/
def hearD : DataW Unit := ((((DataW.map []).put (.int .i64 1) (fd 31)).put (.int .i64 2) (fd 31)).put (.int .i64 5) (fd 32)).put (.int .i64 7) (fd 33)

set_option maxRecDepth 100000 in
set_option maxHeartbeats 2000000 in
theorem hearings_any (kB : Nat) (w : World) :
    Calls Try.prog 17 #[.pointer (some ⟨kB, 0, none⟩)] w fun e w' => e = .returned (.map (some w.heap.size)) ∧ w'.ownsMap Try.prog 3 (funcElem kB) w.heap.size 4 hearD ∧ Below w.heap.size w w' := by
  have hmm := @run_makeMap Try.prog
  have M0 := World.ownsMap_made (H := Unit) w Try.prog 3 (funcElem kB)
  have B0 := bel_alloc (Below.refl w.heap.size w) (.map #[] 0)
  go_enter Try.func17, Try.ntmps17
  go_wp2_with (first | (guard_target =~ wpList _ _ _ (Oper.mk _ (Op.insert _ _ (Operand.const (Value.int _ 1)) _) _ _ _ _ :: _) _ _; refine wpList_insert_in _ rfl _ _ _ 51 rfl 3 49 lawInt Try.underlying51 (funcElem kB) w.heap.size 0 _ rfl M0 (by unfold maxLen; omega) _ _ _ rfl rfl (keyOf_int_mk Try.underlying3 (by decide)) _ [] (funcElem_mk kB 31) ?_; intro w1 M1 T1; have B1 := B0.grown T1.grown B0.size (fun j hj => by cases hj; exact Nat.le_refl _); clear M0 B0 T1) | (guard_target =~ wpList _ _ _ (Oper.mk _ (Op.insert _ _ (Operand.const (Value.int _ 2)) _) _ _ _ _ :: _) _ _; refine wpList_insert_in _ rfl _ _ _ 51 rfl 3 49 lawInt Try.underlying51 (funcElem kB) w.heap.size 1 _ rfl M1 (by unfold maxLen; omega) _ _ _ rfl rfl (keyOf_int_mk Try.underlying3 (by decide)) _ [] (funcElem_mk kB 31) ?_; intro w2 M2 T2; have B2 := B1.grown T2.grown B1.size (fun j hj => by cases hj; exact Nat.le_refl _); clear M1 B1 T2) | (guard_target =~ wpList _ _ _ (Oper.mk _ (Op.insert _ _ (Operand.const (Value.int _ 5)) _) _ _ _ _ :: _) _ _; refine wpList_insert_in _ rfl _ _ _ 51 rfl 3 49 lawInt Try.underlying51 (funcElem kB) w.heap.size 2 _ rfl M2 (by unfold maxLen; omega) _ _ _ rfl rfl (keyOf_int_mk Try.underlying3 (by decide)) _ [] (funcElem_mk kB 32) ?_; intro w3 M3 T3; have B3 := B2.grown T3.grown B2.size (fun j hj => by cases hj; exact Nat.le_refl _); clear M2 B2 T3) | (guard_target =~ wpList _ _ _ (Oper.mk _ (Op.insert _ _ (Operand.const (Value.int _ 7)) _) _ _ _ _ :: _) _ _; refine wpList_insert_in _ rfl _ _ _ 51 rfl 3 49 lawInt Try.underlying51 (funcElem kB) w.heap.size 3 _ rfl M3 (by unfold maxLen; omega) _ _ _ rfl rfl (keyOf_int_mk Try.underlying3 (by decide)) _ [] (funcElem_mk kB 33) ?_; intro w4 M4 T4; have B4 := B3.grown T4.grown B3.size (fun j hj => by cases hj; exact Nat.le_refl _); clear M3 B3 T4) | fail)
  go_ret
  exact ⟨rfl, M4, B4⟩
end Go.Proofs.Ytliihkdocbpolaa
