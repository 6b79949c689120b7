/- KpO and KpS: see the heads of the parts. -/
import Derived.Test.YtliihkdocbpolaaSp
import Derived.Test.YtliihkdocbpolaaSrt
import Derived.OwnWalk
/- What impl's (keeper) others does: those who read but the one whose turn it is, ascending. -/
namespace Go.Proofs.Ytliihkdocbpolaa
open Go.RowKit Go.Maps
set_option linter.unusedVariables false

theorem lawInt : Keyed Try.prog 3 := int_keyed Try.underlying3

theorem asc_perm_eq : ∀ {xs ys : List Int}, xs.Perm ys → Asc xs → Asc ys → xs = ys
  | [], ys, h, _, _ => h.nil_eq
  | x :: xs, ys, h, hx, hy => by
    cases ys with
    | nil => exact absurd h.symm.nil_eq (by simp)
    | cons y ys =>
      unfold Asc at hx hy
      rw [List.pairwise_cons] at hx hy
      have e : x = y := by
        have h1 : x ∈ y :: ys := h.subset (by simp)
        have h2 : y ∈ x :: xs := h.symm.subset (by simp)
        simp at h1 h2
        rcases h1 with h1 | h1
        · exact h1
        · rcases h2 with h2 | h2
          · exact h2.symm
          · have := hx.1 y h2
            have := hy.1 x h1
            omega
      subst e
      rw [asc_perm_eq h.cons_inv hx.2 hy.2]

/-- Those who read but one, ascending. -/
def othersL (rd : List Bool) (wh : Int) : List Int := ((List.range rd.length).map fun (i : Nat) => (i : Int)).filter fun i => rdB rd i && i != wh

theorem othersL_mem (rd : List Bool) (wh x : Int) : x ∈ othersL rd wh ↔ rdB rd x = true ∧ x ≠ wh := by
  unfold othersL
  rw [List.mem_filter]
  constructor
  · rintro ⟨_, h⟩
    simpa using h
  · intro h
    refine ⟨?_, by simpa using h⟩
    have h1 := h.1
    unfold rdB at h1
    simp at h1
    obtain ⟨h0, h1⟩ := h1
    have hlt : x.toNat < rd.length := by
      apply Classical.byContradiction
      intro hn
      rw [List.getElem?_eq_none (by omega)] at h1
      simp at h1
    simp
    exact ⟨x.toNat, hlt, by omega⟩
theorem othersL_asc (rd : List Bool) (wh : Int) : Asc (othersL rd wh) := by
  unfold othersL Asc
  apply List.Pairwise.filter
  rw [List.pairwise_map]
  exact List.pairwise_lt_range.imp (fun h => by omega)
theorem othersL_nodup (rd : List Bool) (wh : Int) : (othersL rd wh).Nodup := by
  unfold othersL List.Nodup
  apply List.Pairwise.filter
  rw [List.pairwise_map]
  exact List.pairwise_lt_range.imp (fun h => by omega)
theorem othersL_le (rd : List Bool) (wh : Int) : (othersL rd wh).length ≤ rd.length := by
  unfold othersL
  have := List.length_filter_le (fun i => rdB rd i && i != wh) ((List.range rd.length).map fun (i : Nat) => (i : Int))
  simpa using this

/-- The keys that have come so far. -/
def Came' (rd : List Bool) (wh : Int) (left : Lit → Bool) (ks : List Int) : Prop :=
  ks.Nodup ∧ ∀ x, x ∈ ks ↔ rdB rd x = true ∧ x ≠ wh ∧ left (.int .i64 x) = false

theorem Came'.le {rd : List Bool} {wh : Int} {left : Lit → Bool} {ks : List Int} (h : Came' rd wh left ks) : ks.length ≤ rd.length := by
  refine Nat.le_trans ?_ (othersL_le rd wh)
  have hp : ks.Perm ((othersL rd wh).filter fun x => ks.contains x) := by
    rw [List.perm_ext_iff_of_nodup h.1 (List.Pairwise.filter _ (othersL_nodup rd wh))]
    intro x
    rw [List.mem_filter]
    simp
    exact fun hx => (othersL_mem rd wh x).2 ⟨((h.2 x).1 hx).1, ((h.2 x).1 hx).2.1⟩
  rw [hp.length_eq]
  exact List.length_filter_le _ _

theorem Came'.step {rd : List Bool} {wh : Int} {left : Lit → Bool} {ks : List Int} (h : Came' rd wh left ks) {x : Int} (hl : left (.int .i64 x) = true) (hr : rdB rd x = true) :
    Came' rd wh (fun z => left z && !z.sameKey (.int .i64 x)) (if x = wh then ks else ks ++ [x]) := by
  have key : ∀ y, ((left (.int .i64 y) && !(Lit.int .i64 y).sameKey (.int .i64 x)) = false) ↔ (left (.int .i64 y) = false ∨ y = x) := fun y => by
    simp [Lit.sameKey]
    cases left (.int .i64 y) <;> simp
  by_cases hx : x = wh
  · rw [if_pos hx]
    refine ⟨h.1, fun y => ?_⟩
    rw [h.2 y]
    show _ ↔ _ ∧ _ ∧ ((left (.int .i64 y) && !(Lit.int .i64 y).sameKey (.int .i64 x)) = false)
    rw [key y]
    constructor
    · rintro ⟨a, b, c⟩
      exact ⟨a, b, .inl c⟩
    · rintro ⟨a, b, c | c⟩
      · exact ⟨a, b, c⟩
      · exact absurd (c.trans hx) b
  · rw [if_neg hx]
    have hni : x ∉ ks := fun hm => by
      have := ((h.2 x).1 hm).2.2
      rw [hl] at this
      cases this
    refine ⟨?_, fun y => ?_⟩
    · rw [List.nodup_append]
      exact ⟨h.1, by simp, fun a ha b hb => by simp at hb; subst hb; exact fun e => hni (e ▸ ha)⟩
    · show _ ↔ _ ∧ _ ∧ ((left (.int .i64 y) && !(Lit.int .i64 y).sameKey (.int .i64 x)) = false)
      rw [key y, List.mem_append, h.2 y]
      simp
      constructor
      · rintro (⟨a, b, c⟩ | rfl)
        · exact ⟨a, b, .inl c⟩
        · exact ⟨hr, hx, .inr rfl⟩
      · rintro ⟨a, b, c | c⟩
        · exact .inl ⟨a, b, c⟩
        · exact .inr c

theorem Came'.last {rd : List Bool} {wh : Int} {left : Lit → Bool} {ks ys : List Int} (h : Came' rd wh left ks) (hl : ∀ kl, left kl = false) (hp : ys.Perm ks) (ha : Asc ys) : ys = othersL rd wh := by
  refine asc_perm_eq (hp.trans ?_) ha (othersL_asc rd wh)
  rw [List.perm_ext_iff_of_nodup h.1 (othersL_nodup rd wh)]
  intro x
  rw [h.2 x, othersL_mem]
  constructor
  · exact fun ⟨a, b, _⟩ => ⟨a, b⟩
  · exact fun ⟨a, b⟩ => ⟨a, b, hl _⟩

theorem rdB_wf {rd : List Bool} (hl : rd.length ≤ 4) {x : Int} (h : rdB rd x = true) : (Lit.int .i64 x).wf = true := by
  have hm := (othersL_mem rd (-1) x).2 ⟨h, by unfold rdB at h; simp at h; omega⟩
  have : 0 ≤ x ∧ x ≤ 4 := by
    unfold othersL at hm
    rw [List.mem_filter] at hm
    have := hm.1
    simp at this
    obtain ⟨i, hi, rfl⟩ := this
    omega
  exact WalkArith.wf_i64 (by omega)

set_option maxRecDepth 100000 in
set_option maxHeartbeats 2000000 in
theorem others_any (lo : Nat) (w : World) (kB mB : Nat) (aw : Option Addr) (cw : Nat) (vt : Value) (S : KS) (n : Nat) (h : KLies lo w kB mB aw cw vt S n) (hrd : S.rd.length ≤ 4) :
    Calls Try.prog 44 #[.pointer (some ⟨kB, 0, none⟩)] w fun e w' =>
      ∃ v, e = .returned v ∧ w'.ownsRow w.heap.size 3 1 v (othersL S.rd S.wh).length ((othersL S.rd S.wh).map (Value.int .i64)) ∧ Below w.heap.size w w' := by
  obtain ⟨i0, hi0, hz0, hz1, hz2⟩ := info_parts info_i64
  obtain ⟨D, hown, hD⟩ := h.r
  have HD : Hid (∀ i : Int, (Lit.int .i64 i).wf = true → Maps.has D (.int .i64 i) = rdB S.rd i) := hD
  have hmB := hown.lt
  have k7 := h.k.cell 7
  have k9 := h.k.cell 9
  have kz := h.k.lt
  go_enter Try.func44, Try.ntmps44
  go_wp2_with (at_range; refine wpList_range_own _ rfl _ 55 rfl 3 74 lawInt Try.underlying55 (unitElem (H := Unit)) mB n D rfl hown ?_; intro w0 hrg0 hg0 hs0)
  go_frame
  go_loopw [3, 4] (fun v3 v4 wr => ∃ left cnt ks, wr.ranges Try.prog 3 (unitElem (H := Unit)) mB w.heap.size n D left cnt ∧ wr.ownsRow (w.heap.size + 1) 3 1 v3 ks.length (ks.map (Value.int .i64)) ∧ Came' S.rd S.wh left ks ∧ Below w.heap.size w wr) (fun _ _ wr => wr.rangeLeft mB w.heap.size)
  case atStart =>
    refine ⟨_, _, [], hrg0, World.ownsRow_nil _ _ _ _, ⟨by simp, fun x => ?_⟩, (Below.refl _ _).grown hg0 (Nat.le_refl _) (fun j hj => by cases hj)⟩
    constructor
    · intro hx
      simp at hx
    · rintro ⟨h1, h2, h3⟩
      have := HD.out x (rdB_wf hrd h1)
      rw [this, h1] at h3
      cases h3
  case round =>
    obtain ⟨left, cnt, ks, hrg, ho, hc, hB⟩ := hrel
    have hkl := hc.le
    obtain ⟨a3, c3, rfl⟩ := owns_slice ho
    go_wp2_with (at_next; refine wpList_next_ranges _ rfl _ rfl 3 lawInt (unitElem (H := Unit)) (Value.int .i64) (fun (_ : Unit) => Value.agg #[]) (fun key kl hkey => by obtain ⟨x, rfl, _⟩ := Maps.keyOf_int_inv Try.underlying3 hkey; exact ⟨x, rfl⟩) (fun v y hv => ⟨(), (unitElem_inv hv).1⟩) mB w.heap.size n D left cnt rfl hrg ?_ ?_)
    · intro hc0 hl0
      clear k7 k9 kz hrg0 hg0 hs0 hrg hown
      go_wp2_with fail
      refine (sort_any (w.heap.size + 1) ks.length _ ks _ (by omega) ho).mono ?_
      rintro e w5 ⟨rfl, ys, hp, ha, o5, g5⟩
      have e5 := hc.last hl0 hp ha
      subst e5
      have B5 : Hid (Below w.heap.size w w5) := hB.grown g5 hB.size (fun j hj => by have := (ho.lt j hj).1; omega)
      have hpl := hp.length_eq
      have O5 : Hid (w5.ownsRow w.heap.size 3 1 (.slice a3 (othersL S.rd S.wh).length c3) (othersL S.rd S.wh).length ((othersL S.rd S.wh).map (Value.int .i64))) := by
        rw [hpl]
        exact owns_base o5 (by omega)
      rw [← hpl]
      clear o5 g5 hp ha ho hB hc hpl
      go_wp2
      go_ret
      exact ⟨_, rfl, O5.out, B5.out⟩
    · intro x u kl y w1 cnt1 hkey hlk hv hat hrg1 hlt hg1 hs1 hen
      obtain ⟨x', ex, rfl, hwx⟩ := Maps.keyOf_int_inv Try.underlying3 hkey
      cases ex
      have hrx : rdB S.rd x = true := by rw [← HD.out x hwx]; exact Maps.has_true_of_atKey hat
      have hc1 := hc.step hlk hrx
      have hB1 : Below w.heap.size w w1 := hB.grown hg1 hB.size (fun j hj => by cases hj; exact Nat.le_refl _)
      have hk1 := h.k.below hB1
      have k7 := hk1.cell 7
      have k9 := hk1.cell 9
      have kz := hk1.lt
      have ho1 := owns_ne ho hg1 (fun j hj e => by have := (ho.lt j hj).1; simp at e; omega)
      have HM : Hid (w1.rangeLeft mB w.heap.size < wr.rangeLeft mB w.heap.size) := by show _ < _; rw [hrg1.left_eq, hrg.left_eq]; exact hlt
      have HRG : Hid (w1.ranges Try.prog 3 (unitElem (H := Unit)) mB w.heap.size n D (fun z => left z && !z.sameKey (.int .i64 x)) cnt1) := hrg1
      have hmr : mB < w.heap.size := hmB
      have hsz1 : w.heap.size + 1 ≤ w1.heap.size := by have := hrg1.lt; omega
      by_cases hx : x = S.wh
      · subst hx
        rw [if_pos rfl] at hc1
        have HC : Hid (Came' S.rd S.wh (fun z => left z && !z.sameKey (.int .i64 S.wh)) ks) := hc1
        clear hrg1 hlt hg1 hs1 hc1 hc hrg ho hB hrg0 hg0 hs0 hown
        go_wp2
        go_roundw
        case rel => exact ⟨_, cnt1, ks, HRG.out, ho1, HC.out, hB1⟩
        case measure => exact HM.out
      · have hxb : (x == S.wh) = false := by simp [hx]
        rw [if_neg hx] at hc1
        have HC : Hid (Came' S.rd S.wh (fun z => left z && !z.sameKey (.int .i64 x)) (ks ++ [x])) := hc1
        have hnew := World.news_of_block (Box.new w1 #[.int .i64 x] 3)
        have o1 := ho1.alloc (.cells #[.int .i64 x] 3)
        have HB2 := bel_alloc hB1 (.cells #[.int .i64 x] 3)
        have LT : Hid (∀ j, (Value.slice a3 ks.length c3).ownBlock = some j → w.heap.size + 1 ≤ j) := fun j hj => (ho.lt j hj).1
        clear hrg1 hlt hg1 hs1 hc1 hc hrg ho hB hrg0 hg0 hs0 hown ho1 hx
        go_wp2_with (at_builtin; refine wpList_append_lies _ rfl (.tmp 21) (.tmp 23) 24 rfl (w.heap.size + 1) 3 i0 (.int .i64 0) 1 8 Try.underlying24 hi0 hz0 hz1 hz2 rfl (by decide) (.slice a3 ks.length c3) ks.length (ks.map (Value.int .i64)) rfl o1 ⟨w1.heap.size, 0, none⟩ 1 1 [.int .i64 x] rfl rfl hnew (fun u hu => by simp at hu; subst hu; rfl) (by omega) (by unfold maxLen; omega) (by omega) (by simp; omega) _ rfl ?_)
        intro g cap w2 o2 g2 at2 lt2
        have hrg2 := (HRG.out.alloc (.cells #[.int .i64 x] 3)).kept g2 (fun e => by have := LT.out mB e.symm; omega) (fun e => by have := LT.out _ e.symm; omega)
        have HB3 : Below w.heap.size w w2 := HB2.grown g2 HB2.size (fun j hj => by have := LT.out j hj; omega)
        have HO : Hid (w2.ownsRow (w.heap.size + 1) 3 1 (.slice (some ⟨g, 0, none⟩) (ks.length + 1) cap) (ks ++ [x]).length ((ks ++ [x]).map (Value.int .i64))) := by
          show World.ownsRow _ _ _ _ _ _ _
          rw [List.length_append, List.map_append]
          exact o2
        have HM2 : Hid (w2.rangeLeft mB w.heap.size < wr.rangeLeft mB w.heap.size) := by
          have h1 := HM.out
          rw [HRG.out.left_eq] at h1
          show _ < _
          rw [hrg2.left_eq]
          exact h1
        have HRG2 : Hid (w2.ranges Try.prog 3 (unitElem (H := Unit)) mB w.heap.size n D (fun z => left z && !z.sameKey (.int .i64 x)) cnt1) := hrg2
        clear hrg2 o2 g2 at2 lt2 hnew o1 HB2 k7 k9 kz hk1
        go_wp2
        go_roundw
        case rel => exact ⟨_, cnt1, ks ++ [x], HRG2.out, by simpa using HO.out, HC.out, HB3⟩
        case measure => exact HM2.out
end Go.Proofs.Ytliihkdocbpolaa

/- What impl's (keeper) sendAway does. -/
namespace Go.Proofs.Ytliihkdocbpolaa
open Go.RowKit Go.Maps
set_option linter.unusedVariables false

/-- Readers without some. -/
def rdSub (rd : List Bool) (ks : List Int) : List Bool := (List.range rd.length).map fun (i : Nat) => rd.getD i false && !ks.contains (i : Int)
theorem rdSub_length (rd : List Bool) (ks : List Int) : (rdSub rd ks).length = rd.length := by simp [rdSub]
theorem rdSub_B (rd : List Bool) (ks : List Int) (x : Int) : rdB (rdSub rd ks) x = (rdB rd x && !ks.contains x) := by
  unfold rdB
  by_cases h0 : 0 ≤ x
  · rw [decide_eq_true h0]
    by_cases hl : x.toNat < rd.length
    · have e : (x.toNat : Int) = x := by omega
      simp [rdSub, hl, e]
    · have h1 : rd.getD x.toNat false = false := by simp [List.getElem?_eq_none (show rd.length ≤ x.toNat by omega)]
      have h2 : (rdSub rd ks).getD x.toNat false = false := by simp [List.getElem?_eq_none (show (rdSub rd ks).length ≤ x.toNat by rw [rdSub_length]; omega)]
      rw [h1, h2]
      simp
  · rw [decide_eq_false h0]
    simp

/-- Readers with one more. -/
def rdAdd (rd : List Bool) (y : Int) : List Bool := (List.range rd.length).map fun (i : Nat) => rd.getD i false || decide ((i : Int) = y)
theorem rdAdd_length (rd : List Bool) (y : Int) : (rdAdd rd y).length = rd.length := by simp [rdAdd]
theorem rdAdd_B (rd : List Bool) (y : Int) (hy : 0 ≤ y ∧ y < rd.length) (x : Int) : rdB (rdAdd rd y) x = (rdB rd x || decide (x = y)) := by
  unfold rdB
  by_cases h0 : 0 ≤ x
  · rw [decide_eq_true h0]
    by_cases hl : x.toNat < rd.length
    · have e : (x.toNat : Int) = x := by omega
      simp [rdAdd, hl, e]
    · have h1 : rd.getD x.toNat false = false := by simp [List.getElem?_eq_none (show rd.length ≤ x.toNat by omega)]
      have h2 : (rdAdd rd y).getD x.toNat false = false := by simp [List.getElem?_eq_none (show (rdAdd rd y).length ≤ x.toNat by rw [rdAdd_length]; omega)]
      rw [h1, h2]
      simp
      omega
  · rw [decide_eq_false h0]
    simp
    omega

/-- The set alone has turned. -/
theorem KLies.turn {lo : Nat} {w w' : World} {kB mB : Nat} {aw : Option Addr} {cw : Nat} {vt : Value} {S : KS} {n n' : Nat} (h : KLies lo w kB mB aw cw vt S n) (g : w.grownBy w' (some mB)) {rd' : List Bool} (r : SetAt w' mB rd' n') :
    KLies lo w' kB mB aw cw vt { S with rd := rd' } n' ∧ Same lo w w' := by
  have hmap : ∀ (cs : Array Value) (t : TypeId) (fr : Nat × Nat), w.heap[mB]? ≠ some (.cells cs t fr) := fun cs t fr e => by
    obtain ⟨D, oD, _⟩ := h.r
    obtain ⟨es, cl, hb, _⟩ := oD
    rw [hb] at e
    cases e
  have hS : Same lo w w' := ⟨g.os, g.tape, g.output, g.size, fun i hi hs => g.block i hs (fun e => by have := h.lm; simp at e; omega), fun i cs t fr hi _ _ => (g.block i (Array.getElem?_eq_some_iff.1 hi).1 (fun e => by simp at e; subst e; exact hmap _ _ _ hi)).trans hi⟩
  have hne : ∀ {base e size m : Nat} {v : Value} {xs : List Value}, w.ownsRow base e size v m xs → w'.ownsRow base e size v m xs := fun o => by
    refine owns_ne o g (fun j hj e => ?_)
    simp at e
    subst e
    rcases o.2 with ⟨rfl, _⟩ | ⟨g', cap, cur, rfl, _, hg, _⟩
    · simp [Value.ownBlock] at hj
    · simp [Value.ownBlock] at hj
      subst hj
      exact hmap _ _ _ hg
  refine ⟨⟨h.lk, h.lm, h.k.kept g (fun j hj e => ?_), r, h.q.same hS, hne h.t, fun t ht => hne (h.l t ht)⟩, hS⟩
  simp at hj
  subst hj
  subst e
  exact hmap _ _ _ h.k

/-- A reader is struck from the set. -/
theorem SetAt.del {w' : World} {mB n : Nat} {rd : List Bool} {ks : List Int} {D : DataW Unit} (hd : ∀ i : Int, (Lit.int .i64 i).wf = true → Maps.has D (.int .i64 i) = rdB (rdSub rd ks) i) {x : Int} (o : w'.ownsMap Try.prog 3 (unitElem (H := Unit)) mB n (D.del (.int .i64 x))) : SetAt w' mB (rdSub rd (ks ++ [x])) n := by
  refine ⟨_, o, fun i hi => ?_⟩
  have h1 := hd i hi
  rw [rdSub_B] at h1 ⊢
  by_cases hx : i = x
  · subst hx
    rw [Maps.has_del_same]
    simp
  · rw [Maps.has_del_other (by simpa using hx), h1]
    simp [hx]

/-- MgGone for a page. -/
def goneM (pg : Int) : M := ⟨4, pg, false, none, 0, []⟩
def goneL (S : KS) (ks : List Int) : KS := { S with ts := S.ts ++ ks.map (fun i => (i, goneM S.pg)), rd := rdSub S.rd ks }

theorem rdSub_nil (rd : List Bool) (i : Int) : rdB (rdSub rd []) i = rdB rd i := by rw [rdSub_B]; simp
theorem SetAt.sub0 {w : World} {mB n : Nat} {rd : List Bool} (h : SetAt w mB rd n) : SetAt w mB (rdSub rd []) n := by
  obtain ⟨D, o, hd⟩ := h
  exact ⟨D, o, fun i hi => by rw [hd i hi, rdSub_nil]⟩

set_option maxRecDepth 100000 in
set_option maxHeartbeats 2000000 in
theorem sendAway_any (lo : Nat) (w : World) (kB mB : Nat) (aw : Option Addr) (cw : Nat) (vt : Value) (S : KS) (n : Nat) (h : KLies lo w kB mB aw cw vt S n) (hlo : lo ≤ w.heap.size) (hrd : S.rd.length ≤ 4) (hts : S.ts.length ≤ 50000) :
    Calls Try.prog 43 #[.pointer (some ⟨kB, 0, none⟩)] w fun e w' =>
      e = .returned (.int .i64 (othersL S.rd S.wh).length) ∧ ∃ vt', KLies lo w' kB mB aw cw vt' (goneL S (othersL S.rd S.wh)) n ∧ Same lo w w' := by
  obtain ⟨L, hL⟩ : ∃ L, othersL S.rd S.wh = L := ⟨_, rfl⟩
  have hLl := othersL_le S.rd S.wh
  have hLw : ∀ x ∈ L, (Lit.int .i64 x).wf = true := fun x hx => rdB_wf hrd ((othersL_mem S.rd S.wh x).1 (hL ▸ hx)).1
  rw [hL] at hLl ⊢
  go_enter Try.func43, Try.ntmps43
  go_wp2_with fail
  refine (others_any lo w kB mB aw cw vt S n h hrd).mono ?_
  rintro e w1 ⟨v, rfl, o1, b1⟩
  rw [hL] at o1
  clear hL
  have h1 := h.below b1
  have S1 : Same lo w w1 := Same.of_below b1
  have hlo1 : lo ≤ w1.heap.size := by have := b1.size; omega
  obtain ⟨a, c, rfl⟩ := owns_slice o1
  have HLW : Hid (∀ x ∈ L, (Lit.int .i64 x).wf = true) := hLw
  clear b1 h hLw
  go_wp2
  go_loopw [10] (fun iv wr => ∃ (k : Nat) (vt' : Value), iv = .int .i64 (k : Nat) ∧ k ≤ L.length ∧ KLies lo wr kB mB aw cw vt' (goneL S (L.take k)) n ∧ Same lo w wr ∧ wr.ownsRow w.heap.size 3 1 (.slice a L.length c) L.length (L.map (Value.int .i64)) ∧ lo ≤ wr.heap.size) (fun iv _ => L.length - (intOf iv).toNat)
  case atStart =>
    refine ⟨0, vt, rfl, Nat.zero_le _, ?_, S1, o1, hlo1⟩
    exact ⟨h1.lk, h1.lm, h1.k, h1.r.sub0, h1.q, by simpa [goneL] using h1.t, by simpa [goneL] using h1.l⟩
  case round =>
    clear h1 S1 o1 hlo1
    obtain ⟨k, vt', rfl, hk, hK, hS, ho, hl⟩ := hrel
    by_cases hlt : k < L.length
    · have hi : (k : Int) < (L.length : Int) := by omega
      obtain ⟨g, rfl⟩ := owns_addr ho (by omega)
      obtain ⟨x, hx⟩ : ∃ x, L[k]? = some x := ⟨_, List.getElem?_eq_getElem hlt⟩
      have HX : Hid (L[k]? = some x) := hx
      have hcx : wr.cell? ⟨g, k, none⟩ = some (.int .i64 x) := by
        rw [ho.cellAt k (by omega)]
        simp [hx]
      have hwx := HLW.out x (List.mem_of_getElem? hx)
      clear hx
      go_wp2_with fail
      refine (tell_any lo wr kB mB aw cw vt' _ n hK hl x ⟨4, 0, false, none, 0, []⟩ (World.ownsRow_nil _ _ _ _) (by simp [goneL]; omega)).mono ?_
      rintro e w2 ⟨rfl, vt2, hK2, hS2⟩
      have ho2 := owns_same ho hS2 (by decide) (by decide)
      have hl2 : lo ≤ w2.heap.size := by have := hS2.size; omega
      have hS3 := hS.trans hS2
      obtain ⟨D, oD, hD⟩ := hK2.r
      have k7 := hK2.k.cell 7
      have kz := hK2.k.lt
      have etk : L.take (k + 1) = L.take k ++ [x] := by
        obtain ⟨h', rfl⟩ := List.getElem?_eq_some_iff.1 HX.out
        exact List.take_succ_eq_append_getElem h'
      have HNX : Hid (∀ w3, w3.ownsMap Try.prog 3 (unitElem (H := Unit)) mB n (D.del (.int .i64 x)) → w2.grownBy w3 (some mB) → KLies lo w3 kB mB aw cw vt2 (goneL S (L.take (k + 1))) n ∧ Same lo w w3 ∧ w3.ownsRow w.heap.size 3 1 (.slice (some ⟨g, 0, none⟩) L.length c) L.length (L.map (Value.int .i64)) ∧ lo ≤ w3.heap.size) := fun w3 o3 g3 => by
        obtain ⟨a1, a2⟩ := hK2.turn g3 (SetAt.del (rd := S.rd) (ks := L.take k) hD o3)
        refine ⟨?_, hS3.trans a2, owns_same ho2 a2 (by decide) (by decide), by have := g3.size; omega⟩
        rw [etk]
        have e : goneL S (L.take k ++ [x]) = { (goneL S (L.take k)) with ts := (goneL S (L.take k)).ts ++ [(x, { (⟨4, 0, false, none, 0, []⟩ : M) with p := (goneL S (L.take k)).pg })], rd := rdSub S.rd (L.take k ++ [x]) } := by
          simp [goneL, goneM]
        rw [e]
        exact a1
      clear hK hS hS2 ho hl hcx hK2 hS3 ho2 hl2 hD etk
      go_wp2_with (at_delete; refine wpList_delete_own _ rfl _ _ 55 3 rfl 74 lawInt Try.underlying55 (unitElem (H := Unit)) mB n D rfl oD _ _ rfl (keyOf_int_mk Try.underlying3 hwx) ?_; intro w3 oD3 hturn3)
      have HN3 := HNX.out w3 oD3 hturn3.grown
      clear HNX oD3 hturn3 oD k7 kz
      go_wp2
      go_roundw
      case rel => exact ⟨k + 1, vt2, by go_num, by omega, HN3.1, HN3.2.1, HN3.2.2.1, HN3.2.2.2⟩
      case measure => simp [intOf]; omega
    · have hi : (L.length : Int) ≤ (k : Int) := by omega
      have hkL : k = L.length := by omega
      subst hkL
      rw [List.take_length] at hK
      clear ho
      go_wp2
      go_ret
      exact ⟨rfl, vt', hK, hS⟩
end Go.Proofs.Ytliihkdocbpolaa
