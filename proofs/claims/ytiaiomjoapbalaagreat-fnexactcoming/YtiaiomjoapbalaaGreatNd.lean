/- SndTo and Nd: see the heads of the parts. -/
import Derived.Test.YtiaiomjoapbalaaGreatDeep
import Derived.Test.YtiaiomjoapbalaaGreatInfos
import Derived.Deep.RegionWith
import Derived.BigRegion
import Derived.Test.YtiaiomjoapbalaaGreatHomM
import Derived.Test.YtiaiomjoapbalaaGreatFrm
/- What the law's small functions over rows of messages and senders do. -/
namespace Go.Proofs.YtiaiomjoapbalaaGreat
open Go.RowKit
set_option linter.unusedVariables false

set_option maxRecDepth 100000 in
set_option maxHeartbeats 1000000 in
theorem toMsgS_any (a : Option Addr) (ca : Nat) (ms : List M) (w : World) (hsm : ms.length ≤ 1048576) (hxs : ∀ m ∈ ms, m.xs.length ≤ 1048576) (ha : MRow w a ms) :
    Calls Tryz.prog 116 #[.slice a ms.length ca] w fun e w' => ∃ (a' : Option Addr) (c' : Nat) (ds : List M), e = .returned (.slice a' ms.length c') ∧ ds.map M.say = ms.map M.say ∧ Deep w' w.heap.size a' c' ds ∧ Below w.heap.size w w' := by
  obtain ⟨i0, hi, hz0, hz1, hz2⟩ := info_parts info_msg
  obtain ⟨n, hn⟩ : ∃ n, ms.length = n := ⟨_, rfl⟩
  have HN : Hid (ms.length = n) := hn
  rw [hn] at hsm ⊢
  clear hn
  go_enter Tryz.func116, Tryz.ntmps116
  go_wp2_with (at_make; refine wpList_make_full _ rfl (.tmp 6) (.tmp 6) 27 rfl w.heap.size 55 i0 (.agg #[.int .i64 0, .int .i64 0, .bool false, .slice none 0 0]) 4 Tryz.underlying27 hi hz0 hz1 .i64 .i64 _ _ n rfl rfl rfl rfl (by rw [hz2]; omega) (by unfold maxLen; omega) (Nat.le_refl _) ?_)
  intro w1 ho hg
  obtain ⟨zs, ho⟩ : ∃ zs, w1.ownsRow w.heap.size 55 4 (.slice (some ⟨w.heap.size, 0, none⟩) n n) n zs := ⟨_, ho⟩
  have hzl : Hid (zs.length = n * 4) := ho.1
  have hb1 : Below w.heap.size w w1 := (Below.refl _ _).grown hg (Nat.le_refl _) (fun k hk => by cases hk)
  clear hg
  go_wp2
  go_loopw [4] (fun i wr => ∃ k : Nat, k ≤ n ∧ i = .int .i64 k ∧ ∃ ds : List M, ds.map M.say = (ms.take k).map M.say ∧ wr.ownsRow w.heap.size 55 4 (.slice (some ⟨w.heap.size, 0, none⟩) n n) n (flat ds ++ zs.drop (k * 4)) ∧ Lists wr w.heap.size ds ∧ Below w.heap.size w wr) (fun i _ => n - (intOf i).toNat)
  case atStart => exact ⟨0, Nat.zero_le _, rfl, [], by simp, by simpa [flat] using ho, Lists.nil _ _, hb1⟩
  case round =>
    obtain ⟨k, hk, rfl, ds, hds, hr, hL, hbr⟩ := hrel
    by_cases hkn : k < n
    · have hi' : (k : Int) < (n : Int) := by omega
      obtain ⟨m, hmk⟩ : ∃ m, ms[k]? = some m := ⟨_, List.getElem?_eq_getElem (by have := HN.out; omega)⟩
      have HM : Hid (ms[k]? = some m) := hmk
      have hlen : m.xs.length ≤ 1048576 := hxs m (List.mem_of_getElem? hmk)
      obtain ⟨⟨b, off, rfl, y0, y1, y2, y3⟩, hrow⟩ := (ha.below hbr).2 k m hmk
      clear hmk
      go_wp2_with fail
      refine (toMsg_any m.k m.p m.o m.a m.c m.xs _ hlen hrow).mono ?_
      rintro e w2 ⟨v2, rfl, o2, b2⟩
      obtain ⟨a2, c2, rfl⟩ := owns_slice o2
      have hr2 := owns_below hr b2
      have hL2 := hL.below b2
      have hB2 := bel_trans hbr b2
      have hlk : Hid (ds.length = k) := by have h := congrArg List.length hds; simp at h; have := HN.out; show _ = _; omega
      have hbs : Hid (w.heap.size ≤ wr.heap.size) := hbr.size
      have R : Hid (∃ ds' : List M, ds'.map M.say = (ms.take (k + 1)).map M.say ∧ ((((w2.setCell ⟨w.heap.size, k * 4, none⟩ (.int .i64 m.k)).setCell ⟨w.heap.size, k * 4 + 1, none⟩ (.int .i64 m.p)).setCell ⟨w.heap.size, k * 4 + 2, none⟩ (.bool m.o)).setCell ⟨w.heap.size, k * 4 + 3, none⟩ (.slice a2 m.xs.length c2)).ownsRow w.heap.size 55 4 (.slice (some ⟨w.heap.size, 0, none⟩) n n) n (flat ds' ++ zs.drop ((k + 1) * 4)) ∧ Lists ((((w2.setCell ⟨w.heap.size, k * 4, none⟩ (.int .i64 m.k)).setCell ⟨w.heap.size, k * 4 + 1, none⟩ (.int .i64 m.p)).setCell ⟨w.heap.size, k * 4 + 2, none⟩ (.bool m.o)).setCell ⟨w.heap.size, k * 4 + 3, none⟩ (.slice a2 m.xs.length c2)) w.heap.size ds' ∧ Below w.heap.size w ((((w2.setCell ⟨w.heap.size, k * 4, none⟩ (.int .i64 m.k)).setCell ⟨w.heap.size, k * 4 + 1, none⟩ (.int .i64 m.p)).setCell ⟨w.heap.size, k * 4 + 2, none⟩ (.bool m.o)).setCell ⟨w.heap.size, k * 4 + 3, none⟩ (.slice a2 m.xs.length c2))) := by
        refine ⟨ds ++ [⟨m.k, m.p, m.o, a2, c2, m.xs⟩], ?_, stored4 ⟨m.k, m.p, m.o, a2, c2, m.xs⟩ hr2 hlk.out hzl.out hkn, ?_, ?_⟩
        · have e : ms.take (k + 1) = ms.take k ++ [m] := by
            obtain ⟨hk', rfl⟩ := List.getElem?_eq_some_iff.1 HM.out
            rw [List.take_succ_eq_append_getElem hk']
          rw [e, List.map_append, List.map_append, hds]
          rfl
        · have hS : Lists w2 w.heap.size (ds ++ [⟨m.k, m.p, m.o, a2, c2, m.xs⟩]) := hL2.snoc (owns_base o2 hbs.out) (fun x hx j hj hk' => by
            have h1 := hL.lt hx hj
            have h2 := o2.lt j hk'
            omega)
          have hne : ∀ x ∈ ds ++ [⟨m.k, m.p, m.o, a2, c2, m.xs⟩], ∀ j, x.v.ownBlock = some j → w.heap.size ≠ j := fun x hx j hj he => by
            subst he
            exact owns_types hr2 (hS.1 x hx) (by decide) rfl hj
          exact (((hS.far _ _ hne).far _ _ hne).far _ _ hne).far _ _ hne
        · exact bel_setCell (bel_setCell (bel_setCell (bel_setCell hB2 _ _ (Nat.le_refl _)) _ _ (Nat.le_refl _)) _ _ (Nat.le_refl _)) _ _ (Nat.le_refl _)
      clear hr hL y0 y1 y2 y3 hrow ho hb1
      have f0 := hr2.frozenAt (k * 4)
      have f1 := hr2.frozenAt (k * 4 + 1)
      have f2 := hr2.frozenAt (k * 4 + 2)
      have f3 := hr2.frozenAt (k * 4 + 3)
      obtain ⟨u0, g0⟩ := cell_row4 hr2 (show k * 4 < n * 4 by omega)
      obtain ⟨u1, g1⟩ := cell_row4 hr2 (show k * 4 + 1 < n * 4 by omega)
      obtain ⟨u2, g2⟩ := cell_row4 hr2 (show k * 4 + 2 < n * 4 by omega)
      obtain ⟨u3, g3⟩ := cell_row4 hr2 (show k * 4 + 3 < n * 4 by omega)
      clear hr2 hL2 o2 b2 hB2 hbr hds ha hxs
      go_wp2
      go_roundw
      case rel =>
        obtain ⟨ds', r1, r2, r3, r4⟩ := R.out
        exact ⟨k + 1, by omega, by go_num, ds', r1, r2, r3, r4⟩
      case measure => simp [intOf]; omega
    · clear ho hb1
      go_wp2
      go_ret
      have : k = n := by omega
      subst this
      rw [List.take_of_length_le (by have := HN.out; omega)] at hds
      have hdl : ds.length = k := by have h := congrArg List.length hds; simp at h; have := HN.out; omega
      rw [List.drop_eq_nil_of_le (by have := hzl.out; omega), List.append_nil] at hr
      refine ⟨_, _, ds, rfl, hds, ⟨?_, hL⟩, hbr⟩
      rw [hdl]
      exact hr

set_option maxRecDepth 100000 in
set_option maxHeartbeats 1000000 in
theorem toSender_any (base : Int) (a : Option Addr) (ca : Nat) (ms : List M) (w : World) (hsm : ms.length ≤ 1048576) (hxs : ∀ m ∈ ms, m.xs.length ≤ 1048576) (ha : MRow w a ms) :
    Calls Tryz.prog 100 #[.agg #[.int .i64 base, .slice a ms.length ca]] w fun e w' => ∃ (a' : Option Addr) (c' : Nat) (ds : List M), e = .returned (.agg #[.int .i64 base, .slice a' ms.length c']) ∧ ds.map M.say = ms.map M.say ∧ Deep w' w.heap.size a' c' ds ∧ Below w.heap.size w w' := by
  go_enter Tryz.func100, Tryz.ntmps100
  go_wp2_with fail
  have bA := bel_alloc (bel_alloc (bel_alloc (Below.refl w.heap.size w) (.cells #[.int .i64 base, .slice a ms.length ca] 146)) (.cells #[.int .i64 0, .slice none 0 0] 87)) (.cells #[.int .i64 base, .slice none 0 0] 87)
  refine (toMsgS_any a ca ms _ hsm hxs (ha.below bA)).mono ?_
  rintro e w1 ⟨a', c', ds, rfl, hds, hD, b1⟩
  obtain ⟨hc, hf⟩ := bcell b1
  have hz : w.heap.size + 3 ≤ w1.heap.size := by have := b1.size; simp at this; omega
  have B : Below w.heap.size w w1 := bel_trans bA b1
  have hlt : Hid (∀ j, (Value.slice a' ds.length c').ownBlock = some j → w.heap.size + 3 ≤ j) := fun j h => by have := (hD.row.lt j h).1; simp at this; exact this
  have hlx : Hid (∀ m ∈ ds, ∀ j, m.v.ownBlock = some j → w.heap.size + 3 ≤ j) := fun m hm j h => by have := (hD.lists.lt hm h).1; simp at this; exact this
  have hD : Deep w1 w.heap.size a' c' ds := ⟨owns_base hD.row (by simp; omega), hD.lists.base (by simp; omega)⟩
  clear bA b1 ha hxs
  go_wp2
  refine bodyPost_ret (v := .agg #[.int .i64 base, .slice a' ms.length c']) (by simp [results, Tryz.results100, go_sem, hc]) rfl ⟨_, _, ds, rfl, hds, ⟨?_, ?_⟩, ?_⟩
  · repeat refine owns_setCell ?_ ?_ _
    · exact hD.row
    all_goals (intro j h; have := hlt.out j h; simp; omega)
  · repeat refine Lists.far ?_ _ _ ?_
    · exact hD.lists
    all_goals (intro m hm j h; have := hlx.out m hm j h; simp; omega)
  · repeat refine bel_setCell ?_ _ _ ?_
    · exact B
    all_goals (simp; try omega)

theorem say_len {ms ds : List M} (h : ds.map M.say = ms.map M.say) {L : Nat} (hx : ∀ m ∈ ms, m.xs.length ≤ L) : ∀ d ∈ ds, d.xs.length ≤ L + 1 := fun d hd => by
  have h1 : d.say ∈ ms.map M.say := by rw [← h]; exact List.mem_map_of_mem hd
  obtain ⟨m, hm, he⟩ := List.mem_map.1 h1
  have e : m.xs = d.xs := by simp [M.say] at he; exact he.2.2.2
  have := hx m hm
  rw [e] at this
  omega

theorem all_say {ms ds : List M} (h : ds.map M.say = ms.map M.say) : ds.all (fun m => okS m.say) = ms.all (fun m => okS m.say) := by
  have e : ∀ l : List M, l.all (fun m => okS m.say) = (l.map M.say).all okS := fun l => by rw [List.all_map]; rfl
  rw [e, e, h]

theorem senderB_say (B : Int) {ms ds : List M} (h : ds.map M.say = ms.map M.say) : senderB B ds = senderB B ms := by
  have hl : ds.length = ms.length := by have := congrArg List.length h; simpa using this
  unfold senderB
  rw [all_say h, hl]

theorem say_at {ms ds : List M} (h : ds.map M.say = ms.map M.say) {k : Nat} {m : M} (hm : ms[k]? = some m) : ∃ a c, ds[k]? = some ⟨m.k, m.p, m.o, a, c, m.xs⟩ := by
  have h1 : (ds.map M.say)[k]? = some m.say := by rw [h, List.getElem?_map, hm]; rfl
  rw [List.getElem?_map] at h1
  cases hd : ds[k]? with
  | none => rw [hd] at h1; simp at h1
  | some d =>
    rw [hd] at h1
    simp [M.say] at h1
    obtain ⟨k', p', o', a', c', x'⟩ := d
    simp at h1
    obtain ⟨rfl, rfl, rfl, rfl⟩ := h1
    exact ⟨a', c', rfl⟩

set_option maxRecDepth 100000 in
set_option maxHeartbeats 1000000 in
theorem eqMsgS_any (a b : Option Addr) (ca cb : Nat) (ms ds : List M) (n : Nat) (w : World) (hn : ms.length = n) (hs : ds.map M.say = ms.map M.say) (ha : MRow w a ms) (hb : MRow w b ds) :
    Calls Tryz.prog 9 #[.slice a n ca, .slice b n cb] w fun e w' => e = .returned (.bool true) ∧ Below w.heap.size w w' := by
  have hl : n ≤ 1048577 := by have := ha.1; omega
  have HN : Hid (ms.length = n) := hn
  have HS : Hid (ds.map M.say = ms.map M.say) := hs
  clear hn hs
  go_enter Tryz.func9, Tryz.ntmps9
  go_wp2
  go_loopw [5] (fun i wr => ∃ k : Nat, k ≤ n ∧ i = .int .i64 k ∧ MRow wr a ms ∧ MRow wr b ds ∧ Below w.heap.size w wr) (fun i _ => n - (intOf i).toNat)
  case atStart => exact ⟨0, Nat.zero_le _, rfl, ha, hb, Below.refl _ _⟩
  case round =>
    obtain ⟨k, hk, rfl, hma, hmb, hB⟩ := hrel
    by_cases hlt : k < n
    · have hi : (k : Int) < (n : Int) := by omega
      obtain ⟨m, hmk⟩ : ∃ m, ms[k]? = some m := ⟨_, List.getElem?_eq_getElem (by have := HN.out; omega)⟩
      obtain ⟨a', c', hdk⟩ := say_at HS.out hmk
      obtain ⟨⟨ba, oa, rfl, y0, y1, y2, y3⟩, hrowA⟩ := hma.2 k m hmk
      obtain ⟨⟨bb, ob, rfl, z0, z1, z2, z3⟩, hrowB⟩ := hmb.2 k _ hdk
      clear hmk hdk ha hb
      go_wp2_with fail
      go_region_with (go_at_call 31; refine (eqMsg_any m.k m.p m.o m.a a' m.c c' m.xs _ ?_ ?_).mono ?_; exact hrowA; exact hrowB; rintro e w1 ⟨rfl, b1⟩)
      all_goals
        have hma1 := hma.below (bel_undrew b1)
        have hmb1 := hmb.below (bel_undrew b1)
        have hB1 := bel_trans hB (bel_undrew b1)
        clear hma hmb hB b1 y0 y1 y2 y3 z0 z1 z2 z3 hrowA hrowB
        go_wp2
        go_roundw
        case rel => exact ⟨k + 1, by omega, by go_num, hma1, hmb1, hB1⟩
        case measure => simp [intOf]; omega
    · clear ha hb hma hmb
      go_wp2
      go_ret
      exact ⟨rfl, hB⟩

set_option maxRecDepth 100000 in
set_option maxHeartbeats 1000000 in
theorem eqSender_any (base : Int) (a b : Option Addr) (ca cb : Nat) (ms ds : List M) (n : Nat) (w : World) (hn : ms.length = n) (hs : ds.map M.say = ms.map M.say) (ha : MRow w a ms) (hb : MRow w b ds) :
    Calls Tryz.prog 108 #[.agg #[.int .i64 base, .slice a n ca], .agg #[.int .i64 base, .slice b n cb]] w fun e w' => e = .returned (.bool true) ∧ Below w.heap.size w w' := by
  have bA := bel_alloc (bel_alloc (Below.refl w.heap.size w) (.cells #[.int .i64 base, .slice a n ca] 87)) (.cells #[.int .i64 base, .slice b n cb] 87)
  go_enter Tryz.func108, Tryz.ntmps108
  go_wp2_with fail
  refine (eqMsgS_any a b ca cb ms ds n _ hn hs (ha.below bA) (hb.below bA)).mono ?_
  rintro e w1 ⟨rfl, b1⟩
  have B := bel_trans bA b1
  clear bA b1 ha hb
  go_wp2
  go_ret
  exact ⟨rfl, B⟩
end Go.Proofs.YtiaiomjoapbalaaGreat

/- Rows by their elements; what a reader is told of a node; what the law's eqNode does. -/
namespace Go.Proofs.YtiaiomjoapbalaaGreat
open Go.RowKit
set_option linter.unusedVariables false

/-- A row's cells, element by element. -/
def chunks (n : Nat) (f : Nat → List Value) : List Value := (List.range n).flatMap f

theorem chunks_succ (n : Nat) (f : Nat → List Value) : chunks (n + 1) f = chunks n f ++ f n := by simp [chunks, List.range_succ]
theorem chunks_zero (f : Nat → List Value) : chunks 0 f = [] := rfl
theorem chunks_length {s : Nat} (n : Nat) {f : Nat → List Value} (hf : ∀ i, i < n → (f i).length = s) : (chunks n f).length = n * s := by
  induction n with
  | zero => simp [chunks]
  | succ n ih => rw [chunks_succ, List.length_append, ih (fun i hi => hf i (by omega)), hf n (by omega), Nat.succ_mul]
theorem chunks_get {s n : Nat} {f : Nat → List Value} (hf : ∀ i, i < n → (f i).length = s) {i j : Nat} (hi : i < n) (hj : j < s) : (chunks n f)[i * s + j]? = (f i)[j]? := by
  induction n with
  | zero => omega
  | succ n ih =>
    have hl := chunks_length n (f := f) (s := s) (fun i hi => hf i (by omega))
    rw [chunks_succ]
    by_cases h : i < n
    · have h2 : (i + 1) * s ≤ n * s := Nat.mul_le_mul_right s h
      rw [Nat.succ_mul] at h2
      rw [List.getElem?_append_left (by omega)]
      exact ih (fun i hi => hf i (by omega)) h
    · obtain rfl : i = n := by omega
      rw [List.getElem?_append_right (by omega), hl]
      congr 1
      omega
theorem chunks_congr {n : Nat} {f g : Nat → List Value} (h : ∀ i, i < n → f i = g i) : chunks n f = chunks n g := by
  induction n with
  | zero => rfl
  | succ n ih => rw [chunks_succ, chunks_succ, ih (fun i hi => h i (by omega)), h n (by omega)]
theorem chunks_set {s n : Nat} {f : Nat → List Value} (hf : ∀ i, i < n → (f i).length = s) {i j : Nat} (hi : i < n) (hj : j < s) (u : Value) :
    (chunks n f).set (i * s + j) u = chunks n (fun x => if x = i then (f x).set j u else f x) := by
  induction n with
  | zero => omega
  | succ n ih =>
    have hl := chunks_length n (f := f) (s := s) (fun i hi => hf i (by omega))
    rw [chunks_succ, chunks_succ]
    by_cases h : i < n
    · have h2 : (i + 1) * s ≤ n * s := Nat.mul_le_mul_right s h
      rw [Nat.succ_mul] at h2
      rw [List.set_append_left _ _ (by omega), ih (fun i hi => hf i (by omega)) h, if_neg (by omega)]
    · obtain rfl : i = n := by omega
      rw [List.set_append_right _ _ (by omega), hl, if_pos rfl]
      congr 1
      · exact chunks_congr (fun x hx => by rw [if_neg (by omega)])
      · congr 1
        omega

theorem VRow.chunk {w : World} {a : Option Addr} {s n : Nat} {f : Nat → List Value} (h : VRow w a (chunks n f)) (hf : ∀ i, i < n → (f i).length = s) (hs : 0 < s) {i : Nat} (hi : i < n) :
    ∃ b off, a = some ⟨b, off, none⟩ ∧ ∀ j v, (f i)[j]? = some v → w.cell? ⟨b, off + i * s + j, none⟩ = some v := by
  have hl := hf i hi
  obtain ⟨b, off, rfl, _⟩ := h.2 (i * s + 0) _ ((chunks_get hf hi hs).trans (List.getElem?_eq_getElem (by omega)))
  refine ⟨b, off, rfl, fun j v hv => ?_⟩
  have hj : j < s := by have := (List.getElem?_eq_some_iff.1 hv).1; omega
  obtain ⟨b', off', e, hc⟩ := h.2 (i * s + j) v ((chunks_get hf hi hj).trans hv)
  simp only [Option.some.injEq, Addr.mk.injEq, and_true] at e
  obtain ⟨rfl, rfl⟩ := e
  rw [Nat.add_assoc]
  exact hc

/-- What a frame, a home, a node say. -/
structure FD where
  s : Int
  xs : List Int
  q : Bool
structure HD where
  xs : List Int
  ow : Int
  bs : List Bool
  bz : Bool
  wh : Int
  wo : Bool
  ak : Int
  ws : List (Int × Bool)
abbrev Pl := Option Addr × Nat
structure HP where
  l : Pl
  r : Pl
  q : Pl
def fcells (d : FD) (p : Pl) : List Value := [.int .i64 d.s, .slice p.1 d.xs.length p.2, .bool d.q]
def hcells (d : HD) (p : HP) : List Value := [.slice p.l.1 d.xs.length p.l.2, .int .i64 d.ow, .slice p.r.1 d.bs.length p.r.2, .bool d.bz, .int .i64 d.wh, .bool d.wo, .int .i64 d.ak, .slice p.q.1 d.ws.length p.q.2]
def scells (b : Int) (p : Pl) (n : Nat) : List Value := [.int .i64 b, .slice p.1 n p.2]
def gcells (g : Int) : List Value := [.int .i64 g]

def FR (w : World) (a : Option Addr) (n : Nat) (d : Nat → FD) (p : Nat → Pl) : Prop := n ≤ 1048577 ∧ VRow w a (chunks n fun i => fcells (d i) (p i)) ∧ ∀ i, i < n → Row .i64 w (p i).1 (d i).xs
def HR2 (w : World) (a : Option Addr) (n : Nat) (d : Nat → HD) (p : Nat → HP) : Prop := n ≤ 1048577 ∧ VRow w a (chunks n fun i => hcells (d i) (p i)) ∧
  ∀ i, i < n → Row .i64 w (p i).l.1 (d i).xs ∧ VRow w (p i).r.1 (bv (d i).bs) ∧ VRow w (p i).q.1 (wv (d i).ws)
def SR (w : World) (a : Option Addr) (n : Nat) (b : Nat → Int) (y : Nat → List Say) (p : Nat → Pl) (ms : Nat → List M) : Prop := n ≤ 1048577 ∧ VRow w a (chunks n fun i => scells (b i) (p i) (y i).length) ∧
  ∀ i, i < n → MRow w (p i).1 (ms i) ∧ (ms i).map M.say = y i
def GR (w : World) (a : Option Addr) (n : Nat) (g : Nat → Int) : Prop := n ≤ 1048577 ∧ VRow w a (chunks n fun i => gcells (g i))

theorem FR.below {w w' : World} {a : Option Addr} {n : Nat} {d : Nat → FD} {p : Nat → Pl} (h : FR w a n d p) (hb : Below w.heap.size w w') : FR w' a n d p := ⟨h.1, h.2.1.below hb, fun i hi => (h.2.2 i hi).below hb⟩
theorem HR2.below {w w' : World} {a : Option Addr} {n : Nat} {d : Nat → HD} {p : Nat → HP} (h : HR2 w a n d p) (hb : Below w.heap.size w w') : HR2 w' a n d p :=
  ⟨h.1, h.2.1.below hb, fun i hi => ⟨(h.2.2 i hi).1.below hb, (h.2.2 i hi).2.1.below hb, (h.2.2 i hi).2.2.below hb⟩⟩
theorem SR.below {w w' : World} {a : Option Addr} {n : Nat} {b : Nat → Int} {y : Nat → List Say} {p : Nat → Pl} {ms : Nat → List M} (h : SR w a n b y p ms) (hb : Below w.heap.size w w') : SR w' a n b y p ms :=
  ⟨h.1, h.2.1.below hb, fun i hi => ⟨(h.2.2 i hi).1.below hb, (h.2.2 i hi).2⟩⟩
theorem GR.below {w w' : World} {a : Option Addr} {n : Nat} {g : Nat → Int} (h : GR w a n g) (hb : Below w.heap.size w w') : GR w' a n g := ⟨h.1, h.2.below hb⟩

theorem FR.at {w : World} {a : Option Addr} {n : Nat} {d : Nat → FD} {p : Nat → Pl} (h : FR w a n d p) {i : Nat} (hi : i < n) :
    ∃ b off, a = some ⟨b, off, none⟩ ∧ w.cell? ⟨b, off + i * 3, none⟩ = some (.int .i64 (d i).s) ∧ w.cell? ⟨b, off + i * 3 + 1, none⟩ = some (.slice (p i).1 (d i).xs.length (p i).2) ∧ w.cell? ⟨b, off + i * 3 + 2, none⟩ = some (.bool (d i).q) := by
  obtain ⟨b, off, rfl, hc⟩ := h.2.1.chunk (s := 3) (fun i _ => rfl) (by decide) hi
  exact ⟨b, off, rfl, hc 0 _ rfl, hc 1 _ rfl, hc 2 _ rfl⟩
theorem HR2.at {w : World} {a : Option Addr} {n : Nat} {d : Nat → HD} {p : Nat → HP} (h : HR2 w a n d p) {i : Nat} (hi : i < n) :
    ∃ b off, a = some ⟨b, off, none⟩ ∧ w.cell? ⟨b, off + i * 8, none⟩ = some (.slice (p i).l.1 (d i).xs.length (p i).l.2) ∧ w.cell? ⟨b, off + i * 8 + 1, none⟩ = some (.int .i64 (d i).ow) ∧
      w.cell? ⟨b, off + i * 8 + 2, none⟩ = some (.slice (p i).r.1 (d i).bs.length (p i).r.2) ∧ w.cell? ⟨b, off + i * 8 + 3, none⟩ = some (.bool (d i).bz) ∧ w.cell? ⟨b, off + i * 8 + 4, none⟩ = some (.int .i64 (d i).wh) ∧
      w.cell? ⟨b, off + i * 8 + 5, none⟩ = some (.bool (d i).wo) ∧ w.cell? ⟨b, off + i * 8 + 6, none⟩ = some (.int .i64 (d i).ak) ∧ w.cell? ⟨b, off + i * 8 + 7, none⟩ = some (.slice (p i).q.1 (d i).ws.length (p i).q.2) := by
  obtain ⟨b, off, rfl, hc⟩ := h.2.1.chunk (s := 8) (fun i _ => rfl) (by decide) hi
  exact ⟨b, off, rfl, hc 0 _ rfl, hc 1 _ rfl, hc 2 _ rfl, hc 3 _ rfl, hc 4 _ rfl, hc 5 _ rfl, hc 6 _ rfl, hc 7 _ rfl⟩
theorem SR.at {w : World} {a : Option Addr} {n : Nat} {b : Nat → Int} {y : Nat → List Say} {p : Nat → Pl} {ms : Nat → List M} (h : SR w a n b y p ms) {i : Nat} (hi : i < n) :
    ∃ m off, a = some ⟨m, off, none⟩ ∧ w.cell? ⟨m, off + i * 2, none⟩ = some (.int .i64 (b i)) ∧ w.cell? ⟨m, off + i * 2 + 1, none⟩ = some (.slice (p i).1 (y i).length (p i).2) := by
  obtain ⟨b, off, rfl, hc⟩ := h.2.1.chunk (s := 2) (fun i _ => rfl) (by decide) hi
  exact ⟨b, off, rfl, hc 0 _ rfl, hc 1 _ rfl⟩
theorem GR.at {w : World} {a : Option Addr} {n : Nat} {g : Nat → Int} (h : GR w a n g) {i : Nat} (hi : i < n) :
    ∃ m off, a = some ⟨m, off, none⟩ ∧ w.cell? ⟨m, off + i, none⟩ = some (.int .i64 (g i)) := by
  obtain ⟨b, off, rfl, hc⟩ := h.2.chunk (s := 1) (fun i _ => rfl) (by decide) hi
  have := hc 0 _ rfl
  rw [Nat.mul_one, Nat.add_zero] at this
  exact ⟨b, off, rfl, this⟩
end Go.Proofs.YtiaiomjoapbalaaGreat
