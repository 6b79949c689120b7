/- What the specification's BlockOf answers. -/
import Derived.Test.YtfbdgcoingagcaaBk4
import Derived.Laws.AppendOwn
import Derived.Deep.AppendLies
namespace Go.Proofs.Ytfbdgcoingagcaa
open Go.RowKit
set_option linter.unusedVariables false

/-- What a word is taken apart to. -/
def dx (v : Int) : XD := if decB v then ⟨(decD v).1, (decD v).2.1, (decD v).2.2.1, (decD v).2.2.2.1, (decD v).2.2.2.2⟩ else ⟨0, 0, 0, 0, 0⟩
theorem dx_cells (v : Int) : decV v = icells (dx v).op (dx v).r (dx v).a (dx v).b (dx v).n := by
  unfold decV dx
  cases decB v <;> rfl
def endX (d : XD) : Bool := endsB d.op d.r d.a d.b d.n
/-- How many places there are up to and with the first that ends. -/
def cntB : List Int → Nat
  | [] => 0
  | x :: t => if endX (dx x) then 1 else cntB t + 1
theorem cntB_le : ∀ l : List Int, cntB l ≤ l.length
  | [] => Nat.le_refl _
  | x :: t => by
    have := cntB_le t
    unfold cntB
    split
    · simp
    · simp; exact this
theorem cnt_at {xs : List Int} {s : Nat} : ∀ {j : Nat}, s + j ≤ xs.length → (∀ i, i < j → endX (dx (xs.getD (s + i) 0)) = false) → cntB (xs.drop s) = j + cntB (xs.drop (s + j))
  | 0, _, _ => by simp
  | j + 1, hl, h => by
    have ih := cnt_at (j := j) (by omega) (fun i hi => h i (by omega))
    have hlt : s + j < xs.length := by omega
    rw [ih, drop_at xs (s + j) hlt]
    have e := h j (by omega)
    show j + cntB (xs.getD (s + j) 0 :: xs.drop (s + j + 1)) = _
    rw [cntB, e]
    simp only [Bool.false_eq_true, if_false]
    rw [show s + (j + 1) = s + j + 1 by omega]
    omega
theorem cnt_end {xs : List Int} {s j : Nat} (hl : s + j < xs.length) (h : ∀ i, i < j → endX (dx (xs.getD (s + i) 0)) = false) (he : endX (dx (xs.getD (s + j) 0)) = true) : cntB (xs.drop s) = j + 1 := by
  rw [cnt_at (by omega) h, drop_at xs (s + j) hl, cntB, he]
  rfl
theorem cnt_all {xs : List Int} {s j : Nat} (hl : s + j = xs.length) (h : ∀ i, i < j → endX (dx (xs.getD (s + i) 0)) = false) : cntB (xs.drop s) = j := by
  rw [cnt_at (by omega) h, hl, List.drop_length]
  rfl
def ofD (xs : List Int) (st : Int) (i : Nat) : XD := dx (xs.getD ((st % 4).toNat + i) 0)
theorem cnt_end' {xs : List Int} {st : Int} {s j : Nat} (hs : (st % 4).toNat = s) (hl : s + j < xs.length) (h : ∀ i, i < j → endX (ofD xs st i) = false) (he : endX (ofD xs st j) = true) : cntB (xs.drop (st % 4).toNat) = j + 1 := by
  subst hs
  exact cnt_end hl h he
theorem cnt_all' {xs : List Int} {st : Int} {s j : Nat} (hs : (st % 4).toNat = s) (hl : s + j = xs.length) (h : ∀ i, i < j → endX (ofD xs st i) = false) : cntB (xs.drop (st % 4).toNat) = j := by
  subst hs
  exact cnt_all hl h
def ofB (xs : List Int) (st : Int) : Bool := decide (xs.length = 4) && inB st 0 23
def ofS (xs : List Int) (st : Int) : Int := if ofB xs st then st else 0
def ofN (xs : List Int) (st : Int) : Nat := if ofB xs st then cntB (xs.drop (st % 4).toNat) else 0
theorem ofN_le (xs : List Int) (st : Int) : ofN xs st ≤ 4 := by
  unfold ofN
  cases h : ofB xs st
  · simp
  · have h4 : xs.length = 4 := by unfold ofB at h; simp at h; exact h.1
    have := cntB_le (xs.drop (st % 4).toNat)
    rw [List.length_drop] at this
    simp
    omega
theorem ofN_pos {xs : List Int} {st : Int} (h4 : xs.length = 4) (h0 : 0 ≤ st) (h1 : st ≤ 23) : 1 ≤ ofN xs st ∧ ofS xs st = st := by
  have hb : ofB xs st = true := by unfold ofB inB; simp [h4, h0, h1]
  unfold ofN ofS
  rw [hb]
  have hlt : (st % 4).toNat < xs.length := by omega
  rw [drop_at xs _ hlt]
  simp only [if_true, and_true]
  unfold cntB
  split <;> omega
/-- What BlockOf answers. -/
def BlkP (xs : List Int) (st : Int) (w : World) (e : Ending) (w' : World) : Prop :=
  ∃ a c, e = .returned (.agg #[.int .i64 (ofS xs st), .slice a (ofN xs st) c]) ∧ IOw w' w.heap.size a c (ofN xs st) (ofD xs st) ∧ Below w.heap.size w w'
theorem blk_no {xs : List Int} {st : Int} (h : ofB xs st = false) {w w' : World} (b : Below w.heap.size w w') : BlkP xs st w (.returned (.agg #[.int .i64 0, .slice none 0 0])) w' := by
  unfold BlkP ofS ofN
  rw [h]
  exact ⟨none, 0, rfl, World.ownsRow_nil _ _ _ _, b⟩
theorem blk_yes {xs : List Int} {st : Int} (h : ofB xs st = true) {n : Nat} (hn : cntB (xs.drop (st % 4).toNat) = n) {a : Option Addr} {c : Nat} {w w' : World} (o : IOw w' w.heap.size a c n (ofD xs st)) (b : Below w.heap.size w w') : BlkP xs st w (.returned (.agg #[.int .i64 st, .slice a n c])) w' := by
  subst hn
  unfold BlkP ofS ofN
  rw [h]
  exact ⟨a, c, rfl, o, b⟩
/-- The specification's walk over the words, j places done. -/
structure BkL (w0 w : World) (xs : List Int) (st : Int) (j : Nat) (a : Option Addr) (c : Nat) : Prop where
  o : IOw w (w0.heap.size + 2) a c j (ofD xs st)
  X0 : Box w w0.heap.size #[.int .i64 0, .slice none 0 0] 29
  X : Box w (w0.heap.size + 1) #[.int .i64 st, .slice a j c] 29
  b : Below w0.heap.size w0 w
theorem BkL.below {w0 w w' : World} {xs : List Int} {st : Int} {j : Nat} {a : Option Addr} {c : Nat} (h : BkL w0 w xs st j a c) (b : Below w.heap.size w w') : BkL w0 w' xs st j a c :=
  ⟨h.o.below b, h.X0.below b, h.X.below b, bel_trans h.b b⟩
theorem BkL.grow {w0 wr w5 : World} {xs : List Int} {st : Int} {j : Nat} {a : Option Addr} {c g cap : Nat} (h : BkL w0 wr xs st j a c)
    (o5 : w5.ownsRow (w0.heap.size + 2) 36 5 (.slice (some ⟨g, 0, none⟩) (j + 1) cap) (j + 1) (chunks j (fun i => ic (ofD xs st i)) ++ ic (ofD xs st j))) (g5 : wr.grownBy w5 (Value.slice a j c).ownBlock) :
    BkL w0 (w5.setCell ⟨w0.heap.size + 1, 1, none⟩ (.slice (some ⟨g, 0, none⟩) (j + 1) cap)) xs st (j + 1) (some ⟨g, 0, none⟩) cap := by
  have lo : ∀ x, (Value.slice a j c).ownBlock = some x → w0.heap.size + 2 ≤ x := fun x hx => (World.ownsRow.lt h.o x hx).1
  have on5 : Only wr w5 (fun x => (Value.slice a j c).ownBlock = some x) := (Only.refl wr _).grown g5 (fun j hj => hj)
  have X5 := h.X.only on5 (fun e => by have := lo _ e; omega)
  have Y5 := h.X0.only on5 (fun e => by have := lo _ e; omega)
  refine ⟨?_, Y5.far _ _ (by simp), heap_setCell_same _ _ 1 _ _ _ X5, ?_⟩
  · show World.ownsRow _ _ _ _ _ _ _
    rw [chunks_succ]
    refine owns_setCell o5 (fun x hx => ?_) _
    have := (World.ownsRow.lt o5 x hx).1
    simp
    omega
  · exact bel_setCell (h.b.grown g5 h.b.size (fun x hx => by have := lo x hx; omega)) _ _ (by simp)

set_option maxRecDepth 100000 in
set_option maxHeartbeats 4000000 in
theorem specBlockOf_any (p : Option Addr) (cp : Nat) (xs : List Int) (st : Int) (w : World) (hr : Row .i64 w p xs) :
    Calls Try.prog 11 #[.slice p xs.length cp, .int .i64 st] w (BlkP xs st w) := by
  have bA := bel_alloc (Below.refl w.heap.size w) (.cells #[.int .i64 0, .slice none 0 0] 29)
  by_cases h4 : xs.length = 4
  · cases hb : inB st 0 23
    · have HN : Hid (ofB xs st = false) := by show _ = _; unfold ofB; rw [hb]; simp
      have HB : Hid (inB st 0 23 = false) := hb
      rw [h4]
      clear hb hr h4
      go_enter Try.func11, Try.ntmps11
      go_wp2_with fail
      refine (specIn_8 st 0 23 _).mono ?_
      rintro e w1 ⟨rfl, h⟩
      subst h
      rw [HB.out]
      go_wp2
      refine bodyPost_ret (v := .agg #[.int .i64 0, .slice none 0 0]) (by simp [results, Try.results11, go_sem]) rfl (blk_no HN.out ?_)
      exact bA
    · have HY : Hid (ofB xs st = true) := by show _ = _; unfold ofB; rw [hb, h4]; rfl
      have HB : Hid (inB st 0 23 = true) := hb
      have H4 : Hid (xs.length = 4) := h4
      obtain ⟨s0, s1⟩ : 0 ≤ st ∧ st ≤ 23 := by simpa [inB] using hb
      obtain ⟨s, hs⟩ : ∃ s : Nat, st % 4 = (s : Int) := ⟨(st % 4).toNat, by omega⟩
      have hs4 : s < 4 := by omega
      have HS : Hid ((st % 4).toNat = s) := by show _ = _; omega
      have HSI : Hid (st % 4 = (s : Int)) := hs
      clear hs
      have HR : Hid (Row .i64 w p xs) := hr
      rw [h4]
      clear hb hr h4
      obtain ⟨i0, hi0, hz0, hz1, hz2⟩ := info_parts info_ins2
      obtain ⟨XR, XB⟩ := Box.two w #[.int .i64 0, .slice none 0 0] #[.int .i64 st, .slice none 0 0] 29 29
      have H0 : Hid (BkL w _ xs st 0 none 0) := ⟨World.ownsRow_nil _ _ _ _, XR, XB, bel_alloc bA _⟩
      clear XR XB bA
      go_enter Try.func11, Try.ntmps11
      go_wp2_with fail
      refine (specIn_8 st 0 23 _).mono ?_
      rintro e w1 ⟨rfl, h⟩
      replace h := h.symm
      subst h
      rw [HB.out]
      go_wp2_with fail
      go_loopw [6] (fun i wr => ∃ j k : Nat, k = s + j ∧ k ≤ 4 ∧ i = .int .i64 k ∧ (∀ i, i < j → endX (ofD xs st i) = false) ∧ ∃ a c, BkL w wr xs st j a c) (fun i _ => 4 - (intOf i).toNat)
      case atStart => exact ⟨0, s, rfl, by omega, by rw [HSI.out], fun i hi => absurd hi (Nat.not_lt_zero i), _, _, H0.out⟩
      case round =>
        obtain ⟨j, k, hk, hk4, rfl, hE, a, c, hL⟩ := hrel
        clear H0
        have HE : Hid (∀ i, i < j → endX (ofD xs st i) = false) := hE
        have HK : Hid (k = s + j) := hk
        clear hE
        by_cases hlt : k < 4
        · have hi : (k : Int) < 4 := by omega
          obtain ⟨v, hv⟩ : ∃ v, xs.getD k 0 = v := ⟨_, rfl⟩
          obtain ⟨pb, po, rfl, hc⟩ := HR.out.2 k (by rw [H4.out]; exact hlt)
          have hc := (hL.b.cell (p := ⟨pb, po + k, none⟩) (lt_of_cell hc)).trans hc
          rw [hv] at hc
          have hcz := lt_of_cell hc
          obtain ⟨y, hy⟩ : ∃ y, dx v = y := ⟨_, rfl⟩
          have HD : Hid (ofD xs st j = y) := by show _ = _; unfold ofD; rw [HS.out, ← hk, hv, hy]
          obtain ⟨yo, yr, ya, yb, yn⟩ := y
          have HL : Hid (BkL w wr xs st j a c) := hL
          clear hL hk
          go_wp2_with fail
          refine (specDecode_any v _).mono ?_
          rintro e w1 ⟨rfl, b1⟩
          rw [dx_cells, hy]
          generalize decB v = zb
          have HL1 : Hid (BkL w w1 xs st j a c) := HL.out.below b1
          clear hc hcz hv hy b1 HL
          have b2 := bel_alloc (bel_alloc (Below.refl w1.heap.size w1) (.cells (icells yo yr ya yb yn) 36)) (.cells (icells yo yr ya yb yn) 36)
          obtain ⟨XA, XE⟩ := Box.two w1 (icells yo yr ya yb yn) (icells yo yr ya yb yn) 36 36
          have HL2 : Hid (BkL w _ xs st j a c) := HL1.out.below b2
          obtain ⟨x0, x1, xz⟩ := HL1.out.X.at2
          have hr2 : World.ownsRow _ _ _ _ _ _ _ := HL2.out.o
          have HZ : Hid (∀ x, (Value.slice a j c).ownBlock = some x → w.heap.size + 2 ≤ x ∧ x < w1.heap.size) := fun x hx => World.ownsRow.lt HL1.out.o x hx
          clear b2
          go_wp2_with (at_builtin; refine wpList_append_lies _ rfl (.tmp 35) (.tmp 37) 27 rfl (w.heap.size + 2) 36 i0 (.agg #[.int .i64 0, .int .i64 0, .int .i64 0, .int .i64 0, .int .i64 0]) 5 40 Try.underlying27 hi0 hz0 hz1 hz2 rfl (by decide) (.slice a j c) j (chunks j (fun i => ic (ofD xs st i))) (by rfl) hr2 ⟨w1.heap.size + 1, 0, none⟩ 1 1 [.int .i64 yo, .int .i64 yr, .int .i64 ya, .int .i64 yb, .int .i64 yn] (by rfl) (by rfl) (World.news_of_block XE) (by intro u hu; simp at hu; rcases hu with rfl | rfl | rfl | rfl | rfl <;> rfl) (by decide) (by unfold maxLen; have := HK.out; omega) (by have := HK.out; omega) (by simp; omega) _ rfl ?_)
          intro g cap w5 o5 g5 at5 lt5
          have HQ : Hid (BkL w _ xs st (j + 1) (some ⟨g, 0, none⟩) cap) := HL2.out.grow (by rw [HD.out]; exact o5) g5
          have on5 := (Only.refl _ (fun x => (Value.slice a j c).ownBlock = some x)).grown g5 (fun j hj => hj)
          have X5 := HL2.out.X.only on5 (fun e => by have := HZ.out _ e; omega)
          have XA5 := XA.only on5 (fun e => by have := HZ.out _ e; omega)
          obtain ⟨u0, u1, uz⟩ := X5.at2
          have uf := X5.frozen 1
          obtain ⟨v0, v1, v2, v3, v4, vz⟩ := XA5.at5i
          have hne : ¬ (w1.heap.size = w.heap.size + 1) := by omega
          clear x0 x1 hr2 XA XE o5 g5 at5 X5 XA5 HL2 on5
          go_wp2_with fail
          refine (specEnds_any yo yr ya yb yn _).mono ?_
          rintro e w6 ⟨rfl, b6⟩
          have HQ6 : Hid _ := HQ.out.below b6
          clear HQ b6 u0 u1 uf v0 v1 v2 v3 v4
          cases hz : endsB yo yr ya yb yn
          · have HE2 : Hid (∀ i, i < j + 1 → endX (ofD xs st i) = false) := fun i hi => by
              by_cases e : i = j
              · subst e; rw [HD.out]; exact hz
              · exact HE.out i (by omega)
            clear hz
            go_wp2
            go_roundw
            case rel => exact ⟨j + 1, k + 1, by have := HK.out; omega, by omega, by go_num, HE2.out, _, _, HQ6.out⟩
            case measure => simp [intOf]; omega
          · have HC : Hid (cntB (xs.drop (st % 4).toNat) = j + 1) := cnt_end' HS.out (by rw [H4.out, ← HK.out]; exact hlt) HE.out (by rw [HD.out]; exact hz)
            obtain ⟨x0, x1, zx⟩ := HQ6.out.X.at2
            obtain ⟨y0, y1, zy⟩ := HQ6.out.X0.at2
            have f0 := HQ6.out.X0.frozen 0
            have f1 := HQ6.out.X0.frozen 1
            clear hz
            go_wp2
            refine bodyPost_ret (v := .agg #[.int .i64 st, .slice (some ⟨g, 0, none⟩) (j + 1) cap]) (by simp [results, Try.results11, go_sem, y0, y1]) rfl (blk_yes HY.out HC.out ?_ ?_)
            · show World.ownsRow _ _ _ _ _ _ _
              repeat refine owns_setCell ?_ ?_ _
              · exact owns_base HQ6.out.o (by omega)
              all_goals (intro x hx; have := (World.ownsRow.lt HQ6.out.o x hx).1; simp; omega)
            · exact bel_setCell (bel_setCell HQ6.out.b _ _ (by simp)) _ _ (by simp)
        · have HC : Hid (cntB (xs.drop (st % 4).toNat) = j) := cnt_all' HS.out (by rw [H4.out, ← HK.out]; omega) HE.out
          have HQ6 : Hid _ := hL
          obtain ⟨x0, x1, zx⟩ := hL.X.at2
          obtain ⟨y0, y1, zy⟩ := hL.X0.at2
          have f0 := hL.X0.frozen 0
          have f1 := hL.X0.frozen 1
          have hk' : ¬ ((k : Int) < 4) := by omega
          clear hL hk
          go_wp2
          refine bodyPost_ret (v := .agg #[.int .i64 st, .slice a j c]) (by simp [results, Try.results11, go_sem, y0, y1]) rfl (blk_yes HY.out HC.out ?_ ?_)
          · show World.ownsRow _ _ _ _ _ _ _
            repeat refine owns_setCell ?_ ?_ _
            · exact owns_base HQ6.out.o (by omega)
            all_goals (intro x hx; have := (World.ownsRow.lt HQ6.out.o x hx).1; simp; omega)
          · exact bel_setCell (bel_setCell HQ6.out.b _ _ (by simp)) _ _ (by simp)
  · have HN : Hid (ofB xs st = false) := by show _ = _; unfold ofB; simp [h4]
    have hl : ¬ ((xs.length : Int) = 4) := by omega
    have hm := hr.1
    clear hr
    go_enter Try.func11, Try.ntmps11
    go_wp2
    refine bodyPost_ret (v := .agg #[.int .i64 0, .slice none 0 0]) (by simp [results, Try.results11, go_sem]) rfl (blk_no HN.out ?_)
    exact bA
end Go.Proofs.Ytfbdgcoingagcaa
