/- What the specification's WorldNew does. -/
import Derived.Test.YtnhbilhkmbkibaaWnN
namespace Go.Proofs.Ytnhbilhkmbkibaa
open Go.RowKit
set_option linter.unusedVariables false

/-- The first j nodes lie behind each other. -/
structure WN (w0 w : World) (n j : Nat) (a : Option Addr) (c : Nat) (p : Nat → NP) : Prop where
  r : NsO w a c j (fun i => newND i n) p
  t : ∀ i, i < j → Nti (newND i n) (p i)
  lo : ∀ b, RS a c j (fun i => NBs (newND i n) (p i)) b → w0.heap.size + 2 ≤ b
  X : Box w (w0.heap.size + 1) #[.int .i64 (n : Int), .slice a j c, .slice none 0 0] 25
  X0 : Box w w0.heap.size #[.int .i64 0, .slice none 0 0, .slice none 0 0] 25
  b : Below w0.heap.size w0 w

theorem WN.next {w0 wr w1 V w5 : World} {n j g cap : Nat} {a : Option Addr} {c : Nat} {p : Nat → NP} {p2 : NP} (h : WN w0 wr n j a c p) (o1 : NOw w1 (newND j n) p2) (l1 : ∀ b, NBs (newND j n) p2 b → wr.heap.size ≤ b) (t1 : Nti (newND j n) p2) (b1 : Below wr.heap.size wr w1) (b2 : Below w1.heap.size w1 V)
    (o5 : w5.ownsRow 0 37 5 (.slice (some ⟨g, 0, none⟩) (j + 1) cap) (j + 1) (chunks j (fun i => nlist (newND i n) (p i)) ++ [.int .i64 (j : Int), .slice p2.f.1 6 p2.f.2, .slice p2.h.1 6 p2.h.2, .slice p2.o.1 n p2.o.2, .slice p2.i.1 n p2.i.2])) (g5 : V.grownBy w5 (Value.slice a j c).ownBlock) (hg : (Value.slice a j c).ownBlock = some g ∨ g = V.heap.size) :
    WN w0 (w5.setCell ⟨w0.heap.size + 1, 1, none⟩ (.slice (some ⟨g, 0, none⟩) (j + 1) cap)) n (j + 1) (some ⟨g, 0, none⟩) cap (fun i => if i = j then p2 else p i) := by
  have b12 := bel_trans b1 b2
  have hm := h.X.lt
  have hs := b12.size
  have oV := o1.below b2
  have R5 := Rw.snoc (E' := fun w => NOw w (newND j n) p2) h.r b12 oV (fix_n _ _) (fun x hx => ⟨l1 x hx, oV.lt hx⟩) o5 g5 hg
  have R6 : NsO w5 (some ⟨g, 0, none⟩) cap (j + 1) (fun i => newND i n) (fun i => if i = j then p2 else p i) := R5.congr (fun i hi => by
      by_cases e : i = j
      · subst e; simp [nlist, newND]
      · simp [e]) (fun i hi => by
      by_cases e : i = j
      · subst e; simp
      · simp [e]) (fun i hi => by
      by_cases e : i = j
      · subst e; simp
      · simp [e])
  have on5 : Only V w5 (fun x => (Value.slice a j c).ownBlock = some x) := (Only.refl V _).grown g5 (fun j hj => hj)
  have lo5 : ∀ b, RS (some ⟨g, 0, none⟩) cap (j + 1) (fun i => NBs (newND i n) (if i = j then p2 else p i)) b → w0.heap.size + 2 ≤ b := fun b hb => by
    rcases hb with hb | ⟨i, hi, hb⟩
    · simp [blk] at hb
      subst hb
      rcases hg with hg | hg
      · exact h.lo _ (.inl (blk_eq hg))
      · omega
    · by_cases e : i = j
      · rw [if_pos e, e] at hb
        have := l1 b hb
        omega
      · rw [if_neg e] at hb
        exact h.lo b (.inr ⟨i, by omega, hb⟩)
  have nm : ¬ (Value.slice a j c).ownBlock = some (w0.heap.size + 1) := fun e => by have := h.lo _ (.inl (blk_eq e)); omega
  have n0 : ¬ (Value.slice a j c).ownBlock = some w0.heap.size := fun e => by have := h.lo _ (.inl (blk_eq e)); omega
  have X5 := (h.X.below b12).only on5 nm
  have Y5 := (h.X0.below b12).only on5 n0
  refine ⟨?_, fun i hi => ?_, lo5, heap_setCell_same _ _ 1 _ _ _ X5, Y5.far _ _ (by simp), ?_⟩
  · refine Rw.sm R6 (((Only.refl w5 (fun b => b = w0.heap.size + 1)).setCell _ _ rfl).sm (fun b hb e => ?_))
    have := lo5 b hb
    omega
  · by_cases e : i = j
    · rw [if_pos e, e]; exact t1
    · rw [if_neg e]; exact h.t i (by omega)
  · have hB := bel_trans h.b b12
    have B5 : Below w0.heap.size w0 w5 := hB.grown g5 hB.size (fun x hx => by have := h.lo _ (.inl (blk_eq hx)); omega)
    exact bel_setCell B5 _ _ (by simp)

set_option maxRecDepth 100000 in
set_option maxHeartbeats 4000000 in
theorem specWorldNew_any (size : Int) (w : World) : Calls Try.prog 4 #[.int .i64 size] w (WNewP size w) := by
  cases hb : inB size 1 4
  · have HB : Hid (inB size 1 4 = false) := hb
    clear hb
    go_enter Try.func4, Try.ntmps4
    go_wp2_with fail
    refine (specIn_b size 1 4 _).mono ?_
    rintro e w1 ⟨rfl, h⟩
    subst h
    rw [HB.out]
    go_wp2
    refine bodyPost_ret (v := .tuple #[.agg #[.int .i64 0, .slice none 0 0, .slice none 0 0], .bool false]) (by simp [results, Try.results4, go_sem]) rfl (wnew_bad HB.out ?_)
    exact bel_alloc (Below.refl _ _) _
  · obtain ⟨h1, h4⟩ : 1 ≤ size ∧ size ≤ 4 := by simpa [inB] using hb
    obtain ⟨n, hn⟩ : ∃ n : Nat, size = (n : Int) := ⟨size.toNat, by omega⟩
    subst hn
    have HI : Hid (inB (n : Int) 1 4 = true) := hb
    clear hb
    obtain ⟨i0, hi0, hz0, hz1, hz2⟩ := info_parts info_nodeW
    have B0 := bel_alloc (bel_alloc (Below.refl w.heap.size w) (.cells #[.int .i64 0, .slice none 0 0, .slice none 0 0] 25)) (.cells #[.int .i64 (n : Int), .slice none 0 0, .slice none 0 0] 25)
    obtain ⟨XR, XW⟩ := Box.two w #[.int .i64 0, .slice none 0 0, .slice none 0 0] #[.int .i64 (n : Int), .slice none 0 0, .slice none 0 0] 25 25
    have H0 : Hid (WN w _ n 0 none 0 (fun _ => ⟨(none, 0), fun _ => (none, 0), (none, 0), fun _ => ⟨(none, 0), (none, 0), (none, 0)⟩, (none, 0), fun _ => (none, 0), fun _ => [], (none, 0)⟩)) :=
      ⟨⟨World.ownsRow_nil _ _ _ _, fun i hi => absurd hi (Nat.not_lt_zero i), fun i hi => absurd hi (Nat.not_lt_zero i), fun i hi => absurd hi (Nat.not_lt_zero i), fun i k hi => absurd hi (Nat.not_lt_zero i), fun i hi => absurd hi (Nat.not_lt_zero i)⟩, fun i hi => absurd hi (Nat.not_lt_zero i), fun b hb => by
        rcases hb with hb | ⟨i, hi, _⟩
        · simp [blk] at hb
        · exact absurd hi (Nat.not_lt_zero i), XW, XR, B0⟩
    clear B0 XR XW
    go_enter Try.func4, Try.ntmps4
    go_wp2_with fail
    refine (specIn_b _ 1 4 _).mono ?_
    rintro e w1 ⟨rfl, h⟩
    subst h
    rw [HI.out]
    go_wp2_with fail
    go_loopw [5] (fun i wr => ∃ j : Nat, j ≤ n ∧ i = .int .i64 j ∧ ∃ a c p', WN w wr n j a c p') (fun i _ => n - (intOf i).toNat)
    case atStart => exact ⟨0, Nat.zero_le _, rfl, _, _, _, H0.out⟩
    case round =>
      obtain ⟨j, hj, rfl, a, c, p', hN⟩ := hrel
      clear H0
      have HN : Hid (WN w wr n j a c p') := hN
      by_cases hlt : j < n
      · have hi : (j : Int) < (n : Int) := by omega
        clear hN
        go_wp2_with fail
        refine (specNodeNew_any j n _).mono ?_
        intro e w1 hp
        obtain ⟨p2, rfl, o1, l1, t1, b1⟩ := nnew_at HI.out hlt hp
        clear hp
        have HO : Hid (NOw w1 (newND j n) p2 ∧ (∀ b, NBs (newND j n) p2 b → wr.heap.size ≤ b) ∧ Nti (newND j n) p2 ∧ Below wr.heap.size wr w1) := ⟨o1, l1, t1, b1⟩
        have b2 := bel_alloc (bel_alloc (Below.refl w1.heap.size w1) (.cells #[.int .i64 (j : Int), .slice p2.f.1 6 p2.f.2, .slice p2.h.1 6 p2.h.2, .slice p2.o.1 n p2.o.2, .slice p2.i.1 n p2.i.2] 37)) (.cells #[.int .i64 (j : Int), .slice p2.f.1 6 p2.f.2, .slice p2.h.1 6 p2.h.2, .slice p2.o.1 n p2.o.2, .slice p2.i.1 n p2.i.2] 37)
        obtain ⟨XA, XE⟩ := Box.two w1 #[.int .i64 (j : Int), .slice p2.f.1 6 p2.f.2, .slice p2.h.1 6 p2.h.2, .slice p2.o.1 n p2.o.2, .slice p2.i.1 n p2.i.2] #[.int .i64 (j : Int), .slice p2.f.1 6 p2.f.2, .slice p2.h.1 6 p2.h.2, .slice p2.o.1 n p2.o.2, .slice p2.i.1 n p2.i.2] 37 37
        have hr2 := owns_below (owns_below HN.out.r.row b1) b2
        obtain ⟨x0, x1, x2, xz⟩ := (HN.out.X.below b1).at3
        have HX : Hid (Box _ (w.heap.size + 1) #[.int .i64 (n : Int), .slice a j c, .slice none 0 0] 25) := HN.out.X.below (bel_trans b1 b2)
        clear o1 l1 t1 b1
        go_wp2_with (at_builtin; refine wpList_append_lies _ rfl (.tmp 26) (.tmp 28) 22 rfl 0 37 i0 (.agg #[.int .i64 0, .slice none 0 0, .slice none 0 0, .slice none 0 0, .slice none 0 0]) 5 104 Try.underlying22 hi0 hz0 hz1 hz2 rfl (by decide) (.slice a j c) j (chunks j (fun i => nlist (newND i n) (p' i))) (by rfl) hr2 ⟨w1.heap.size + 1, 0, none⟩ 1 1 [.int .i64 (j : Int), .slice p2.f.1 6 p2.f.2, .slice p2.h.1 6 p2.h.2, .slice p2.o.1 n p2.o.2, .slice p2.i.1 n p2.i.2] (by rfl) (by rfl) (World.news_of_block XE) (by intro u hu; simp at hu; rcases hu with rfl | rfl | rfl | rfl | rfl <;> rfl) (by decide) (by unfold maxLen; omega) (by omega) (Nat.zero_le _) _ rfl ?_)
        intro g cap w5 o5 g5 at5 lt5
        have HQ : Hid _ := HN.out.next HO.out.1 HO.out.2.1 HO.out.2.2.1 HO.out.2.2.2 b2 o5 g5 (by simpa using at5)
        have X5 := HX.out.only ((Only.refl _ (fun x => (Value.slice a j c).ownBlock = some x)).grown g5 (fun j hj => hj)) (fun e => by have := HN.out.lo _ (.inl (blk_eq e)); omega)
        obtain ⟨y0, y1, y2, yz⟩ := X5.at3
        have yf := X5.frozen 1
        clear x0 x1 x2 xz hr2 XA XE b2 o5 g5 at5 X5
        go_wp2
        go_roundw
        case rel => exact ⟨j + 1, by omega, by go_num, _, _, _, HQ.out⟩
        case measure => simp [intOf]; omega
      · have : j = n := by omega
        subst this
        obtain ⟨x0, x1, x2, zx⟩ := hN.X.at3
        obtain ⟨y0, y1, y2, zy⟩ := hN.X0.at3
        have f0 := hN.X0.frozen 0
        have f1 := hN.X0.frozen 1
        have f2 := hN.X0.frozen 2
        clear hN
        go_wp2
        refine bodyPost_ret (v := .tuple #[.agg #[.int .i64 (j : Int), .slice a j c, .slice none 0 0], .bool true]) (by simp [results, Try.results4, go_sem, y0, y1, y2]) rfl (wnew_ok HI.out ?_ HN.out.t (fun b hb => by have := HN.out.lo b hb; omega) ?_)
        · refine Rw.sm HN.out.r (((((Only.refl wr (fun b => b = w.heap.size)).setCell _ _ rfl).setCell _ _ rfl).setCell _ _ rfl).sm (fun b hb e => ?_))
          have := HN.out.lo b hb
          omega
        · exact bel_setCell (bel_setCell (bel_setCell HN.out.b _ _ (Nat.le_refl _)) _ _ (Nat.le_refl _)) _ _ (Nat.le_refl _)
end Go.Proofs.Ytnhbilhkmbkibaa
