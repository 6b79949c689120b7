/- Rows of frames: what a reader is told, what is owned, what came in (cut out of elder texts by mkfm.py). -/
import Derived.Test.YtpahjfijpjgdnaaHtZ
import Derived.Test.YtpahjfijpjgdnaaHr9
namespace Go.Proofs.Ytpahjfijpjgdnaa
open Go.ChangeShapes Go.WideShapes Go.ChangeAt Go.RowKit
set_option linter.unusedVariables false

/-- What a frame, a home, a node say. -/
structure FD where
  s : Int
  xs : List Int
  q : Bool

def fcells (d : FD) (p : Pl) : List Value := [.int .i64 d.s, .slice p.1 d.xs.length p.2, .bool d.q]

def FR (w : World) (a : Option Addr) (n : Nat) (d : Nat → FD) (p : Nat → Pl) : Prop := n ≤ 1048577 ∧ VRow w a (chunks n fun i => fcells (d i) (p i)) ∧ ∀ i, i < n → Row .i64 w (p i).1 (d i).xs

theorem FR.below {w w' : World} {a : Option Addr} {n : Nat} {d : Nat → FD} {p : Nat → Pl} (h : FR w a n d p) (hb : Below w.heap.size w w') : FR w' a n d p := ⟨h.1, h.2.1.below hb, fun i hi => (h.2.2 i hi).below hb⟩

theorem FR.at {w : World} {a : Option Addr} {n : Nat} {d : Nat → FD} {p : Nat → Pl} (h : FR w a n d p) {i : Nat} (hi : i < n) :
    ∃ b off, a = some ⟨b, off, none⟩ ∧ w.cell? ⟨b, off + i * 3, none⟩ = some (.int .i64 (d i).s) ∧ w.cell? ⟨b, off + i * 3 + 1, none⟩ = some (.slice (p i).1 (d i).xs.length (p i).2) ∧ w.cell? ⟨b, off + i * 3 + 2, none⟩ = some (.bool (d i).q) := by
  obtain ⟨b, off, rfl, hc⟩ := h.2.1.chunk (s := 3) (fun i _ => rfl) (by decide) hi
  exact ⟨b, off, rfl, hc 0 _ rfl, hc 1 _ rfl, hc 2 _ rfl⟩

set_option maxRecDepth 100000 in
set_option maxHeartbeats 1000000 in
theorem eqFrameS_any (a b : Option Addr) (ca cb n : Nat) (d : Nat → FD) (p p' : Nat → Pl) (w : World) (ha : FR w a n d p) (hb : FR w b n d p') :
    Calls Try.prog 51 #[.slice a n ca, .slice b n cb] w fun e w' => e = .returned (.bool true) ∧ Below w.heap.size w w' := by
  have hl : n ≤ 1048577 := ha.1
  go_enter Try.func51, Try.ntmps51
  go_wp2
  go_loopw [5] (fun i wr => ∃ k : Nat, k ≤ n ∧ i = .int .i64 k ∧ FR wr a n d p ∧ FR wr b n d p' ∧ Below w.heap.size w wr) (fun i _ => n - (intOf i).toNat)
  case atStart => exact ⟨0, Nat.zero_le _, rfl, ha, hb, Below.refl _ _⟩
  case round =>
    obtain ⟨k, hk, rfl, hma, hmb, hB⟩ := hrel
    by_cases hlt : k < n
    · have hi : (k : Int) < (n : Int) := by omega
      obtain ⟨ba, oa, rfl, y0, y1, y2⟩ := hma.at hlt
      obtain ⟨bb, ob, rfl, z0, z1, z2⟩ := hmb.at hlt
      have ra := hma.2.2 k hlt
      have rb := hmb.2.2 k hlt
      clear ha hb
      go_wp2_with fail
      go_region_with (go_at_call 67; refine (eqFrame_any _ _ _ _ _ _ (d k).xs _ (row_drew ra) (row_drew rb)).mono ?_; rintro e w1 ⟨rfl, b1⟩)
      all_goals
        have hma1 := hma.below (bel_undrew b1)
        have hmb1 := hmb.below (bel_undrew b1)
        have hB1 := bel_trans hB (bel_undrew b1)
        clear hma hmb hB b1 y0 y1 y2 z0 z1 z2 ra rb
        go_wp2
        go_roundw
        case rel => exact ⟨k + 1, by omega, by go_num, hma1, hmb1, hB1⟩
        case measure => simp [intOf]; omega
    · clear ha hb hma hmb
      go_wp2
      go_ret
      exact ⟨rfl, hB⟩

/-- A frame without words; a sender that queues nothing. -/
def f0 (s : Int) (q : Bool) : List Value := [.int .i64 s, .slice none 0 0, .bool q]

theorem info_frame2 : (Try.prog.info? 140).map (fun i => (i.zero, i.size, i.bytes)) = some (some (.agg #[.int .i64 0, .slice none 0 0, .bool false]), 3, 40) := by kernel_rfl

/-- Frames, homes, senders, receivers that are owned with all that they say. -/
def EF (d : FD) (p : Pl) (w : World) : Prop := w.ownsRow 0 3 1 (.slice p.1 d.xs.length p.2) d.xs.length (d.xs.map (Value.int .i64))

def QF (p : Pl) (b : Nat) : Prop := blk p = some b

theorem fix_f (d : FD) (p : Pl) : Fix (QF p) (EF d p) := fun w w' k h => owns_sm h k (fun j hj => blk_eq hj)

def FO (w : World) (a : Option Addr) (c n : Nat) (d : Nat → FD) (p : Nat → Pl) : Prop := Rw w 140 3 a c n n (fun i => fcells (d i) (p i)) (fun i => QF (p i)) (fun i => EF (d i) (p i))

theorem FO.fr {w : World} {a : Option Addr} {c n : Nat} {d : Nat → FD} {p : Nat → Pl} (h : FO w a c n d p) (hn : n ≤ 1048576) (hx : ∀ i, i < n → (d i).xs.length ≤ 1048576) : FR w a n d p :=
  ⟨by omega, owns_vrow' h.row (by rw [chunks_length (s := 3) n (fun i _ => rfl)]; omega), fun i hi => owns_row' (h.el i hi) (by have := hx i hi; omega)⟩

abbrev FTw (w : World) (lo : Nat) (a : Option Addr) (c n k : Nat) (d : Nat → FD) (p : Nat → Pl) (z : Nat → List Value) : Prop := Tw w lo 140 3 a c n k (fun i => fcells (d i) (p i)) z (fun i => QF (p i)) (fun i => EF (d i) (p i))

theorem frame_put {w w2 : World} {lo g c n k : Nat} {d : Nat → FD} {p : Nat → Pl} {z : Nat → List Value} (h : FTw w lo (some ⟨g, 0, none⟩) c n k d p z) (hz : ∀ i, i < n → (z i).length = 3) (hk : k < n) (b : Below w.heap.size w w2) (hlo : lo ≤ w.heap.size) {a2 : Option Addr} {c2 : Nat} (o2 : w2.ownsRow w.heap.size 3 1 (.slice a2 (d k).xs.length c2) (d k).xs.length ((d k).xs.map (Value.int .i64))) :
    FTw (((w2.setCell ⟨g, k * 3, none⟩ (.int .i64 (d k).s)).setCell ⟨g, k * 3 + 1, none⟩ (.slice a2 (d k).xs.length c2)).setCell ⟨g, k * 3 + 2, none⟩ (.bool (d k).q)) lo (some ⟨g, 0, none⟩) c n (k + 1) d (fun i => if i = k then (a2, c2) else p i) z := by
  have hr := owns_below h.r.row b
  have hf : ∀ i, i < n → ((fun i => if i < k then fcells (d i) (p i) else z i) i).length = 3 := fun i hi => by dsimp only; split; rfl; exact hz i hi
  have hs := store3 hr hf hk (.int .i64 (d k).s) (.slice a2 (d k).xs.length c2) (.bool (d k).q)
  have on : Only w2 (((w2.setCell ⟨g, k * 3, none⟩ (.int .i64 (d k).s)).setCell ⟨g, k * 3 + 1, none⟩ (.slice a2 (d k).xs.length c2)).setCell ⟨g, k * 3 + 2, none⟩ (.bool (d k).q)) (fun b => b = g) := (((Only.refl w2 (fun b => b = g)).setCell ⟨g, k * 3, none⟩ _ rfl).setCell ⟨g, k * 3 + 1, none⟩ _ rfl).setCell ⟨g, k * 3 + 2, none⟩ _ rfl
  refine (h.step b hlo on hs (E' := EF (d k) (a2, c2)) (owns_base o2 (Nat.zero_le _)) (fix_f _ _) (fun x hx => o2.lt x (blk_own hx))).congr (fun i hi => ?_) (fun i hi => ?_) (fun i hi => ?_)
  all_goals
    by_cases e : i = k
    · subst e; simp [fcells]
    · simp [e]

set_option maxRecDepth 100000 in
set_option maxHeartbeats 1000000 in
theorem toFrameS_own (a : Option Addr) (ca n : Nat) (d : Nat → FD) (p : Nat → Pl) (w : World) (hn : n ≤ 1048576) (hx : ∀ i, i < n → (d i).xs.length ≤ 1048576) (ha : FR w a n d p) :
    Calls Try.prog 44 #[.slice a n ca] w fun e w' => ∃ a' c' p', e = .returned (.slice a' n c') ∧ FO w' a' c' n d p' ∧ (∀ b, RS a' c' n (fun i => QF (p' i)) b → w.heap.size ≤ b) ∧ Below w.heap.size w w' := by
  obtain ⟨i0, hi, hz0, hz1, hz2⟩ := info_parts info_frame2
  have HX : Hid (∀ i, i < n → (d i).xs.length ≤ 1048576) := hx
  clear hx
  go_enter Try.func44, Try.ntmps44
  go_wp2_with (at_make; refine wpList_make_full _ rfl (.tmp 6) (.tmp 6) 81 rfl w.heap.size 140 i0 (.agg #[.int .i64 0, .slice none 0 0, .bool false]) 3 Try.underlying81 hi hz0 hz1 .i64 .i64 _ _ n rfl rfl rfl rfl (by rw [hz2]; omega) (by unfold maxLen; omega) (Nat.le_refl _) ?_)
  intro w1 ho hg
  have hb1 : Below w.heap.size w w1 := (Below.refl _ _).grown hg (Nat.le_refl _) (fun k hk => by cases hk)
  rw [made_chunks _ 3 n rfl (by decide)] at ho
  have F0 : FTw w1 w.heap.size (some ⟨w.heap.size, 0, none⟩) n n 0 d (fun _ => (none, 0)) (fun _ => f0 0 false) := Tw.start (owns_base ho (Nat.zero_le _))
  clear hg ho
  go_wp2
  go_loopw [4] (fun i wr => ∃ k : Nat, k ≤ n ∧ i = .int .i64 k ∧ ∃ p', FTw wr w.heap.size (some ⟨w.heap.size, 0, none⟩) n n k d p' (fun _ => f0 0 false) ∧ Below w.heap.size w wr) (fun i _ => n - (intOf i).toNat)
  case atStart => exact ⟨0, Nat.zero_le _, rfl, _, F0, hb1⟩
  case round =>
    obtain ⟨k, hk, rfl, p', hF, hbr⟩ := hrel
    clear F0 hb1
    by_cases hkn : k < n
    · have hi' : (k : Int) < (n : Int) := by omega
      have har := ha.below hbr
      obtain ⟨b, off, rfl, y0, y1, y2⟩ := har.at hkn
      have hrow := har.2.2 k hkn
      go_wp2_with fail
      refine (toFrame_any (d k).s (d k).q (p k).1 (p k).2 (d k).xs _ (HX.out k hkn) hrow).mono ?_
      rintro e w2 ⟨v2, rfl, o2, b2⟩
      obtain ⟨a2, c2, rfl⟩ := owns_slice o2
      have R : Hid _ := frame_put hF (fun i _ => rfl) hkn b2 hbr.size o2
      have hr2 := owns_below hF.r.row b2
      have B : Hid _ := bel_setCell (bel_setCell (bel_setCell (bel_trans hbr b2) ⟨w.heap.size, k * 3, none⟩ (.int .i64 (d k).s) (Nat.le_refl _)) ⟨w.heap.size, k * 3 + 1, none⟩ (.slice a2 (d k).xs.length c2) (Nat.le_refl _)) ⟨w.heap.size, k * 3 + 2, none⟩ (.bool (d k).q) (Nat.le_refl _)
      have q0 := hr2.frozenAt (k * 3)
      have q1 := hr2.frozenAt (k * 3 + 1)
      have q2 := hr2.frozenAt (k * 3 + 2)
      obtain ⟨u0, g0⟩ := cellN hr2 hkn (t := 0) (by decide)
      obtain ⟨u1, g1⟩ := cellN hr2 hkn (t := 1) (by decide)
      obtain ⟨u2, g2⟩ := cellN hr2 hkn (t := 2) (by decide)
      rw [Nat.add_zero] at g0
      clear hF har y0 y1 y2 hrow hr2 o2 b2 hbr ha
      go_wp2
      go_roundw
      case rel => exact ⟨k + 1, by omega, by go_num, _, R.out, B.out⟩
      case measure => simp [intOf]; omega
    · have : k = n := by omega
      subst this
      have R : Hid (FO wr (some ⟨w.heap.size, 0, none⟩) k k d p' ∧ ∀ b, RS (some ⟨w.heap.size, 0, none⟩) k k (fun i => QF (p' i)) b → w.heap.size ≤ b) := ⟨hF.all, hF.low (fun g hg => by simp [blk] at hg; omega)⟩
      clear hF ha
      go_wp2
      go_ret
      exact ⟨_, _, p', rfl, R.out.1, R.out.2, hbr⟩

/-- Rows that came in. -/
def FC (w : World) (a : Option Addr) (n : Nat) (d : Nat → FD) (p : Nat → Pl) : Prop := n ≤ maxLen ∧ VCame w a (chunks n fun i => fcells (d i) (p i)) ∧ ∀ i, i < n → Came .i64 w (p i).1 (p i).2 (d i).xs

theorem FC.below {w w' : World} {a : Option Addr} {n : Nat} {d : Nat → FD} {p : Nat → Pl} (h : FC w a n d p) (hb : Below w.heap.size w w') : FC w' a n d p := ⟨h.1, h.2.1.below hb, fun i hi => (h.2.2 i hi).below hb⟩

theorem FC.fr {w : World} {a : Option Addr} {n : Nat} {d : Nat → FD} {p : Nat → Pl} (h : FC w a n d p) (hn : n ≤ 1048576) (hx : ∀ i, i < n → (d i).xs.length ≤ 1048576) : FR w a n d p :=
  ⟨by omega, h.2.1.vrow (by rw [chunks_length (s := 3) n (fun i _ => rfl)]; omega), fun i hi => (h.2.2 i hi).row (by have := hx i hi; omega)⟩

def fZ (d : FD) : Nat := d.xs.length

set_option maxRecDepth 100000 in
set_option maxHeartbeats 1000000 in
theorem szFrame_tot (s : Int) (q : Bool) (a : Option Addr) (n c : Nat) (L : Int) (w : World) (h0 : 0 ≤ L) (h1 : L ≤ 1048576) (hn : n ≤ maxLen) :
    Calls Try.prog 58 #[.agg #[.int .i64 s, .slice a n c, .bool q], .int .i64 L] w fun e w' => ∃ r, e = .returned (.int .i64 r) ∧ (r = -1 ∨ (0 ≤ r ∧ r + n = L)) ∧ Below w.heap.size w w' := by
  unfold maxLen at hn
  have bA := bel_alloc (Below.refl w.heap.size w) (.cells #[.int .i64 s, .slice a n c, .bool q] 127)
  by_cases h : (n : Int) ≤ L
  · go_enter Try.func58, Try.ntmps58
    go_wp2
    go_ret
    exact ⟨_, rfl, .inr ⟨by omega, by omega⟩, bA⟩
  · go_enter Try.func58, Try.ntmps58
    go_wp2
    go_ret
    exact ⟨_, rfl, .inl rfl, bA⟩

set_option maxRecDepth 100000 in
set_option maxHeartbeats 2000000 in
theorem szFrameS_tot (a : Option Addr) (ca n : Nat) (d : Nat → FD) (p : Nat → Pl) (L0 : Int) (w : World) (l0 : 0 ≤ L0) (l1 : L0 ≤ 1048576) (ha : FC w a n d p) :
    Calls Try.prog 37 #[.slice a n ca, .int .i64 L0] w fun e w' => ∃ r, e = .returned (.int .i64 r) ∧ (r = -1 ∨ (0 ≤ r ∧ r + (n + sumN (fun i => fZ (d i)) n : Nat) = L0)) ∧ Below w.heap.size w w' := by
  have hl : n ≤ 9223372036854775807 := by have h1 := ha.1; unfold maxLen at h1; omega
  by_cases hb : L0 < (n : Int)
  · clear ha
    go_enter Try.func37, Try.ntmps37
    go_wp2
    go_ret
    exact ⟨_, rfl, .inl rfl, Below.refl _ _⟩
  · have hb' : (n : Int) ≤ L0 := by omega
    go_enter Try.func37, Try.ntmps37
    go_wp2
    go_loopw [1, 5] (fun q i wr => ∃ (k : Nat) (L : Int), k ≤ n ∧ i = .int .i64 k ∧ q = .int .i64 L ∧ 0 ≤ L ∧ L + (n + sumN (fun i => fZ (d i)) k : Nat) = L0 ∧ FC wr a n d p ∧ Below w.heap.size w wr) (fun _ i _ => n - (intOf i).toNat)
    case atStart => exact ⟨0, _, Nat.zero_le _, rfl, rfl, by omega, by simp [sumN], ha, Below.refl _ _⟩
    case round =>
      obtain ⟨k, L, hk, rfl, rfl, hL0, hL, hm, hB⟩ := hrel
      have HL : Hid (L + (n + sumN (fun i => fZ (d i)) k : Nat) = L0) := hL
      have hL1 : L ≤ 1048576 := by omega
      clear hL
      by_cases hlt : k < n
      · have hi : (k : Int) < (n : Int) := by omega
        obtain ⟨bl, off, rfl, hc⟩ := hm.2.1.chunk (s := 3) (fun i _ => rfl) (by decide) hlt
        have y0 := hc 0 _ rfl
        have y1 := hc 1 _ rfl
        have y2 := hc 2 _ rfl
        rw [Nat.add_zero] at y0
        have hml : (d k).xs.length ≤ maxLen := Nat.le_trans (hm.2.2 k hlt).1 (hm.2.2 k hlt).2.1
        clear hc ha
        go_wp2_with fail
        refine (szFrame_tot (d k).s (d k).q (p k).1 (d k).xs.length (p k).2 L _ hL0 hL1 hml).mono ?_
        rintro e w1 ⟨r, rfl, hsz, b1⟩
        have hm1 := hm.below b1
        have hB1 := bel_trans hB b1
        clear hm hB b1 y0 y1 y2 hml
        rcases hsz with rfl | ⟨hr0, hr2⟩
        · clear hm1
          go_wp2
          go_ret
          exact ⟨_, rfl, .inl rfl, hB1⟩
        · have HX : Hid (r + (n + sumN (fun i => fZ (d i)) (k + 1) : Nat) = L0) := by
            show _ = _
            have h1 := HL.out
            simp only [sumN] at h1 ⊢
            simp only [fZ] at h1 ⊢
            omega
          clear hr2
          go_wp2
          go_roundw
          case rel => exact ⟨k + 1, r, by omega, by go_num, rfl, hr0, HX.out, hm1, hB1⟩
          case measure => simp [intOf]; omega
      · clear ha hm
        have hkn : k = n := by omega
        rw [hkn] at HL
        go_wp2
        go_ret
        exact ⟨_, rfl, .inr ⟨hL0, HL.out⟩, hB⟩

theorem cells_frame' : Try.prog.cellsOf 127 = 3 := by kernel_rfl

theorem cells_frames' : Try.prog.cellsOf 68 = 1 := by kernel_rfl

set_option maxRecDepth 100000 in
theorem frame_cells {H : Type} {enc : TypeId × Value → H} {W : World} {base : Nat} {held : Bool} {fuel : Nat} {cs : List Value} {x : DataW H × List MemPlace} (h : DataW.trod enc Try.prog W base (fun _ => true) held fuel 127 cs = some x) :
    ∃ (d : FD) (p : Pl), cs = fcells d p ∧ Came .i64 W p.1 p.2 d.xs := by
  obtain ⟨ys, n, _, _, hl, hyl, hf⟩ := DataW.trod_struct Try.underlying127 h
  rw [cells_frame'] at hl
  match cs, hl, ys, hyl with
  | [c0, c1, c2], _, [y0, y1, y2], _ =>
    have g0 := hf 0 _ rfl
    have g1 := hf 1 _ rfl
    have g2 := hf 2 _ rfl
    simp [cells_int', cells_bool', cells_ints'] at g0 g1 g2
    obtain ⟨m0, e0, _, _⟩ := DataW.trod_int Try.underlying3 g0
    obtain ⟨m2, e2, _⟩ := DataW.trod_bool Try.underlying4 g2
    simp only [List.cons.injEq, and_true] at e0 e2
    subst e0 e2
    rcases open_ints Try.underlying44 Try.underlying3 (by kernel_rfl) g1 with ⟨hcs, _⟩ | ⟨x, l, c, zs, hcs, _, hl, hm, hz, _, hcell, hwz⟩
    · simp only [List.cons.injEq, and_true] at hcs
      exact ⟨⟨m0, [], m2⟩, (none, 0), by rw [hcs]; rfl, came_nil _ _⟩
    · simp only [List.cons.injEq, and_true] at hcs
      have hc := came_of hl hm (by simpa using hz) hcell hwz
      exact ⟨⟨m0, zs.take l, m2⟩, (some x, c), by rw [hcs]; simp only [fcells]; rw [hc.1], hc.2⟩

theorem open_frames {H : Type} {enc : TypeId × Value → H} {W : World} {base : Nat} {held : Bool} {fuel : Nat} {v : Value} {x : DataW H × List MemPlace} (h : DataW.trod enc Try.prog W base (fun _ => true) held fuel 68 [v] = some x) : ∃ (a : Pl) (n : Nat) (d : Nat → FD) (p : Nat → Pl), v = .slice a.1 n a.2 ∧ FC W a.1 n d p := by
  obtain ⟨a, c, n, F, rfl, hn, hV, hF⟩ := open_rows 68 127 3 Try.underlying68 cells_frame' (by decide) h
  have key : ∀ i, i < n → ∃ q : FD × Pl, F i = fcells q.1 q.2 ∧ Came .i64 W q.2.1 q.2.2 q.1.xs := fun i hi => by
    obtain ⟨_, fl, y, hy⟩ := hF i hi
    obtain ⟨d, p, e, hc⟩ := frame_cells hy
    exact ⟨(d, p), e, hc⟩
  obtain ⟨f, hf⟩ := fun_of (⟨0, [], false⟩, (none, 0)) n key
  exact ⟨(a, c), n, fun i => (f i).1, fun i => (f i).2, rfl, hn, hV.congr (fun i hi => (hf i hi).1), fun i hi => (hf i hi).2⟩

set_option maxRecDepth 100000 in
theorem open_framerow {H : Type} {enc : TypeId × Value → H} {W : World} {base : Nat} {held : Bool} {r : Reach} {b0 : Nat} {v : Value} {d : DataW H} {q : List MemPlace}
    (hv : Value.okWide Try.prog W r b0 68 v) (h : DataW.Trod enc Try.prog W base (fun _ => true) held 68 v d q) :
    ∃ (a : Option Addr) (c n : Nat) (d' : Nat → FD) (p : Nat → Pl), v = .slice a n c ∧ FC W a n d' p := by
  obtain ⟨a, len, cap, rfl⟩ := okWide_slice Try.underlying68 hv
  obtain ⟨fuel, hf⟩ := h
  obtain ⟨a', n, d', p, e, hF⟩ := open_frames (by simpa [Value.cells] using hf)
  exact ⟨a'.1, a'.2, n, d', p, e, hF⟩
end Go.Proofs.Ytpahjfijpjgdnaa
