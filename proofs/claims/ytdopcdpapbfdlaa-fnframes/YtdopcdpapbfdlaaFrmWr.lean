/- What FrameWrite does on both sides. -/
import Derived.Test.YtdopcdpapbfdlaaFrmV
import Derived.Test.YtdopcdpapbfdlaaFrmR
namespace Go.Proofs.Ytdopcdpapbfdlaa
open Go.RowKit
set_option linter.unusedVariables false

def writeB (s : Int) (xs : List Int) (i x : Int) : Bool := frameOkB s xs && (s == 2) && placeB i && wordB x
def writeL (s : Int) (xs : List Int) (i x : Int) : List Int := if writeB s xs i x then xs.set i.toNat x else xs

theorem writeL_len (s : Int) (xs : List Int) (i x : Int) : (writeL s xs i x).length = xs.length := by
  unfold writeL
  split <;> simp

/-- What FrameWrite answers. -/
def WriteP (s : Int) (q : Bool) (b : Bool) (L : List Int) (w : World) (e : Ending) (w' : World) : Prop :=
  ∃ v, e = .returned (.tuple #[.agg #[.int .i64 s, v, .bool q], .bool b]) ∧ w'.ownsRow w.heap.size 3 1 v L.length (L.map (Value.int .i64)) ∧ Below w.heap.size w w'

theorem write_cases (s : Int) (xs : List Int) (i x : Int) : (writeB s xs i x = true ∧ frameOkB s xs = true ∧ s = 2 ∧ placeB i = true ∧ wordB x = true) ∨
    (writeB s xs i x = false ∧ (frameOkB s xs = false ∨ (frameOkB s xs = true ∧ (s == 2) = false) ∨ (frameOkB s xs = true ∧ s = 2 ∧ placeB i = false) ∨ (frameOkB s xs = true ∧ s = 2 ∧ placeB i = true ∧ wordB x = false))) := by
  unfold writeB
  cases hf : frameOkB s xs
  · exact .inr ⟨rfl, .inl rfl⟩
  · by_cases h2 : s = 2
    · subst h2
      cases hp : placeB i
      · exact .inr ⟨rfl, .inr (.inr (.inl ⟨rfl, rfl, rfl⟩))⟩
      · cases hw : wordB x
        · exact .inr ⟨rfl, .inr (.inr (.inr ⟨rfl, rfl, rfl, rfl⟩))⟩
        · exact .inl ⟨rfl, rfl, rfl, rfl, rfl⟩
    · have hb : (s == 2) = false := by simp [h2]
      rw [hb]
      exact .inr ⟨rfl, .inr (.inl ⟨rfl, rfl⟩)⟩

theorem hl_set {c0 c1 c2 c3 i x : Int} (h0 : 0 ≤ c0) (hx : wordB x = true) :
    HL ([c0, c1, c2, c3].set 0 x) x c1 c2 c3 ∧ HL ([c0, c1, c2, c3].set 1 x) c0 x c2 c3 ∧ HL ([c0, c1, c2, c3].set 2 x) c0 c1 x c3 ∧ HL ([c0, c1, c2, c3].set 3 x) c0 c1 c2 x :=
  ⟨.inr ⟨rfl, (wordB_true hx).1⟩, .inr ⟨rfl, h0⟩, .inr ⟨rfl, h0⟩, .inr ⟨rfl, h0⟩⟩

set_option maxRecDepth 100000 in
set_option maxHeartbeats 2000000 in
theorem implWrite_any (s : Int) (q : Bool) (a : Option Addr) (ca : Nat) (xs : List Int) (i x : Int) (w : World) (hsm : xs.length ≤ 1048577) (ha : Row .i64 w a xs) :
    Calls Try.prog 27 #[.agg #[.int .i64 s, .slice a xs.length ca, .bool q], .int .i64 i, .int .i64 x] w fun e w' => WriteP s q (writeB s xs i x) (writeL s xs i x) w e w' := by
  have bA := bel_alloc (bel_alloc (Below.refl w.heap.size w) (.cells #[.int .i64 s, .slice a xs.length ca, .bool q] 50)) (.cells #[.int .i64 0, .slice none 0 0, .bool false] 50)
  obtain ⟨X0, X1⟩ := Box.two w #[.int .i64 s, .slice a xs.length ca, .bool q] #[.int .i64 0, .slice none 0 0, .bool false] 50 50
  have hr := ha.below bA
  go_enter Try.func27, Try.ntmps27
  go_wp2_with fail
  refine (holding_any s q a ca xs _ hr).mono ?_
  rintro e w1 ⟨t, c0, c1, c2, c3, r, rfl, hL, b1⟩
  have bx := bel_alloc (Below.refl w1.heap.size w1) (.cells #[.int .i64 t, .int .i64 c0, .int .i64 c1, .int .i64 c2, .int .i64 c3, .bool r] 102)
  have XH := Box.new w1 #[.int .i64 t, .int .i64 c0, .int .i64 c1, .int .i64 c2, .int .i64 c3, .bool r] 102
  replace X0 := (X0.below b1).below bx
  replace X1 := (X1.below b1).below bx
  replace hr := (hr.below b1).below bx
  have B := bel_trans (bel_trans bA b1) bx
  have s1 : w.heap.size + 2 ≤ w1.heap.size := by have := b1.size; simp at this; omega
  clear b1 bx bA ha
  obtain ⟨W, hW⟩ : ∃ W, w1.alloc (.cells #[.int .i64 t, .int .i64 c0, .int .i64 c1, .int .i64 c2, .int .i64 c3, .bool r] 102) = W := ⟨_, rfl⟩
  rw [hW] at XH X0 X1 hr B
  rcases write_cases s xs i x with ⟨hb, hf, rfl, hp, hx⟩ | ⟨hb, hc⟩
  · obtain ⟨rfl, rfl, hHW⟩ := hL hf
    have HLB : Hid (writeB 2 xs i x = true ∧ writeL 2 xs i x = xs.set i.toNat x) := ⟨hb, by unfold writeL; rw [hb]; rfl⟩
    rcases hHW with ⟨h, _⟩ | ⟨_, rfl, hwb⟩
    · cases h
    have hc0 := words_pos hwb
    obtain ⟨s0, s1', s2, s3⟩ := hl_set (i := i) (c1 := c1) (c2 := c2) (c3 := c3) hc0 hx
    have hi : i = 0 ∨ i = 1 ∨ i = 2 ∨ i = 3 := by
      unfold placeB at hp
      have := of_decide_eq_true hp
      omega
    have hfh : ∀ j, W.frozen? ⟨w1.heap.size, j, none⟩ = false := XH.frozen
    have HX : Hid (wordB x = true) := hx
    clear hb hL hwb X0 hr
    have K : ∀ (d0 d1 d2 d3 : Int) (ys : List Int), HL ys d0 d1 d2 d3 → True := fun _ _ _ _ _ _ => trivial
    rcases hi with rfl | rfl | rfl | rfl
    · have XS : Box (W.setCell ⟨w1.heap.size, 1, none⟩ (.int .i64 x)) w1.heap.size #[.int .i64 2, .int .i64 x, .int .i64 c1, .int .i64 c2, .int .i64 c3, .bool r] 102 := heap_setCell_same _ _ 1 _ _ _ XH
      replace X1 := X1.far ⟨w1.heap.size, 1, none⟩ (.int .i64 x) (by simp; omega)
      replace B := bel_setCell B ⟨w1.heap.size, 1, none⟩ (.int .i64 x) (by simp; omega)
      obtain ⟨h0, h1, h2, h3, h4, h5, zh⟩ := XH.at6
      obtain ⟨W2, hW2⟩ : ∃ W2, W.setCell ⟨w1.heap.size, 1, none⟩ (.int .i64 x) = W2 := ⟨_, rfl⟩
      rw [hW2] at XS X1 B
      obtain ⟨k0, k1, k2, k3, k4, k5, zk⟩ := XS.at6
      clear K HX XH XS
      go_wp2_with (first | (go_at_call 66; refine (isPlace_any _ _).mono ?_; rintro e w3 ⟨rfl, h⟩; subst h) | (go_at_call 67; refine (isWord_any _ _).mono ?_; rintro e w3 ⟨rfl, h⟩; subst h))
      refine (frame_any 2 x c1 c2 c3 r _ _ s0).mono ?_
      rintro e w4 ⟨v, rfl, o4, b4⟩
      replace X1 := X1.below b4
      have B4 := bel_trans B b4
      have hz := B.size
      have hlt : Hid (∀ j, v.ownBlock = some j → w.heap.size + 2 ≤ j) := fun j h => by have := (o4.lt j h).1; have := zk; omega
      obtain ⟨a4, c4, rfl⟩ := owns_slice o4
      obtain ⟨y0, y1, y2, zy⟩ := X1.at3
      have g0 := X1.frozen 0
      have g1 := X1.frozen 1
      have g2 := X1.frozen 2
      clear b4 B X1 h0 h1 h2 h3 h4 h5 zh hfh hW hW2 k0 k1 k2 k3 k4 k5 zk
      go_wp2
      refine bodyPost_ret (v := .tuple #[.agg #[.int .i64 2, .slice a4 ([c0, c1, c2, c3].set 0 x).length c4, .bool r], .bool true]) (by simp [results, Try.results27, go_sem, y0, y1, y2]) rfl ⟨.slice a4 ([c0, c1, c2, c3].set 0 x).length c4, by rw [HLB.out.1], ?_, ?_⟩
      · rw [HLB.out.2]
        repeat refine owns_setCell ?_ ?_ _
        · exact owns_base o4 hz
        all_goals (intro j h; have := hlt.out j h; simp; omega)
      · repeat refine bel_setCell ?_ _ _ ?_
        · exact B4
        all_goals (simp; try omega)
    · have XS : Box (W.setCell ⟨w1.heap.size, 2, none⟩ (.int .i64 x)) w1.heap.size #[.int .i64 2, .int .i64 c0, .int .i64 x, .int .i64 c2, .int .i64 c3, .bool r] 102 := heap_setCell_same _ _ 2 _ _ _ XH
      replace X1 := X1.far ⟨w1.heap.size, 2, none⟩ (.int .i64 x) (by simp; omega)
      replace B := bel_setCell B ⟨w1.heap.size, 2, none⟩ (.int .i64 x) (by simp; omega)
      obtain ⟨h0, h1, h2, h3, h4, h5, zh⟩ := XH.at6
      obtain ⟨W2, hW2⟩ : ∃ W2, W.setCell ⟨w1.heap.size, 2, none⟩ (.int .i64 x) = W2 := ⟨_, rfl⟩
      rw [hW2] at XS X1 B
      obtain ⟨k0, k1, k2, k3, k4, k5, zk⟩ := XS.at6
      clear K HX XH XS
      go_wp2_with (first | (go_at_call 66; refine (isPlace_any _ _).mono ?_; rintro e w3 ⟨rfl, h⟩; subst h) | (go_at_call 67; refine (isWord_any _ _).mono ?_; rintro e w3 ⟨rfl, h⟩; subst h))
      refine (frame_any 2 c0 x c2 c3 r _ _ s1').mono ?_
      rintro e w4 ⟨v, rfl, o4, b4⟩
      replace X1 := X1.below b4
      have B4 := bel_trans B b4
      have hz := B.size
      have hlt : Hid (∀ j, v.ownBlock = some j → w.heap.size + 2 ≤ j) := fun j h => by have := (o4.lt j h).1; have := zk; omega
      obtain ⟨a4, c4, rfl⟩ := owns_slice o4
      obtain ⟨y0, y1, y2, zy⟩ := X1.at3
      have g0 := X1.frozen 0
      have g1 := X1.frozen 1
      have g2 := X1.frozen 2
      clear b4 B X1 h0 h1 h2 h3 h4 h5 zh hfh hW hW2 k0 k1 k2 k3 k4 k5 zk
      go_wp2
      refine bodyPost_ret (v := .tuple #[.agg #[.int .i64 2, .slice a4 ([c0, c1, c2, c3].set 1 x).length c4, .bool r], .bool true]) (by simp [results, Try.results27, go_sem, y0, y1, y2]) rfl ⟨.slice a4 ([c0, c1, c2, c3].set 1 x).length c4, by rw [HLB.out.1], ?_, ?_⟩
      · rw [HLB.out.2]
        repeat refine owns_setCell ?_ ?_ _
        · exact owns_base o4 hz
        all_goals (intro j h; have := hlt.out j h; simp; omega)
      · repeat refine bel_setCell ?_ _ _ ?_
        · exact B4
        all_goals (simp; try omega)
    · have XS : Box (W.setCell ⟨w1.heap.size, 3, none⟩ (.int .i64 x)) w1.heap.size #[.int .i64 2, .int .i64 c0, .int .i64 c1, .int .i64 x, .int .i64 c3, .bool r] 102 := heap_setCell_same _ _ 3 _ _ _ XH
      replace X1 := X1.far ⟨w1.heap.size, 3, none⟩ (.int .i64 x) (by simp; omega)
      replace B := bel_setCell B ⟨w1.heap.size, 3, none⟩ (.int .i64 x) (by simp; omega)
      obtain ⟨h0, h1, h2, h3, h4, h5, zh⟩ := XH.at6
      obtain ⟨W2, hW2⟩ : ∃ W2, W.setCell ⟨w1.heap.size, 3, none⟩ (.int .i64 x) = W2 := ⟨_, rfl⟩
      rw [hW2] at XS X1 B
      obtain ⟨k0, k1, k2, k3, k4, k5, zk⟩ := XS.at6
      clear K HX XH XS
      go_wp2_with (first | (go_at_call 66; refine (isPlace_any _ _).mono ?_; rintro e w3 ⟨rfl, h⟩; subst h) | (go_at_call 67; refine (isWord_any _ _).mono ?_; rintro e w3 ⟨rfl, h⟩; subst h))
      refine (frame_any 2 c0 c1 x c3 r _ _ s2).mono ?_
      rintro e w4 ⟨v, rfl, o4, b4⟩
      replace X1 := X1.below b4
      have B4 := bel_trans B b4
      have hz := B.size
      have hlt : Hid (∀ j, v.ownBlock = some j → w.heap.size + 2 ≤ j) := fun j h => by have := (o4.lt j h).1; have := zk; omega
      obtain ⟨a4, c4, rfl⟩ := owns_slice o4
      obtain ⟨y0, y1, y2, zy⟩ := X1.at3
      have g0 := X1.frozen 0
      have g1 := X1.frozen 1
      have g2 := X1.frozen 2
      clear b4 B X1 h0 h1 h2 h3 h4 h5 zh hfh hW hW2 k0 k1 k2 k3 k4 k5 zk
      go_wp2
      refine bodyPost_ret (v := .tuple #[.agg #[.int .i64 2, .slice a4 ([c0, c1, c2, c3].set 2 x).length c4, .bool r], .bool true]) (by simp [results, Try.results27, go_sem, y0, y1, y2]) rfl ⟨.slice a4 ([c0, c1, c2, c3].set 2 x).length c4, by rw [HLB.out.1], ?_, ?_⟩
      · rw [HLB.out.2]
        repeat refine owns_setCell ?_ ?_ _
        · exact owns_base o4 hz
        all_goals (intro j h; have := hlt.out j h; simp; omega)
      · repeat refine bel_setCell ?_ _ _ ?_
        · exact B4
        all_goals (simp; try omega)
    · have XS : Box (W.setCell ⟨w1.heap.size, 4, none⟩ (.int .i64 x)) w1.heap.size #[.int .i64 2, .int .i64 c0, .int .i64 c1, .int .i64 c2, .int .i64 x, .bool r] 102 := heap_setCell_same _ _ 4 _ _ _ XH
      replace X1 := X1.far ⟨w1.heap.size, 4, none⟩ (.int .i64 x) (by simp; omega)
      replace B := bel_setCell B ⟨w1.heap.size, 4, none⟩ (.int .i64 x) (by simp; omega)
      obtain ⟨h0, h1, h2, h3, h4, h5, zh⟩ := XH.at6
      obtain ⟨W2, hW2⟩ : ∃ W2, W.setCell ⟨w1.heap.size, 4, none⟩ (.int .i64 x) = W2 := ⟨_, rfl⟩
      rw [hW2] at XS X1 B
      obtain ⟨k0, k1, k2, k3, k4, k5, zk⟩ := XS.at6
      clear K HX XH XS
      go_wp2_with (first | (go_at_call 66; refine (isPlace_any _ _).mono ?_; rintro e w3 ⟨rfl, h⟩; subst h) | (go_at_call 67; refine (isWord_any _ _).mono ?_; rintro e w3 ⟨rfl, h⟩; subst h))
      refine (frame_any 2 c0 c1 c2 x r _ _ s3).mono ?_
      rintro e w4 ⟨v, rfl, o4, b4⟩
      replace X1 := X1.below b4
      have B4 := bel_trans B b4
      have hz := B.size
      have hlt : Hid (∀ j, v.ownBlock = some j → w.heap.size + 2 ≤ j) := fun j h => by have := (o4.lt j h).1; have := zk; omega
      obtain ⟨a4, c4, rfl⟩ := owns_slice o4
      obtain ⟨y0, y1, y2, zy⟩ := X1.at3
      have g0 := X1.frozen 0
      have g1 := X1.frozen 1
      have g2 := X1.frozen 2
      clear b4 B X1 h0 h1 h2 h3 h4 h5 zh hfh hW hW2 k0 k1 k2 k3 k4 k5 zk
      go_wp2
      refine bodyPost_ret (v := .tuple #[.agg #[.int .i64 2, .slice a4 ([c0, c1, c2, c3].set 3 x).length c4, .bool r], .bool true]) (by simp [results, Try.results27, go_sem, y0, y1, y2]) rfl ⟨.slice a4 ([c0, c1, c2, c3].set 3 x).length c4, by rw [HLB.out.1], ?_, ?_⟩
      · rw [HLB.out.2]
        repeat refine owns_setCell ?_ ?_ _
        · exact owns_base o4 hz
        all_goals (intro j h; have := hlt.out j h; simp; omega)
      · repeat refine bel_setCell ?_ _ _ ?_
        · exact B4
        all_goals (simp; try omega)
  · have HLB : Hid (writeB s xs i x = false ∧ writeL s xs i x = xs) := ⟨hb, by unfold writeL; rw [hb]; rfl⟩
    clear hb
    obtain ⟨x0, x1, x2, zx⟩ := X0.at3
    obtain ⟨h0, h1, h2, h3, h4, h5, zh⟩ := XH.at6
    rcases hc with hf | ⟨hf, hs⟩ | ⟨hf, rfl, hp⟩ | ⟨hf, rfl, hp, hx⟩
    · clear hL
      go_wp2_with (first | (go_at_call 66; refine (isPlace_any _ _).mono ?_; rintro e w3 ⟨rfl, h⟩; subst h) | (go_at_call 67; refine (isWord_any _ _).mono ?_; rintro e w3 ⟨rfl, h⟩; subst h))
      refine (copyFrame_any _ q a ca xs _ hsm hr).mono ?_
      rintro e w4 ⟨v, rfl, o4, b4⟩
      replace X1 := X1.below b4
      have B4 := bel_trans B b4
      have hzB := B.size
      have hlt : Hid (∀ j, v.ownBlock = some j → w.heap.size + 2 ≤ j) := fun j h => by have := (o4.lt j h).1; have := zh; omega
      obtain ⟨a4, c4, rfl⟩ := owns_slice o4
      obtain ⟨y0, y1, y2, zy⟩ := X1.at3
      have g0 := X1.frozen 0
      have g1 := X1.frozen 1
      have g2 := X1.frozen 2
      clear b4 B X0 X1 XH hr x0 x1 x2 zx h0 h1 h2 h3 h4 h5 zh
      go_wp2
      refine bodyPost_ret (v := .tuple #[.agg #[.int .i64 s, .slice a4 xs.length c4, .bool q], .bool false]) (by simp [results, Try.results27, go_sem, y0, y1, y2]) rfl ⟨_, by rw [HLB.out.1], by rw [HLB.out.2]; (repeat refine owns_setCell ?_ ?_ _) <;> first | exact owns_base o4 hzB | (intro j h; have := hlt.out j h; simp; omega), ?_⟩
      repeat refine bel_setCell ?_ _ _ ?_
      · exact B4
      all_goals (simp; try omega)
    · have HT := (hL hf).1
      subst HT
      clear hL
      have hs2 : (t != 2) = true := by unfold bne; rw [hs]; rfl
      go_wp2_with (first | (go_at_call 66; refine (isPlace_any _ _).mono ?_; rintro e w3 ⟨rfl, h⟩; subst h) | (go_at_call 67; refine (isWord_any _ _).mono ?_; rintro e w3 ⟨rfl, h⟩; subst h))
      refine (copyFrame_any _ q a ca xs _ hsm hr).mono ?_
      rintro e w4 ⟨v, rfl, o4, b4⟩
      replace X1 := X1.below b4
      have B4 := bel_trans B b4
      have hzB := B.size
      have hlt : Hid (∀ j, v.ownBlock = some j → w.heap.size + 2 ≤ j) := fun j h => by have := (o4.lt j h).1; have := zh; omega
      obtain ⟨a4, c4, rfl⟩ := owns_slice o4
      obtain ⟨y0, y1, y2, zy⟩ := X1.at3
      have g0 := X1.frozen 0
      have g1 := X1.frozen 1
      have g2 := X1.frozen 2
      clear b4 B X0 X1 XH hr x0 x1 x2 zx h0 h1 h2 h3 h4 h5 zh
      go_wp2
      refine bodyPost_ret (v := .tuple #[.agg #[.int .i64 t, .slice a4 xs.length c4, .bool q], .bool false]) (by simp [results, Try.results27, go_sem, y0, y1, y2]) rfl ⟨_, by rw [HLB.out.1], by rw [HLB.out.2]; (repeat refine owns_setCell ?_ ?_ _) <;> first | exact owns_base o4 hzB | (intro j h; have := hlt.out j h; simp; omega), ?_⟩
      repeat refine bel_setCell ?_ _ _ ?_
      · exact B4
      all_goals (simp; try omega)
    · have HT := (hL hf).1
      subst HT
      clear hL
      go_wp2_with (first | (go_at_call 66; refine (isPlace_any _ _).mono ?_; rintro e w3 ⟨rfl, h⟩; subst h) | (go_at_call 67; refine (isWord_any _ _).mono ?_; rintro e w3 ⟨rfl, h⟩; subst h))
      refine (copyFrame_any _ q a ca xs _ hsm hr).mono ?_
      rintro e w4 ⟨v, rfl, o4, b4⟩
      replace X1 := X1.below b4
      have B4 := bel_trans B b4
      have hzB := B.size
      have hlt : Hid (∀ j, v.ownBlock = some j → w.heap.size + 2 ≤ j) := fun j h => by have := (o4.lt j h).1; have := zh; omega
      obtain ⟨a4, c4, rfl⟩ := owns_slice o4
      obtain ⟨y0, y1, y2, zy⟩ := X1.at3
      have g0 := X1.frozen 0
      have g1 := X1.frozen 1
      have g2 := X1.frozen 2
      clear b4 B X0 X1 XH hr x0 x1 x2 zx h0 h1 h2 h3 h4 h5 zh
      go_wp2
      refine bodyPost_ret (v := .tuple #[.agg #[.int .i64 2, .slice a4 xs.length c4, .bool q], .bool false]) (by simp [results, Try.results27, go_sem, y0, y1, y2]) rfl ⟨_, by rw [HLB.out.1], by rw [HLB.out.2]; (repeat refine owns_setCell ?_ ?_ _) <;> first | exact owns_base o4 hzB | (intro j h; have := hlt.out j h; simp; omega), ?_⟩
      repeat refine bel_setCell ?_ _ _ ?_
      · exact B4
      all_goals (simp; try omega)
    · have HT := (hL hf).1
      subst HT
      clear hL
      go_wp2_with (first | (go_at_call 66; refine (isPlace_any _ _).mono ?_; rintro e w3 ⟨rfl, h⟩; subst h) | (go_at_call 67; refine (isWord_any _ _).mono ?_; rintro e w3 ⟨rfl, h⟩; subst h))
      refine (copyFrame_any _ q a ca xs _ hsm hr).mono ?_
      rintro e w4 ⟨v, rfl, o4, b4⟩
      replace X1 := X1.below b4
      have B4 := bel_trans B b4
      have hzB := B.size
      have hlt : Hid (∀ j, v.ownBlock = some j → w.heap.size + 2 ≤ j) := fun j h => by have := (o4.lt j h).1; have := zh; omega
      obtain ⟨a4, c4, rfl⟩ := owns_slice o4
      obtain ⟨y0, y1, y2, zy⟩ := X1.at3
      have g0 := X1.frozen 0
      have g1 := X1.frozen 1
      have g2 := X1.frozen 2
      clear b4 B X0 X1 XH hr x0 x1 x2 zx h0 h1 h2 h3 h4 h5 zh
      go_wp2
      refine bodyPost_ret (v := .tuple #[.agg #[.int .i64 2, .slice a4 xs.length c4, .bool q], .bool false]) (by simp [results, Try.results27, go_sem, y0, y1, y2]) rfl ⟨_, by rw [HLB.out.1], by rw [HLB.out.2]; (repeat refine owns_setCell ?_ ?_ _) <;> first | exact owns_base o4 hzB | (intro j h; have := hlt.out j h; simp; omega), ?_⟩
      repeat refine bel_setCell ?_ _ _ ?_
      · exact B4
      all_goals (simp; try omega)
end Go.Proofs.Ytdopcdpapbfdlaa
