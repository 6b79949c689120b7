/- What the specification's FrameWrite does. -/
import Derived.Test.YtdopcdpapbfdlaaFrmWr
namespace Go.Proofs.Ytdopcdpapbfdlaa
open Go.RowKit
set_option linter.unusedVariables false

theorem frame_words {xs : List Int} (h : frameOkB 2 xs = true) : xs.length = 4 := by
  rw [frame_some rfl] at h
  unfold wordsB at h
  simp only [Bool.and_eq_true] at h
  have := eq_of_beq h.2.2
  omega

set_option maxRecDepth 100000 in
set_option maxHeartbeats 2000000 in
theorem specWrite_any (s : Int) (q : Bool) (a : Option Addr) (ca : Nat) (xs : List Int) (i x : Int) (w : World) (hsm : xs.length ≤ 1048577) (ha : Row .i64 w a xs) :
    Calls Try.prog 28 #[.agg #[.int .i64 s, .slice a xs.length ca, .bool q], .int .i64 i, .int .i64 x] w fun e w' => WriteP s q (writeB s xs i x) (writeL s xs i x) w e w' := by
  have bA := bel_alloc (bel_alloc (Below.refl w.heap.size w) (.cells #[.int .i64 s, .slice a xs.length ca, .bool q] 50)) (.cells #[.int .i64 0, .slice none 0 0, .bool false] 50)
  obtain ⟨X0, X1⟩ := Box.two w #[.int .i64 s, .slice a xs.length ca, .bool q] #[.int .i64 0, .slice none 0 0, .bool false] 50 50
  have hr := ha.below bA
  go_enter Try.func28, Try.ntmps28
  go_wp2_with fail
  refine (l3Copy_any s q a ca xs _ hsm hr).mono ?_
  rintro e w1 ⟨v, rfl, o1, b1⟩
  have hlt : ∀ j, v.ownBlock = some j → w.heap.size + 2 ≤ j ∧ j < w1.heap.size := fun j h => by have := o1.lt j h; simp at this; omega
  have HLT : Hid (∀ j, v.ownBlock = some j → w.heap.size + 2 ≤ j ∧ j < w1.heap.size) := hlt
  clear hlt
  obtain ⟨a1, k1, rfl⟩ := owns_slice o1
  have bx := bel_alloc (Below.refl w1.heap.size w1) (.cells #[.int .i64 s, .slice a1 xs.length k1, .bool q] 50)
  have XO := Box.new w1 #[.int .i64 s, .slice a1 xs.length k1, .bool q] 50
  replace X0 := (X0.below b1).below bx
  replace X1 := (X1.below b1).below bx
  replace hr := (hr.below b1).below bx
  replace o1 := owns_below o1 bx
  have B := bel_trans (bel_trans bA b1) bx
  have s1 : w.heap.size + 2 ≤ w1.heap.size := by have := b1.size; simp at this; omega
  clear b1 bx bA ha
  obtain ⟨W, hW⟩ : ∃ W, w1.alloc (.cells #[.int .i64 s, .slice a1 xs.length k1, .bool q] 50) = W := ⟨_, rfl⟩
  rw [hW] at XO X0 X1 hr B o1
  obtain ⟨x0, x1, x2, zx⟩ := X0.at3
  go_wp2_with fail
  clear hW
  refine (specFrameOk_any s q a ca xs _ hr).mono ?_
  rintro e w2 ⟨rfl, b2⟩
  replace X0 := X0.below b2
  replace X1 := X1.below b2
  replace XO := XO.below b2
  replace o1 := owns_below o1 b2
  replace B := bel_trans B b2
  clear b2 hr x0 x1 x2 zx
  obtain ⟨x0, x1, x2, zx⟩ := X0.at3
  obtain ⟨y0, y1, y2, zy⟩ := X1.at3
  obtain ⟨z0, z1, z2, zz⟩ := XO.at3
  have g0 := X1.frozen 0
  have g1 := X1.frozen 1
  have g2 := X1.frozen 2
  rcases write_cases s xs i x with ⟨hb, hf, rfl, hp, hx⟩ | ⟨hb, hc⟩
  · have HLB : Hid (writeB 2 xs i x = true ∧ writeL 2 xs i x = xs.set i.toNat x) := ⟨hb, by unfold writeL; rw [hb]; rfl⟩
    have h4 := frame_words hf
    have hp' : 0 ≤ i ∧ i ≤ 3 := by unfold placeB at hp; exact of_decide_eq_true hp
    obtain ⟨hp0, hp3⟩ := hp'
    obtain ⟨n, rfl⟩ : ∃ n : Nat, i = n := ⟨i.toNat, by omega⟩
    have hn : n < xs.length := by omega
    have hn4 : (n : Int) < (xs.length : Int) := by omega
    have hx' : 0 ≤ x ∧ x ≤ 65535 := wordB_true hx
    obtain ⟨hx0, hx1⟩ := hx'
    obtain ⟨g, rfl⟩ := owns_addr o1 (by omega)
    obtain ⟨u, hcell⟩ := cell_row o1 hn
    have hfz := o1.frozenAt n
    obtain ⟨o2, g2'⟩ := o1.stored n (.int .i64 x)
    have hgl := HLT.out g rfl
    have em : (xs.map (Value.int .i64)).set n (.int .i64 x) = (xs.set n x).map (Value.int .i64) := by rw [List.map_set]
    rw [em] at o2
    replace B := bel_setCell B ⟨g, n, none⟩ (.int .i64 x) (by simp; omega)
    replace X1 := X1.far ⟨g, n, none⟩ (.int .i64 x) (by simp; omega)
    replace XO := XO.far ⟨g, n, none⟩ (.int .i64 x) (by simp; omega)
    obtain ⟨W2, hW2⟩ : ∃ W2, w2.setCell ⟨g, n, none⟩ (.int .i64 x) = W2 := ⟨_, rfl⟩
    rw [hW2] at o2 B X1 XO
    obtain ⟨y0', y1', y2', zy'⟩ := X1.at3
    obtain ⟨z0', z1', z2', zz'⟩ := XO.at3
    have g0' := X1.frozen 0
    have g1' := X1.frozen 1
    have g2' := X1.frozen 2
    have HL4 : Hid (xs.length = 4) := h4
    have hp3' : decide ((n : Int) ≤ 3) = true := decide_eq_true hp3
    clear hb o1 em X0 X1 XO h4
    go_wp2_with (go_at_call 55; refine (specIn_any _ _ _ _).mono ?_; rintro e w3 ⟨rfl, h⟩; subst h)
    refine bodyPost_ret (v := .tuple #[.agg #[.int .i64 2, .slice (some ⟨g, 0, none⟩) xs.length k1, .bool q], .bool true]) (by simp [results, Try.results28, go_sem, y0', y1', y2']) rfl ⟨.slice (some ⟨g, 0, none⟩) xs.length k1, by rw [HLB.out.1], ?_, ?_⟩
    · rw [HLB.out.2, Int.toNat_natCast, List.length_set]
      repeat refine owns_setCell ?_ ?_ _
      · exact owns_base o2 (by simp; omega)
      all_goals (intro j h; have := HLT.out j h; simp; omega)
    · repeat refine bel_setCell ?_ _ _ ?_
      · exact B
      all_goals (simp; try omega)
  · have HLB : Hid (writeB s xs i x = false ∧ writeL s xs i x = xs) := ⟨hb, by unfold writeL; rw [hb]; rfl⟩
    clear hb X0 X1 XO
    have K : ∀ (sv : Int), sv = s → Ending.returned (.tuple #[.agg #[.int .i64 sv, .slice a1 xs.length k1, .bool q], .bool false]) = .returned (.tuple #[.agg #[.int .i64 s, .slice a1 xs.length k1, .bool q], .bool (writeB s xs i x)]) := fun sv h => by rw [h, HLB.out.1]
    clear K
    rcases hc with hf | ⟨hf, hs⟩ | ⟨hf, rfl, hp⟩ | ⟨hf, rfl, hp, hx⟩
    · go_wp2_with (go_at_call 55; refine (specIn_any _ _ _ _).mono ?_; rintro e w3 ⟨rfl, h⟩; subst h)
      refine bodyPost_ret (v := .tuple #[.agg #[.int .i64 s, .slice a1 xs.length k1, .bool q], .bool false]) (by simp [results, Try.results28, go_sem, y0, y1, y2]) rfl ⟨.slice a1 xs.length k1, by rw [HLB.out.1], ?_, ?_⟩
      · rw [HLB.out.2]
        repeat refine owns_setCell ?_ ?_ _
        · exact owns_base o1 (by simp; omega)
        all_goals (intro j h; have := HLT.out j h; simp; omega)
      · repeat refine bel_setCell ?_ _ _ ?_
        · exact B
        all_goals (simp; try omega)
    · have hs2 : (s != 2) = true := by unfold bne; rw [hs]; rfl
      go_wp2_with (go_at_call 55; refine (specIn_any _ _ _ _).mono ?_; rintro e w3 ⟨rfl, h⟩; subst h)
      refine bodyPost_ret (v := .tuple #[.agg #[.int .i64 s, .slice a1 xs.length k1, .bool q], .bool false]) (by simp [results, Try.results28, go_sem, y0, y1, y2]) rfl ⟨.slice a1 xs.length k1, by rw [HLB.out.1], ?_, ?_⟩
      · rw [HLB.out.2]
        repeat refine owns_setCell ?_ ?_ _
        · exact owns_base o1 (by simp; omega)
        all_goals (intro j h; have := HLT.out j h; simp; omega)
      · repeat refine bel_setCell ?_ _ _ ?_
        · exact B
        all_goals (simp; try omega)
    · have hp' : decide (0 ≤ i ∧ i ≤ 3) = false := by unfold placeB at hp; exact hp
      go_wp2_with (go_at_call 55; refine (specIn_any _ _ _ _).mono ?_; rintro e w3 ⟨rfl, h⟩; subst h)
      refine bodyPost_ret (v := .tuple #[.agg #[.int .i64 2, .slice a1 xs.length k1, .bool q], .bool false]) (by simp [results, Try.results28, go_sem, y0, y1, y2]) rfl ⟨.slice a1 xs.length k1, by rw [HLB.out.1], ?_, ?_⟩
      · rw [HLB.out.2]
        repeat refine owns_setCell ?_ ?_ _
        · exact owns_base o1 (by simp; omega)
        all_goals (intro j h; have := HLT.out j h; simp; omega)
      · repeat refine bel_setCell ?_ _ _ ?_
        · exact B
        all_goals (simp; try omega)
    · have hp' : 0 ≤ i ∧ i ≤ 3 := by unfold placeB at hp; exact of_decide_eq_true hp
      have hx' : decide (0 ≤ x ∧ x ≤ 65535) = false := by unfold wordB at hx; exact hx
      go_wp2_with (go_at_call 55; refine (specIn_any _ _ _ _).mono ?_; rintro e w3 ⟨rfl, h⟩; subst h)
      refine bodyPost_ret (v := .tuple #[.agg #[.int .i64 2, .slice a1 xs.length k1, .bool q], .bool false]) (by simp [results, Try.results28, go_sem, y0, y1, y2]) rfl ⟨.slice a1 xs.length k1, by rw [HLB.out.1], ?_, ?_⟩
      · rw [HLB.out.2]
        repeat refine owns_setCell ?_ ?_ _
        · exact owns_base o1 (by simp; omega)
        all_goals (intro j h; have := HLT.out j h; simp; omega)
      · repeat refine bel_setCell ?_ _ _ ?_
        · exact B
        all_goals (simp; try omega)
end Go.Proofs.Ytdopcdpapbfdlaa
