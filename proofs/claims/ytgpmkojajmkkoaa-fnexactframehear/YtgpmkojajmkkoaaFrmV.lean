/- What impl's taken, granted and copyFrame do, and the specification's l3Copy. -/
import Derived.Test.YtgpmkojajmkkoaaFrmW
namespace Go.Proofs.Ytgpmkojajmkkoaa
open Go.RowKit
set_option linter.unusedVariables false

def takenV (t c0 c1 c2 c3 : Int) (r own : Bool) : Value := if own then .agg #[.int .i64 0, .int .i64 (-1), .int .i64 0, .int .i64 0, .int .i64 0, .bool r] else .agg #[.int .i64 1, .int .i64 c0, .int .i64 c1, .int .i64 c2, .int .i64 c3, .bool r]

set_option maxRecDepth 100000 in
set_option maxHeartbeats 1000000 in
theorem taken_any (t c0 c1 c2 c3 : Int) (r own : Bool) (w : World) :
    Calls Try.prog 30 #[.agg #[.int .i64 t, .int .i64 c0, .int .i64 c1, .int .i64 c2, .int .i64 c3, .bool r], .bool own] w fun e w' => e = .returned (takenV t c0 c1 c2 c3 r own) ∧ Below w.heap.size w w' := by
  have bA := bel_alloc (bel_alloc (Below.refl w.heap.size w) (.cells #[.int .i64 t, .int .i64 c0, .int .i64 c1, .int .i64 c2, .int .i64 c3, .bool r] 48)) (.cells #[.int .i64 0, .int .i64 0, .int .i64 0, .int .i64 0, .int .i64 0, .bool false] 48)
  obtain ⟨X0, X1⟩ := Box.two w #[.int .i64 t, .int .i64 c0, .int .i64 c1, .int .i64 c2, .int .i64 c3, .bool r] #[.int .i64 0, .int .i64 0, .int .i64 0, .int .i64 0, .int .i64 0, .bool false] 48 48
  cases own
  · go_enter Try.func30, Try.ntmps30
    go_wp2
    refine bodyPost_ret (v := .agg #[.int .i64 1, .int .i64 c0, .int .i64 c1, .int .i64 c2, .int .i64 c3, .bool r]) (by simp [results, Try.results30, go_sem]) rfl ⟨rfl, ?_⟩
    first | exact bel_alloc (bel_alloc (Below.refl _ _) _) _ | (repeat refine bel_setCell ?_ _ _ ?_) <;> first | exact bA | (simp; try omega)
  · go_enter Try.func30, Try.ntmps30
    go_wp2_with fail
    refine (gone_any t c0 c1 c2 c3 r _).mono ?_
    rintro e w1 ⟨rfl, b1⟩
    have B := bel_trans bA b1
    have X1 := X1.below b1
    obtain ⟨n0, n1, n2, n3, n4, n5, nz⟩ := X1.at6
    have nf0 := X1.frozen 0
    have nf1 := X1.frozen 1
    have nf2 := X1.frozen 2
    have nf3 := X1.frozen 3
    have nf4 := X1.frozen 4
    have nf5 := X1.frozen 5
    clear b1 bA X0 X1
    go_wp2
    refine bodyPost_ret (v := .agg #[.int .i64 0, .int .i64 (-1), .int .i64 0, .int .i64 0, .int .i64 0, .bool r]) (by simp [results, Try.results30, go_sem, n0, n1, n2, n3, n4, n5]) rfl ⟨rfl, ?_⟩
    repeat refine bel_setCell ?_ _ _ ?_
    · exact B
    all_goals (simp; try omega)

set_option maxRecDepth 100000 in
set_option maxHeartbeats 1000000 in
theorem granted_any (c0 c1 c2 c3 : Int) (own : Bool) (w : World) :
    Calls Try.prog 26 #[.agg #[.int .i64 c0, .int .i64 c1, .int .i64 c2, .int .i64 c3], .bool own] w fun e w' => e = .returned (.agg #[.int .i64 (if own then 2 else 1), .int .i64 c0, .int .i64 c1, .int .i64 c2, .int .i64 c3, .bool false]) ∧ Below w.heap.size w w' := by
  cases own
  · go_enter Try.func26, Try.ntmps26
    go_wp2
    refine bodyPost_ret (v := .agg #[.int .i64 1, .int .i64 c0, .int .i64 c1, .int .i64 c2, .int .i64 c3, .bool false]) (by simp [results, Try.results26, go_sem]) rfl ⟨rfl, bel_alloc (bel_alloc (Below.refl _ _) _) _⟩
  · go_enter Try.func26, Try.ntmps26
    go_wp2
    refine bodyPost_ret (v := .agg #[.int .i64 2, .int .i64 c0, .int .i64 c1, .int .i64 c2, .int .i64 c3, .bool false]) (by simp [results, Try.results26, go_sem]) rfl ⟨rfl, bel_alloc (bel_alloc (Below.refl _ _) _) _⟩

set_option maxRecDepth 100000 in
set_option maxHeartbeats 1000000 in
theorem copyFrame_any (s : Int) (q : Bool) (a : Option Addr) (c : Nat) (xs : List Int) (w : World) (hsm : xs.length ≤ 1048577) (ha : Row .i64 w a xs) :
    Calls Try.prog 24 #[.agg #[.int .i64 s, .slice a xs.length c, .bool q]] w fun e w' => ∃ v, e = .returned (.agg #[.int .i64 s, v, .bool q]) ∧ w'.ownsRow w.heap.size 3 1 v xs.length (xs.map (Value.int .i64)) ∧ Below w.heap.size w w' := by
  have bA := bel_alloc (bel_alloc (Below.refl w.heap.size w) (.cells #[.int .i64 s, .slice a xs.length c, .bool q] 29)) (.cells #[.int .i64 0, .slice none 0 0, .bool false] 29)
  go_enter Try.func24, Try.ntmps24
  go_wp2_with fail
  obtain ⟨X0, X1⟩ := Box.two w #[.int .i64 s, .slice a xs.length c, .bool q] #[.int .i64 0, .slice none 0 0, .bool false] 29 29
  refine (copyInts_any a c xs _ hsm (ha.below bA)).mono ?_
  rintro e w1 ⟨v, rfl, o1, b1⟩
  have X0 := X0.below b1
  have X1 := X1.below b1
  obtain ⟨x0, x1, x2, zx⟩ := X0.at3
  obtain ⟨y0, y1, y2, zy⟩ := X1.at3
  have f1 := X0.frozen 1
  have g0 := X1.frozen 0
  have g1 := X1.frozen 1
  have g2 := X1.frozen 2
  have hz : w.heap.size + 2 ≤ w1.heap.size := by have := b1.size; simp at this; omega
  have B : Below w.heap.size w w1 := bel_trans bA b1
  have hlt : Hid (∀ j, v.ownBlock = some j → w.heap.size + 2 ≤ j) := fun j h => by have := (o1.lt j h).1; simp at this; exact this
  obtain ⟨a1, c1, rfl⟩ := owns_slice o1
  clear bA b1 ha
  go_wp2
  refine bodyPost_ret (v := .agg #[.int .i64 s, .slice a1 xs.length c1, .bool q]) (by simp [results, Try.results24, go_sem, y0, y1, y2]) rfl ⟨_, rfl, ?_, ?_⟩
  · repeat refine owns_setCell ?_ ?_ _
    · refine owns_base o1 ?_
      simp; omega
    all_goals (intro j h; have := hlt.out j h; simp; omega)
  · repeat refine bel_setCell ?_ _ _ ?_
    · exact B
    all_goals (simp; try omega)

theorem own_lit0 (W : World) (base : Nat) (h : base ≤ W.heap.size) : (W.alloc (.cells #[] 3)).ownsRow base 3 1 (.slice (some ⟨W.heap.size, 0, none⟩) 0 0) 0 [] :=
  World.ownsRow_lit W #[] 0 h (by simp [maxLen]) rfl

theorem own30 (w : World) (o1 o2 : Obj) : (((w.alloc o1).alloc o2).alloc (.cells #[] 3)).ownsRow w.heap.size 3 1 (.slice (some ⟨w.heap.size + 1 + 1, 0, none⟩) 0 0) 0 [] := by
  have h := own_lit0 ((w.alloc o1).alloc o2) w.heap.size (by simp; omega)
  have e : ((w.alloc o1).alloc o2).heap.size = w.heap.size + 1 + 1 := by simp
  rw [e] at h
  exact h

set_option maxRecDepth 100000 in
set_option maxHeartbeats 1000000 in
theorem l3Copy_any (s : Int) (q : Bool) (a : Option Addr) (c : Nat) (xs : List Int) (w : World) (hsm : xs.length ≤ 1048577) (ha : Row .i64 w a xs) :
    Calls Try.prog 17 #[.agg #[.int .i64 s, .slice a xs.length c, .bool q]] w fun e w' => ∃ v, e = .returned (.agg #[.int .i64 s, v, .bool q]) ∧ w'.ownsRow w.heap.size 3 1 v xs.length (xs.map (Value.int .i64)) ∧ Below w.heap.size w w' := by
  obtain ⟨i0, hi, hz0, hz1, hz2⟩ := info_parts info_i64
  have bA := bel_alloc (bel_alloc (Below.refl w.heap.size w) (.cells #[.int .i64 s, .slice a xs.length c, .bool q] 29)) (.cells #[.int .i64 0, .slice none 0 0, .bool false] 29)
  obtain ⟨X0, X1⟩ := Box.two w #[.int .i64 s, .slice a xs.length c, .bool q] #[.int .i64 0, .slice none 0 0, .bool false] 29 29
  have hW : ((w.alloc (.cells #[.int .i64 s, .slice a xs.length c, .bool q] 29)).alloc (.cells #[.int .i64 0, .slice none 0 0, .bool false] 29)).heap.size = w.heap.size + 1 + 1 := by simp
  have oL := own_lit0 ((w.alloc (.cells #[.int .i64 s, .slice a xs.length c, .bool q] 29)).alloc (.cells #[.int .i64 0, .slice none 0 0, .bool false] 29)) (w.heap.size + 1 + 1) (by simp)
  rw [hW] at oL
  have bL := bel_alloc (Below.refl _ ((w.alloc (.cells #[.int .i64 s, .slice a xs.length c, .bool q] 29)).alloc (.cells #[.int .i64 0, .slice none 0 0, .bool false] 29))) (.cells #[] 3)
  have X0 := X0.below bL
  have X1 := X1.below bL
  have bA := bel_trans bA bL
  clear bL hW
  by_cases h0 : 0 < xs.length
  · obtain ⟨b, off, rfl, hsrc⟩ := row_src (ha.below bA) h0
    have hcl : (xs.map (Value.int .i64)).length = xs.length * 1 := by simp
    go_enter Try.func17, Try.ntmps17
    go_wp2_with (at_builtin; refine wpList_append_own _ rfl (.tmp 3) (.tmp 5) 22 rfl (w.heap.size + 1 + 1) 3 i0 (.int .i64 0) 1 8 Try.underlying22 hi hz0 hz1 hz2 rfl (by decide) _ _ _ rfl oL ⟨b, off, none⟩ xs.length c (xs.map (Value.int .i64)) rfl hcl hsrc ?c2 ?c3 ?c4 ?c5 ?_)
    case c2 => intro u hu; obtain ⟨x, _, rfl⟩ := List.mem_map.1 hu; rfl
    case c3 => unfold maxLen; omega
    case c4 => omega
    case c5 => simp
    · intro v' w1 o1 g1 _
      have hne : ∀ i, i < 2 → (∀ j, (Value.slice (some ⟨w.heap.size + 1 + 1, 0, none⟩) 0 0).ownBlock = some j → j ≠ w.heap.size + i) := fun i hi j hj => by simp [Value.ownBlock] at hj; omega
      have X0 := X0.kept g1 (hne 0 (by omega))
      have X1 := X1.kept g1 (hne 1 (by omega))
      have B1 : Below w.heap.size w w1 := bA.grown g1 bA.size (fun j hj => by simp [Value.ownBlock] at hj; omega)
      obtain ⟨x0, x1, x2, zx⟩ := X0.at3
      obtain ⟨y0, y1, y2, zy⟩ := X1.at3
      have f1 := X0.frozen 1
      have e0 := X1.frozen 0
      have e1 := X1.frozen 1
      have e2 := X1.frozen 2
      have hlt : Hid (∀ j, v'.ownBlock = some j → w.heap.size + 2 ≤ j) := fun j h => (o1.lt j h).1
      obtain ⟨a1, c1, rfl⟩ := owns_slice o1
      clear g1 bA oL hsrc ha X0 X1 hne
      go_wp2
      refine bodyPost_ret (v := .agg #[.int .i64 s, .slice a1 xs.length c1, .bool q]) (by simp [results, Try.results17, go_sem, y0, y1, y2]) rfl ⟨_, rfl, ?_, ?_⟩
      · repeat refine owns_setCell ?_ ?_ _
        · exact owns_base o1 (by omega)
        all_goals (intro j h; have := hlt.out j h; simp; omega)
      · repeat refine bel_setCell ?_ _ _ ?_
        · exact B1
        all_goals (simp; try omega)
  · have hxe : xs = [] := List.length_eq_zero_iff.1 (by omega)
    subst hxe
    clear ha X0 X1 oL bA
    rcases a with _ | ad
    all_goals
      go_enter Try.func17, Try.ntmps17
      go_wp2
      refine bodyPost_ret (v := .agg #[.int .i64 s, .slice (some ⟨w.heap.size + 1 + 1, 0, none⟩) 0 0, .bool q]) (by simp [results, Try.results17, go_sem]) rfl ⟨_, rfl, own30 w _ _, bel_alloc (bel_alloc (bel_alloc (Below.refl _ _) _) _) _⟩
end Go.Proofs.Ytgpmkojajmkkoaa
