/- What the specification's l1Msg and l2Sender do. -/
import Derived.Test.YtbofjbjnbagbnaaImplQ2
namespace Go.Proofs.Ytbofjbjnbagbnaa
open Go.RowKit
set_option linter.unusedVariables false

theorem own_lit (W : World) (base : Nat) (h : base ≤ W.heap.size) : (W.alloc (.cells #[] 3)).ownsRow base 3 1 (.slice (some ⟨W.heap.size, 0, none⟩) 0 0) 0 [] :=
  World.ownsRow_lit W #[] 0 h (by simp [maxLen]) rfl

theorem own3 (w : World) (o1 o2 : Obj) : (((w.alloc o1).alloc o2).alloc (.cells #[] 3)).ownsRow w.heap.size 3 1 (.slice (some ⟨w.heap.size + 1 + 1, 0, none⟩) 0 0) 0 [] := by
  have h := own_lit ((w.alloc o1).alloc o2) w.heap.size (by simp; omega)
  have e : ((w.alloc o1).alloc o2).heap.size = w.heap.size + 1 + 1 := by simp
  rw [e] at h
  exact h

set_option maxRecDepth 100000 in
set_option maxHeartbeats 1000000 in
theorem l1Msg_any (k p : Int) (o : Bool) (a : Option Addr) (c : Nat) (xs : List Int) (w : World) (hsm : xs.length ≤ 1048577) (ha : Row .i64 w a xs) :
    Calls Try.prog 16 #[.agg #[.int .i64 k, .int .i64 p, .bool o, .slice a xs.length c]] w fun e w' => ∃ v, e = .returned (.agg #[.int .i64 k, .int .i64 p, .bool o, v]) ∧ w'.ownsRow w.heap.size 3 1 v xs.length (xs.map (Value.int .i64)) ∧ Below w.heap.size w w' := by
  obtain ⟨i0, hi, hz0, hz1, hz2⟩ := info_parts info_i64
  have bA := bel_alloc (bel_alloc (Below.refl w.heap.size w) (.cells #[.int .i64 k, .int .i64 p, .bool o, .slice a xs.length c] 33)) (.cells #[.int .i64 0, .int .i64 0, .bool false, .slice none 0 0] 33)
  obtain ⟨X0, X1⟩ := Box.two w #[.int .i64 k, .int .i64 p, .bool o, .slice a xs.length c] #[.int .i64 0, .int .i64 0, .bool false, .slice none 0 0] 33 33
  have hW : ((w.alloc (.cells #[.int .i64 k, .int .i64 p, .bool o, .slice a xs.length c] 33)).alloc (.cells #[.int .i64 0, .int .i64 0, .bool false, .slice none 0 0] 33)).heap.size = w.heap.size + 1 + 1 := by simp
  have oL := own_lit ((w.alloc (.cells #[.int .i64 k, .int .i64 p, .bool o, .slice a xs.length c] 33)).alloc (.cells #[.int .i64 0, .int .i64 0, .bool false, .slice none 0 0] 33)) (w.heap.size + 1 + 1) (by simp)
  rw [hW] at oL
  have bL := bel_alloc (Below.refl _ ((w.alloc (.cells #[.int .i64 k, .int .i64 p, .bool o, .slice a xs.length c] 33)).alloc (.cells #[.int .i64 0, .int .i64 0, .bool false, .slice none 0 0] 33))) (.cells #[] 3)
  have X0 := X0.below bL
  have X1 := X1.below bL
  have bA := bel_trans bA bL
  clear bL hW
  by_cases h0 : 0 < xs.length
  · obtain ⟨b, off, rfl, hsrc⟩ := row_src (ha.below bA) h0
    have hcl : (xs.map (Value.int .i64)).length = xs.length * 1 := by simp
    go_enter Try.func16, Try.ntmps16
    go_wp2_with (at_builtin; refine wpList_append_own _ rfl (.tmp 3) (.tmp 5) 31 rfl (w.heap.size + 1 + 1) 3 i0 (.int .i64 0) 1 8 Try.underlying31 hi hz0 hz1 hz2 rfl (by decide) _ _ _ rfl oL ⟨b, off, none⟩ xs.length c (xs.map (Value.int .i64)) rfl hcl hsrc ?c2 ?c3 ?c4 ?c5 ?_)
    case c2 => intro u hu; obtain ⟨x, _, rfl⟩ := List.mem_map.1 hu; rfl
    case c3 => unfold maxLen; omega
    case c4 => omega
    case c5 => simp
    · intro v' w1 o1 g1 _
      have hne : ∀ i, i < 2 → (∀ j, (Value.slice (some ⟨w.heap.size + 1 + 1, 0, none⟩) 0 0).ownBlock = some j → j ≠ w.heap.size + i) := fun i hi j hj => by simp [Value.ownBlock] at hj; omega
      have X0 := X0.kept g1 (hne 0 (by omega))
      have X1 := X1.kept g1 (hne 1 (by omega))
      have B1 : Below w.heap.size w w1 := bA.grown g1 bA.size (fun j hj => by simp [Value.ownBlock] at hj; omega)
      obtain ⟨x0, x1, x2, x3, zx⟩ := X0.at4
      obtain ⟨y0, y1, y2, y3, zy⟩ := X1.at4
      have f3 := X0.frozen 3
      have e0 := X1.frozen 0
      have e1 := X1.frozen 1
      have e2 := X1.frozen 2
      have e3 := X1.frozen 3
      have hlt : Hid (∀ j, v'.ownBlock = some j → w.heap.size + 2 ≤ j) := fun j h => (o1.lt j h).1
      obtain ⟨a1, c1, rfl⟩ := owns_slice o1
      clear g1 bA oL hsrc ha X0 X1 hne
      go_wp2
      refine bodyPost_ret (v := .agg #[.int .i64 k, .int .i64 p, .bool o, .slice a1 xs.length c1]) (by simp [results, Try.results16, go_sem, y0, y1, y2, y3]) rfl ⟨_, rfl, ?_, ?_⟩
      · repeat refine owns_setCell ?_ ?_ _
        · exact owns_base o1 (by omega)
        all_goals (intro j h; have := hlt.out j h; simp; omega)
      · repeat refine bel_setCell ?_ _ _ ?_
        · exact B1
        all_goals (simp; try omega)
  · have hxe : xs = [] := List.length_eq_zero_iff.1 (by omega)
    subst hxe
    have oL := owns_base oL (show w.heap.size ≤ w.heap.size + 1 + 1 by omega)
    clear ha X0 X1
    clear oL bA
    rcases a with _ | ad
    all_goals
      go_enter Try.func16, Try.ntmps16
      go_wp2
      refine bodyPost_ret (v := .agg #[.int .i64 k, .int .i64 p, .bool o, .slice (some ⟨w.heap.size + 1 + 1, 0, none⟩) 0 0]) (by simp [results, Try.results16, go_sem]) rfl ⟨_, rfl, own3 w _ _, bel_alloc (bel_alloc (bel_alloc (Below.refl _ _) _) _) _⟩
end Go.Proofs.Ytbofjbjnbagbnaa
