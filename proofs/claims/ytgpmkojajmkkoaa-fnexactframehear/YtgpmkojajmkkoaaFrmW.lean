/- What impl's list, frame, gone, taken, granted and copyFrame do, and the specification's l3Copy. -/
import Derived.Test.YtgpmkojajmkkoaaFrmH
import Derived.Test.YtgpmkojajmkkoaaCopy
namespace Go.Proofs.Ytgpmkojajmkkoaa
open Go.RowKit
set_option linter.unusedVariables false

/-- A holding's words as a list. -/
def HL (xs : List Int) (c0 c1 c2 c3 : Int) : Prop := (xs = [] ∧ c0 = -1 ∧ c1 = 0 ∧ c2 = 0 ∧ c3 = 0) ∨ (xs = [c0, c1, c2, c3] ∧ 0 ≤ c0)

theorem words_pos {c0 c1 c2 c3 : Int} (h : wordsB [c0, c1, c2, c3] 4 = true) : 0 ≤ c0 := by
  unfold wordsB at h
  simp only [Bool.and_eq_true, List.all_cons] at h
  exact (wordB_true h.1.1).1

theorem HW.hl {s : Int} {xs : List Int} {c0 c1 c2 c3 : Int} (h : HW s xs c0 c1 c2 c3) : HL xs c0 c1 c2 c3 := by
  rcases h with ⟨rfl, rfl, rfl, rfl, rfl, rfl⟩ | ⟨_, rfl, hw⟩
  · exact .inl ⟨rfl, rfl, rfl, rfl, rfl⟩
  · exact .inr ⟨rfl, words_pos hw⟩

theorem box_row {w : World} {m : Nat} {u0 u5 : Value} {c0 c1 c2 c3 : Int} {t : TypeId} (h : Box w m #[u0, .int .i64 c0, .int .i64 c1, .int .i64 c2, .int .i64 c3, u5] t) : Row .i64 w (some ⟨m, 1, none⟩) [c0, c1, c2, c3] := by
  refine ⟨by simp, fun i hi => ⟨m, 1, rfl, ?_⟩⟩
  have hi' : i = 0 ∨ i = 1 ∨ i = 2 ∨ i = 3 := by simp at hi; omega
  rw [h.cell]
  rcases hi' with rfl | rfl | rfl | rfl <;> rfl

set_option maxRecDepth 100000 in
set_option maxHeartbeats 1000000 in
theorem list_any (t c0 c1 c2 c3 : Int) (r : Bool) (xs : List Int) (w : World) (h : HL xs c0 c1 c2 c3) :
    Calls Try.prog 29 #[.agg #[.int .i64 t, .int .i64 c0, .int .i64 c1, .int .i64 c2, .int .i64 c3, .bool r]] w fun e w' => ∃ v, e = .returned v ∧ w'.ownsRow w.heap.size 3 1 v xs.length (xs.map (Value.int .i64)) ∧ Below w.heap.size w w' := by
  have bA := bel_alloc (Below.refl w.heap.size w) (.cells #[.int .i64 t, .int .i64 c0, .int .i64 c1, .int .i64 c2, .int .i64 c3, .bool r] 48)
  have XA := Box.new w #[.int .i64 t, .int .i64 c0, .int .i64 c1, .int .i64 c2, .int .i64 c3, .bool r] 48
  rcases h with ⟨rfl, rfl, rfl, rfl, rfl⟩ | ⟨rfl, h0⟩
  · go_enter Try.func29, Try.ntmps29
    go_wp2_with fail
    refine (empty_yes _ _ _).mono ?_
    rintro e w1 ⟨rfl, b1⟩
    have B := bel_trans bA b1
    clear b1 XA bA
    go_wp2
    go_ret
    exact ⟨_, rfl, World.ownsRow_nil _ _ _ _, B⟩
  · go_enter Try.func29, Try.ntmps29
    go_wp2_with fail
    refine (empty_no _ _ c0 c1 c2 c3 _ h0).mono ?_
    rintro e w1 ⟨rfl, b1⟩
    have B := bel_trans bA b1
    have XA := XA.below b1
    obtain ⟨x0, x1, x2, x3, x4, x5, zx⟩ := XA.at6
    have hR := box_row XA
    clear b1 bA
    go_wp2_with fail
    refine (copyInts_any (some ⟨w.heap.size, 1, none⟩) 4 [c0, c1, c2, c3] _ (by simp) hR).mono ?_
    rintro e w2 ⟨v, rfl, o2, b2⟩
    have hz := B.size
    have B2 := bel_trans B b2
    clear b2 XA hR B x0 x1 x2 x3 x4 x5 zx
    obtain ⟨a2, k2, rfl⟩ := owns_slice o2
    go_wp2
    go_ret
    exact ⟨_, rfl, owns_base o2 hz, B2⟩

set_option maxRecDepth 100000 in
set_option maxHeartbeats 1000000 in
theorem frame_any (t c0 c1 c2 c3 : Int) (r : Bool) (xs : List Int) (w : World) (h : HL xs c0 c1 c2 c3) :
    Calls Try.prog 27 #[.agg #[.int .i64 t, .int .i64 c0, .int .i64 c1, .int .i64 c2, .int .i64 c3, .bool r]] w fun e w' => ∃ v, e = .returned (.agg #[.int .i64 t, v, .bool r]) ∧ w'.ownsRow w.heap.size 3 1 v xs.length (xs.map (Value.int .i64)) ∧ Below w.heap.size w w' := by
  have bA := bel_alloc (bel_alloc (Below.refl w.heap.size w) (.cells #[.int .i64 t, .int .i64 c0, .int .i64 c1, .int .i64 c2, .int .i64 c3, .bool r] 48)) (.cells #[.int .i64 0, .slice none 0 0, .bool false] 29)
  obtain ⟨X0, X1⟩ := Box.two w #[.int .i64 t, .int .i64 c0, .int .i64 c1, .int .i64 c2, .int .i64 c3, .bool r] #[.int .i64 0, .slice none 0 0, .bool false] 48 29
  obtain ⟨W, hW⟩ : ∃ W, ((w.alloc (.cells #[.int .i64 t, .int .i64 c0, .int .i64 c1, .int .i64 c2, .int .i64 c3, .bool r] 48)).alloc (.cells #[.int .i64 0, .slice none 0 0, .bool false] 29)) = W := ⟨_, rfl⟩
  have HWs : Hid (W.heap.size = w.heap.size + 2) := by show _ = _; rw [← hW]; simp
  go_enter Try.func27, Try.ntmps27
  go_upto_region 1 with fail
  rw [hW] at bA X0 X1
  clear hW
  obtain ⟨x0, x1, x2, x3, x4, x5, zx⟩ := X0.at6
  go_region_held3 (fun w' => w'.cell? ⟨w.heap.size, 0, none⟩ = some (.int .i64 t) ∧ w'.cell? ⟨w.heap.size, 1, none⟩ = some (.int .i64 c0) ∧ w'.cell? ⟨w.heap.size, 2, none⟩ = some (.int .i64 c1) ∧ w'.cell? ⟨w.heap.size, 3, none⟩ = some (.int .i64 c2) ∧ w'.cell? ⟨w.heap.size, 4, none⟩ = some (.int .i64 c3) ∧ w'.cell? ⟨w.heap.size, 5, none⟩ = some (.bool r))
    (first | (with_reducible exact keep6 b1 ‹_›) | go_keep)
    (first | (go_at_call 29; refine (list_any t c0 c1 c2 c3 r xs _ h).mono ?_; rintro e w1 ⟨v, rfl, o1, b1⟩; have XN := X1.below (bel_undrew b1); obtain ⟨n0, n1, n2, nz⟩ := XN.at3; have nf0 := XN.frozen 0; have nf1 := XN.frozen 1; have nf2 := XN.frozen 2; obtain ⟨a1, k1, rfl⟩ := owns_slice o1))
  all_goals
    have B := bel_trans bA (bel_undrew b1)
    have hlt : ∀ j, (Value.slice a1 xs.length k1).ownBlock = some j → w.heap.size + 2 ≤ j := fun j hj => by have h1 := (o1.lt j hj).1; have h2 := HWs.out; simp at h1; omega
    have h2 := HWs.out
    go_wp2
    refine bodyPost_ret (v := .agg #[.int .i64 t, .slice a1 xs.length k1, .bool r]) (by simp [results, Try.results27, go_sem, n0, n1, n2]) rfl ⟨_, rfl, ?_, ?_⟩
    · repeat refine owns_setCell ?_ ?_ _
      · exact owns_base o1 (by simp; omega)
      all_goals (intro j hj; have := hlt j hj; simp; omega)
    · repeat refine bel_setCell ?_ _ _ ?_
      · exact B
      all_goals (simp; try omega)

set_option maxRecDepth 100000 in
set_option maxHeartbeats 1000000 in
theorem gone_any (t c0 c1 c2 c3 : Int) (r : Bool) (w : World) :
    Calls Try.prog 28 #[.agg #[.int .i64 t, .int .i64 c0, .int .i64 c1, .int .i64 c2, .int .i64 c3, .bool r]] w fun e w' => e = .returned (.agg #[.int .i64 0, .int .i64 (-1), .int .i64 0, .int .i64 0, .int .i64 0, .bool r]) ∧ Below w.heap.size w w' := by
  have bA := bel_alloc (bel_alloc (Below.refl w.heap.size w) (.cells #[.int .i64 t, .int .i64 c0, .int .i64 c1, .int .i64 c2, .int .i64 c3, .bool r] 48)) (.cells #[.int .i64 0, .int .i64 0, .int .i64 0, .int .i64 0, .int .i64 0, .bool false] 48)
  obtain ⟨X0, X1⟩ := Box.two w #[.int .i64 t, .int .i64 c0, .int .i64 c1, .int .i64 c2, .int .i64 c3, .bool r] #[.int .i64 0, .int .i64 0, .int .i64 0, .int .i64 0, .int .i64 0, .bool false] 48 48
  obtain ⟨W, hW⟩ : ∃ W, ((w.alloc (.cells #[.int .i64 t, .int .i64 c0, .int .i64 c1, .int .i64 c2, .int .i64 c3, .bool r] 48)).alloc (.cells #[.int .i64 0, .int .i64 0, .int .i64 0, .int .i64 0, .int .i64 0, .bool false] 48)) = W := ⟨_, rfl⟩
  have HWs : Hid (W.heap.size = w.heap.size + 2) := by show _ = _; rw [← hW]; simp
  go_enter Try.func28, Try.ntmps28
  go_upto_region 1 with fail
  rw [hW] at bA X0 X1
  clear hW
  obtain ⟨x0, x1, x2, x3, x4, x5, zx⟩ := X0.at6
  go_region_held3 (fun w' => w'.cell? ⟨w.heap.size, 0, none⟩ = some (.int .i64 t) ∧ w'.cell? ⟨w.heap.size, 5, none⟩ = some (.bool r))
    (first | (with_reducible exact keep2 b1 ‹_›) | go_keep)
    (first | (go_at_call 36; refine (noWords_any _).mono ?_; rintro e w1 ⟨rfl, b1⟩; have XN := X1.below (bel_undrew b1); obtain ⟨n0, n1, n2, n3, n4, n5, nz⟩ := XN.at6; have nf0 := XN.frozen 0; have nf1 := XN.frozen 1; have nf2 := XN.frozen 2; have nf3 := XN.frozen 3; have nf4 := XN.frozen 4; have nf5 := XN.frozen 5))
  all_goals
    have B := bel_trans bA (bel_undrew b1)
    have h2 := HWs.out
    go_wp2
    refine bodyPost_ret (v := .agg #[.int .i64 0, .int .i64 (-1), .int .i64 0, .int .i64 0, .int .i64 0, .bool r]) (by simp [results, Try.results28, go_sem, n0, n1, n2, n3, n4, n5]) rfl ⟨rfl, ?_⟩
    repeat refine bel_setCell ?_ _ _ ?_
    · exact B
    all_goals (simp; try omega)
end Go.Proofs.Ytgpmkojajmkkoaa
