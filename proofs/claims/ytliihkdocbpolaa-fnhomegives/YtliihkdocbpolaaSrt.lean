/- What slices' insertionSortOrdered does to an owned row of ints. -/
import Derived.Test.YtliihkdocbpolaaWords
import Derived.BigQuiet
import Derived.Deep.QuietTactic
import Derived.BigRegion
import Derived.Deep.RegionHeld3
namespace Go.Proofs.Ytliihkdocbpolaa
open Go.RowKit
set_option linter.unusedVariables false

theorem isNaN_any (x : Int) (w : World) : Calls Try.prog 64 #[.int .i64 x] w fun e w' => e = .returned (.bool false) ∧ w' = w := by
  go_enter Try.func64, Try.ntmps64
  go_wp2
  go_ret
  exact ⟨rfl, rfl⟩

theorem less_any (x y : Int) (w : World) : Calls Try.prog 54 #[.int .i64 x, .int .i64 y] w fun e w' => e = .returned (.bool (decide (x < y))) ∧ w' = w := by
  go_enter Try.func54, Try.ntmps54
  go_wp2_with fail
  refine (isNaN_any x _).mono ?_
  rintro e w1 ⟨rfl, h⟩
  subst h
  go_wp2
  go_ret
  exact ⟨rfl, rfl⟩

/-- Ascending. -/
def Asc (xs : List Int) : Prop := xs.Pairwise (· ≤ ·)

theorem asc_in {A B : List Int} {x : Int} (h : Asc (A ++ B)) (hb : ∀ b ∈ B, x ≤ b) (ha : ∀ a ∈ A, a ≤ x) : Asc (A ++ x :: B) := by
  unfold Asc at *
  rw [List.pairwise_append] at h ⊢
  refine ⟨h.1, ?_, ?_⟩
  · rw [List.pairwise_cons]
    exact ⟨hb, h.2.1⟩
  · intro a haA b hbB
    simp at hbB
    rcases hbB with rfl | hbB
    · exact ha a haA
    · exact h.2.2 a haA b hbB

theorem asc_last {A : List Int} {y x : Int} (h : Asc (A ++ [y])) (hyx : y ≤ x) : ∀ a ∈ A ++ [y], a ≤ x := by
  intro a ha
  unfold Asc at h
  rw [List.pairwise_append] at h
  simp at ha
  rcases ha with ha | rfl
  · exact Int.le_trans (h.2.2 a ha y (by simp)) hyx
  · exact hyx

theorem asc_left {A B : List Int} (h : Asc (A ++ B)) : Asc A := by
  unfold Asc at *
  rw [List.pairwise_append] at h
  exact h.1

set_option maxRecDepth 100000 in
set_option maxHeartbeats 2000000 in
theorem insertion_any (lo n : Nat) (v : Value) (xs : List Int) (w : World) (hn : n ≤ 100000) (hown : w.ownsRow lo 3 1 v n (xs.map (Value.int .i64))) :
    Calls Try.prog 48 #[v, .int .i64 0, .int .i64 n] w fun e w' => e = .returned (.tuple #[]) ∧ ∃ ys, ys.Perm xs ∧ Asc ys ∧ w'.ownsRow lo 3 1 v n (ys.map (Value.int .i64)) ∧ w.grownBy w' v.ownBlock := by
  obtain ⟨a, cap, rfl⟩ := owns_slice hown
  have HX : Hid (xs.length = n) := by have := hown.1; simp at this; exact this
  go_enter Try.func48, Try.ntmps48
  go_wp2
  go_loopw [6] (fun i wr => ∃ (k d : Nat) (P R : List Int) (w1 : World), i = .int .i64 (k : Nat) ∧ 1 ≤ k ∧ (P ++ R).Perm xs ∧ P.length = min k n ∧ Asc P ∧ w1.ownsRow lo 3 1 (.slice a n cap) n ((P ++ R).map (Value.int .i64)) ∧ w.grownBy w1 (Value.slice a n cap).ownBlock ∧ k ≤ n + 1 ∧ wr = w1.drewN d) (fun i _ => n + 2 - (intOf i).toNat)
  case atStart =>
    refine ⟨1, 0, xs.take 1, xs.drop 1, w, rfl, Nat.le_refl _, by rw [List.take_append_drop], by simp [HX.out], ?_, by rw [List.take_append_drop]; exact hown, World.grownBy.refl _ _, by omega, rfl⟩
    unfold Asc
    cases xs with
    | nil => simp
    | cons x r => simp
  case round =>
    obtain ⟨k, d, P, R, w1, rfl, hk1, hperm, hPl, hasc, ho, hg, hkn, rfl⟩ := hrel
    by_cases hlt : k < n
    · have hi : (k : Int) < (n : Int) := by omega
      obtain ⟨x, C, rfl⟩ : ∃ x C, R = x :: C := by
        cases R with
        | nil =>
          have h1 := hperm.length_eq
          have h2 := HX.out
          simp at h1
          omega
        | cons x C => exact ⟨x, C, rfl⟩
      obtain ⟨g, rfl⟩ := owns_addr ho (by omega)
      have hPk : P.length = k := by omega
      go_wp2
      go_loopw [7] (fun jv wr => ∃ (j d2 : Nat) (A B : List Int) (w2 : World), jv = .int .i64 (j : Nat) ∧ j ≤ k ∧ A.length = j ∧ B.length + j = k ∧ (A ++ x :: (B ++ C)).Perm xs ∧ Asc (A ++ B) ∧ (∀ b ∈ B, x ≤ b) ∧ w2.ownsRow lo 3 1 (.slice (some ⟨g, 0, none⟩) n cap) n ((A ++ x :: (B ++ C)).map (Value.int .i64)) ∧ w.grownBy w2 (Value.slice (some ⟨g, 0, none⟩) n cap).ownBlock ∧ wr = w2.drewN d2) (fun jv _ => (intOf jv).toNat)
      case atStart => exact ⟨k, d, P, [], w1, rfl, Nat.le_refl _, hPk, by simp, by simpa using hperm, by simpa using hasc, by simp, by simpa using ho, hg, rfl⟩
      case round =>
        clear hperm hPl hasc ho hg hown hPk
        obtain ⟨j, d2, A, B, w2, rfl, hjk, hA, hB, hperm, hasc, hxB, ho, hg, rfl⟩ := hrel
        have HE : Hid ((∀ a ∈ A, a ≤ x) → ∃ (k' d' : Nat) (P R : List Int) (w1 : World), Value.int .i64 ((k : Int) + 1) = .int .i64 (k' : Nat) ∧ 1 ≤ k' ∧ (P ++ R).Perm xs ∧ P.length = min k' n ∧ Asc P ∧ w1.ownsRow lo 3 1 (.slice (some ⟨g, 0, none⟩) n cap) n ((P ++ R).map (Value.int .i64)) ∧ w.grownBy w1 (Value.slice (some ⟨g, 0, none⟩) n cap).ownBlock ∧ k' ≤ n + 1 ∧ w2 = w1 ∧ k' = k + 1) := fun hax => by
          refine ⟨k + 1, 0, A ++ x :: B, C, w2, rfl, by omega, by simpa using hperm, by simp; omega, asc_in hasc hxB hax, by simpa using ho, hg, by omega, rfl, rfl⟩
        by_cases hj : j = 0
        · subst hj
          have hA0 : A = [] := List.length_eq_zero_iff.1 hA
          have HE2 := HE.out (by subst hA0; simp)
          clear HE hA hB hperm hasc hxB ho hg
          go_wp2
          go_quiet (fail)
          go_wp2
          go_roundw
          case rel =>
            obtain ⟨k', d', P, R, w1, h1, h2, h3, h4, h5, h6, h7, h8, h9, h10⟩ := HE2
            exact ⟨k', d2 + nq, P, R, w1, h1, h2, h3, h4, h5, h6, h7, h8, by rw [h9]⟩
          case measure => simp [intOf]; omega
        · obtain ⟨j, rfl⟩ : ∃ j', j = j' + 1 := ⟨j - 1, by omega⟩
          have hne : A ≠ [] := by
            intro h
            rw [h] at hA
            simp at hA
          obtain ⟨A', y, rfl⟩ : ∃ A' y, A = A' ++ [y] := ⟨A.dropLast, A.getLast hne, (List.dropLast_concat_getLast hne).symm⟩
          clear hne
          have hA' : A'.length = j := by simp at hA; exact hA
          have c1 : w2.cell? ⟨g, j + 1, none⟩ = some (.int .i64 x) := by
            rw [ho.cellAt (j + 1) (by omega)]
            simp [hA']
          have c0 : w2.cell? ⟨g, j, none⟩ = some (.int .i64 y) := by
            rw [ho.cellAt j (by omega)]
            simp [hA']
          have f1 := ho.frozenAt (j + 1)
          have f0 := ho.frozenAt j
          have hjn : (j : Int) + 1 < (n : Int) := by omega
          have hj0 : (0 : Int) ≤ (j : Int) + 1 := by omega
          have hj1 : (0 : Int) ≤ (j : Int) := by omega
          have hj2 : (j : Int) < (n : Int) := by omega
          have hwr : IntKind.i64.wrap ((j : Int) + 1 - 1) = j := by rw [IntKind.wrap_i64]; omega
          have hwr2 : IntKind.i64.wrap (j : Int) = j := by rw [IntKind.wrap_i64]; omega
          by_cases hxy : x < y
          · have R1 := (ho.stored (j + 1) (.int .i64 y))
            have R2 := (R1.1.stored j (.int .i64 x))
            have HN : Hid (∃ A2 B2, A2.length = j ∧ B2.length + j = k ∧ (A2 ++ x :: (B2 ++ C)).Perm xs ∧ Asc (A2 ++ B2) ∧ (∀ b ∈ B2, x ≤ b) ∧ ((w2.setCell ⟨g, j + 1, none⟩ (.int .i64 y)).setCell ⟨g, j, none⟩ (.int .i64 x)).ownsRow lo 3 1 (.slice (some ⟨g, 0, none⟩) n cap) n ((A2 ++ x :: (B2 ++ C)).map (Value.int .i64)) ∧ w.grownBy ((w2.setCell ⟨g, j + 1, none⟩ (.int .i64 y)).setCell ⟨g, j, none⟩ (.int .i64 x)) (Value.slice (some ⟨g, 0, none⟩) n cap).ownBlock) := by
              refine ⟨A', y :: B, hA', by simp; omega, ?_, by simpa using hasc, ?_, ?_, grownBy_trans hg (grownBy_trans R1.2 R2.2)⟩
              · refine List.Perm.trans ?_ hperm
                simp
                exact (List.Perm.swap _ _ _).append_left A'
              · intro b hb
                simp at hb
                rcases hb with rfl | hb
                · omega
                · exact hxB b hb
              · have e : ((((A' ++ [y]) ++ x :: (B ++ C)).map (Value.int .i64)).set (j + 1) (.int .i64 y)).set j (.int .i64 x) = (A' ++ x :: (y :: B ++ C)).map (Value.int .i64) := by
                  simp [hA']
                rw [← e]
                exact R2.1
            clear HE hA hA' hB hperm hasc hxB ho hg R1 R2
            go_wp2
            refine wp_region_held_drew (S := (fun w' => w'.cell? ⟨g, j + 1, none⟩ = some (.int .i64 x) ∧ w'.cell? ⟨g, j, none⟩ = some (.int .i64 y))) (by kernel_rfl) ?_ (fun hHeld => ?_)
            · exact ⟨c1, c0⟩
            refine wpAnyH_take (i := 0) (oi := { dst := some 16, op := Op.move (Operand.tmp 7), type := 3, pos := "zsortordered.go:14", after := #[], guard := none }) (v := ?r1_v0) rfl (by kernel_rfl) (by kernel_rfl) (by kernel_rfl) (fun _ _ _ h => h) (Or.inl ⟨by rfl, ?r1_hy0⟩) (by assumption) ?r1_rest0
            case r1_hy0 => intro w hSw; (try dsimp only at hSw); go_simp; try (with_reducible rfl)
            simp only [Act.put, List.setIfInBounds_toArray, List.set_cons_zero, List.set_cons_succ]
            refine wpAnyH_take (i := 1) (oi := { dst := some 17, op := Op.move (Operand.tmp 1), type := 3, pos := "zsortordered.go:14", after := #[], guard := none }) (v := ?r1_v1) rfl (by kernel_rfl) (by kernel_rfl) (by kernel_rfl) (fun _ _ _ h => h) (Or.inl ⟨by rfl, ?r1_hy1⟩) (by assumption) ?r1_rest1
            case r1_hy1 => intro w hSw; (try dsimp only at hSw); go_simp; try (with_reducible rfl)
            simp only [Act.put, List.setIfInBounds_toArray, List.set_cons_zero, List.set_cons_succ]
            refine wpAnyH_take (i := 2) (oi := { dst := some 18, op := Op.binOp BinOp.gtr 3 (Operand.tmp 16) (Operand.tmp 17) 3, type := 4, pos := "zsortordered.go:14", after := #[{ on := 0, ground := Ground.data }, { on := 1, ground := Ground.data }], guard := none }) (v := ?r1_v2) rfl (by kernel_rfl) (by kernel_rfl) (by kernel_rfl) (fun _ _ _ h => h) (Or.inl ⟨by rfl, ?r1_hy2⟩) (by assumption) ?r1_rest2
            case r1_hy2 => intro w hSw; (try dsimp only at hSw); go_simp; try (with_reducible rfl)
            simp only [Act.put, List.setIfInBounds_toArray, List.set_cons_zero, List.set_cons_succ]
            refine wpAnyH_take (i := 3) (oi := { dst := some 19, op := Op.move (Operand.tmp 18), type := 4, pos := "zsortordered.go:14", after := #[{ on := 2, ground := Ground.data }], guard := none }) (v := ?r1_v3) rfl (by kernel_rfl) (by kernel_rfl) (by kernel_rfl) (fun _ _ _ h => h) (Or.inl ⟨by rfl, ?r1_hy3⟩) (by assumption) ?r1_rest3
            case r1_hy3 => intro w hSw; (try dsimp only at hSw); go_simp; try (with_reducible rfl)
            simp only [Act.put, List.setIfInBounds_toArray, List.set_cons_zero, List.set_cons_succ]
            refine wpAnyH_take (i := 4) (oi := { dst := some 20, op := Op.move (Operand.tmp 0), type := 24, pos := "zsortordered.go:14", after := #[{ on := 3, ground := Ground.guard }], guard := some (3, true) }) (v := ?r1_v4) rfl (by kernel_rfl) (by kernel_rfl) (by kernel_rfl) (fun _ _ _ h => h) (Or.inl ⟨by rfl, ?r1_hy4⟩) (by assumption) ?r1_rest4
            case r1_hy4 => intro w hSw; (try dsimp only at hSw); go_simp; try (with_reducible rfl)
            simp only [Act.put, List.setIfInBounds_toArray, List.set_cons_zero, List.set_cons_succ]
            refine wpAnyH_take (i := 5) (oi := { dst := some 21, op := Op.move (Operand.tmp 7), type := 3, pos := "zsortordered.go:14", after := #[{ on := 3, ground := Ground.guard }], guard := some (3, true) }) (v := ?r1_v5) rfl (by kernel_rfl) (by kernel_rfl) (by kernel_rfl) (fun _ _ _ h => h) (Or.inl ⟨by rfl, ?r1_hy5⟩) (by assumption) ?r1_rest5
            case r1_hy5 => intro w hSw; (try dsimp only at hSw); go_simp; try (with_reducible rfl)
            simp only [Act.put, List.setIfInBounds_toArray, List.set_cons_zero, List.set_cons_succ]
            refine wpAnyH_take (i := 6) (oi := { dst := some 22, op := Op.indexAddr 24 (Operand.tmp 20) (Operand.tmp 21), type := 0, pos := "zsortordered.go:14", after := #[{ on := 4, ground := Ground.data }, { on := 5, ground := Ground.data }, { on := 3, ground := Ground.guard }], guard := some (3, true) }) (v := ?r1_v6) rfl (by kernel_rfl) (by kernel_rfl) (by kernel_rfl) (fun _ _ _ h => h) (Or.inl ⟨by rfl, ?r1_hy6⟩) (by assumption) ?r1_rest6
            case r1_hy6 => intro w hSw; (try dsimp only at hSw); go_simp; try (with_reducible rfl)
            simp only [Act.put, List.setIfInBounds_toArray, List.set_cons_zero, List.set_cons_succ]
            refine wpAnyH_take (i := 7) (oi := { dst := some 23, op := Op.load 3 (Operand.tmp 22), type := 3, pos := "zsortordered.go:14", after := #[{ on := 6, ground := Ground.data }, { on := 3, ground := Ground.guard }], guard := some (3, true) }) (v := ?r1_v7) rfl (by kernel_rfl) (by kernel_rfl) (by kernel_rfl) (fun _ _ _ h => h) (Or.inl ⟨by rfl, ?r1_hy7⟩) (by assumption) ?r1_rest7
            case r1_hy7 => intro w hSw; (try dsimp only at hSw); go_simp; try (with_reducible rfl)
            simp only [Act.put, List.setIfInBounds_toArray, List.set_cons_zero, List.set_cons_succ]
            refine wpAnyH_take (i := 8) (oi := { dst := some 24, op := Op.move (Operand.tmp 0), type := 24, pos := "zsortordered.go:14", after := #[{ on := 3, ground := Ground.guard }], guard := some (3, true) }) (v := ?r1_v8) rfl (by kernel_rfl) (by kernel_rfl) (by kernel_rfl) (fun _ _ _ h => h) (Or.inl ⟨by rfl, ?r1_hy8⟩) (by assumption) ?r1_rest8
            case r1_hy8 => intro w hSw; (try dsimp only at hSw); go_simp; try (with_reducible rfl)
            simp only [Act.put, List.setIfInBounds_toArray, List.set_cons_zero, List.set_cons_succ]
            refine wpAnyH_take (i := 9) (oi := { dst := some 25, op := Op.move (Operand.tmp 7), type := 3, pos := "zsortordered.go:14", after := #[{ on := 3, ground := Ground.guard }], guard := some (3, true) }) (v := ?r1_v9) rfl (by kernel_rfl) (by kernel_rfl) (by kernel_rfl) (fun _ _ _ h => h) (Or.inl ⟨by rfl, ?r1_hy9⟩) (by assumption) ?r1_rest9
            case r1_hy9 => intro w hSw; (try dsimp only at hSw); go_simp; try (with_reducible rfl)
            simp only [Act.put, List.setIfInBounds_toArray, List.set_cons_zero, List.set_cons_succ]
            refine wpAnyH_take (i := 10) (oi := { dst := some 26, op := Op.binOp BinOp.sub 3 (Operand.tmp 25) (Operand.const (Value.int IntKind.i64 1)) 3, type := 3, pos := "zsortordered.go:14", after := #[{ on := 9, ground := Ground.data }, { on := 3, ground := Ground.guard }], guard := some (3, true) }) (v := ?r1_v10) rfl (by kernel_rfl) (by kernel_rfl) (by kernel_rfl) (fun _ _ _ h => h) (Or.inl ⟨by rfl, ?r1_hy10⟩) (by assumption) ?r1_rest10
            case r1_hy10 => intro w hSw; (try dsimp only at hSw); go_simp; try (with_reducible rfl)
            simp only [Act.put, List.setIfInBounds_toArray, List.set_cons_zero, List.set_cons_succ]
            refine wpAnyH_take (i := 11) (oi := { dst := some 27, op := Op.indexAddr 24 (Operand.tmp 24) (Operand.tmp 26), type := 0, pos := "zsortordered.go:14", after := #[{ on := 8, ground := Ground.data }, { on := 10, ground := Ground.data }, { on := 3, ground := Ground.guard }], guard := some (3, true) }) (v := ?r1_v11) rfl (by kernel_rfl) (by kernel_rfl) (by kernel_rfl) (fun _ _ _ h => h) (Or.inl ⟨by rfl, ?r1_hy11⟩) (by assumption) ?r1_rest11
            case r1_hy11 => intro w hSw; (try dsimp only at hSw); go_simp; try (with_reducible rfl)
            simp only [Act.put, List.setIfInBounds_toArray, List.set_cons_zero, List.set_cons_succ]
            refine wpAnyH_take (i := 12) (oi := { dst := some 28, op := Op.load 3 (Operand.tmp 27), type := 3, pos := "zsortordered.go:14", after := #[{ on := 11, ground := Ground.data }, { on := 3, ground := Ground.guard }], guard := some (3, true) }) (v := ?r1_v12) rfl (by kernel_rfl) (by kernel_rfl) (by kernel_rfl) (fun _ _ _ h => h) (Or.inl ⟨by rfl, ?r1_hy12⟩) (by assumption) ?r1_rest12
            case r1_hy12 => intro w hSw; (try dsimp only at hSw); go_simp; try (with_reducible rfl)
            simp only [Act.put, List.setIfInBounds_toArray, List.set_cons_zero, List.set_cons_succ]
            refine wpAnyH_ready (rs := [13]) (by kernel_rfl) (by simp) ?_
            refine AllReadyH.cons (o := { dst := some 29, op := Op.call { callee := Callee.value (Operand.func 54), args := #[Operand.tmp 23, Operand.tmp 28], argTypes := #[3, 3] }, type := 4, pos := "zsortordered.go:14", after := #[{ on := 7, ground := Ground.data }, { on := 12, ground := Ground.data }, { on := 3, ground := Ground.chain }, { on := 3, ground := Ground.guard }], guard := some (3, true) }) rfl (fun K2 hK2 => ?_) AllReadyH.nil
            go_simp
            refine (less_any x y _).mono ?_
            rintro e w3 ⟨rfl, h⟩
            subst h
            go_wp2_with fail
            refine hK2.out _ _ ?_ (fun hHeld2 => ?_)
            · exact hHeld
            clear hK2 K2 hHeld
            have hHeld := hHeld2
            clear hHeld2
            try simp only [Act.put, List.setIfInBounds_toArray, List.set_cons_zero, List.set_cons_succ]
            refine wpAnyH_take (i := 14) (oi := { dst := some 30, op := Op.pick (Operand.tmp 19) (Operand.tmp 29) (Operand.const (Value.bool false)), type := 4, pos := "zsortordered.go:14", after := #[{ on := 3, ground := Ground.data }, { on := 13, ground := Ground.data }], guard := none }) (v := ?r1_v14) rfl (by kernel_rfl) (by kernel_rfl) (by kernel_rfl) (fun _ _ _ h => h) (Or.inl ⟨by rfl, ?r1_hy14⟩) (by assumption) ?r1_rest14
            case r1_hy14 => intro w hSw; (try dsimp only at hSw); go_simp; try (with_reducible rfl)
            simp only [Act.put, List.setIfInBounds_toArray, List.set_cons_zero, List.set_cons_succ]
            refine wpAnyH_done (by kernel_rfl) ?_ _
            go_wp2
            go_region
            go_wp2
            go_roundw
            case rel =>
              obtain ⟨A2, B2, n1, n2, n3, n4, n5, n6, n7⟩ := HN.out
              exact ⟨j, d2 + 1 + 1, A2, B2, (w2.setCell ⟨g, j + 1, none⟩ (.int .i64 y)).setCell ⟨g, j, none⟩ (.int .i64 x), by go_num, by omega, n1, n2, n3, n4, n5, n6, n7, rfl⟩
            case measure => simp [intOf]
          · have HE2 := HE.out (asc_last (asc_left hasc) (by omega))
            have hd : decide (x < y) = false := by simp; omega
            clear HE hA hA' hB hperm hasc hxB ho hg
            go_wp2
            refine wp_region_held_drew (S := (fun w' => w'.cell? ⟨g, j + 1, none⟩ = some (.int .i64 x) ∧ w'.cell? ⟨g, j, none⟩ = some (.int .i64 y))) (by kernel_rfl) ?_ (fun hHeld => ?_)
            · exact ⟨c1, c0⟩
            refine wpAnyH_take (i := 0) (oi := { dst := some 16, op := Op.move (Operand.tmp 7), type := 3, pos := "zsortordered.go:14", after := #[], guard := none }) (v := ?r2_v0) rfl (by kernel_rfl) (by kernel_rfl) (by kernel_rfl) (fun _ _ _ h => h) (Or.inl ⟨by rfl, ?r2_hy0⟩) (by assumption) ?r2_rest0
            case r2_hy0 => intro w hSw; (try dsimp only at hSw); go_simp; try (with_reducible rfl)
            simp only [Act.put, List.setIfInBounds_toArray, List.set_cons_zero, List.set_cons_succ]
            refine wpAnyH_take (i := 1) (oi := { dst := some 17, op := Op.move (Operand.tmp 1), type := 3, pos := "zsortordered.go:14", after := #[], guard := none }) (v := ?r2_v1) rfl (by kernel_rfl) (by kernel_rfl) (by kernel_rfl) (fun _ _ _ h => h) (Or.inl ⟨by rfl, ?r2_hy1⟩) (by assumption) ?r2_rest1
            case r2_hy1 => intro w hSw; (try dsimp only at hSw); go_simp; try (with_reducible rfl)
            simp only [Act.put, List.setIfInBounds_toArray, List.set_cons_zero, List.set_cons_succ]
            refine wpAnyH_take (i := 2) (oi := { dst := some 18, op := Op.binOp BinOp.gtr 3 (Operand.tmp 16) (Operand.tmp 17) 3, type := 4, pos := "zsortordered.go:14", after := #[{ on := 0, ground := Ground.data }, { on := 1, ground := Ground.data }], guard := none }) (v := ?r2_v2) rfl (by kernel_rfl) (by kernel_rfl) (by kernel_rfl) (fun _ _ _ h => h) (Or.inl ⟨by rfl, ?r2_hy2⟩) (by assumption) ?r2_rest2
            case r2_hy2 => intro w hSw; (try dsimp only at hSw); go_simp; try (with_reducible rfl)
            simp only [Act.put, List.setIfInBounds_toArray, List.set_cons_zero, List.set_cons_succ]
            refine wpAnyH_take (i := 3) (oi := { dst := some 19, op := Op.move (Operand.tmp 18), type := 4, pos := "zsortordered.go:14", after := #[{ on := 2, ground := Ground.data }], guard := none }) (v := ?r2_v3) rfl (by kernel_rfl) (by kernel_rfl) (by kernel_rfl) (fun _ _ _ h => h) (Or.inl ⟨by rfl, ?r2_hy3⟩) (by assumption) ?r2_rest3
            case r2_hy3 => intro w hSw; (try dsimp only at hSw); go_simp; try (with_reducible rfl)
            simp only [Act.put, List.setIfInBounds_toArray, List.set_cons_zero, List.set_cons_succ]
            refine wpAnyH_take (i := 4) (oi := { dst := some 20, op := Op.move (Operand.tmp 0), type := 24, pos := "zsortordered.go:14", after := #[{ on := 3, ground := Ground.guard }], guard := some (3, true) }) (v := ?r2_v4) rfl (by kernel_rfl) (by kernel_rfl) (by kernel_rfl) (fun _ _ _ h => h) (Or.inl ⟨by rfl, ?r2_hy4⟩) (by assumption) ?r2_rest4
            case r2_hy4 => intro w hSw; (try dsimp only at hSw); go_simp; try (with_reducible rfl)
            simp only [Act.put, List.setIfInBounds_toArray, List.set_cons_zero, List.set_cons_succ]
            refine wpAnyH_take (i := 5) (oi := { dst := some 21, op := Op.move (Operand.tmp 7), type := 3, pos := "zsortordered.go:14", after := #[{ on := 3, ground := Ground.guard }], guard := some (3, true) }) (v := ?r2_v5) rfl (by kernel_rfl) (by kernel_rfl) (by kernel_rfl) (fun _ _ _ h => h) (Or.inl ⟨by rfl, ?r2_hy5⟩) (by assumption) ?r2_rest5
            case r2_hy5 => intro w hSw; (try dsimp only at hSw); go_simp; try (with_reducible rfl)
            simp only [Act.put, List.setIfInBounds_toArray, List.set_cons_zero, List.set_cons_succ]
            refine wpAnyH_take (i := 6) (oi := { dst := some 22, op := Op.indexAddr 24 (Operand.tmp 20) (Operand.tmp 21), type := 0, pos := "zsortordered.go:14", after := #[{ on := 4, ground := Ground.data }, { on := 5, ground := Ground.data }, { on := 3, ground := Ground.guard }], guard := some (3, true) }) (v := ?r2_v6) rfl (by kernel_rfl) (by kernel_rfl) (by kernel_rfl) (fun _ _ _ h => h) (Or.inl ⟨by rfl, ?r2_hy6⟩) (by assumption) ?r2_rest6
            case r2_hy6 => intro w hSw; (try dsimp only at hSw); go_simp; try (with_reducible rfl)
            simp only [Act.put, List.setIfInBounds_toArray, List.set_cons_zero, List.set_cons_succ]
            refine wpAnyH_take (i := 7) (oi := { dst := some 23, op := Op.load 3 (Operand.tmp 22), type := 3, pos := "zsortordered.go:14", after := #[{ on := 6, ground := Ground.data }, { on := 3, ground := Ground.guard }], guard := some (3, true) }) (v := ?r2_v7) rfl (by kernel_rfl) (by kernel_rfl) (by kernel_rfl) (fun _ _ _ h => h) (Or.inl ⟨by rfl, ?r2_hy7⟩) (by assumption) ?r2_rest7
            case r2_hy7 => intro w hSw; (try dsimp only at hSw); go_simp; try (with_reducible rfl)
            simp only [Act.put, List.setIfInBounds_toArray, List.set_cons_zero, List.set_cons_succ]
            refine wpAnyH_take (i := 8) (oi := { dst := some 24, op := Op.move (Operand.tmp 0), type := 24, pos := "zsortordered.go:14", after := #[{ on := 3, ground := Ground.guard }], guard := some (3, true) }) (v := ?r2_v8) rfl (by kernel_rfl) (by kernel_rfl) (by kernel_rfl) (fun _ _ _ h => h) (Or.inl ⟨by rfl, ?r2_hy8⟩) (by assumption) ?r2_rest8
            case r2_hy8 => intro w hSw; (try dsimp only at hSw); go_simp; try (with_reducible rfl)
            simp only [Act.put, List.setIfInBounds_toArray, List.set_cons_zero, List.set_cons_succ]
            refine wpAnyH_take (i := 9) (oi := { dst := some 25, op := Op.move (Operand.tmp 7), type := 3, pos := "zsortordered.go:14", after := #[{ on := 3, ground := Ground.guard }], guard := some (3, true) }) (v := ?r2_v9) rfl (by kernel_rfl) (by kernel_rfl) (by kernel_rfl) (fun _ _ _ h => h) (Or.inl ⟨by rfl, ?r2_hy9⟩) (by assumption) ?r2_rest9
            case r2_hy9 => intro w hSw; (try dsimp only at hSw); go_simp; try (with_reducible rfl)
            simp only [Act.put, List.setIfInBounds_toArray, List.set_cons_zero, List.set_cons_succ]
            refine wpAnyH_take (i := 10) (oi := { dst := some 26, op := Op.binOp BinOp.sub 3 (Operand.tmp 25) (Operand.const (Value.int IntKind.i64 1)) 3, type := 3, pos := "zsortordered.go:14", after := #[{ on := 9, ground := Ground.data }, { on := 3, ground := Ground.guard }], guard := some (3, true) }) (v := ?r2_v10) rfl (by kernel_rfl) (by kernel_rfl) (by kernel_rfl) (fun _ _ _ h => h) (Or.inl ⟨by rfl, ?r2_hy10⟩) (by assumption) ?r2_rest10
            case r2_hy10 => intro w hSw; (try dsimp only at hSw); go_simp; try (with_reducible rfl)
            simp only [Act.put, List.setIfInBounds_toArray, List.set_cons_zero, List.set_cons_succ]
            refine wpAnyH_take (i := 11) (oi := { dst := some 27, op := Op.indexAddr 24 (Operand.tmp 24) (Operand.tmp 26), type := 0, pos := "zsortordered.go:14", after := #[{ on := 8, ground := Ground.data }, { on := 10, ground := Ground.data }, { on := 3, ground := Ground.guard }], guard := some (3, true) }) (v := ?r2_v11) rfl (by kernel_rfl) (by kernel_rfl) (by kernel_rfl) (fun _ _ _ h => h) (Or.inl ⟨by rfl, ?r2_hy11⟩) (by assumption) ?r2_rest11
            case r2_hy11 => intro w hSw; (try dsimp only at hSw); go_simp; try (with_reducible rfl)
            simp only [Act.put, List.setIfInBounds_toArray, List.set_cons_zero, List.set_cons_succ]
            refine wpAnyH_take (i := 12) (oi := { dst := some 28, op := Op.load 3 (Operand.tmp 27), type := 3, pos := "zsortordered.go:14", after := #[{ on := 11, ground := Ground.data }, { on := 3, ground := Ground.guard }], guard := some (3, true) }) (v := ?r2_v12) rfl (by kernel_rfl) (by kernel_rfl) (by kernel_rfl) (fun _ _ _ h => h) (Or.inl ⟨by rfl, ?r2_hy12⟩) (by assumption) ?r2_rest12
            case r2_hy12 => intro w hSw; (try dsimp only at hSw); go_simp; try (with_reducible rfl)
            simp only [Act.put, List.setIfInBounds_toArray, List.set_cons_zero, List.set_cons_succ]
            refine wpAnyH_ready (rs := [13]) (by kernel_rfl) (by simp) ?_
            refine AllReadyH.cons (o := { dst := some 29, op := Op.call { callee := Callee.value (Operand.func 54), args := #[Operand.tmp 23, Operand.tmp 28], argTypes := #[3, 3] }, type := 4, pos := "zsortordered.go:14", after := #[{ on := 7, ground := Ground.data }, { on := 12, ground := Ground.data }, { on := 3, ground := Ground.chain }, { on := 3, ground := Ground.guard }], guard := some (3, true) }) rfl (fun K2 hK2 => ?_) AllReadyH.nil
            go_simp
            refine (less_any x y _).mono ?_
            rintro e w3 ⟨rfl, h⟩
            subst h
            go_wp2_with fail
            refine hK2.out _ _ ?_ (fun hHeld2 => ?_)
            · exact hHeld
            clear hK2 K2 hHeld
            have hHeld := hHeld2
            clear hHeld2
            try simp only [Act.put, List.setIfInBounds_toArray, List.set_cons_zero, List.set_cons_succ]
            refine wpAnyH_take (i := 14) (oi := { dst := some 30, op := Op.pick (Operand.tmp 19) (Operand.tmp 29) (Operand.const (Value.bool false)), type := 4, pos := "zsortordered.go:14", after := #[{ on := 3, ground := Ground.data }, { on := 13, ground := Ground.data }], guard := none }) (v := ?r2_v14) rfl (by kernel_rfl) (by kernel_rfl) (by kernel_rfl) (fun _ _ _ h => h) (Or.inl ⟨by rfl, ?r2_hy14⟩) (by assumption) ?r2_rest14
            case r2_hy14 => intro w hSw; (try dsimp only at hSw); go_simp; try (with_reducible rfl)
            simp only [Act.put, List.setIfInBounds_toArray, List.set_cons_zero, List.set_cons_succ]
            refine wpAnyH_done (by kernel_rfl) ?_ _
            go_wp2
            go_roundw
            case rel =>
              obtain ⟨k', d', P, R, w1, h1, h2, h3, h4, h5, h6, h7, h8, h9, h10⟩ := HE2
              exact ⟨k', d2 + 1, P, R, w1, h1, h2, h3, h4, h5, h6, h7, h8, by rw [h9]⟩
            case measure => simp [intOf]; omega
    · have hi : (n : Int) ≤ (k : Int) := by omega
      have HA : Hid (∃ ys, ys.Perm xs ∧ Asc ys ∧ (w1.drewN d).ownsRow lo 3 1 (.slice a n cap) n (ys.map (Value.int .i64)) ∧ w.grownBy (w1.drewN d) (Value.slice a n cap).ownBlock) := by
        have hR : R = [] := by
          have h1 := hperm.length_eq
          have h2 := HX.out
          simp at h1
          exact List.length_eq_zero_iff.1 (by omega)
        subst hR
        rw [List.append_nil] at hperm ho
        exact ⟨P, hperm, hasc, ho, ⟨hg.os, hg.tape, hg.output, hg.size, hg.block⟩⟩
      clear hperm hPl hasc ho hg hown
      go_wp2
      refine ⟨rfl, .tuple #[], by simp [results, Try.results48, go_sem], rfl, HA.out⟩

set_option maxRecDepth 100000 in
set_option maxHeartbeats 2000000 in
theorem bitsLen_any (n : Nat) (w : World) (hn : n ≤ 4) : Calls Try.prog 47 #[.int .u64 n] w fun e w' => (∃ r : Int, e = .returned (.int .i64 r)) ∧ w' = w := by
  obtain rfl | rfl | rfl | rfl | rfl : n = 0 ∨ n = 1 ∨ n = 2 ∨ n = 3 ∨ n = 4 := by omega
  all_goals
    go_enter Try.func47, Try.ntmps47
    go_wp2
    go_ret
    exact ⟨⟨_, rfl⟩, rfl⟩

set_option maxRecDepth 100000 in
set_option maxHeartbeats 2000000 in
theorem pdq_any (lo n : Nat) (v : Value) (xs : List Int) (r : Int) (w : World) (hn : n ≤ 4) (hown : w.ownsRow lo 3 1 v n (xs.map (Value.int .i64))) :
    Calls Try.prog 46 #[v, .int .i64 0, .int .i64 n, .int .i64 r] w fun e w' => e = .returned (.tuple #[]) ∧ ∃ ys, ys.Perm xs ∧ Asc ys ∧ w'.ownsRow lo 3 1 v n (ys.map (Value.int .i64)) ∧ w.grownBy w' v.ownBlock := by
  go_enter Try.func46, Try.ntmps46
  go_wp2
  refine wp_loop_once ?_
  go_wp2_with fail
  refine (insertion_any lo n v xs _ (by omega) hown).mono ?_
  rintro e w1 ⟨rfl, hy⟩
  have HY : Hid (∃ ys, ys.Perm xs ∧ Asc ys ∧ w1.ownsRow lo 3 1 v n (ys.map (Value.int .i64)) ∧ w.grownBy w1 v.ownBlock) := hy
  clear hy hown
  go_wp2
  refine ⟨rfl, .tuple #[], by simp [results, Try.results46, go_sem], rfl, HY.out⟩

set_option maxRecDepth 100000 in
set_option maxHeartbeats 2000000 in
/-- What slices.Sort does to a short row: the same numbers, ascending. -/
theorem sort_any (lo n : Nat) (v : Value) (xs : List Int) (w : World) (hn : n ≤ 4) (hown : w.ownsRow lo 3 1 v n (xs.map (Value.int .i64))) :
    Calls Try.prog 45 #[v] w fun e w' => e = .returned (.tuple #[]) ∧ ∃ ys, ys.Perm xs ∧ Asc ys ∧ w'.ownsRow lo 3 1 v n (ys.map (Value.int .i64)) ∧ w.grownBy w' v.ownBlock := by
  obtain ⟨a, cap, rfl⟩ := owns_slice hown
  go_enter Try.func45, Try.ntmps45
  go_wp2_with fail
  refine (bitsLen_any n _ hn).mono ?_
  rintro e w1 ⟨⟨r, rfl⟩, h⟩
  subst h
  go_wp2_with fail
  refine (pdq_any lo n _ xs r _ hn hown).mono ?_
  rintro e w2 ⟨rfl, hy⟩
  have HY : Hid (∃ ys, ys.Perm xs ∧ Asc ys ∧ w2.ownsRow lo 3 1 (.slice a n cap) n (ys.map (Value.int .i64)) ∧ w1.grownBy w2 (Value.slice a n cap).ownBlock) := hy
  clear hy hown
  go_wp2
  refine ⟨rfl, .tuple #[], by simp [results, Try.results45, go_sem], rfl, HY.out⟩
end Go.Proofs.Ytliihkdocbpolaa
