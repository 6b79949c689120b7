/- What the specification's Work answers. -/
import Derived.BigRegion
import Derived.Test.YtiilgkloddflcaaHt9
namespace Go.Proofs.Ytiilgkloddflcaa
open Go.RowKit
set_option linter.unusedVariables false

/-- What a place does to a right hart that runs: registers, place, state, what is written. -/
def opR (xs : List Int) (pc op r n got A B : Int) : List Int × Int × Int × Int :=
  if op = 1 then (xs.set r.toNat n, (pc + 1) % 24, 0, -1)
  else if op = 2 then (xs.set r.toNat ((A + B) % 65536), (pc + 1) % 24, 0, -1)
  else if op = 10 then (xs.set r.toNat ((A - B) % 65536), (pc + 1) % 24, 0, -1)
  else if op = 3 then (xs.set r.toNat ((A + n) % 65536), (pc + 1) % 24, 0, -1)
  else if op = 4 then (xs.set r.toNat got, (pc + 1) % 24, 0, -1)
  else if op = 5 then (xs, (pc + 1) % 24, 0, B)
  else if op = 6 then (xs.set r.toNat got, (pc + 1) % 24, 0, (got + B) % 65536)
  else if op = 7 then (xs, if A = 0 then n % 24 else (pc + 1) % 24, 0, -1)
  else if op = 8 then (xs, n % 24, 0, -1)
  else (xs, pc, 1, -1)
def workR (xs : List Int) (pc st op r a b n got : Int) : List Int × Int × Int × Int :=
  if hartB xs pc st && (st == 0 && inB got 0 65535) then
    if insB op r a b n then opR xs pc op r n got (xs.getD a.toNat 0) (xs.getD b.toNat 0) else (xs, pc, 2, -1)
  else (xs, pc, st, -1)
theorem opR_len (xs : List Int) (pc op r n got A B : Int) : (opR xs pc op r n got A B).1.length = xs.length := by
  unfold opR
  repeat' split
  all_goals simp
theorem workR_len (xs : List Int) (pc st op r a b n got : Int) : (workR xs pc st op r a b n got).1.length = xs.length := by
  unfold workR
  split
  · split
    · exact opR_len ..
    · rfl
  · rfl
/-- A call that answers a hart and a number. -/
def WorkP (R : List Int × Int × Int × Int) (w : World) (e : Ending) (w' : World) : Prop := ∃ (a : Option Addr) (c : Nat), e = .returned (.tuple #[.agg #[.slice a R.1.length c, .int .i64 R.2.1, .int .i64 R.2.2.1], .int .i64 R.2.2.2]) ∧ w'.ownsRow w.heap.size 3 1 (.slice a R.1.length c) R.1.length (R.1.map (Value.int .i64)) ∧ Below w.heap.size w w'
theorem work_of {R : List Int × Int × Int × Int} {L : List Int} {pc st v : Int} (hR : R = (L, pc, st, v)) {n : Nat} (hl : L.length = n) {w w' : World} {a : Option Addr} {c : Nat} (o : w'.ownsRow w.heap.size 3 1 (.slice a n c) n (L.map (Value.int .i64))) (b : Below w.heap.size w w') :
    WorkP R w (.returned (.tuple #[.agg #[.slice a n c, .int .i64 pc, .int .i64 st], .int .i64 v])) w' := by
  subst hl
  rw [hR]
  exact ⟨a, c, rfl, o, b⟩
theorem work_end {R : List Int × Int × Int × Int} {L : List Int} {pc st v : Int} (hR : R = (L, pc, st, v)) {n : Nat} (hl : L.length = n) {w w2 : World} {a : Option Addr} {c lo m : Nat} (o : w2.ownsRow lo 3 1 (.slice a n c) n (L.map (Value.int .i64))) (hlo : w.heap.size ≤ lo) (b : Below w.heap.size w w2)
    (hm : w.heap.size ≤ m) (hne : ∀ j, (Value.slice a n c).ownBlock = some j → m ≠ j) (x y z : Value) :
    WorkP R w (.returned (.tuple #[.agg #[.slice a n c, .int .i64 pc, .int .i64 st], .int .i64 v])) (((w2.setCell ⟨m, 0, none⟩ x).setCell ⟨m, 1, none⟩ y).setCell ⟨m, 2, none⟩ z) := by
  refine work_of hR hl ?_ ?_
  · refine owns_setCell (owns_setCell (owns_setCell (owns_base o hlo) ?_ _) ?_ _) ?_ _
    all_goals exact hne
  · exact bel_setCell (bel_setCell (bel_setCell b _ _ hm) _ _ hm) _ _ hm
theorem hart_parts {xs : List Int} {pc st : Int} (h : hartB xs pc st = true) : xs.length = 4 ∧ (0 ≤ pc ∧ pc ≤ 23) ∧ (0 ≤ st ∧ st ≤ 2) ∧ ∀ i, i < 4 → 0 ≤ xs.getD i 0 ∧ xs.getD i 0 ≤ 65535 := by
  unfold hartB wordsB at h
  simp only [Bool.and_eq_true, beq_iff_eq, List.all_eq_true] at h
  obtain ⟨⟨h1, h2⟩, h3, h4⟩ := h
  have hl : xs.length = 4 := by omega
  simp [inB] at h3 h4
  refine ⟨hl, h3, h4, fun i hi => ?_⟩
  have hg : xs.getD i 0 = xs[i] := by simp [hl, hi]
  rw [hg]
  exact wordB_true (h1 _ (List.getElem_mem _))

set_option maxRecDepth 100000 in
set_option maxHeartbeats 4000000 in
theorem specWork_no (p : Option Addr) (c : Nat) (xs : List Int) (pc st op r a b n got : Int) (w : World) (ha : Row .i64 w p xs) (hsm : xs.length ≤ 1048577) (hno : (hartB xs pc st && (st == 0 && inB got 0 65535)) = false) :
    Calls Try.prog 23 #[.agg #[.slice p xs.length c, .int .i64 pc, .int .i64 st], .agg (icells op r a b n), .int .i64 got] w (WorkP (workR xs pc st op r a b n got) w) := by
  have HR : Hid (workR xs pc st op r a b n got = (xs, pc, st, -1)) := by show _ = _; unfold workR; rw [hno]; rfl
  have bA := bel_alloc (bel_alloc (bel_alloc (Below.refl w.heap.size w) (.cells #[.slice p xs.length c, .int .i64 pc, .int .i64 st] 27)) (.cells (icells op r a b n) 37)) (.cells #[.slice none 0 0, .int .i64 0, .int .i64 0] 27)
  have X3 := (Box.two w #[.slice p xs.length c, .int .i64 pc, .int .i64 st] (icells op r a b n) 27 37).1.below (bel_alloc (Below.refl _ _) (.cells #[.slice none 0 0, .int .i64 0, .int .i64 0] 27))
  have X6 := Box.new ((w.alloc (.cells #[.slice p xs.length c, .int .i64 pc, .int .i64 st] 27)).alloc (.cells (icells op r a b n) 37)) #[.slice none 0 0, .int .i64 0, .int .i64 0] 27
  simp only [World.size_alloc] at X6
  have HA : Hid (Row .i64 w p xs) := ha
  have hra := ha.below bA
  clear ha
  go_enter Try.func23, Try.ntmps23
  go_wp2_with fail
  refine (l9Copy_any p c xs pc st _ hsm hra).mono ?_
  rintro e w1 ⟨aC, cC, rfl, oC, b1⟩
  have hz1 := b1.size
  simp only [World.size_alloc] at hz1
  have bx := bel_alloc (Below.refl w1.heap.size w1) (.cells #[.slice aC xs.length cC, .int .i64 pc, .int .i64 st] 27)
  have X8 := Box.new w1 #[.slice aC xs.length cC, .int .i64 pc, .int .i64 st] 27
  replace X3 := (X3.below b1).below bx
  replace X6 := (X6.below b1).below bx
  have hlC : Hid (∀ j, (Value.slice aC xs.length cC).ownBlock = some j → w.heap.size + 3 ≤ j) := fun j h => by have := (oC.lt j h).1; simp at this; omega
  replace oC := owns_below oC bx
  have B1 := bel_trans (bel_trans bA b1) bx
  have hr1 := HA.out.below B1
  clear bA b1 bx hra
  obtain ⟨x0, x1, x2, xz⟩ := X3.at3
  go_wp2_with fail
  refine (specHartOk_any p c xs pc st _ hr1).mono ?_
  rintro e w2 ⟨rfl, b2⟩
  replace X3 := X3.below b2
  replace X6 := X6.below b2
  replace X8 := X8.below b2
  replace oC := owns_below oC b2
  have HB : Hid (Below w.heap.size w w2) := bel_trans B1 b2
  clear x0 x1 x2 xz b2 B1 hr1
  obtain ⟨x0, x1, x2, xz⟩ := X3.at3
  obtain ⟨k0, k1, k2, kz⟩ := X8.at3
  obtain ⟨m0, m1, m2, mz⟩ := X6.at3
  have fm0 := X6.frozen 0
  have fm1 := X6.frozen 1
  have fm2 := X6.frozen 2
  have HO : Hid (w2.ownsRow w.heap.size 3 1 (.slice aC xs.length cC) xs.length (xs.map (Value.int .i64))) := owns_base oC (by simp; omega)
  clear X3 X6 X8 oC
  obtain ⟨ln, hln⟩ : ∃ ln, xs.length = ln := ⟨_, rfl⟩
  have HLN : Hid (xs.length = ln) := hln
  cases h1 : hartB xs pc st
  · clear hno h1
    rw [hln] at HO hlC x0 k0 ⊢
    clear hln hsm
    go_wp2
    refine bodyPost_ret (v := .tuple #[.agg #[.slice aC ln cC, .int .i64 pc, .int .i64 st], .int .i64 (-1)]) (by simp [results, Try.results23, go_sem, m0, m1, m2]) rfl ?_
    exact work_end HR.out HLN.out HO.out (Nat.le_refl _) HB.out (by omega) (fun j h => by have := hlC.out j h; omega) _ _ _
  · rw [h1, Bool.true_and] at hno
    rw [hln] at HO hlC x0 k0 ⊢
    clear hln hsm h1
    by_cases h2 : st = 0
    · subst h2
      have hg : inB got 0 65535 = false := by simpa using hno
      have HG : Hid (inB got 0 65535 = false) := hg
      clear hno hg
      go_wp2_with fail
      refine (specIn_8 got 0 65535 _).mono ?_
      rintro e w3 ⟨rfl, h⟩
      replace h := h.symm
      subst h
      rw [HG.out]
      go_wp2
      refine bodyPost_ret (v := .tuple #[.agg #[.slice aC ln cC, .int .i64 pc, .int .i64 0], .int .i64 (-1)]) (by simp [results, Try.results23, go_sem, m0, m1, m2]) rfl ?_
      exact work_end HR.out HLN.out HO.out (Nat.le_refl _) HB.out (by omega) (fun j h => by have := hlC.out j h; omega) _ _ _
    · have e2 : (st == 0) = false := by simpa using h2
      have e3 : (st != 0) = true := by simpa using h2
      clear hno
      go_wp2
      refine bodyPost_ret (v := .tuple #[.agg #[.slice aC ln cC, .int .i64 pc, .int .i64 st], .int .i64 (-1)]) (by simp [results, Try.results23, go_sem, m0, m1, m2]) rfl ?_
      exact work_end HR.out HLN.out HO.out (Nat.le_refl _) HB.out (by omega) (fun j h => by have := hlC.out j h; omega) _ _ _
end Go.Proofs.Ytiilgkloddflcaa
