/- What the specification's Target answers. -/
import Derived.Test.YtiilgkloddflcaaHs9
namespace Go.Proofs.Ytiilgkloddflcaa
open Go.RowKit
set_option linter.unusedVariables false

theorem ret_i {x y : Int} (h : x = y) : Ending.returned (.int .i64 x) = Ending.returned (.int .i64 y) := by rw [h]
/-- It reaches into memory. -/
def memB (op : Int) : Bool := op == 4 || (op == 5 || op == 6)
def tgtV (op r a b n : Int) (xs : List Int) : Int := if insB op r a b n && (decide (xs.length = 4) && memB op) then IntKind.i64.wrap (xs.getD a.toNat 0 + n) % 24 else -1
theorem tgt_no {op r a b n : Int} {xs : List Int} (h : (insB op r a b n && (decide (xs.length = 4) && memB op)) = false) : tgtV op r a b n xs = -1 := by unfold tgtV; rw [h]; rfl
theorem ins_parts {op r a b n : Int} (h : insB op r a b n = true) : (1 ≤ op ∧ op ≤ 10) ∧ (0 ≤ r ∧ r ≤ 3) ∧ (0 ≤ a ∧ a ≤ 3) ∧ (0 ≤ b ∧ b ≤ 3) ∧ (0 ≤ n ∧ n ≤ 63) := by
  unfold insB fldB at h
  simp only [Bool.and_eq_true] at h
  obtain ⟨h1, ⟨h2, _⟩, ⟨h3, _⟩, ⟨h4, _⟩, h5, _⟩ := h
  simp [inB] at h1 h2 h3 h4 h5
  omega

set_option maxRecDepth 100000 in
set_option maxHeartbeats 4000000 in
theorem specTarget_any (op r a b n : Int) (p : Option Addr) (c : Nat) (xs : List Int) (w : World) (ha : Row .i64 w p xs) (hsm : xs.length ≤ 1048577) :
    Calls Try.prog 18 #[.agg (icells op r a b n), .slice p xs.length c] w fun e w' => e = .returned (.int .i64 (tgtV op r a b n xs)) ∧ Below w.heap.size w w' := by
  have bA := bel_alloc (Below.refl w.heap.size w) (.cells (icells op r a b n) 37)
  have X := Box.new w (icells op r a b n) 37
  cases h1 : insB op r a b n
  · have H1 : Hid (insB op r a b n = false) := h1
    have HV : Hid (tgtV op r a b n xs = -1) := tgt_no (by rw [h1]; rfl)
    clear h1 ha
    go_enter Try.func18, Try.ntmps18
    go_wp2_with fail
    refine (specInsOk_any op r a b n _).mono ?_
    rintro e w1 ⟨rfl, b1⟩
    rw [H1.out]
    have HF : Hid (Below w.heap.size w w1) := bel_trans bA b1
    clear bA b1 X
    go_wp2
    go_ret
    exact ⟨ret_i HV.out.symm, HF.out⟩
  · have H1 : Hid (insB op r a b n = true) := h1
    obtain ⟨n0, hn0⟩ : ∃ k, xs.length = k := ⟨_, rfl⟩
    rw [hn0] at hsm
    by_cases h4 : n0 = 4
    · subst h4
      obtain ⟨p1, p2, ⟨p3, p4⟩, p5, p6, p7⟩ := ins_parts h1
      cases hm : memB op
      · have HV : Hid (tgtV op r a b n xs = -1) := tgt_no (by rw [h1, hm, hn0]; rfl)
        have hop : op = 1 ∨ op = 2 ∨ op = 3 ∨ op = 7 ∨ op = 8 ∨ op = 9 ∨ op = 10 := by
          simp [memB] at hm
          omega
        rw [hn0]
        clear h1 ha hm p1 p2 p3 p4 p5 p6 p7 hn0
        rcases hop with rfl | rfl | rfl | rfl | rfl | rfl | rfl
        all_goals
          go_enter Try.func18, Try.ntmps18
          go_wp2_with fail
          refine (specInsOk_any _ r a b n _).mono ?_
          rintro e w1 ⟨rfl, b1⟩
          rw [H1.out]
          obtain ⟨x0, x1, x2, x3, x4, xz⟩ := (X.below b1).at5i
          have HF : Hid (Below w.heap.size w w1) := bel_trans bA b1
          clear bA b1 X
          go_wp2
          go_ret
          exact ⟨ret_i HV.out.symm, HF.out⟩
      · obtain ⟨k, rfl⟩ : ∃ k : Nat, a = (k : Int) := ⟨a.toNat, by omega⟩
        have HV : Hid (tgtV op r k b n xs = IntKind.i64.wrap (xs.getD k 0 + n) % 24) := by
          show _ = _
          unfold tgtV
          rw [h1, hm, hn0]
          rfl
        have hop : op = 4 ∨ op = 5 ∨ op = 6 := by
          simp [memB] at hm
          omega
        obtain ⟨v, hv⟩ : ∃ v, xs.getD k 0 = v := ⟨_, rfl⟩
        rw [hv] at HV
        obtain ⟨pb, po, rfl, hc⟩ := ha.2 k (by omega)
        rw [hv] at hc
        have HC : Hid (∀ W, Below w.heap.size w W → W.cell? ⟨pb, po + k, none⟩ = some (.int .i64 v)) := fun W hW => (hW.cell (p := ⟨pb, po + k, none⟩) (lt_of_cell hc)).trans hc
        rw [hn0]
        have hk4 : (k : Int) < 4 := by omega
        clear h1 ha hm p1 p2 p5 hn0 hv hc
        rcases hop with rfl | rfl | rfl
        all_goals
          go_enter Try.func18, Try.ntmps18
          go_wp2_with fail
          refine (specInsOk_any _ r (k : Int) b n _).mono ?_
          rintro e w1 ⟨rfl, b1⟩
          rw [H1.out]
          obtain ⟨x0, x1, x2, x3, x4, xz⟩ := (X.below b1).at5i
          have HF : Hid (Below w.heap.size w w1) := bel_trans bA b1
          have cv := HC.out w1 HF.out
          clear bA b1 X
          go_wp2
          go_region_with (go_at_call 42; refine (l9Address_any _ _).mono ?_; rintro e w1 ⟨rfl, rfl⟩)
          all_goals
            go_wp2
            go_ret
            exact ⟨ret_i HV.out.symm, below_drewN HF.out 1⟩
    · have HV : Hid (tgtV op r a b n xs = -1) := tgt_no (by rw [h1, hn0, decide_eq_false h4]; rfl)
      have e4 : ((n0 : Int) == 4) = false := by simp; omega
      rw [hn0]
      clear h1 ha hn0
      go_enter Try.func18, Try.ntmps18
      go_wp2_with fail
      refine (specInsOk_any op r a b n _).mono ?_
      rintro e w1 ⟨rfl, b1⟩
      rw [H1.out]
      obtain ⟨x0, x1, x2, x3, x4, xz⟩ := (X.below b1).at5i
      have HF : Hid (Below w.heap.size w w1) := bel_trans bA b1
      clear bA b1 X
      go_wp2
      go_ret
      exact ⟨ret_i HV.out.symm, HF.out⟩
end Go.Proofs.Ytiilgkloddflcaa
