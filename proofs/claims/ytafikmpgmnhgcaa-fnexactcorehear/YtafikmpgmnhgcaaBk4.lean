/- Bk3 and Bk4: see the heads of the parts. -/
import Derived.Test.YtafikmpgmnhgcaaBk2
/- What the specification's PageOf answers. -/
namespace Go.Proofs.Ytafikmpgmnhgcaa
open Go.RowKit
set_option linter.unusedVariables false

theorem blockB_st {st : Int} {n : Nat} {d : Nat → XD} (h : blockB st n d = true) : (0 ≤ st ∧ st ≤ 23) ∧ 1 ≤ n ∧ (n : Int) ≤ 4 - st % 4 := by
  simp only [blockB, Bool.and_eq_true] at h
  obtain ⟨h1, h2, _⟩ := h
  have h1' : 0 ≤ st ∧ st ≤ 23 := by simpa [inB] using h1
  have h2' : (1 : Int) ≤ n ∧ (n : Int) ≤ 4 - st % 4 := by simpa [inB] using h2
  exact ⟨h1', by omega, h2'.2⟩

set_option maxRecDepth 100000 in
set_option maxHeartbeats 1000000 in
theorem specPageOf_any (st : Int) (a : Option Addr) (c n : Nat) (d : Nat → XD) (w : World) (ha : IR w a n d) :
    Calls Try.prog 36 #[.agg #[.int .i64 st, .slice a n c]] w fun e w' => e = .returned (.int .i64 (if blockB st n d then st / 4 else -1)) ∧ Below w.heap.size w w' := by
  have bA := bel_alloc (Below.refl w.heap.size w) (.cells #[.int .i64 st, .slice a n c] 67)
  have XA := Box.new w #[.int .i64 st, .slice a n c] 67
  obtain ⟨V, hV⟩ : ∃ V, (if blockB st n d then st / 4 else -1) = V := ⟨_, rfl⟩
  rw [hV]
  cases hb : blockB st n d
  · have HV : Hid (V = -1) := by show _ = _; rw [← hV, hb]; rfl
    have HQ : Hid (blockB st n d = false) := hb
    clear hb hV
    go_enter Try.func36, Try.ntmps36
    go_wp2_with fail
    refine (specBlockOk_any st a c n d _ (ha.below bA)).mono ?_
    rintro e w1 ⟨rfl, b1⟩
    obtain ⟨x0, x1, xz⟩ := (XA.below b1).at2
    have B : Hid (Below w.heap.size w w1) := bel_trans bA b1
    clear XA bA b1 ha
    rw [HQ.out]
    go_wp2
    go_ret
    exact ⟨ret_int HV.out.symm, B.out⟩
  · obtain ⟨⟨s0, s1⟩, _⟩ := blockB_st hb
    have HV : Hid (V = st / 4) := by show _ = _; rw [← hV, hb]; rfl
    have HQ : Hid (blockB st n d = true) := hb
    have hd : st.tdiv 4 = st / 4 := Int.tdiv_eq_ediv_of_nonneg s0
    clear hb hV
    go_enter Try.func36, Try.ntmps36
    go_wp2_with fail
    refine (specBlockOk_any st a c n d _ (ha.below bA)).mono ?_
    rintro e w1 ⟨rfl, b1⟩
    obtain ⟨x0, x1, xz⟩ := (XA.below b1).at2
    have B : Hid (Below w.heap.size w w1) := bel_trans bA b1
    clear XA bA b1 ha
    rw [HQ.out]
    go_wp2
    go_ret
    exact ⟨ret_int (by rw [HV.out]), B.out⟩
end Go.Proofs.Ytafikmpgmnhgcaa

/- What the specification's At answers. -/
namespace Go.Proofs.Ytafikmpgmnhgcaa
open Go.RowKit
set_option linter.unusedVariables false

def atB (st : Int) (n : Nat) (d : Nat → XD) (pc : Int) : Bool := blockB st n d && (decide (st ≤ pc) && decide (pc < st + n))
def atX (st : Int) (n : Nat) (d : Nat → XD) (pc : Int) : XD := if atB st n d pc then d (pc - st).toNat else ⟨0, 0, 0, 0, 0⟩
/-- What At answers. -/
def AtP (st : Int) (n : Nat) (d : Nat → XD) (pc : Int) (w : World) (e : Ending) (w' : World) : Prop :=
  e = .returned (.tuple #[.agg (icells (atX st n d pc).op (atX st n d pc).r (atX st n d pc).a (atX st n d pc).b (atX st n d pc).n), .bool (atB st n d pc)]) ∧ Below w.heap.size w w'
theorem at_no {st : Int} {n : Nat} {d : Nat → XD} {pc : Int} (h : atB st n d pc = false) {w w' : World} (b : Below w.heap.size w w') : AtP st n d pc w (.returned (.tuple #[.agg (icells 0 0 0 0 0), .bool false])) w' := by
  unfold AtP atX
  rw [h]
  exact ⟨rfl, b⟩
theorem at_yes {st : Int} {n : Nat} {d : Nat → XD} {pc : Int} (h : atB st n d pc = true) {q : Nat} (hq : (pc - st).toNat = q) {w w' : World} (b : Below w.heap.size w w') : AtP st n d pc w (.returned (.tuple #[.agg (icells (d q).op (d q).r (d q).a (d q).b (d q).n), .bool true])) w' := by
  subst hq
  unfold AtP atX
  rw [h]
  exact ⟨rfl, b⟩

end Go.Proofs.Ytafikmpgmnhgcaa
