/- What impl's PageOf and At answer. -/
import Derived.Test.YtafikmpgmnhgcaaBkI
import Derived.Test.YtafikmpgmnhgcaaBk4
namespace Go.Proofs.Ytafikmpgmnhgcaa
open Go.RowKit
set_option linter.unusedVariables false

set_option maxRecDepth 100000 in
set_option maxHeartbeats 1000000 in
theorem implPageOf_any (st : Int) (a : Option Addr) (c n : Nat) (d : Nat → XD) (w : World) (ha : IR w a n d) :
    Calls Try.prog 43 #[.agg #[.int .i64 st, .slice a n c]] w fun e w' => e = .returned (.int .i64 (if blockB st n d then st / 4 else -1)) ∧ Below w.heap.size w w' := by
  have bA := bel_alloc (Below.refl w.heap.size w) (.cells #[.int .i64 st, .slice a n c] 67)
  have XA := Box.new w #[.int .i64 st, .slice a n c] 67
  obtain ⟨V, hV⟩ : ∃ V, (if blockB st n d then st / 4 else -1) = V := ⟨_, rfl⟩
  rw [hV]
  cases hb : blockB st n d
  · have HV : Hid (V = -1) := by show _ = _; rw [← hV, hb]; rfl
    have HQ : Hid (blockB st n d = false) := hb
    clear hb hV
    go_enter Try.func43, Try.ntmps43
    go_wp2_with fail
    refine (implBlockOk_any st a c n d _ (ha.below bA)).mono ?_
    rintro e w1 ⟨rfl, b1⟩
    obtain ⟨x0, x1, xz⟩ := (XA.below b1).at2
    have B : Hid (Below w.heap.size w w1) := bel_trans bA b1
    clear XA bA b1 ha
    rw [HQ.out]
    go_wp2
    go_ret
    exact ⟨ret_int HV.out.symm, B.out⟩
  · obtain ⟨⟨s0, s1⟩, _⟩ := blockB_st hb
    have HV : Hid (V = st / 4) := by show _ = _; rw [← hV, hb]; rfl
    have HQ : Hid (blockB st n d = true) := hb
    have hd : st.tdiv 4 = st / 4 := Int.tdiv_eq_ediv_of_nonneg s0
    clear hb hV
    go_enter Try.func43, Try.ntmps43
    go_wp2_with fail
    refine (implBlockOk_any st a c n d _ (ha.below bA)).mono ?_
    rintro e w1 ⟨rfl, b1⟩
    obtain ⟨x0, x1, xz⟩ := (XA.below b1).at2
    have B : Hid (Below w.heap.size w w1) := bel_trans bA b1
    clear XA bA b1 ha
    rw [HQ.out]
    go_wp2
    go_ret
    exact ⟨ret_int (by rw [HV.out]), B.out⟩


end Go.Proofs.Ytafikmpgmnhgcaa
