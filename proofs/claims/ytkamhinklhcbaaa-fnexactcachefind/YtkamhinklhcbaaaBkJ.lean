/- What impl's PageOf and At answer. -/
import Derived.Test.YtkamhinklhcbaaaBkI
import Derived.Test.YtkamhinklhcbaaaBk4
namespace Go.Proofs.Ytkamhinklhcbaaa
open Go.RowKit
set_option linter.unusedVariables false

set_option maxRecDepth 100000 in
set_option maxHeartbeats 1000000 in
theorem implPageOf_any (st : Int) (a : Option Addr) (c n : Nat) (d : Nat → XD) (w : World) (ha : IR w a n d) :
    Calls Try.prog 51 #[.agg #[.int .i64 st, .slice a n c]] w fun e w' => e = .returned (.int .i64 (if blockB st n d then st / 4 else -1)) ∧ Below w.heap.size w w' := by
  have bA := bel_alloc (Below.refl w.heap.size w) (.cells #[.int .i64 st, .slice a n c] 27)
  have XA := Box.new w #[.int .i64 st, .slice a n c] 27
  obtain ⟨V, hV⟩ : ∃ V, (if blockB st n d then st / 4 else -1) = V := ⟨_, rfl⟩
  rw [hV]
  cases hb : blockB st n d
  · have HV : Hid (V = -1) := by show _ = _; rw [← hV, hb]; rfl
    have HQ : Hid (blockB st n d = false) := hb
    clear hb hV
    go_enter Try.func51, Try.ntmps51
    go_wp2_with fail
    refine (implBlockOk_any st a c n d _ (ha.below bA)).mono ?_
    rintro e w1 ⟨rfl, b1⟩
    obtain ⟨x0, x1, xz⟩ := (XA.below b1).at2
    have B : Hid (Below w.heap.size w w1) := bel_trans bA b1
    clear XA bA b1 ha
    rw [HQ.out]
    go_wp2
    go_ret
    exact ⟨ret_int HV.out.symm, B.out⟩
  · obtain ⟨⟨s0, s1⟩, _⟩ := blockB_st hb
    have HV : Hid (V = st / 4) := by show _ = _; rw [← hV, hb]; rfl
    have HQ : Hid (blockB st n d = true) := hb
    have hd : st.tdiv 4 = st / 4 := Int.tdiv_eq_ediv_of_nonneg s0
    clear hb hV
    go_enter Try.func51, Try.ntmps51
    go_wp2_with fail
    refine (implBlockOk_any st a c n d _ (ha.below bA)).mono ?_
    rintro e w1 ⟨rfl, b1⟩
    obtain ⟨x0, x1, xz⟩ := (XA.below b1).at2
    have B : Hid (Below w.heap.size w w1) := bel_trans bA b1
    clear XA bA b1 ha
    rw [HQ.out]
    go_wp2
    go_ret
    exact ⟨ret_int (by rw [HV.out]), B.out⟩

set_option maxRecDepth 100000 in
set_option maxHeartbeats 1000000 in
theorem implAt_any (st : Int) (a : Option Addr) (c n : Nat) (d : Nat → XD) (pc : Int) (w : World) (ha : IR w a n d) :
    Calls Try.prog 85 #[.agg #[.int .i64 st, .slice a n c], .int .i64 pc] w (AtP st n d pc w) := by
  have bA := bel_alloc (bel_alloc (Below.refl w.heap.size w) (.cells #[.int .i64 st, .slice a n c] 27)) (.cells #[.int .i64 0, .int .i64 0, .int .i64 0, .int .i64 0, .int .i64 0] 38)
  obtain ⟨XA, XI⟩ := Box.two w #[.int .i64 st, .slice a n c] #[.int .i64 0, .int .i64 0, .int .i64 0, .int .i64 0, .int .i64 0] 27 38
  have HA : Hid (IR w a n d) := ha
  have hra := ha.below bA
  clear ha
  cases hb : blockB st n d
  · have HN : Hid (atB st n d pc = false) := by show _ = _; unfold atB; rw [hb]; rfl
    have HQ : Hid (blockB st n d = false) := hb
    clear hb
    go_enter Try.func85, Try.ntmps85
    go_wp2_with fail
    refine (implBlockOk_any st a c n d _ hra).mono ?_
    rintro e w1 ⟨rfl, b1⟩
    obtain ⟨x0, x1, xz⟩ := (XA.below b1).at2
    obtain ⟨m0, m1, m2, m3, m4, mz⟩ := (XI.below b1).at5i
    have f0 := (XI.below b1).frozen 0
    have f1 := (XI.below b1).frozen 1
    have f2 := (XI.below b1).frozen 2
    have f3 := (XI.below b1).frozen 3
    have f4 := (XI.below b1).frozen 4
    have B : Hid (Below w.heap.size w w1) := bel_trans bA b1
    clear XA XI bA b1 hra
    rw [HQ.out]
    go_wp2
    refine bodyPost_ret (v := .tuple #[.agg (icells 0 0 0 0 0), .bool false]) (by simp [results, Try.results85, go_sem, m0, m1, m2, m3, m4]) rfl (at_no HN.out ?_)
    repeat refine bel_setCell ?_ _ _ ?_
    · exact B.out
    all_goals (simp; try omega)
  · obtain ⟨⟨s0, s1⟩, n1, n2⟩ := blockB_st hb
    have HQ : Hid (blockB st n d = true) := hb
    have hn4 : n ≤ 4 := by omega
    by_cases h1 : pc < st
    · have HN : Hid (atB st n d pc = false) := by show _ = _; unfold atB; rw [hb]; simp; omega
      clear hb
      go_enter Try.func85, Try.ntmps85
      go_wp2_with fail
      refine (implBlockOk_any st a c n d _ hra).mono ?_
      rintro e w1 ⟨rfl, b1⟩
      obtain ⟨x0, x1, xz⟩ := (XA.below b1).at2
      obtain ⟨m0, m1, m2, m3, m4, mz⟩ := (XI.below b1).at5i
      have f0 := (XI.below b1).frozen 0
      have f1 := (XI.below b1).frozen 1
      have f2 := (XI.below b1).frozen 2
      have f3 := (XI.below b1).frozen 3
      have f4 := (XI.below b1).frozen 4
      have B : Hid (Below w.heap.size w w1) := bel_trans bA b1
      clear XA XI bA b1 hra
      rw [HQ.out]
      go_wp2
      refine bodyPost_ret (v := .tuple #[.agg (icells 0 0 0 0 0), .bool false]) (by simp [results, Try.results85, go_sem, m0, m1, m2, m3, m4]) rfl (at_no HN.out ?_)
      repeat refine bel_setCell ?_ _ _ ?_
      · exact B.out
      all_goals (simp; try omega)
    · by_cases h2 : st + n ≤ pc
      · have HN : Hid (atB st n d pc = false) := by show _ = _; unfold atB; rw [hb]; simp; omega
        clear hb
        go_enter Try.func85, Try.ntmps85
        go_wp2_with fail
        refine (implBlockOk_any st a c n d _ hra).mono ?_
        rintro e w1 ⟨rfl, b1⟩
        obtain ⟨x0, x1, xz⟩ := (XA.below b1).at2
        obtain ⟨m0, m1, m2, m3, m4, mz⟩ := (XI.below b1).at5i
        have f0 := (XI.below b1).frozen 0
        have f1 := (XI.below b1).frozen 1
        have f2 := (XI.below b1).frozen 2
        have f3 := (XI.below b1).frozen 3
        have f4 := (XI.below b1).frozen 4
        have B : Hid (Below w.heap.size w w1) := bel_trans bA b1
        clear XA XI bA b1 hra
        rw [HQ.out]
        go_wp2
        refine bodyPost_ret (v := .tuple #[.agg (icells 0 0 0 0 0), .bool false]) (by simp [results, Try.results85, go_sem, m0, m1, m2, m3, m4]) rfl (at_no HN.out ?_)
        repeat refine bel_setCell ?_ _ _ ?_
        · exact B.out
        all_goals (simp; try omega)
      · obtain ⟨q, hq⟩ : ∃ q : Nat, pc - st = (q : Int) := ⟨(pc - st).toNat, by omega⟩
        have hqn : q < n := by omega
        have HN : Hid (atB st n d pc = true) := by show _ = _; unfold atB; rw [hb]; simp; omega
        have hqi : (q : Int) < (n : Int) := by omega
        clear hb
        go_enter Try.func85, Try.ntmps85
        go_wp2_with fail
        refine (implBlockOk_any st a c n d _ hra).mono ?_
        rintro e w1 ⟨rfl, b1⟩
        have B : Hid (Below w.heap.size w w1) := bel_trans bA b1
        obtain ⟨bb, off, rfl, y0, y1, y2, y3, y4⟩ := (HA.out.below B.out).at hqn
        obtain ⟨x0, x1, xz⟩ := (XA.below b1).at2
        obtain ⟨m0, m1, m2, m3, m4, mz⟩ := (XI.below b1).at5i
        have f0 := (XI.below b1).frozen 0
        have f1 := (XI.below b1).frozen 1
        have f2 := (XI.below b1).frozen 2
        have f3 := (XI.below b1).frozen 3
        have f4 := (XI.below b1).frozen 4
        clear XA XI bA b1 hra
        rw [HQ.out]
        go_wp2
        refine bodyPost_ret (v := .tuple #[.agg (icells (d q).op (d q).r (d q).a (d q).b (d q).n), .bool true]) (by simp [results, Try.results85, go_sem, m0, m1, m2, m3, m4]) rfl (at_yes HN.out (by omega) ?_)
        repeat refine bel_setCell ?_ _ _ ?_
        · exact B.out
        all_goals (simp; try omega)

end Go.Proofs.Ytkamhinklhcbaaa
