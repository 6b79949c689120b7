/- What the specification's At answers. -/
import Derived.Test.YtkamhinklhcbaaaBk3
namespace Go.Proofs.Ytkamhinklhcbaaa
open Go.RowKit
set_option linter.unusedVariables false

def atB (st : Int) (n : Nat) (d : Nat → XD) (pc : Int) : Bool := blockB st n d && (decide (st ≤ pc) && decide (pc < st + n))
def atX (st : Int) (n : Nat) (d : Nat → XD) (pc : Int) : XD := if atB st n d pc then d (pc - st).toNat else ⟨0, 0, 0, 0, 0⟩
/-- What At answers. -/
def AtP (st : Int) (n : Nat) (d : Nat → XD) (pc : Int) (w : World) (e : Ending) (w' : World) : Prop :=
  e = .returned (.tuple #[.agg (icells (atX st n d pc).op (atX st n d pc).r (atX st n d pc).a (atX st n d pc).b (atX st n d pc).n), .bool (atB st n d pc)]) ∧ Below w.heap.size w w'
theorem at_no {st : Int} {n : Nat} {d : Nat → XD} {pc : Int} (h : atB st n d pc = false) {w w' : World} (b : Below w.heap.size w w') : AtP st n d pc w (.returned (.tuple #[.agg (icells 0 0 0 0 0), .bool false])) w' := by
  unfold AtP atX
  rw [h]
  exact ⟨rfl, b⟩
theorem at_yes {st : Int} {n : Nat} {d : Nat → XD} {pc : Int} (h : atB st n d pc = true) {q : Nat} (hq : (pc - st).toNat = q) {w w' : World} (b : Below w.heap.size w w') : AtP st n d pc w (.returned (.tuple #[.agg (icells (d q).op (d q).r (d q).a (d q).b (d q).n), .bool true])) w' := by
  subst hq
  unfold AtP atX
  rw [h]
  exact ⟨rfl, b⟩

set_option maxRecDepth 100000 in
set_option maxHeartbeats 1000000 in
theorem specAt_any (st : Int) (a : Option Addr) (c n : Nat) (d : Nat → XD) (pc : Int) (w : World) (ha : IR w a n d) :
    Calls Try.prog 49 #[.agg #[.int .i64 st, .slice a n c], .int .i64 pc] w (AtP st n d pc w) := by
  have bA := bel_alloc (bel_alloc (Below.refl w.heap.size w) (.cells #[.int .i64 st, .slice a n c] 27)) (.cells #[.int .i64 0, .int .i64 0, .int .i64 0, .int .i64 0, .int .i64 0] 38)
  obtain ⟨XA, XI⟩ := Box.two w #[.int .i64 st, .slice a n c] #[.int .i64 0, .int .i64 0, .int .i64 0, .int .i64 0, .int .i64 0] 27 38
  have HA : Hid (IR w a n d) := ha
  have hra := ha.below bA
  clear ha
  cases hb : blockB st n d
  · have HN : Hid (atB st n d pc = false) := by show _ = _; unfold atB; rw [hb]; rfl
    have HQ : Hid (blockB st n d = false) := hb
    clear hb
    go_enter Try.func49, Try.ntmps49
    go_wp2_with fail
    refine (specBlockOk_any st a c n d _ hra).mono ?_
    rintro e w1 ⟨rfl, b1⟩
    obtain ⟨x0, x1, xz⟩ := (XA.below b1).at2
    obtain ⟨m0, m1, m2, m3, m4, mz⟩ := (XI.below b1).at5i
    have f0 := (XI.below b1).frozen 0
    have f1 := (XI.below b1).frozen 1
    have f2 := (XI.below b1).frozen 2
    have f3 := (XI.below b1).frozen 3
    have f4 := (XI.below b1).frozen 4
    have B : Hid (Below w.heap.size w w1) := bel_trans bA b1
    clear XA XI bA b1 hra
    rw [HQ.out]
    go_wp2
    refine bodyPost_ret (v := .tuple #[.agg (icells 0 0 0 0 0), .bool false]) (by simp [results, Try.results49, go_sem, m0, m1, m2, m3, m4]) rfl (at_no HN.out ?_)
    repeat refine bel_setCell ?_ _ _ ?_
    · exact B.out
    all_goals (simp; try omega)
  · obtain ⟨⟨s0, s1⟩, n1, n2⟩ := blockB_st hb
    have HQ : Hid (blockB st n d = true) := hb
    have hn4 : n ≤ 4 := by omega
    by_cases h1 : pc < st
    · have HN : Hid (atB st n d pc = false) := by show _ = _; unfold atB; rw [hb]; simp; omega
      clear hb
      go_enter Try.func49, Try.ntmps49
      go_wp2_with fail
      refine (specBlockOk_any st a c n d _ hra).mono ?_
      rintro e w1 ⟨rfl, b1⟩
      obtain ⟨x0, x1, xz⟩ := (XA.below b1).at2
      obtain ⟨m0, m1, m2, m3, m4, mz⟩ := (XI.below b1).at5i
      have f0 := (XI.below b1).frozen 0
      have f1 := (XI.below b1).frozen 1
      have f2 := (XI.below b1).frozen 2
      have f3 := (XI.below b1).frozen 3
      have f4 := (XI.below b1).frozen 4
      have B : Hid (Below w.heap.size w w1) := bel_trans bA b1
      clear XA XI bA b1 hra
      rw [HQ.out]
      go_wp2
      refine bodyPost_ret (v := .tuple #[.agg (icells 0 0 0 0 0), .bool false]) (by simp [results, Try.results49, go_sem, m0, m1, m2, m3, m4]) rfl (at_no HN.out ?_)
      repeat refine bel_setCell ?_ _ _ ?_
      · exact B.out
      all_goals (simp; try omega)
    · by_cases h2 : st + n ≤ pc
      · have HN : Hid (atB st n d pc = false) := by show _ = _; unfold atB; rw [hb]; simp; omega
        clear hb
        go_enter Try.func49, Try.ntmps49
        go_wp2_with fail
        refine (specBlockOk_any st a c n d _ hra).mono ?_
        rintro e w1 ⟨rfl, b1⟩
        obtain ⟨x0, x1, xz⟩ := (XA.below b1).at2
        obtain ⟨m0, m1, m2, m3, m4, mz⟩ := (XI.below b1).at5i
        have f0 := (XI.below b1).frozen 0
        have f1 := (XI.below b1).frozen 1
        have f2 := (XI.below b1).frozen 2
        have f3 := (XI.below b1).frozen 3
        have f4 := (XI.below b1).frozen 4
        have B : Hid (Below w.heap.size w w1) := bel_trans bA b1
        clear XA XI bA b1 hra
        rw [HQ.out]
        go_wp2
        refine bodyPost_ret (v := .tuple #[.agg (icells 0 0 0 0 0), .bool false]) (by simp [results, Try.results49, go_sem, m0, m1, m2, m3, m4]) rfl (at_no HN.out ?_)
        repeat refine bel_setCell ?_ _ _ ?_
        · exact B.out
        all_goals (simp; try omega)
      · obtain ⟨q, hq⟩ : ∃ q : Nat, pc - st = (q : Int) := ⟨(pc - st).toNat, by omega⟩
        have hqn : q < n := by omega
        have HN : Hid (atB st n d pc = true) := by show _ = _; unfold atB; rw [hb]; simp; omega
        have hqi : (q : Int) < (n : Int) := by omega
        clear hb
        go_enter Try.func49, Try.ntmps49
        go_wp2_with fail
        refine (specBlockOk_any st a c n d _ hra).mono ?_
        rintro e w1 ⟨rfl, b1⟩
        have B : Hid (Below w.heap.size w w1) := bel_trans bA b1
        obtain ⟨bb, off, rfl, y0, y1, y2, y3, y4⟩ := (HA.out.below B.out).at hqn
        obtain ⟨x0, x1, xz⟩ := (XA.below b1).at2
        obtain ⟨m0, m1, m2, m3, m4, mz⟩ := (XI.below b1).at5i
        have f0 := (XI.below b1).frozen 0
        have f1 := (XI.below b1).frozen 1
        have f2 := (XI.below b1).frozen 2
        have f3 := (XI.below b1).frozen 3
        have f4 := (XI.below b1).frozen 4
        clear XA XI bA b1 hra
        rw [HQ.out]
        go_wp2
        refine bodyPost_ret (v := .tuple #[.agg (icells (d q).op (d q).r (d q).a (d q).b (d q).n), .bool true]) (by simp [results, Try.results49, go_sem, m0, m1, m2, m3, m4]) rfl (at_yes HN.out (by omega) ?_)
        repeat refine bel_setCell ?_ _ _ ?_
        · exact B.out
        all_goals (simp; try omega)
end Go.Proofs.Ytkamhinklhcbaaa
