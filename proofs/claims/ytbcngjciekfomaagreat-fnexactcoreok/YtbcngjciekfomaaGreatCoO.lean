/- What impl's CoreOk answers. -/
import Derived.Test.YtbcngjciekfomaaGreatLawCoreOkG
import Derived.Test.YtbcngjciekfomaaGreatCaI6
import Derived.Test.YtbcngjciekfomaaGreatHi9
import Derived.Test.YtbcngjciekfomaaGreatNdO2
namespace Go.Proofs.YtbcngjciekfomaaGreat
open Go.RowKit
set_option linter.unusedVariables false

set_option maxRecDepth 100000 in
set_option maxHeartbeats 2000000 in
theorem implCoreOk_any (d : CoD) (p : CoP) (n : ND) (q : NP) (nodes : Int) (w : World) (hbs : ∀ i, i < n.nh → (n.h i).bs.length ≤ 1048577) (ha : CoR w d p) (hR : NR w n q) :
    Calls Tryz.prog 9 #[.agg (ccells d p), .agg (ncells n q), .int .i64 nodes] w fun e w' => e = .returned (.bool (coreB d n nodes)) ∧ Below w.heap.size w w' := by
  have B := bel_alloc (bel_alloc (Below.refl w.heap.size w) (.cells (ccells d p) 40)) (.cells (ncells n q) 47)
  obtain ⟨XC, XN⟩ := Box.two w (ccells d p) (ncells n q) 40 47
  replace ha := ha.below B
  replace hR := hR.below B
  obtain ⟨y0, y1, y2, y3, y4, yz⟩ := XN.at5
  go_enter Tryz.func9, Tryz.ntmps9
  go_wp2_with fail
  refine (implNodeOk_any n q nodes _ hbs hR).mono ?_
  rintro e w1 ⟨rfl, b1⟩
  replace XC := XC.below b1
  replace XN := XN.below b1
  replace ha := ha.below b1
  replace hR := hR.below b1
  replace B := bel_trans B b1
  clear b1 y0 y1 y2 y3 y4 yz
  obtain ⟨z1, hz1⟩ : ∃ z, nodeOkB n nodes = z := ⟨_, rfl⟩
  have HZ1 : Hid (nodeOkB n nodes = z1) := hz1
  rw [hz1]
  clear hz1
  cases z1
  · clear XC XN ha hR
    go_wp2
    go_ret
    exact ⟨ret_bool (by unfold coreB; rw [HZ1.out]; rfl), B⟩
  obtain ⟨x0, x1, x2, x3, xz⟩ := XC.at4
  go_wp2_with fail
  refine (implHartOk_any p.r.1 p.r.2 d.h.xs d.h.pc d.h.st _ ha.r ha.l).mono ?_
  rintro e w2 ⟨rfl, b2⟩
  replace XC := XC.below b2
  replace XN := XN.below b2
  replace ha := ha.below b2
  replace hR := hR.below b2
  replace B := bel_trans B b2
  clear b2 x0 x1 x2 x3 xz
  obtain ⟨z2, hz2⟩ : ∃ z, hartB d.h.xs d.h.pc d.h.st = z := ⟨_, rfl⟩
  have HZ2 : Hid (hartB d.h.xs d.h.pc d.h.st = z2) := hz2
  rw [hz2]
  clear hz2
  cases z2
  · clear XC XN ha hR
    go_wp2
    go_ret
    exact ⟨ret_bool (by unfold coreB; rw [HZ1.out, HZ2.out]; rfl), B⟩
  obtain ⟨x0, x1, x2, x3, xz⟩ := XC.at4
  obtain ⟨y0, y1, y2, y3, y4, yz⟩ := XN.at5
  go_wp2_with fail
  refine (implCacheOk_any p.c.1 p.c.2 d.n d.k p.q q.f.1 q.f.2 n.nf n.f q.fp _ ha.k hR.f).mono ?_
  rintro e w3 ⟨rfl, b3⟩
  replace B := bel_trans B b3
  clear b3 x0 x1 x2 x3 xz y0 y1 y2 y3 y4 yz XC XN ha hR
  obtain ⟨z3, hz3⟩ : ∃ z, cacheB d.n d.k n.nf n.f = z := ⟨_, rfl⟩
  have HZ3 : Hid (cacheB d.n d.k n.nf n.f = z3) := hz3
  rw [hz3]
  clear hz3
  go_wp2
  go_ret
  exact ⟨ret_bool (by unfold coreB; rw [HZ1.out, HZ2.out, HZ3.out]; rfl), B⟩
end Go.Proofs.YtbcngjciekfomaaGreat
