/- What FrameHear answers, of no program but for the memory that it owns. -/
import Derived.Test.YtgpmkojajmkkoaaFrmV
import Derived.Test.YtgpmkojajmkkoaaFrmR
import Derived.Test.YtgpmkojajmkkoaaLetter
namespace Go.Proofs.Ytgpmkojajmkkoaa
open Go.RowKit
set_option linter.unusedVariables false

structure HR where
  fs : Int
  fl : List Int
  fq : Bool
  mkd : Int
  mp : Int
  ml : List Int
  b : Bool

def hearR (s : Int) (q : Bool) (xs : List Int) (k p : Int) (o : Bool) (ys : List Int) : HR :=
  if frameOkB s xs && msgOkB k p o ys then
    if k = 3 then ⟨if o then 2 else 1, ys, false, 0, 0, [], false⟩
    else if k = 4 then ⟨0, [], q, 5, p, [], true⟩
    else if k = 6 ∧ s = 2 then (if o then ⟨0, [], q, 7, p, xs, true⟩ else ⟨1, xs, q, 7, p, xs, true⟩)
    else ⟨s, xs, q, 0, 0, [], false⟩
  else ⟨s, xs, q, 0, 0, [], false⟩

theorem hear_cases (s : Int) (q : Bool) (xs : List Int) (k p : Int) (o : Bool) (ys : List Int) :
    (frameOkB s xs = false ∧ hearR s q xs k p o ys = ⟨s, xs, q, 0, 0, [], false⟩) ∨
    (frameOkB s xs = true ∧ msgOkB k p o ys = false ∧ hearR s q xs k p o ys = ⟨s, xs, q, 0, 0, [], false⟩) ∨
    (frameOkB s xs = true ∧ msgOkB k p o ys = true ∧
      ((k = 3 ∧ hearR s q xs k p o ys = ⟨if o then 2 else 1, ys, false, 0, 0, [], false⟩) ∨
       (k = 4 ∧ hearR s q xs k p o ys = ⟨0, [], q, 5, p, [], true⟩) ∨
       (k = 6 ∧ s = 2 ∧ o = true ∧ hearR s q xs k p o ys = ⟨0, [], q, 7, p, xs, true⟩) ∨
       (k = 6 ∧ s = 2 ∧ o = false ∧ hearR s q xs k p o ys = ⟨1, xs, q, 7, p, xs, true⟩) ∨
       (k = 6 ∧ (s == 2) = false ∧ hearR s q xs k p o ys = ⟨s, xs, q, 0, 0, [], false⟩) ∨
       ((k == 3) = false ∧ (k == 4) = false ∧ (k == 6) = false ∧ hearR s q xs k p o ys = ⟨s, xs, q, 0, 0, [], false⟩))) := by
  unfold hearR
  cases hf : frameOkB s xs
  · exact .inl ⟨rfl, rfl⟩
  · cases hm : msgOkB k p o ys
    · exact .inr (.inl ⟨rfl, rfl, rfl⟩)
    · refine .inr (.inr ⟨rfl, rfl, ?_⟩)
      by_cases h3 : k = 3
      · subst h3
        exact .inl ⟨rfl, by simp⟩
      by_cases h4 : k = 4
      · subst h4
        exact .inr (.inl ⟨rfl, by simp⟩)
      by_cases h6 : k = 6
      · subst h6
        by_cases h2 : s = 2
        · subst h2
          cases o
          · exact .inr (.inr (.inr (.inl ⟨rfl, rfl, rfl, by simp⟩)))
          · exact .inr (.inr (.inl ⟨rfl, rfl, rfl, by simp⟩))
        · exact .inr (.inr (.inr (.inr (.inl ⟨rfl, by simp [h2], by simp [h2]⟩))))
      · exact .inr (.inr (.inr (.inr (.inr ⟨by simp [h3], by simp [h4], by simp [h6], by simp [h3, h4, h6]⟩))))

/-- The answer, its two lists its own, in two blocks. -/
def HearP (R : HR) (w : World) (e : Ending) (w' : World) : Prop :=
  ∃ va vm, e = .returned (.tuple #[.agg #[.int .i64 R.fs, va, .bool R.fq], .agg #[.int .i64 R.mkd, .int .i64 R.mp, .bool false, vm], .bool R.b]) ∧
    w'.ownsRow w.heap.size 3 1 va R.fl.length (R.fl.map (Value.int .i64)) ∧ w'.ownsRow w.heap.size 3 1 vm R.ml.length (R.ml.map (Value.int .i64)) ∧
    (∀ j, va.ownBlock = some j → vm.ownBlock ≠ some j) ∧ Below w.heap.size w w'

/-- Four new boxes. -/
theorem Box.four (w : World) (c0 c1 c2 c3 : Array Value) (t0 t1 t2 t3 : TypeId) : ∃ W, ((((w.alloc (.cells c0 t0)).alloc (.cells c1 t1)).alloc (.cells c2 t2)).alloc (.cells c3 t3)) = W ∧
    Box W w.heap.size c0 t0 ∧ Box W (w.heap.size + 1) c1 t1 ∧ Box W (w.heap.size + 1 + 1) c2 t2 ∧ Box W (w.heap.size + 1 + 1 + 1) c3 t3 ∧ Below w.heap.size w W ∧ W.heap.size = w.heap.size + 4 := by
  refine ⟨_, rfl, ?_⟩
  obtain ⟨h0, h1⟩ := Box.two w c0 c1 t0 t1
  have e2 : ((w.alloc (.cells c0 t0)).alloc (.cells c1 t1)).heap.size = w.heap.size + 1 + 1 := by simp
  have e3 : (((w.alloc (.cells c0 t0)).alloc (.cells c1 t1)).alloc (.cells c2 t2)).heap.size = w.heap.size + 1 + 1 + 1 := by simp
  have h2 := Box.new ((w.alloc (.cells c0 t0)).alloc (.cells c1 t1)) c2 t2
  have h3 := Box.new (((w.alloc (.cells c0 t0)).alloc (.cells c1 t1)).alloc (.cells c2 t2)) c3 t3
  have b2 := bel_alloc (Below.refl _ ((w.alloc (.cells c0 t0)).alloc (.cells c1 t1))) (.cells c2 t2)
  have b3 := bel_alloc (Below.refl _ (((w.alloc (.cells c0 t0)).alloc (.cells c1 t1)).alloc (.cells c2 t2))) (.cells c3 t3)
  rw [e2] at h2
  rw [e3] at h3
  exact ⟨(h0.below b2).below b3, (h1.below b2).below b3, h2.below b3, h3, bel_trans (bel_alloc (bel_alloc (Below.refl _ _) _) _) (bel_trans b2 b3), by simp⟩
end Go.Proofs.Ytgpmkojajmkkoaa
