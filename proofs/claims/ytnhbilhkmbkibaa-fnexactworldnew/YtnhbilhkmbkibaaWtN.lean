/- What the law's markNode and heldNode do at any owned node. -/
import Derived.Test.YtnhbilhkmbkibaaWtD
namespace Go.Proofs.Ytnhbilhkmbkibaa
open Go.RowKit
set_option linter.unusedVariables false

def kn1 (k0 : Int) (d : ND) : Int := kt k0 (fun i => cF (d.f i)) d.nf
def kn2 (k0 : Int) (d : ND) : Int := kt (kn1 k0 d) (fun i => cH (d.h i)) d.nh
def kn3 (k0 : Int) (d : ND) (p : NP) : Int := kt (kn2 k0 d) (fun i => cS (p.ms i)) d.no
def kEnd (k0 : Int) (d : ND) (p : NP) : Int := kn3 k0 d p + d.ni

/-- A marked node. -/
structure MkN (w : World) (k0 : Int) (d : ND) (p : NP) : Prop where
  f : FO w p.f.1 p.f.2 d.nf (fun i => mF (kt k0 (fun i => cF (d.f i)) i) (d.f i)) p.fp
  h : HOw w p.h.1 p.h.2 d.nh (fun i => mHo (kt (kn1 k0 d) (fun i => cH (d.h i)) i) (d.h i)) p.hp
  o : SO w p.o.1 p.o.2 d.no (fun i => kt (kn2 k0 d) (fun i => cS (p.ms i)) i) p.op (fun i => markMs (kt (kn2 k0 d) (fun i => cS (p.ms i)) i + 1) (p.ms i))
  i : w.ownsRow 0 78 1 (.slice p.i.1 d.ni p.i.2) d.ni (chunks d.ni (mg (kn3 k0 d p)))
theorem MkN.below {w w' : World} {k0 : Int} {d : ND} {p : NP} (h : MkN w k0 d p) (b : Below w.heap.size w w') : MkN w' k0 d p := ⟨h.f.below b, h.h.below b, h.o.below b, owns_below h.i b⟩

theorem kn_le {d : ND} {p : NP} (s : Nsm d) (hm : ∀ i, i < d.no → (p.ms i).length ≤ 1048577 ∧ ∀ m ∈ p.ms i, m.xs.length ≤ 1048577) :
    (1 ≤ kn1 1 d ∧ kn1 1 d ≤ 2000000000000) ∧ (1 ≤ kn2 1 d ∧ kn2 1 d ≤ 9000000000000) ∧ (1 ≤ kn3 1 d p ∧ kn3 1 d p ≤ 1153000000000000000) ∧ 1 ≤ kEnd 1 d p := by
  have h1 := kt_le (k0 := 1) (c := fun i => cF (d.f i)) (C := 1048578) (Nat.le_refl d.nf) (fun i hi => by have := s.f.2 i hi; unfold cF; omega)
  have g1 : d.nf * 1048578 ≤ 1048576 * 1048578 := Nat.mul_le_mul_right _ s.f.1
  have h2 := kt_le (k0 := kn1 1 d) (c := fun i => cH (d.h i)) (C := 4194309) (Nat.le_refl d.nh) (fun i hi => by have := s.h.2 i hi; unfold cH; omega)
  have g2 : d.nh * 4194309 ≤ 1048576 * 4194309 := Nat.mul_le_mul_right _ s.h.1
  have h3 := kt_le (k0 := kn2 1 d) (c := fun i => cS (p.ms i)) (C := 1 + 1048577 * (3 + 1048577)) (Nat.le_refl d.no) (fun i hi => by
      have h2 := mlen_le (hm i hi).2
      have h3 := Nat.mul_le_mul_right (3 + 1048577) (hm i hi).1
      unfold cS
      omega)
  have g3 : d.no * (1 + 1048577 * (3 + 1048577)) ≤ 1048576 * (1 + 1048577 * (3 + 1048577)) := Nat.mul_le_mul_right _ s.o.1
  have e1 : kn1 1 d = kt 1 (fun i => cF (d.f i)) d.nf := rfl
  have e2 : kn2 1 d = kt (kn1 1 d) (fun i => cH (d.h i)) d.nh := rfl
  have e3 : kn3 1 d p = kt (kn2 1 d) (fun i => cS (p.ms i)) d.no := rfl
  have e4 : kEnd 1 d p = kn3 1 d p + d.ni := rfl
  omega

theorem NOw.msm {w : World} {d : ND} {p : NP} (h : NOw w d p) (s : Nsm d) : ∀ i, i < d.no → (p.ms i).length ≤ 1048577 ∧ ∀ m ∈ p.ms i, m.xs.length ≤ 1048577 := fun i hi => by
  have h1 := s.o.2 i hi
  have h2 := h.e i hi
  refine ⟨?_, fun m hm => ?_⟩
  · have := congrArg List.length h2
    rw [List.length_map] at this
    omega
  · have h3 : m.say ∈ d.y i := by rw [← h2]; exact List.mem_map_of_mem hm
    have := h1.2 _ h3
    simp only [M.say] at this
    omega


end Go.Proofs.Ytnhbilhkmbkibaa
