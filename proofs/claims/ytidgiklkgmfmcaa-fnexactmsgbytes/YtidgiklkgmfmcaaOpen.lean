/- From an argument as the row hands it over to what the walks are told: a slice of numbers. -/
import Derived.Test.YtidgiklkgmfmcaaRows
import Derived.Test.YtidgiklkgmfmcaaBase
import Derived.WalkKit
import Derived.ProofKit
import Derived.OpenShut
import Derived.ShutString
import Derived.ChangeOld
import Derived.Below
import Derived.Lib.SmallJoins
namespace Go.Proofs.Ytidgiklkgmfmcaa
open Go.ChangeShapes Go.WideShapes Go.ChangeAt Go.RowKit
set_option linter.unusedVariables false

theorem own : ownKnob Try.prog.godebug = none := by kernel_rfl
theorem laidOut : laidOutB Try.prog = true := by kernel_rfl

/-- A slice of numbers that came in, without a bound on its length. -/
def Came (k : IntKind) (w : World) (a : Option Addr) (cap : Nat) (xs : List Int) : Prop :=
  xs.length ≤ cap ∧ cap ≤ maxLen ∧ (∀ n ∈ xs, (Lit.int k n).wf = true) ∧
  ∀ i, i < xs.length → ∃ b off, a = some ⟨b, off, none⟩ ∧ w.cell? ⟨b, off + i, none⟩ = some (.int k (xs.getD i 0))

theorem Came.row {k : IntKind} {w : World} {a : Option Addr} {cap : Nat} {xs : List Int} (h : Came k w a cap xs) (hl : xs.length ≤ 140737488351232) : Row k w a xs := ⟨hl, h.2.2.2⟩

theorem Came.bytes {w : World} {a : Option Addr} {cap : Nat} {xs : List Int} (h : Came .u8 w a cap xs) : Bytes xs := fun x hx => by
  have := h.2.2.1 x hx
  have := bounds_u8 this
  omega

theorem came_nil (k : IntKind) (w : World) : Came k w none 0 [] := ⟨by simp, by simp, by simp, by simp⟩

theorem came_of {k : IntKind} {w : World} {x : Addr} {l c : Nat} {zs : List Int} (hl : l ≤ c) (hm : c ≤ maxLen) (hz : zs.length = c)
    (hc : ∀ i, i < zs.length → w.cell? (x.add i) = some (.int k (zs.getD i 0))) (hw : ∀ n ∈ zs, (Lit.int k n).wf = true) :
    (zs.take l).length = l ∧ Came k w (some x) c (zs.take l) := by
  have hll : (zs.take l).length = l := by simp; omega
  refine ⟨hll, by omega, hm, fun n hn => hw n (List.mem_of_mem_take hn), fun i hi => ?_⟩
  have h0 := hc 0 (by omega)
  have hs := World.cell?_spot h0
  have h := hc i (by omega)
  obtain ⟨b, off, spot⟩ := x
  have hspot : spot = none := by simpa [Addr.add] using hs
  subst hspot
  refine ⟨b, off, rfl, ?_⟩
  have e : (zs.take l).getD i 0 = zs.getD i 0 := by
    simp only [List.getD_eq_getElem?_getD, List.getElem?_take]
    rw [if_pos (by omega)]
  rw [e]
  have ea : (⟨b, off, none⟩ : Addr).add i = ⟨b, off + i, none⟩ := by unfold Addr.add; split <;> simp_all
  rw [ea] at h
  exact h
end Go.Proofs.Ytidgiklkgmfmcaa
