/- Open and OpenC: see the heads of the parts. -/
import Derived.Test.YtpahjfijpjgdnaaRows
import Derived.Test.YtpahjfijpjgdnaaBase
import Derived.WalkKit
import Derived.ProofKit
import Derived.OpenShut
import Derived.ShutString
import Derived.ChangeOld
import Derived.Below
import Derived.Lib.SmallJoins
/- From an argument as the row hands it over to what the walks are told: a slice of numbers. -/
namespace Go.Proofs.Ytpahjfijpjgdnaa
open Go.ChangeShapes Go.WideShapes Go.ChangeAt Go.RowKit
set_option linter.unusedVariables false

theorem own : ownKnob Try.prog.godebug = none := by kernel_rfl
theorem laidOut : laidOutB Try.prog = true := by kernel_rfl

/-- A slice of numbers that came in, without a bound on its length. -/
def Came (k : IntKind) (w : World) (a : Option Addr) (cap : Nat) (xs : List Int) : Prop :=
  xs.length ≤ cap ∧ cap ≤ maxLen ∧ (∀ n ∈ xs, (Lit.int k n).wf = true) ∧
  ∀ i, i < xs.length → ∃ b off, a = some ⟨b, off, none⟩ ∧ w.cell? ⟨b, off + i, none⟩ = some (.int k (xs.getD i 0))

theorem Came.row {k : IntKind} {w : World} {a : Option Addr} {cap : Nat} {xs : List Int} (h : Came k w a cap xs) (hl : xs.length ≤ 140737488351232) : Row k w a xs := ⟨hl, h.2.2.2⟩

theorem Came.bytes {w : World} {a : Option Addr} {cap : Nat} {xs : List Int} (h : Came .u8 w a cap xs) : Bytes xs := fun x hx => by
  have := h.2.2.1 x hx
  have := bounds_u8 this
  omega

theorem came_nil (k : IntKind) (w : World) : Came k w none 0 [] := ⟨by simp, by simp, by simp, by simp⟩

theorem came_of {k : IntKind} {w : World} {x : Addr} {l c : Nat} {zs : List Int} (hl : l ≤ c) (hm : c ≤ maxLen) (hz : zs.length = c)
    (hc : ∀ i, i < zs.length → w.cell? (x.add i) = some (.int k (zs.getD i 0))) (hw : ∀ n ∈ zs, (Lit.int k n).wf = true) :
    (zs.take l).length = l ∧ Came k w (some x) c (zs.take l) := by
  have hll : (zs.take l).length = l := by simp; omega
  refine ⟨hll, by omega, hm, fun n hn => hw n (List.mem_of_mem_take hn), fun i hi => ?_⟩
  have h0 := hc 0 (by omega)
  have hs := World.cell?_spot h0
  have h := hc i (by omega)
  obtain ⟨b, off, spot⟩ := x
  have hspot : spot = none := by simpa [Addr.add] using hs
  subst hspot
  refine ⟨b, off, rfl, ?_⟩
  have e : (zs.take l).getD i 0 = zs.getD i 0 := by
    simp only [List.getD_eq_getElem?_getD, List.getElem?_take]
    rw [if_pos (by omega)]
  rw [e]
  have ea : (⟨b, off, none⟩ : Addr).add i = ⟨b, off + i, none⟩ := by unfold Addr.add; split <;> simp_all
  rw [ea] at h
  exact h
end Go.Proofs.Ytpahjfijpjgdnaa

/- From cells as the row hands them over to what the walks are told: a message's four cells. -/
namespace Go.Proofs.Ytpahjfijpjgdnaa
open Go.ChangeShapes Go.WideShapes Go.ChangeAt Go.RowKit
set_option linter.unusedVariables false

theorem cells_int : Try.prog.cellsOf 3 = 1 := by kernel_rfl
theorem cells_bool : Try.prog.cellsOf 4 = 1 := by kernel_rfl
theorem cells_ints : Try.prog.cellsOf 44 = 1 := by kernel_rfl
theorem cells_msg : Try.prog.cellsOf 76 = 4 := by kernel_rfl

set_option maxRecDepth 100000 in
theorem msg_cells {H : Type} {enc : TypeId × Value → H} {W : World} {base : Nat} {held : Bool} {fuel : Nat} {cs : List Value} {x : DataW H × List MemPlace}
    (h : DataW.trod enc Try.prog W base (fun _ => true) held fuel 76 cs = some x) :
    ∃ (k p : Int) (o : Bool) (a : Option Addr) (c : Nat) (xs : List Int), cs = [.int .i64 k, .int .i64 p, .bool o, .slice a xs.length c] ∧ Came .i64 W a c xs ∧ (Lit.int .i64 k).wf = true ∧ (Lit.int .i64 p).wf = true := by
  obtain ⟨ys, n, _, _, hl, hyl, hf⟩ := DataW.trod_struct Try.underlying76 h
  rw [cells_msg] at hl
  match cs, hl, ys, hyl with
  | [c0, c1, c2, c3], _, [y0, y1, y2, y3], _ =>
    have g0 := hf 0 _ rfl
    have g1 := hf 1 _ rfl
    have g2 := hf 2 _ rfl
    have g3 := hf 3 _ rfl
    simp [cells_int, cells_bool, cells_ints] at g0 g1 g2 g3
    obtain ⟨mk, e0, _, wk⟩ := DataW.trod_int Try.underlying3 g0
    obtain ⟨mp, e1, _, wp⟩ := DataW.trod_int Try.underlying3 g1
    obtain ⟨mo, e2, _⟩ := DataW.trod_bool Try.underlying4 g2
    simp only [List.cons.injEq, and_true] at e0 e1 e2
    subst e0 e1 e2
    rcases open_ints Try.underlying44 Try.underlying3 (by kernel_rfl) g3 with ⟨hcs, _⟩ | ⟨x, l, c, zs, hcs, _, hl, hm, hz, _, hcell, hwz⟩
    · simp only [List.cons.injEq, and_true] at hcs
      exact ⟨mk, mp, mo, none, 0, [], by rw [hcs]; rfl, came_nil _ _, wk, wp⟩
    · simp only [List.cons.injEq, and_true] at hcs
      have hc := came_of hl hm (by simpa using hz) hcell hwz
      exact ⟨mk, mp, mo, some x, c, zs.take l, by rw [hc.1, hcs], hc.2, wk, wp⟩
end Go.Proofs.Ytpahjfijpjgdnaa
