/- What both HomeNew do. -/
import Derived.Test.YtfigbfddhmgafaaDoorHom
import Derived.Test.YtfigbfddhmgafaaDoorSpecIn
import Derived.Deep.OwnRows
import Derived.Deep.RegionHeld3
namespace Go.Proofs.YtfigbfddhmgafaaDoor
open Go.RowKit
set_option linter.unusedVariables false

theorem owns_made (w : World) (z : Value) (base n e : Nat) (hb : base ≤ w.heap.size) (hn : n ≤ maxLen) : (w.alloc (.cells (madeCells #[z] n) e)).ownsRow base e 1 (.slice (some ⟨w.heap.size, 0, none⟩) n n) n (List.replicate n z) := by
  have hm : (madeCells #[z] n).toList = List.replicate n z := by
    apply List.ext_getElem
    · simp [size_madeCells]
    · intro i h1 h2
      simp [madeCells, Nat.mod_one]
  refine ⟨by simp, .inr ⟨w.heap.size, n, madeCells #[z] n, rfl, hb, heap_alloc_new w _, Nat.le_refl _, hn, by simp [size_madeCells], ?_⟩⟩
  rw [hm]
  simp

theorem own_dr {w : World} {base e size n : Nat} {v : Value} {xs : List Value} (h : w.ownsRow base e size v n xs) : w.drew.ownsRow base e size v n xs := h

def newL (nodes : Int) : List Int := if inB nodes 1 4 then [0, 0, 0, 0] else []
def newR (nodes : Int) : List Bool := if inB nodes 1 4 then List.replicate nodes.toNat false else []
def newO (nodes : Int) : Int := if inB nodes 1 4 then -1 else 0

/-- What HomeNew answers. -/
def NewP (nodes : Int) (w : World) (e : Ending) (w' : World) : Prop :=
  ∃ al cl ar cr, e = .returned (.agg #[.slice al (newL nodes).length cl, .int .i64 (newO nodes), .slice ar (newR nodes).length cr, .bool false, .int .i64 0, .bool false, .int .i64 0, .slice none 0 0]) ∧
    w'.ownsRow w.heap.size 3 1 (.slice al (newL nodes).length cl) (newL nodes).length ((newL nodes).map (Value.int .i64)) ∧
    w'.ownsRow w.heap.size 4 1 (.slice ar (newR nodes).length cr) (newR nodes).length (bv (newR nodes)) ∧ Below w.heap.size w w'

theorem info_bool : (Tryd.prog.info? 4).map (fun i => (i.zero, i.size, i.bytes)) = some (some (.bool false), 1, 1) := by kernel_rfl


theorem specIn_b (x lo hi : Int) (w : World) :
    Calls Tryd.prog 33 #[.int .i64 x, .int .i64 lo, .int .i64 hi] w fun e w' => e = .returned (.bool (inB x lo hi)) ∧ w' = w := specIn_any x lo hi w

theorem newP_bad {nodes : Int} (h : inB nodes 1 4 = false) {w w' : World} (b : Below w.heap.size w w') :
    NewP nodes w (.returned (.agg #[.slice none 0 0, .int .i64 0, .slice none 0 0, .bool false, .int .i64 0, .bool false, .int .i64 0, .slice none 0 0])) w' := by
  unfold NewP newL newR newO
  rw [h]
  exact ⟨none, 0, none, 0, rfl, World.ownsRow_nil _ _ _ _, World.ownsRow_nil _ _ _ _, b⟩

theorem newP_ok {n : Nat} (h : inB n 1 4 = true) {w w' : World} {gl gr : Nat} (ol : w'.ownsRow w.heap.size 3 1 (.slice (some ⟨gl, 0, none⟩) 4 4) 4 (List.replicate 4 (.int .i64 0)))
    (or' : w'.ownsRow w.heap.size 4 1 (.slice (some ⟨gr, 0, none⟩) n n) n (List.replicate n (.bool false))) (b : Below w.heap.size w w') :
    NewP n w (.returned (.agg #[.slice (some ⟨gl, 0, none⟩) 4 4, .int .i64 (-1), .slice (some ⟨gr, 0, none⟩) n n, .bool false, .int .i64 0, .bool false, .int .i64 0, .slice none 0 0])) w' := by
  have e1 : newL n = [0, 0, 0, 0] := by unfold newL; rw [h]; rfl
  have e2 : newR n = List.replicate n false := by unfold newR; rw [h]; simp
  have e3 : newO n = -1 := by unfold newO; rw [h]; rfl
  unfold NewP
  rw [e1, e2, e3]
  refine ⟨some ⟨gl, 0, none⟩, 4, some ⟨gr, 0, none⟩, n, by simp, ol, ?_, b⟩
  simpa [bv] using or'



end Go.Proofs.YtfigbfddhmgafaaDoor
