/- What the drawing functions for messages give. -/
import Derived.Test.YtfbdgcoingagcaaDrawN
import Derived.Test.YtfbdgcoingagcaaInts
namespace Go.Proofs.Ytfbdgcoingagcaa
open Go.RowKit
set_option linter.unusedVariables false

theorem new_i64 (W : World) (c : Int) : ∀ j u, [Value.int .i64 c][j]? = some u → (W.alloc (.cells #[.int .i64 c] 3)).cell? ((⟨W.heap.size, 0, none⟩ : Addr).add j) = some u := fun j u hu => by
  have h := Box.new W #[.int .i64 c] 3
  have e : (⟨W.heap.size, 0, none⟩ : Addr).add j = ⟨W.heap.size, j, none⟩ := by unfold Addr.add; split <;> simp_all
  rw [e, h.cell]
  simpa using hu

theorem Row.kept2 {k : IntKind} {w w' : World} {a : Option Addr} {xs : List Int} {r : Nat} (h : Row k w a xs) (g : w.grownBy w' (some r)) (hne : 0 < xs.length → ∀ x, a = some x → x.block ≠ r) : Row k w' a xs := by
  by_cases h0 : 0 < xs.length
  · exact h.kept g (hne h0)
  · exact ⟨h.1, fun i hi => by omega⟩

theorem gr_alloc {w w2 : World} {r : Nat} (g : w.grownBy w2 (some r)) (o : Obj) : w.grownBy (w2.alloc o) (some r) := grownBy_trans g (World.grownBy_alloc w2 o (some r))

/-- A row that is new turned besides: of the old blocks the one alone. -/
theorem old_grown {w w2 w3 : World} {r : Nat} {row : Option Nat} (g : w.grownBy w2 (some r)) (g3 : w2.grownBy w3 row) (hlo : ∀ k, row = some k → w.heap.size ≤ k) : w.grownBy w3 (some r) :=
  ⟨g3.os.trans g.os, g3.tape.trans g.tape, g3.output.trans g.output, Nat.le_trans g.size g3.size, fun i hi hr => (g3.block i (Nat.lt_of_lt_of_le hi g.size) (fun e => by have := hlo i e.symm; omega)).trans (g.block i hi hr)⟩

/-- Four drawn words, their own. -/
def ListP (r : Nat) (a : Option Addr) (n ca : Nat) (w : World) (e : Ending) (w' : World) : Prop :=
  ∃ (v : Value) (xs : List Int), e = .returned v ∧ xs.length = 4 ∧ w'.ownsRow w.heap.size 3 1 v xs.length (xs.map (Value.int .i64)) ∧ Cur w' r a n ca ∧ w.grownBy w' (some r)


theorem Cur.off {w : World} {r : Nat} {a : Option Addr} {n ca : Nat} (h : Cur w r a n ca) (x : Addr) (u : Value) (hx : r ≠ x.block) : Cur (w.setCell x u) r a n ca := by
  obtain ⟨i, y, hi, hX⟩ := h
  exact ⟨i, y, hi, hX.far x u hx⟩
theorem gr_off {w w' : World} {r : Nat} (g : w.grownBy w' (some r)) (x : Addr) (u : Value) (hx : w.heap.size ≤ x.block) : w.grownBy (w'.setCell x u) (some r) :=
  ⟨g.os, g.tape, g.output, by have := g.size; simp; omega, fun i hi hr => (Below.heap_setCell w' x u i (by omega)).trans (g.block i hi hr)⟩

/-- A drawn message: its words are its own, at most so many. -/
def MsgP (L : Nat) (r : Nat) (a : Option Addr) (n ca : Nat) (w : World) (e : Ending) (w' : World) : Prop :=
  ∃ (k p : Int) (o : Bool) (v : Value) (xs : List Int), e = .returned (.agg #[.int .i64 k, .int .i64 p, .bool o, v]) ∧ xs.length ≤ L ∧ w'.ownsRow w.heap.size 3 1 v xs.length (xs.map (Value.int .i64)) ∧ Cur w' r a n ca ∧ w.grownBy w' (some r)

end Go.Proofs.Ytfbdgcoingagcaa
