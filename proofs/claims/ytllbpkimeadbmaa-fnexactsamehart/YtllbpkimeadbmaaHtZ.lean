/- How great a row of harts is that came in; a row of harts as the row hands it over. -/
import Derived.Test.YtllbpkimeadbmaaRwO
import Derived.Test.YtllbpkimeadbmaaHtR
namespace Go.Proofs.Ytllbpkimeadbmaa
open Go.ChangeShapes Go.WideShapes Go.ChangeAt Go.RowKit
set_option linter.unusedVariables false

/-- A row of harts that came in. -/
def TC (w : World) (a : Option Addr) (n : Nat) (d : Nat → TD) (p : Nat → Pl) : Prop := n ≤ maxLen ∧ VCame w a (chunks n fun i => htcells (d i) (p i)) ∧ ∀ i, i < n → Came .i64 w (p i).1 (p i).2 (d i).xs
theorem TC.below {w w' : World} {a : Option Addr} {n : Nat} {d : Nat → TD} {p : Nat → Pl} (h : TC w a n d p) (hb : Below w.heap.size w w') : TC w' a n d p := ⟨h.1, h.2.1.below hb, fun i hi => (h.2.2 i hi).below hb⟩
theorem TC.tr {w : World} {a : Option Addr} {n : Nat} {d : Nat → TD} {p : Nat → Pl} (h : TC w a n d p) (hn : n ≤ 1048576) (hx : ∀ i, i < n → (d i).xs.length ≤ 1048576) : TR w a n d p :=
  ⟨by omega, h.2.1.vrow (by rw [chunks_length (s := 3) n (fun i _ => rfl)]; omega), fun i hi => (h.2.2 i hi).row (by have := hx i hi; omega)⟩
def tZ (d : TD) : Nat := d.xs.length
theorem tZ_le {n : Nat} {d : Nat → TD} {Z : Nat} (h : n + sumN (fun i => tZ (d i)) n ≤ Z) : n ≤ Z ∧ ∀ i, i < n → (d i).xs.length ≤ Z := ⟨by omega, fun i hi => by
  have := le_sumN (c := fun i => tZ (d i)) hi
  simp only [tZ] at this h
  omega⟩

set_option maxRecDepth 100000 in
set_option maxHeartbeats 1000000 in
theorem szHart_tot (pc st : Int) (a : Option Addr) (n c : Nat) (L : Int) (w : World) (h0 : 0 ≤ L) (h1 : L ≤ 1048576) (hn : n ≤ maxLen) :
    Calls Try.prog 4 #[.agg #[.slice a n c, .int .i64 pc, .int .i64 st], .int .i64 L] w fun e w' => ∃ r, e = .returned (.int .i64 r) ∧ (r = -1 ∨ (0 ≤ r ∧ r + n = L)) ∧ Below w.heap.size w w' := by
  unfold maxLen at hn
  have bA := bel_alloc (Below.refl w.heap.size w) (.cells #[.slice a n c, .int .i64 pc, .int .i64 st] 24)
  by_cases h : (n : Int) ≤ L
  · go_enter Try.func4, Try.ntmps4
    go_wp2
    go_ret
    exact ⟨_, rfl, .inr ⟨by omega, by omega⟩, bA⟩
  · go_enter Try.func4, Try.ntmps4
    go_wp2
    go_ret
    exact ⟨_, rfl, .inl rfl, bA⟩


theorem cells_hart' : Try.prog.cellsOf 24 = 3 := by kernel_rfl

set_option maxRecDepth 100000 in
theorem hart_cells {H : Type} {enc : TypeId × Value → H} {W : World} {base : Nat} {held : Bool} {fuel : Nat} {cs : List Value} {x : DataW H × List MemPlace} (h : DataW.trod enc Try.prog W base (fun _ => true) held fuel 24 cs = some x) :
    ∃ (d : TD) (p : Pl), cs = htcells d p ∧ Came .i64 W p.1 p.2 d.xs := by
  obtain ⟨ys, n, _, _, hl, hyl, hf⟩ := DataW.trod_struct Try.underlying24 h
  rw [cells_hart'] at hl
  match cs, hl, ys, hyl with
  | [c0, c1, c2], _, [y0, y1, y2], _ =>
    have g0 := hf 0 _ rfl
    have g1 := hf 1 _ rfl
    have g2 := hf 2 _ rfl
    simp [cells_int', cells_ints'] at g0 g1 g2
    obtain ⟨m1, e1, _, _⟩ := DataW.trod_int Try.underlying3 g1
    obtain ⟨m2, e2, _, _⟩ := DataW.trod_int Try.underlying3 g2
    simp only [List.cons.injEq, and_true] at e1 e2
    subst e1 e2
    rcases open_ints Try.underlying22 Try.underlying3 (by kernel_rfl) g0 with ⟨hcs, _⟩ | ⟨x, l, c, zs, hcs, _, hl, hm, hz, _, hcell, hwz⟩
    · simp only [List.cons.injEq, and_true] at hcs
      exact ⟨⟨[], m1, m2⟩, (none, 0), by rw [hcs]; rfl, came_nil _ _⟩
    · simp only [List.cons.injEq, and_true] at hcs
      have hc := came_of hl hm (by simpa using hz) hcell hwz
      exact ⟨⟨zs.take l, m1, m2⟩, (some x, c), by rw [hcs]; simp only [htcells]; rw [hc.1], hc.2⟩

end Go.Proofs.Ytllbpkimeadbmaa
