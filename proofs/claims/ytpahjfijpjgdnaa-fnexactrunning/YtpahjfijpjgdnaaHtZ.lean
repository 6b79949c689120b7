/- RwO and HtZ: see the heads of the parts. -/
import Derived.Test.YtpahjfijpjgdnaaRwC
import Derived.Test.YtpahjfijpjgdnaaOpenC
import Derived.Deep.Slices
import Derived.Test.YtpahjfijpjgdnaaHtR
/- Rows of any struct as they came in: what a reader is told of them, and how the row hands one over. -/
namespace Go.Proofs.Ytpahjfijpjgdnaa
open Go.ChangeShapes Go.WideShapes Go.ChangeAt Go.RowKit
set_option linter.unusedVariables false

/-- A row of cells that came in, without a bound on its length. -/
def VCame (w : World) (a : Option Addr) (vs : List Value) : Prop :=
  ∀ i v, vs[i]? = some v → ∃ b off, a = some ⟨b, off, none⟩ ∧ w.cell? ⟨b, off + i, none⟩ = some v
theorem VCame.vrow {w : World} {a : Option Addr} {vs : List Value} (h : VCame w a vs) (hl : vs.length ≤ 140737488351232) : VRow w a vs := ⟨hl, h⟩
theorem VCame.below {w w' : World} {a : Option Addr} {vs : List Value} (h : VCame w a vs) (hb : Below w.heap.size w w') : VCame w' a vs := by
  intro i v hi
  obtain ⟨b, off, rfl, hc⟩ := h i v hi
  exact ⟨b, off, rfl, (hb.cell (p := ⟨b, off + i, none⟩) (lt_of_cell hc)).trans hc⟩
theorem add_off' (a : Addr) (b off : Nat) (h : a = ⟨b, off, none⟩) (i : Nat) : a.add i = ⟨b, off + i, none⟩ := by
  subst h
  unfold Addr.add
  split <;> simp_all
theorem cells_int' : Try.prog.cellsOf 3 = 1 := by kernel_rfl
theorem cells_ints' : Try.prog.cellsOf 44 = 1 := by kernel_rfl
theorem cells_bool' : Try.prog.cellsOf 4 = 1 := by kernel_rfl

theorem Came.below {k : IntKind} {w w' : World} {a : Option Addr} {cap : Nat} {xs : List Int} (h : Came k w a cap xs) (hb : Below w.heap.size w w') : Came k w' a cap xs := by
  refine ⟨h.1, h.2.1, h.2.2.1, fun i hi => ?_⟩
  obtain ⟨b, off, rfl, hc⟩ := h.2.2.2 i hi
  exact ⟨b, off, rfl, (hb.cell (p := ⟨b, off + i, none⟩) (lt_of_cell hc)).trans hc⟩

theorem VCame.chunk {w : World} {a : Option Addr} {s n : Nat} {f : Nat → List Value} (h : VCame w a (chunks n f)) (hf : ∀ i, i < n → (f i).length = s) (hs : 0 < s) {i : Nat} (hi : i < n) :
    ∃ b off, a = some ⟨b, off, none⟩ ∧ ∀ j v, (f i)[j]? = some v → w.cell? ⟨b, off + i * s + j, none⟩ = some v := by
  have hl := hf i hi
  obtain ⟨b, off, rfl, _⟩ := h (i * s + 0) _ ((chunks_get hf hi hs).trans (List.getElem?_eq_getElem (by omega)))
  refine ⟨b, off, rfl, fun j v hv => ?_⟩
  have hj : j < s := by have := (List.getElem?_eq_some_iff.1 hv).1; omega
  obtain ⟨b', off', e, hc⟩ := h (i * s + j) v ((chunks_get hf hi hj).trans hv)
  simp only [Option.some.injEq, Addr.mk.injEq, and_true] at e
  obtain ⟨rfl, rfl⟩ := e
  rw [Nat.add_assoc]
  exact hc

theorem VCame.congr {w : World} {a : Option Addr} {n : Nat} {f g : Nat → List Value} (h : VCame w a (chunks n f)) (e : ∀ i, i < n → f i = g i) : VCame w a (chunks n g) := by rw [← chunks_congr e]; exact h
theorem fun_of {α : Type} (z : α) {P : Nat → α → Prop} (n : Nat) (h : ∀ i, i < n → ∃ x, P i x) : ∃ f : Nat → α, ∀ i, i < n → P i (f i) := by
  refine ⟨fun i => if hi : i < n then Classical.choose (h i hi) else z, fun i hi => ?_⟩
  dsimp only
  rw [dif_pos hi]
  exact Classical.choose_spec (h i hi)
set_option maxRecDepth 100000 in
theorem open_rows {H : Type} {enc : TypeId × Value → H} {W : World} {base : Nat} {held : Bool} {fuel : Nat} {v : Value} {x : DataW H × List MemPlace} (t e : TypeId) (s : Nat) (ht : Try.prog.underlying t = some (.slice e)) (hs : Try.prog.cellsOf e = s) (h0 : 0 < s)
    (h : DataW.trod enc Try.prog W base (fun _ => true) held fuel t [v] = some x) :
    ∃ (a : Option Addr) (c n : Nat) (F : Nat → List Value), v = .slice a n c ∧ n ≤ maxLen ∧ VCame W a (chunks n F) ∧ ∀ i, i < n → (F i).length = s ∧ ∃ fl y, DataW.trod enc Try.prog W base (fun _ => true) held fl e (F i) = some y := by
  rcases Go.Deep.open_slice ht h with ⟨h0, _⟩ | ⟨a, len, cap, m, n, D, Pl, hcs, hb, hl, hm, hmm, _, hx⟩
  · simp at h0
    exact ⟨none, 0, 0, fun _ => [], h0, Nat.zero_le _, fun i v hi => by simp [chunks] at hi, fun i hi => absurd hi (Nat.not_lt_zero i)⟩
  · simp at hcs
    simp at hmm
    have key : ∀ i, i < len → ∃ cs : List Value, (cs.length = s ∧ ∃ fl y, DataW.trod enc Try.prog W base (fun _ => true) held fl e cs = some y) ∧ ∃ b off, a = ⟨b, off, none⟩ ∧ ∀ j u, cs[j]? = some u → W.cell? ⟨b, off + i * s + j, none⟩ = some u := by
      intro i hi
      obtain ⟨cs', h1, h2⟩ := hx i (by omega)
      rw [hs] at h1
      obtain ⟨_, hlen, hcell⟩ := World.cells?_some h1
      have hsp : a.spot = none := by
        obtain ⟨cs0, g1, g2⟩ := hx 0 (by omega)
        rw [hs] at g1
        obtain ⟨_, glen, gcell⟩ := World.cells?_some g1
        have g0 := gcell 0 (by omega)
        rw [Go.Deep.add_add, List.getElem?_eq_getElem (by omega)] at g0
        simpa [Addr.add] using World.cell?_spot g0
      obtain ⟨b, off, spot⟩ := a
      have hspot : spot = none := hsp
      subst hspot
      refine ⟨cs', ⟨by omega, _, _, h2⟩, b, off, rfl, fun j u hu => ?_⟩
      obtain ⟨hj, rfl⟩ := List.getElem?_eq_some_iff.1 hu
      have e0 := hcell j (by omega)
      rw [Go.Deep.add_add, add_off' _ b off rfl, List.getElem?_eq_getElem hj] at e0
      rw [Nat.add_assoc]
      exact e0
    obtain ⟨F, hF⟩ := fun_of [] len key
    refine ⟨some a, cap, len, F, hcs, by omega, fun i v hi => ?_, fun i hi => (hF i hi).1⟩
    have hfl : ∀ i, i < len → (F i).length = s := fun i hi => (hF i hi).1.1
    have hlt : i < len * s := by
      have := (List.getElem?_eq_some_iff.1 hi).1
      rw [chunks_length len hfl] at this
      exact this
    have hd : i / s < len := Nat.div_lt_of_lt_mul (by rw [Nat.mul_comm]; exact hlt)
    have hmd : i % s < s := Nat.mod_lt _ h0
    have e : i = i / s * s + i % s := by have := Nat.div_add_mod i s; rw [Nat.mul_comm] at this; omega
    obtain ⟨b, off, rfl, hc⟩ := (hF (i / s) hd).2
    refine ⟨b, off, rfl, ?_⟩
    rw [e] at hi ⊢
    rw [chunks_get hfl hd hmd] at hi
    have := hc _ _ hi
    rw [Nat.add_assoc] at this
    exact this

theorem le_sumN {c : Nat → Nat} {i : Nat} : ∀ {n : Nat}, i < n → c i ≤ sumN c n
  | n + 1, h => by
    by_cases e : i = n
    · subst e; simp only [sumN]; omega
    · have := le_sumN (c := c) (n := n) (i := i) (by omega)
      simp only [sumN]
      omega
end Go.Proofs.Ytpahjfijpjgdnaa

/- How great a row of harts is that came in; a row of harts as the row hands it over. -/
namespace Go.Proofs.Ytpahjfijpjgdnaa
open Go.ChangeShapes Go.WideShapes Go.ChangeAt Go.RowKit
set_option linter.unusedVariables false

/-- A row of harts that came in. -/
def TC (w : World) (a : Option Addr) (n : Nat) (d : Nat → TD) (p : Nat → Pl) : Prop := n ≤ maxLen ∧ VCame w a (chunks n fun i => htcells (d i) (p i)) ∧ ∀ i, i < n → Came .i64 w (p i).1 (p i).2 (d i).xs
theorem TC.below {w w' : World} {a : Option Addr} {n : Nat} {d : Nat → TD} {p : Nat → Pl} (h : TC w a n d p) (hb : Below w.heap.size w w') : TC w' a n d p := ⟨h.1, h.2.1.below hb, fun i hi => (h.2.2 i hi).below hb⟩
theorem TC.tr {w : World} {a : Option Addr} {n : Nat} {d : Nat → TD} {p : Nat → Pl} (h : TC w a n d p) (hn : n ≤ 1048576) (hx : ∀ i, i < n → (d i).xs.length ≤ 1048576) : TR w a n d p :=
  ⟨by omega, h.2.1.vrow (by rw [chunks_length (s := 3) n (fun i _ => rfl)]; omega), fun i hi => (h.2.2 i hi).row (by have := hx i hi; omega)⟩
def tZ (d : TD) : Nat := d.xs.length
theorem tZ_le {n : Nat} {d : Nat → TD} {Z : Nat} (h : n + sumN (fun i => tZ (d i)) n ≤ Z) : n ≤ Z ∧ ∀ i, i < n → (d i).xs.length ≤ Z := ⟨by omega, fun i hi => by
  have := le_sumN (c := fun i => tZ (d i)) hi
  simp only [tZ] at this h
  omega⟩

set_option maxRecDepth 100000 in
set_option maxHeartbeats 1000000 in
theorem szHart_tot (pc st : Int) (a : Option Addr) (n c : Nat) (L : Int) (w : World) (h0 : 0 ≤ L) (h1 : L ≤ 1048576) (hn : n ≤ maxLen) :
    Calls Try.prog 27 #[.agg #[.slice a n c, .int .i64 pc, .int .i64 st], .int .i64 L] w fun e w' => ∃ r, e = .returned (.int .i64 r) ∧ (r = -1 ∨ (0 ≤ r ∧ r + n = L)) ∧ Below w.heap.size w w' := by
  unfold maxLen at hn
  have bA := bel_alloc (Below.refl w.heap.size w) (.cells #[.slice a n c, .int .i64 pc, .int .i64 st] 57)
  by_cases h : (n : Int) ≤ L
  · go_enter Try.func27, Try.ntmps27
    go_wp2
    go_ret
    exact ⟨_, rfl, .inr ⟨by omega, by omega⟩, bA⟩
  · go_enter Try.func27, Try.ntmps27
    go_wp2
    go_ret
    exact ⟨_, rfl, .inl rfl, bA⟩


theorem cells_hart' : Try.prog.cellsOf 57 = 3 := by kernel_rfl

set_option maxRecDepth 100000 in
theorem hart_cells {H : Type} {enc : TypeId × Value → H} {W : World} {base : Nat} {held : Bool} {fuel : Nat} {cs : List Value} {x : DataW H × List MemPlace} (h : DataW.trod enc Try.prog W base (fun _ => true) held fuel 57 cs = some x) :
    ∃ (d : TD) (p : Pl), cs = htcells d p ∧ Came .i64 W p.1 p.2 d.xs := by
  obtain ⟨ys, n, _, _, hl, hyl, hf⟩ := DataW.trod_struct Try.underlying57 h
  rw [cells_hart'] at hl
  match cs, hl, ys, hyl with
  | [c0, c1, c2], _, [y0, y1, y2], _ =>
    have g0 := hf 0 _ rfl
    have g1 := hf 1 _ rfl
    have g2 := hf 2 _ rfl
    simp [cells_int', cells_ints'] at g0 g1 g2
    obtain ⟨m1, e1, _, _⟩ := DataW.trod_int Try.underlying3 g1
    obtain ⟨m2, e2, _, _⟩ := DataW.trod_int Try.underlying3 g2
    simp only [List.cons.injEq, and_true] at e1 e2
    subst e1 e2
    rcases open_ints Try.underlying44 Try.underlying3 (by kernel_rfl) g0 with ⟨hcs, _⟩ | ⟨x, l, c, zs, hcs, _, hl, hm, hz, _, hcell, hwz⟩
    · simp only [List.cons.injEq, and_true] at hcs
      exact ⟨⟨[], m1, m2⟩, (none, 0), by rw [hcs]; rfl, came_nil _ _⟩
    · simp only [List.cons.injEq, and_true] at hcs
      have hc := came_of hl hm (by simpa using hz) hcell hwz
      exact ⟨⟨zs.take l, m1, m2⟩, (some x, c), by rw [hcs]; simp only [htcells]; rw [hc.1], hc.2⟩

end Go.Proofs.Ytpahjfijpjgdnaa
