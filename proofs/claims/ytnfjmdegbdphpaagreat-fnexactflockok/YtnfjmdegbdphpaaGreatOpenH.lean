/- RwO and HtZ and Bk1 and OpenB and OpenH: see the heads of the parts. -/
import Derived.Test.YtnfjmdegbdphpaaGreatHtR
import Derived.Test.YtnfjmdegbdphpaaGreatOpenC
import Derived.Deep.Slices
import Derived.Test.YtnfjmdegbdphpaaGreatBk0
import Derived.Test.YtnfjmdegbdphpaaGreatHomM
/- Rows of any struct as they came in: what a reader is told of them, and how the row hands one over. -/
namespace Go.Proofs.YtnfjmdegbdphpaaGreat
open Go.ChangeShapes Go.WideShapes Go.ChangeAt Go.RowKit
set_option linter.unusedVariables false

/-- A row of cells that came in, without a bound on its length. -/
def VCame (w : World) (a : Option Addr) (vs : List Value) : Prop :=
  ∀ i v, vs[i]? = some v → ∃ b off, a = some ⟨b, off, none⟩ ∧ w.cell? ⟨b, off + i, none⟩ = some v
theorem VCame.vrow {w : World} {a : Option Addr} {vs : List Value} (h : VCame w a vs) (hl : vs.length ≤ 140737488351232) : VRow w a vs := ⟨hl, h⟩
theorem VCame.below {w w' : World} {a : Option Addr} {vs : List Value} (h : VCame w a vs) (hb : Below w.heap.size w w') : VCame w' a vs := by
  intro i v hi
  obtain ⟨b, off, rfl, hc⟩ := h i v hi
  exact ⟨b, off, rfl, (hb.cell (p := ⟨b, off + i, none⟩) (lt_of_cell hc)).trans hc⟩
theorem add_off' (a : Addr) (b off : Nat) (h : a = ⟨b, off, none⟩) (i : Nat) : a.add i = ⟨b, off + i, none⟩ := by
  subst h
  unfold Addr.add
  split <;> simp_all
theorem cells_int' : Tryz.prog.cellsOf 3 = 1 := by kernel_rfl
theorem cells_ints' : Tryz.prog.cellsOf 45 = 1 := by kernel_rfl
theorem cells_bool' : Tryz.prog.cellsOf 4 = 1 := by kernel_rfl

theorem Came.below {k : IntKind} {w w' : World} {a : Option Addr} {cap : Nat} {xs : List Int} (h : Came k w a cap xs) (hb : Below w.heap.size w w') : Came k w' a cap xs := by
  refine ⟨h.1, h.2.1, h.2.2.1, fun i hi => ?_⟩
  obtain ⟨b, off, rfl, hc⟩ := h.2.2.2 i hi
  exact ⟨b, off, rfl, (hb.cell (p := ⟨b, off + i, none⟩) (lt_of_cell hc)).trans hc⟩

theorem VCame.chunk {w : World} {a : Option Addr} {s n : Nat} {f : Nat → List Value} (h : VCame w a (chunks n f)) (hf : ∀ i, i < n → (f i).length = s) (hs : 0 < s) {i : Nat} (hi : i < n) :
    ∃ b off, a = some ⟨b, off, none⟩ ∧ ∀ j v, (f i)[j]? = some v → w.cell? ⟨b, off + i * s + j, none⟩ = some v := by
  have hl := hf i hi
  obtain ⟨b, off, rfl, _⟩ := h (i * s + 0) _ ((chunks_get hf hi hs).trans (List.getElem?_eq_getElem (by omega)))
  refine ⟨b, off, rfl, fun j v hv => ?_⟩
  have hj : j < s := by have := (List.getElem?_eq_some_iff.1 hv).1; omega
  obtain ⟨b', off', e, hc⟩ := h (i * s + j) v ((chunks_get hf hi hj).trans hv)
  simp only [Option.some.injEq, Addr.mk.injEq, and_true] at e
  obtain ⟨rfl, rfl⟩ := e
  rw [Nat.add_assoc]
  exact hc

theorem VCame.congr {w : World} {a : Option Addr} {n : Nat} {f g : Nat → List Value} (h : VCame w a (chunks n f)) (e : ∀ i, i < n → f i = g i) : VCame w a (chunks n g) := by rw [← chunks_congr e]; exact h
theorem fun_of {α : Type} (z : α) {P : Nat → α → Prop} (n : Nat) (h : ∀ i, i < n → ∃ x, P i x) : ∃ f : Nat → α, ∀ i, i < n → P i (f i) := by
  refine ⟨fun i => if hi : i < n then Classical.choose (h i hi) else z, fun i hi => ?_⟩
  dsimp only
  rw [dif_pos hi]
  exact Classical.choose_spec (h i hi)
set_option maxRecDepth 100000 in
theorem open_rows {H : Type} {enc : TypeId × Value → H} {W : World} {base : Nat} {held : Bool} {fuel : Nat} {v : Value} {x : DataW H × List MemPlace} (t e : TypeId) (s : Nat) (ht : Tryz.prog.underlying t = some (.slice e)) (hs : Tryz.prog.cellsOf e = s) (h0 : 0 < s)
    (h : DataW.trod enc Tryz.prog W base (fun _ => true) held fuel t [v] = some x) :
    ∃ (a : Option Addr) (c n : Nat) (F : Nat → List Value), v = .slice a n c ∧ n ≤ maxLen ∧ VCame W a (chunks n F) ∧ ∀ i, i < n → (F i).length = s ∧ ∃ fl y, DataW.trod enc Tryz.prog W base (fun _ => true) held fl e (F i) = some y := by
  rcases Go.Deep.open_slice ht h with ⟨h0, _⟩ | ⟨a, len, cap, m, n, D, Pl, hcs, hb, hl, hm, hmm, _, hx⟩
  · simp at h0
    exact ⟨none, 0, 0, fun _ => [], h0, Nat.zero_le _, fun i v hi => by simp [chunks] at hi, fun i hi => absurd hi (Nat.not_lt_zero i)⟩
  · simp at hcs
    simp at hmm
    have key : ∀ i, i < len → ∃ cs : List Value, (cs.length = s ∧ ∃ fl y, DataW.trod enc Tryz.prog W base (fun _ => true) held fl e cs = some y) ∧ ∃ b off, a = ⟨b, off, none⟩ ∧ ∀ j u, cs[j]? = some u → W.cell? ⟨b, off + i * s + j, none⟩ = some u := by
      intro i hi
      obtain ⟨cs', h1, h2⟩ := hx i (by omega)
      rw [hs] at h1
      obtain ⟨_, hlen, hcell⟩ := World.cells?_some h1
      have hsp : a.spot = none := by
        obtain ⟨cs0, g1, g2⟩ := hx 0 (by omega)
        rw [hs] at g1
        obtain ⟨_, glen, gcell⟩ := World.cells?_some g1
        have g0 := gcell 0 (by omega)
        rw [Go.Deep.add_add, List.getElem?_eq_getElem (by omega)] at g0
        simpa [Addr.add] using World.cell?_spot g0
      obtain ⟨b, off, spot⟩ := a
      have hspot : spot = none := hsp
      subst hspot
      refine ⟨cs', ⟨by omega, _, _, h2⟩, b, off, rfl, fun j u hu => ?_⟩
      obtain ⟨hj, rfl⟩ := List.getElem?_eq_some_iff.1 hu
      have e0 := hcell j (by omega)
      rw [Go.Deep.add_add, add_off' _ b off rfl, List.getElem?_eq_getElem hj] at e0
      rw [Nat.add_assoc]
      exact e0
    obtain ⟨F, hF⟩ := fun_of [] len key
    refine ⟨some a, cap, len, F, hcs, by omega, fun i v hi => ?_, fun i hi => (hF i hi).1⟩
    have hfl : ∀ i, i < len → (F i).length = s := fun i hi => (hF i hi).1.1
    have hlt : i < len * s := by
      have := (List.getElem?_eq_some_iff.1 hi).1
      rw [chunks_length len hfl] at this
      exact this
    have hd : i / s < len := Nat.div_lt_of_lt_mul (by rw [Nat.mul_comm]; exact hlt)
    have hmd : i % s < s := Nat.mod_lt _ h0
    have e : i = i / s * s + i % s := by have := Nat.div_add_mod i s; rw [Nat.mul_comm] at this; omega
    obtain ⟨b, off, rfl, hc⟩ := (hF (i / s) hd).2
    refine ⟨b, off, rfl, ?_⟩
    rw [e] at hi ⊢
    rw [chunks_get hfl hd hmd] at hi
    have := hc _ _ hi
    rw [Nat.add_assoc] at this
    exact this

theorem le_sumN {c : Nat → Nat} {i : Nat} : ∀ {n : Nat}, i < n → c i ≤ sumN c n
  | n + 1, h => by
    by_cases e : i = n
    · subst e; simp only [sumN]; omega
    · have := le_sumN (c := c) (n := n) (i := i) (by omega)
      simp only [sumN]
      omega
end Go.Proofs.YtnfjmdegbdphpaaGreat

/- How great a row of harts is that came in; a row of harts as the row hands it over. -/
namespace Go.Proofs.YtnfjmdegbdphpaaGreat
open Go.ChangeShapes Go.WideShapes Go.ChangeAt Go.RowKit
set_option linter.unusedVariables false

/-- A row of harts that came in. -/
def TC (w : World) (a : Option Addr) (n : Nat) (d : Nat → TD) (p : Nat → Pl) : Prop := n ≤ maxLen ∧ VCame w a (chunks n fun i => htcells (d i) (p i)) ∧ ∀ i, i < n → Came .i64 w (p i).1 (p i).2 (d i).xs
theorem TC.below {w w' : World} {a : Option Addr} {n : Nat} {d : Nat → TD} {p : Nat → Pl} (h : TC w a n d p) (hb : Below w.heap.size w w') : TC w' a n d p := ⟨h.1, h.2.1.below hb, fun i hi => (h.2.2 i hi).below hb⟩
theorem TC.tr {w : World} {a : Option Addr} {n : Nat} {d : Nat → TD} {p : Nat → Pl} (h : TC w a n d p) (hn : n ≤ 1048576) (hx : ∀ i, i < n → (d i).xs.length ≤ 1048576) : TR w a n d p :=
  ⟨by omega, h.2.1.vrow (by rw [chunks_length (s := 3) n (fun i _ => rfl)]; omega), fun i hi => (h.2.2 i hi).row (by have := hx i hi; omega)⟩
def tZ (d : TD) : Nat := d.xs.length
theorem tZ_le {n : Nat} {d : Nat → TD} {Z : Nat} (h : n + sumN (fun i => tZ (d i)) n ≤ Z) : n ≤ Z ∧ ∀ i, i < n → (d i).xs.length ≤ Z := ⟨by omega, fun i hi => by
  have := le_sumN (c := fun i => tZ (d i)) hi
  simp only [tZ] at this h
  omega⟩

set_option maxRecDepth 100000 in
set_option maxHeartbeats 1000000 in
theorem szHart_tot (pc st : Int) (a : Option Addr) (n c : Nat) (L : Int) (w : World) (h0 : 0 ≤ L) (h1 : L ≤ 1048576) (hn : n ≤ maxLen) :
    Calls Tryz.prog 42 #[.agg #[.slice a n c, .int .i64 pc, .int .i64 st], .int .i64 L] w fun e w' => ∃ r, e = .returned (.int .i64 r) ∧ (r = -1 ∨ (0 ≤ r ∧ r + n = L)) ∧ Below w.heap.size w w' := by
  unfold maxLen at hn
  have bA := bel_alloc (Below.refl w.heap.size w) (.cells #[.slice a n c, .int .i64 pc, .int .i64 st] 64)
  by_cases h : (n : Int) ≤ L
  · go_enter Tryz.func42, Tryz.ntmps42
    go_wp2
    go_ret
    exact ⟨_, rfl, .inr ⟨by omega, by omega⟩, bA⟩
  · go_enter Tryz.func42, Tryz.ntmps42
    go_wp2
    go_ret
    exact ⟨_, rfl, .inl rfl, bA⟩


theorem cells_hart' : Tryz.prog.cellsOf 64 = 3 := by kernel_rfl

set_option maxRecDepth 100000 in
theorem hart_cells {H : Type} {enc : TypeId × Value → H} {W : World} {base : Nat} {held : Bool} {fuel : Nat} {cs : List Value} {x : DataW H × List MemPlace} (h : DataW.trod enc Tryz.prog W base (fun _ => true) held fuel 64 cs = some x) :
    ∃ (d : TD) (p : Pl), cs = htcells d p ∧ Came .i64 W p.1 p.2 d.xs := by
  obtain ⟨ys, n, _, _, hl, hyl, hf⟩ := DataW.trod_struct Tryz.underlying64 h
  rw [cells_hart'] at hl
  match cs, hl, ys, hyl with
  | [c0, c1, c2], _, [y0, y1, y2], _ =>
    have g0 := hf 0 _ rfl
    have g1 := hf 1 _ rfl
    have g2 := hf 2 _ rfl
    simp [cells_int', cells_ints'] at g0 g1 g2
    obtain ⟨m1, e1, _, _⟩ := DataW.trod_int Tryz.underlying3 g1
    obtain ⟨m2, e2, _, _⟩ := DataW.trod_int Tryz.underlying3 g2
    simp only [List.cons.injEq, and_true] at e1 e2
    subst e1 e2
    rcases open_ints Tryz.underlying45 Tryz.underlying3 (by kernel_rfl) g0 with ⟨hcs, _⟩ | ⟨x, l, c, zs, hcs, _, hl, hm, hz, _, hcell, hwz⟩
    · simp only [List.cons.injEq, and_true] at hcs
      exact ⟨⟨[], m1, m2⟩, (none, 0), by rw [hcs]; rfl, came_nil _ _⟩
    · simp only [List.cons.injEq, and_true] at hcs
      have hc := came_of hl hm (by simpa using hz) hcell hwz
      exact ⟨⟨zs.take l, m1, m2⟩, (some x, c), by rw [hcs]; simp only [htcells]; rw [hc.1], hc.2⟩

end Go.Proofs.YtnfjmdegbdphpaaGreat

/- What the law's szBlock, toBlock, eqBlock, markBlock, heldBlock do. -/
namespace Go.Proofs.YtnfjmdegbdphpaaGreat
open Go.RowKit
set_option linter.unusedVariables false

set_option maxHeartbeats 400000 in
theorem szInsS_any (a : Option Addr) (n c : Nat) (w : World) (hn : n ≤ maxLen) :
    Calls Tryz.prog 118 #[.slice a n c, .int .i64 1048576] w fun e w' => e = .returned (.int .i64 (if n ≤ 1048576 then 1048576 - (n : Int) else -1)) ∧ w' = w := by
  unfold maxLen at hn
  by_cases h : n ≤ 1048576
  · have hd : ¬ ((1048576 : Int) - n < 0) := by omega
    go_enter Tryz.func118, Tryz.ntmps118
    go_wp2
    go_ret
    exact ⟨rfl, rfl⟩
  · have hd : (1048576 : Int) - n < 0 := by omega
    go_enter Tryz.func118, Tryz.ntmps118
    go_wp2
    go_ret
    exact ⟨rfl, rfl⟩

set_option maxHeartbeats 400000 in
theorem szBlock_any (st : Int) (a : Option Addr) (n c : Nat) (w : World) (hn : n ≤ maxLen) :
    Calls Tryz.prog 88 #[.agg #[.int .i64 st, .slice a n c], .int .i64 1048576] w fun e w' => e = .returned (.int .i64 (if n ≤ 1048576 then 1048576 - (n : Int) else -1)) ∧ Below w.heap.size w w' := by
  have bA := bel_alloc (Below.refl w.heap.size w) (.cells #[.int .i64 st, .slice a n c] 150)
  go_enter Tryz.func88, Tryz.ntmps88
  go_wp2_with fail
  refine (szInsS_any a n c _ hn).mono ?_
  rintro e w1 ⟨rfl, h⟩
  subst h
  by_cases h : n ≤ 1048576
  · rw [if_pos h]
    have hd : ¬ ((1048576 : Int) - n < 0) := by omega
    go_wp2
    go_ret
    exact ⟨rfl, bA⟩
  · rw [if_neg h]
    go_wp2
    go_ret
    exact ⟨rfl, bA⟩

set_option maxHeartbeats 400000 in
theorem toBlock_any (st : Int) (a : Option Addr) (c n : Nat) (d : Nat → XD) (w : World) (hn : n ≤ 1048576) (ha : IR w a n d) :
    Calls Tryz.prog 98 #[.agg #[.int .i64 st, .slice a n c]] w fun e w' => ∃ a' c', e = .returned (.agg #[.int .i64 st, .slice a' n c']) ∧ IOw w' w.heap.size a' c' n d ∧ Below w.heap.size w w' := by
  have bA := bel_alloc (bel_alloc (bel_alloc (Below.refl w.heap.size w) (.cells #[.int .i64 st, .slice a n c] 150)) (.cells #[.int .i64 0, .slice none 0 0] 119)) (.cells #[.int .i64 st, .slice none 0 0] 119)
  go_enter Tryz.func98, Tryz.ntmps98
  go_wp2_with fail
  refine (toInsS_any a c n d _ hn (ha.below bA)).mono ?_
  rintro e w1 ⟨a1, c1, rfl, o1, b1⟩
  obtain ⟨hc, hf⟩ := bcell b1
  have hz : w.heap.size + 3 ≤ w1.heap.size := by have := b1.size; simp at this; omega
  have B : Below w.heap.size w w1 := bel_trans bA b1
  have hlt : Hid (∀ j, (Value.slice a1 n c1).ownBlock = some j → w.heap.size + 3 ≤ j) := fun j h => by have := (World.ownsRow.lt o1 j h).1; simp at this; exact this
  have HO : Hid _ := o1
  clear bA b1 ha o1
  go_wp2
  refine bodyPost_ret (v := .agg #[.int .i64 st, .slice a1 n c1]) (by simp [results, Tryz.results98, go_sem, hc]) rfl ⟨_, _, rfl, ?_, ?_⟩
  · show World.ownsRow _ _ _ _ _ _ _
    repeat refine owns_setCell ?_ ?_ _
    · exact owns_base HO.out (by simp; omega)
    all_goals (intro j h; have := hlt.out j h; simp; omega)
  · repeat refine bel_setCell ?_ _ _ ?_
    · exact B
    all_goals (simp; try omega)

set_option maxHeartbeats 400000 in
theorem eqBlock_any (st : Int) (a b : Option Addr) (ca cb n : Nat) (d : Nat → XD) (w : World) (ha : IR w a n d) (hb : IR w b n d) :
    Calls Tryz.prog 114 #[.agg #[.int .i64 st, .slice a n ca], .agg #[.int .i64 st, .slice b n cb]] w fun e w' => e = .returned (.bool true) ∧ Below w.heap.size w w' := by
  have bA := bel_alloc (bel_alloc (Below.refl w.heap.size w) (.cells #[.int .i64 st, .slice a n ca] 119)) (.cells #[.int .i64 st, .slice b n cb] 119)
  go_enter Tryz.func114, Tryz.ntmps114
  go_wp2_with fail
  refine (eqInsS_any a b ca cb n d _ (ha.below bA) (hb.below bA)).mono ?_
  rintro e w1 ⟨rfl, b1⟩
  have B := bel_trans bA b1
  clear bA b1 ha hb
  go_wp2
  go_ret
  exact ⟨rfl, B⟩


end Go.Proofs.YtnfjmdegbdphpaaGreat

/- A block as the row hands it over. -/
namespace Go.Proofs.YtnfjmdegbdphpaaGreat
open Go.ChangeShapes Go.WideShapes Go.ChangeAt Go.RowKit
set_option linter.unusedVariables false

/-- A row of places that came in. -/
def IC (w : World) (a : Option Addr) (n : Nat) (d : Nat → XD) : Prop := n ≤ maxLen ∧ VCame w a (chunks n fun i => ic (d i))
theorem IC.ir {w : World} {a : Option Addr} {n : Nat} {d : Nat → XD} (h : IC w a n d) (hn : n ≤ 1048577) : IR w a n d := ⟨hn, h.2.vrow (by rw [chunks_length (s := 5) n (fun i _ => rfl)]; omega)⟩

theorem cells_ins' : Tryz.prog.cellsOf 230 = 5 := by kernel_rfl
set_option maxRecDepth 100000 in
theorem ins_cells {H : Type} {enc : TypeId × Value → H} {W : World} {base : Nat} {held : Bool} {fuel : Nat} {cs : List Value} {x : DataW H × List MemPlace} (h : DataW.trod enc Tryz.prog W base (fun _ => true) held fuel 230 cs = some x) :
    ∃ d : XD, cs = ic d := by
  obtain ⟨ys, n, _, _, hl, hyl, hf⟩ := DataW.trod_struct Tryz.underlying230 h
  rw [cells_ins'] at hl
  match cs, hl, ys, hyl with
  | [c0, c1, c2, c3, c4], _, [y0, y1, y2, y3, y4], _ =>
    have g0 := hf 0 _ rfl
    have g1 := hf 1 _ rfl
    have g2 := hf 2 _ rfl
    have g3 := hf 3 _ rfl
    have g4 := hf 4 _ rfl
    simp [cells_int'] at g0 g1 g2 g3 g4
    obtain ⟨m0, e0, _, _⟩ := DataW.trod_int Tryz.underlying3 g0
    obtain ⟨m1, e1, _, _⟩ := DataW.trod_int Tryz.underlying3 g1
    obtain ⟨m2, e2, _, _⟩ := DataW.trod_int Tryz.underlying3 g2
    obtain ⟨m3, e3, _, _⟩ := DataW.trod_int Tryz.underlying3 g3
    obtain ⟨m4, e4, _, _⟩ := DataW.trod_int Tryz.underlying3 g4
    simp only [List.cons.injEq, and_true] at e0 e1 e2 e3 e4
    subst e0 e1 e2 e3 e4
    exact ⟨⟨m0, m1, m2, m3, m4⟩, rfl⟩
theorem open_places {H : Type} {enc : TypeId × Value → H} {W : World} {base : Nat} {held : Bool} {fuel : Nat} {v : Value} {x : DataW H × List MemPlace} (h : DataW.trod enc Tryz.prog W base (fun _ => true) held fuel 148 [v] = some x) :
    ∃ (a : Option Addr) (c n : Nat) (d : Nat → XD), v = .slice a n c ∧ IC W a n d := by
  obtain ⟨a, c, n, F, rfl, hn, hv, hF⟩ := open_rows 148 230 5 Tryz.underlying148 cells_ins' (by decide) h
  obtain ⟨g, hg⟩ := fun_of (α := XD) ⟨0, 0, 0, 0, 0⟩ (P := fun i x => F i = ic x) n (fun i hi => by
    obtain ⟨_, fl, y, hy⟩ := hF i hi
    exact ins_cells hy)
  exact ⟨a, c, n, g, rfl, hn, hv.congr hg⟩
set_option maxRecDepth 100000 in
theorem open_block {H : Type} {enc : TypeId × Value → H} {W : World} {base : Nat} {held : Bool} {r : Reach} {b0 : Nat} {v : Value} {d : DataW H} {q : List MemPlace}
    (hv : Value.okWide Tryz.prog W r b0 150 v) (h : DataW.Trod enc Tryz.prog W base (fun _ => true) held 150 v d q) :
    ∃ (st : Int) (a : Option Addr) (c n : Nat) (d' : Nat → XD), v = .agg #[.int .i64 st, .slice a n c] ∧ IC W a n d' := by
  obtain ⟨cs, rfl, hsz⟩ := okWide_struct Tryz.underlying150 hv
  obtain ⟨fuel, hf⟩ := h
  obtain ⟨ys, n, _, _, hl, hyl, hf⟩ := DataW.trod_struct Tryz.underlying150 hf
  have hc : Tryz.prog.cellsOf 150 = 2 := by kernel_rfl
  have hp : Tryz.prog.cellsOf 148 = 1 := by kernel_rfl
  rw [hc] at hl
  obtain ⟨cs⟩ := cs
  simp only [Value.cells] at hl hf
  match cs, hl, ys, hyl with
  | [c0, c1], _, [y0, y1], _ =>
    have g0 := hf 0 _ rfl
    have g1 := hf 1 _ rfl
    simp [cells_int', hp] at g0 g1
    obtain ⟨m0, e0, _, _⟩ := DataW.trod_int Tryz.underlying3 g0
    simp only [List.cons.injEq, and_true] at e0
    subst e0
    obtain ⟨a, c, n, d', rfl, hI⟩ := open_places g1
    exact ⟨m0, a, c, n, d', rfl, hI⟩
end Go.Proofs.YtnfjmdegbdphpaaGreat

/- A home as the row hands it over. -/
namespace Go.Proofs.YtnfjmdegbdphpaaGreat
open Go.ChangeShapes Go.WideShapes Go.ChangeAt Go.RowKit
set_option linter.unusedVariables false

theorem cells_bools' : Tryz.prog.cellsOf 103 = 1 := by kernel_rfl
theorem cells_waits' : Tryz.prog.cellsOf 186 = 1 := by kernel_rfl
theorem cells_wait' : Tryz.prog.cellsOf 185 = 2 := by kernel_rfl
theorem cells_home' : Tryz.prog.cellsOf 188 = 8 := by kernel_rfl

/-- A list built index by index. -/
theorem list_of' {α : Type} {p : Nat → α → Prop} (n : Nat) (h : ∀ i, i < n → ∃ x, p i x) : ∃ xs : List α, xs.length = n ∧ ∀ i x, xs[i]? = some x → p i x := by
  induction n with
  | zero => exact ⟨[], rfl, by simp⟩
  | succ n ih =>
    obtain ⟨xs, hl, hx⟩ := ih (fun i hi => h i (by omega))
    obtain ⟨y, hy⟩ := h n (by omega)
    refine ⟨xs ++ [y], by simp [hl], fun i x hi => ?_⟩
    by_cases hin : i < xs.length
    · rw [List.getElem?_append_left hin] at hi
      exact hx i x hi
    · rw [List.getElem?_append_right (by omega)] at hi
      have : i - xs.length = 0 := by
        have := (List.getElem?_eq_some_iff.1 hi).1
        simp at this
        omega
      rw [this] at hi
      simp at hi
      subst hi
      have e : i = n := by omega
      rw [e]
      exact hy

set_option maxRecDepth 100000 in
theorem wait_cells {H : Type} {enc : TypeId × Value → H} {W : World} {base : Nat} {held : Bool} {fuel : Nat} {cs : List Value} {x : DataW H × List MemPlace}
    (h : DataW.trod enc Tryz.prog W base (fun _ => true) held fuel 185 cs = some x) :
    ∃ (k : Int) (o : Bool), cs = [.int .i64 k, .bool o] := by
  obtain ⟨ys, n, _, _, hl, hyl, hf⟩ := DataW.trod_struct Tryz.underlying185 h
  rw [cells_wait'] at hl
  match cs, hl, ys, hyl with
  | [c0, c1], _, [y0, y1], _ =>
    have g0 := hf 0 _ rfl
    have g1 := hf 1 _ rfl
    simp [cells_int', cells_bool'] at g0 g1
    obtain ⟨mk, e0, _, wk⟩ := DataW.trod_int Tryz.underlying3 g0
    obtain ⟨mo, e1, _⟩ := DataW.trod_bool Tryz.underlying4 g1
    simp only [List.cons.injEq, and_true] at e0 e1
    subst e0 e1
    exact ⟨mk, mo, rfl⟩

set_option maxRecDepth 100000 in
theorem open_bools {H : Type} {enc : TypeId × Value → H} {W : World} {base : Nat} {held : Bool} {fuel : Nat} {v : Value} {x : DataW H × List MemPlace}
    (h : DataW.trod enc Tryz.prog W base (fun _ => true) held fuel 103 [v] = some x) :
    ∃ (a : Option Addr) (c : Nat) (bs : List Bool), v = .slice a bs.length c ∧ VCame W a (bv bs) ∧ bs.length ≤ maxLen := by
  rcases Go.Deep.open_slice Tryz.underlying103 h with ⟨h0, _⟩ | ⟨a, len, cap, m, n, D, Pl, hcs, hb, hl, hm, hmm, _, hx⟩
  · simp at h0
    exact ⟨none, 0, [], h0, fun i v hi => by simp [bv] at hi, Nat.zero_le _⟩
  · simp at hcs
    simp at hmm
    have key : ∀ i, i < len → ∃ x : Bool, ∃ b off, a = ⟨b, off, none⟩ ∧ W.cell? ⟨b, off + i, none⟩ = some (.bool x) := by
      intro i hi
      obtain ⟨cs', h1, h2⟩ := hx i (by omega)
      rw [cells_bool'] at h1
      obtain ⟨_, hlen, hcell⟩ := World.cells?_some h1
      obtain ⟨o, e, _⟩ := DataW.trod_bool Tryz.underlying4 h2
      subst e
      have e0 := hcell 0 (by simp)
      rw [Go.Deep.add_add] at e0
      have hs : a.spot = none := by
        obtain ⟨cs0, g1, g2⟩ := hx 0 (by omega)
        rw [cells_bool'] at g1
        obtain ⟨_, _, gcell⟩ := World.cells?_some g1
        obtain ⟨_, e', _⟩ := DataW.trod_bool Tryz.underlying4 g2
        subst e'
        have g0 := gcell 0 (by simp)
        rw [Go.Deep.add_add] at g0
        simpa [Addr.add] using World.cell?_spot g0
      obtain ⟨b, off, spot⟩ := a
      have hspot : spot = none := hs
      subst hspot
      rw [add_off' _ b off rfl] at e0
      exact ⟨o, b, off, rfl, by simpa using e0⟩
    obtain ⟨bs, hml, hbs⟩ := list_of' len key
    refine ⟨some a, cap, bs, by rw [hml]; exact hcs, fun i v hi => ?_, by omega⟩
    rw [bv, List.getElem?_map] at hi
    cases hbi : bs[i]? with
    | none => rw [hbi] at hi; simp at hi
    | some y =>
      rw [hbi] at hi
      simp at hi
      obtain ⟨b, off, rfl, hc⟩ := hbs i y hbi
      exact ⟨b, off, rfl, by rw [hc, hi]⟩

set_option maxRecDepth 100000 in
theorem open_waits {H : Type} {enc : TypeId × Value → H} {W : World} {base : Nat} {held : Bool} {fuel : Nat} {v : Value} {x : DataW H × List MemPlace}
    (h : DataW.trod enc Tryz.prog W base (fun _ => true) held fuel 186 [v] = some x) :
    ∃ (a : Option Addr) (c : Nat) (ws : List (Int × Bool)), v = .slice a ws.length c ∧ VCame W a (wv ws) ∧ ws.length ≤ maxLen := by
  rcases Go.Deep.open_slice Tryz.underlying186 h with ⟨h0, _⟩ | ⟨a, len, cap, m, n, D, Pl, hcs, hb, hl, hm, hmm, _, hx⟩
  · simp at h0
    exact ⟨none, 0, [], h0, fun i v hi => by simp [wv] at hi, Nat.zero_le _⟩
  · simp at hcs
    simp at hmm
    have key : ∀ i, i < len → ∃ x : Int × Bool, ∃ b off, a = ⟨b, off, none⟩ ∧ W.cell? ⟨b, off + i * 2, none⟩ = some (.int .i64 x.1) ∧ W.cell? ⟨b, off + i * 2 + 1, none⟩ = some (.bool x.2) := by
      intro i hi
      obtain ⟨cs', h1, h2⟩ := hx i (by omega)
      rw [cells_wait'] at h1
      obtain ⟨k, o, rfl⟩ := wait_cells h2
      obtain ⟨_, hlen, hcell⟩ := World.cells?_some h1
      have e0 := hcell 0 (by simp)
      have e1 := hcell 1 (by simp)
      rw [Go.Deep.add_add] at e0 e1
      have hs : a.spot = none := by
        obtain ⟨cs0, g1, g2⟩ := hx 0 (by omega)
        rw [cells_wait'] at g1
        obtain ⟨_, _, rfl⟩ := wait_cells g2
        obtain ⟨_, _, gcell⟩ := World.cells?_some g1
        have g0 := gcell 0 (by simp)
        rw [Go.Deep.add_add] at g0
        simpa [Addr.add] using World.cell?_spot g0
      obtain ⟨b, off, spot⟩ := a
      have hspot : spot = none := hs
      subst hspot
      rw [add_off' _ b off rfl] at e0 e1
      exact ⟨(k, o), b, off, rfl, by simpa using e0, by simpa [Nat.add_assoc] using e1⟩
    obtain ⟨ws, hml, hws⟩ := list_of' len key
    refine ⟨some a, cap, ws, by rw [hml]; exact hcs, fun i v hi => ?_, by omega⟩
    have hlt : i < ws.length * 2 := by
      have := (List.getElem?_eq_some_iff.1 hi).1
      rw [wv_length] at this
      exact this
    have hg : ws[i / 2]? = some (ws.getD (i / 2) (0, false)) := by
      have h2 : i / 2 < ws.length := by omega
      simp [h2]
    obtain ⟨b, off, rfl, h0, h1⟩ := hws (i / 2) _ hg
    obtain ⟨w0, w1⟩ := wv_get ws (i / 2) (by omega)
    refine ⟨b, off, rfl, ?_⟩
    by_cases hp : i % 2 = 0
    · rw [show i / 2 * 2 = i by omega] at w0 h0
      rw [h0, ← w0, hi]
    · rw [show i / 2 * 2 + 1 = i by omega] at w1
      rw [Nat.add_assoc, show i / 2 * 2 + 1 = i by omega] at h1
      rw [h1, ← w1, hi]

set_option maxRecDepth 100000 in
theorem open_home {H : Type} {enc : TypeId × Value → H} {W : World} {base : Nat} {held : Bool} {r : Reach} {b0 : Nat} {v : Value} {d : DataW H} {q : List MemPlace}
    (hv : Value.okWide Tryz.prog W r b0 188 v) (h : DataW.Trod enc Tryz.prog W base (fun _ => true) held 188 v d q) :
    ∃ (ow wh ak : Int) (bz wo : Bool) (al ar aq : Option Addr) (cl cr cq : Nat) (xs : List Int) (bs : List Bool) (ws : List (Int × Bool)), v = .agg #[.slice al xs.length cl, .int .i64 ow, .slice ar bs.length cr, .bool bz, .int .i64 wh, .bool wo, .int .i64 ak, .slice aq ws.length cq] ∧
      Came .i64 W al cl xs ∧ VCame W ar (bv bs) ∧ VCame W aq (wv ws) ∧ bs.length ≤ maxLen ∧ ws.length ≤ maxLen := by
  obtain ⟨cs, rfl, hsz⟩ := okWide_struct Tryz.underlying188 hv
  obtain ⟨fuel, hf⟩ := h
  obtain ⟨ys, n, _, _, hl, hyl, hf⟩ := DataW.trod_struct Tryz.underlying188 hf
  rw [cells_home'] at hl
  obtain ⟨cs⟩ := cs
  simp only [Value.cells] at hl hf
  match cs, hl, ys, hyl with
  | [c0, c1, c2, c3, c4, c5, c6, c7], _, [y0, y1, y2, y3, y4, y5, y6], _ =>
    have g0 := hf 0 _ rfl
    have g1 := hf 1 _ rfl
    have g2 := hf 2 _ rfl
    have g3 := hf 3 _ rfl
    have g4 := hf 4 _ rfl
    have g5 := hf 5 _ rfl
    have g6 := hf 6 _ rfl
    simp [cells_int', cells_bool', cells_ints', cells_bools', cells_wait', cells_waits'] at g0 g1 g2 g3 g4 g5 g6
    obtain ⟨m1, e1, _, _⟩ := DataW.trod_int Tryz.underlying3 g1
    obtain ⟨ar, cr, bs, e2, hbs, hbl⟩ := open_bools g2
    obtain ⟨m3, e3, _⟩ := DataW.trod_bool Tryz.underlying4 g3
    obtain ⟨k, o, e4⟩ := wait_cells g4
    obtain ⟨m5, e5, _, _⟩ := DataW.trod_int Tryz.underlying3 g5
    obtain ⟨aq, cq, ws, e6, hws, hwl⟩ := open_waits g6
    simp only [List.cons.injEq, and_true] at e1 e3 e4 e5
    obtain ⟨rfl, rfl⟩ := e4
    subst e1 e2 e3 e5 e6
    rcases open_ints Tryz.underlying45 Tryz.underlying3 (by kernel_rfl) g0 with ⟨hcs, _⟩ | ⟨x, l, c, zs, hcs, _, hl, hm, hz, _, hcell, hwz⟩
    · simp only [List.cons.injEq, and_true] at hcs
      exact ⟨m1, k, m5, m3, o, none, ar, aq, 0, cr, cq, [], bs, ws, by rw [hcs]; rfl, came_nil _ _, hbs, hws, hbl, hwl⟩
    · simp only [List.cons.injEq, and_true] at hcs
      have hc := came_of hl hm (by simpa using hz) hcell hwz
      exact ⟨m1, k, m5, m3, o, some x, ar, aq, c, cr, cq, zs.take l, bs, ws, by rw [hc.1, hcs], hc.2, hbs, hws, hbl, hwl⟩
end Go.Proofs.YtnfjmdegbdphpaaGreat
