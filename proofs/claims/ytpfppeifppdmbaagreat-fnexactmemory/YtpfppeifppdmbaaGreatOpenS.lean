/- RwO and OpenH and SndSz and OpenS: see the heads of the parts. -/
import Derived.Test.YtpfppeifppdmbaaGreatRwC
import Derived.Test.YtpfppeifppdmbaaGreatOpenC
import Derived.Deep.Slices
import Derived.Test.YtpfppeifppdmbaaGreatHomM
import Derived.Test.YtpfppeifppdmbaaGreatSndTo
/- Rows of any struct as they came in: what a reader is told of them, and how the row hands one over. -/
namespace Go.Proofs.YtpfppeifppdmbaaGreat
open Go.ChangeShapes Go.WideShapes Go.ChangeAt Go.RowKit
set_option linter.unusedVariables false

/-- A row of cells that came in, without a bound on its length. -/
def VCame (w : World) (a : Option Addr) (vs : List Value) : Prop :=
  ∀ i v, vs[i]? = some v → ∃ b off, a = some ⟨b, off, none⟩ ∧ w.cell? ⟨b, off + i, none⟩ = some v
theorem VCame.vrow {w : World} {a : Option Addr} {vs : List Value} (h : VCame w a vs) (hl : vs.length ≤ 140737488351232) : VRow w a vs := ⟨hl, h⟩
theorem VCame.below {w w' : World} {a : Option Addr} {vs : List Value} (h : VCame w a vs) (hb : Below w.heap.size w w') : VCame w' a vs := by
  intro i v hi
  obtain ⟨b, off, rfl, hc⟩ := h i v hi
  exact ⟨b, off, rfl, (hb.cell (p := ⟨b, off + i, none⟩) (lt_of_cell hc)).trans hc⟩
theorem add_off' (a : Addr) (b off : Nat) (h : a = ⟨b, off, none⟩) (i : Nat) : a.add i = ⟨b, off + i, none⟩ := by
  subst h
  unfold Addr.add
  split <;> simp_all
theorem cells_int' : Tryz.prog.cellsOf 3 = 1 := by kernel_rfl
theorem cells_ints' : Tryz.prog.cellsOf 27 = 1 := by kernel_rfl
theorem cells_bool' : Tryz.prog.cellsOf 4 = 1 := by kernel_rfl

theorem Came.below {k : IntKind} {w w' : World} {a : Option Addr} {cap : Nat} {xs : List Int} (h : Came k w a cap xs) (hb : Below w.heap.size w w') : Came k w' a cap xs := by
  refine ⟨h.1, h.2.1, h.2.2.1, fun i hi => ?_⟩
  obtain ⟨b, off, rfl, hc⟩ := h.2.2.2 i hi
  exact ⟨b, off, rfl, (hb.cell (p := ⟨b, off + i, none⟩) (lt_of_cell hc)).trans hc⟩

theorem VCame.chunk {w : World} {a : Option Addr} {s n : Nat} {f : Nat → List Value} (h : VCame w a (chunks n f)) (hf : ∀ i, i < n → (f i).length = s) (hs : 0 < s) {i : Nat} (hi : i < n) :
    ∃ b off, a = some ⟨b, off, none⟩ ∧ ∀ j v, (f i)[j]? = some v → w.cell? ⟨b, off + i * s + j, none⟩ = some v := by
  have hl := hf i hi
  obtain ⟨b, off, rfl, _⟩ := h (i * s + 0) _ ((chunks_get hf hi hs).trans (List.getElem?_eq_getElem (by omega)))
  refine ⟨b, off, rfl, fun j v hv => ?_⟩
  have hj : j < s := by have := (List.getElem?_eq_some_iff.1 hv).1; omega
  obtain ⟨b', off', e, hc⟩ := h (i * s + j) v ((chunks_get hf hi hj).trans hv)
  simp only [Option.some.injEq, Addr.mk.injEq, and_true] at e
  obtain ⟨rfl, rfl⟩ := e
  rw [Nat.add_assoc]
  exact hc

theorem VCame.congr {w : World} {a : Option Addr} {n : Nat} {f g : Nat → List Value} (h : VCame w a (chunks n f)) (e : ∀ i, i < n → f i = g i) : VCame w a (chunks n g) := by rw [← chunks_congr e]; exact h
theorem fun_of {α : Type} (z : α) {P : Nat → α → Prop} (n : Nat) (h : ∀ i, i < n → ∃ x, P i x) : ∃ f : Nat → α, ∀ i, i < n → P i (f i) := by
  refine ⟨fun i => if hi : i < n then Classical.choose (h i hi) else z, fun i hi => ?_⟩
  dsimp only
  rw [dif_pos hi]
  exact Classical.choose_spec (h i hi)
set_option maxRecDepth 100000 in
theorem open_rows {H : Type} {enc : TypeId × Value → H} {W : World} {base : Nat} {held : Bool} {fuel : Nat} {v : Value} {x : DataW H × List MemPlace} (t e : TypeId) (s : Nat) (ht : Tryz.prog.underlying t = some (.slice e)) (hs : Tryz.prog.cellsOf e = s) (h0 : 0 < s)
    (h : DataW.trod enc Tryz.prog W base (fun _ => true) held fuel t [v] = some x) :
    ∃ (a : Option Addr) (c n : Nat) (F : Nat → List Value), v = .slice a n c ∧ n ≤ maxLen ∧ VCame W a (chunks n F) ∧ ∀ i, i < n → (F i).length = s ∧ ∃ fl y, DataW.trod enc Tryz.prog W base (fun _ => true) held fl e (F i) = some y := by
  rcases Go.Deep.open_slice ht h with ⟨h0, _⟩ | ⟨a, len, cap, m, n, D, Pl, hcs, hb, hl, hm, hmm, _, hx⟩
  · simp at h0
    exact ⟨none, 0, 0, fun _ => [], h0, Nat.zero_le _, fun i v hi => by simp [chunks] at hi, fun i hi => absurd hi (Nat.not_lt_zero i)⟩
  · simp at hcs
    simp at hmm
    have key : ∀ i, i < len → ∃ cs : List Value, (cs.length = s ∧ ∃ fl y, DataW.trod enc Tryz.prog W base (fun _ => true) held fl e cs = some y) ∧ ∃ b off, a = ⟨b, off, none⟩ ∧ ∀ j u, cs[j]? = some u → W.cell? ⟨b, off + i * s + j, none⟩ = some u := by
      intro i hi
      obtain ⟨cs', h1, h2⟩ := hx i (by omega)
      rw [hs] at h1
      obtain ⟨_, hlen, hcell⟩ := World.cells?_some h1
      have hsp : a.spot = none := by
        obtain ⟨cs0, g1, g2⟩ := hx 0 (by omega)
        rw [hs] at g1
        obtain ⟨_, glen, gcell⟩ := World.cells?_some g1
        have g0 := gcell 0 (by omega)
        rw [Go.Deep.add_add, List.getElem?_eq_getElem (by omega)] at g0
        simpa [Addr.add] using World.cell?_spot g0
      obtain ⟨b, off, spot⟩ := a
      have hspot : spot = none := hsp
      subst hspot
      refine ⟨cs', ⟨by omega, _, _, h2⟩, b, off, rfl, fun j u hu => ?_⟩
      obtain ⟨hj, rfl⟩ := List.getElem?_eq_some_iff.1 hu
      have e0 := hcell j (by omega)
      rw [Go.Deep.add_add, add_off' _ b off rfl, List.getElem?_eq_getElem hj] at e0
      rw [Nat.add_assoc]
      exact e0
    obtain ⟨F, hF⟩ := fun_of [] len key
    refine ⟨some a, cap, len, F, hcs, by omega, fun i v hi => ?_, fun i hi => (hF i hi).1⟩
    have hfl : ∀ i, i < len → (F i).length = s := fun i hi => (hF i hi).1.1
    have hlt : i < len * s := by
      have := (List.getElem?_eq_some_iff.1 hi).1
      rw [chunks_length len hfl] at this
      exact this
    have hd : i / s < len := Nat.div_lt_of_lt_mul (by rw [Nat.mul_comm]; exact hlt)
    have hmd : i % s < s := Nat.mod_lt _ h0
    have e : i = i / s * s + i % s := by have := Nat.div_add_mod i s; rw [Nat.mul_comm] at this; omega
    obtain ⟨b, off, rfl, hc⟩ := (hF (i / s) hd).2
    refine ⟨b, off, rfl, ?_⟩
    rw [e] at hi ⊢
    rw [chunks_get hfl hd hmd] at hi
    have := hc _ _ hi
    rw [Nat.add_assoc] at this
    exact this

theorem le_sumN {c : Nat → Nat} {i : Nat} : ∀ {n : Nat}, i < n → c i ≤ sumN c n
  | n + 1, h => by
    by_cases e : i = n
    · subst e; simp only [sumN]; omega
    · have := le_sumN (c := c) (n := n) (i := i) (by omega)
      simp only [sumN]
      omega
end Go.Proofs.YtpfppeifppdmbaaGreat

/- A home as the row hands it over. -/
namespace Go.Proofs.YtpfppeifppdmbaaGreat
open Go.ChangeShapes Go.WideShapes Go.ChangeAt Go.RowKit
set_option linter.unusedVariables false

theorem cells_bools' : Tryz.prog.cellsOf 88 = 1 := by kernel_rfl
theorem cells_waits' : Tryz.prog.cellsOf 123 = 1 := by kernel_rfl
theorem cells_wait' : Tryz.prog.cellsOf 122 = 2 := by kernel_rfl
theorem cells_home' : Tryz.prog.cellsOf 125 = 8 := by kernel_rfl

/-- A list built index by index. -/
theorem list_of' {α : Type} {p : Nat → α → Prop} (n : Nat) (h : ∀ i, i < n → ∃ x, p i x) : ∃ xs : List α, xs.length = n ∧ ∀ i x, xs[i]? = some x → p i x := by
  induction n with
  | zero => exact ⟨[], rfl, by simp⟩
  | succ n ih =>
    obtain ⟨xs, hl, hx⟩ := ih (fun i hi => h i (by omega))
    obtain ⟨y, hy⟩ := h n (by omega)
    refine ⟨xs ++ [y], by simp [hl], fun i x hi => ?_⟩
    by_cases hin : i < xs.length
    · rw [List.getElem?_append_left hin] at hi
      exact hx i x hi
    · rw [List.getElem?_append_right (by omega)] at hi
      have : i - xs.length = 0 := by
        have := (List.getElem?_eq_some_iff.1 hi).1
        simp at this
        omega
      rw [this] at hi
      simp at hi
      subst hi
      have e : i = n := by omega
      rw [e]
      exact hy

set_option maxRecDepth 100000 in
theorem wait_cells {H : Type} {enc : TypeId × Value → H} {W : World} {base : Nat} {held : Bool} {fuel : Nat} {cs : List Value} {x : DataW H × List MemPlace}
    (h : DataW.trod enc Tryz.prog W base (fun _ => true) held fuel 122 cs = some x) :
    ∃ (k : Int) (o : Bool), cs = [.int .i64 k, .bool o] := by
  obtain ⟨ys, n, _, _, hl, hyl, hf⟩ := DataW.trod_struct Tryz.underlying122 h
  rw [cells_wait'] at hl
  match cs, hl, ys, hyl with
  | [c0, c1], _, [y0, y1], _ =>
    have g0 := hf 0 _ rfl
    have g1 := hf 1 _ rfl
    simp [cells_int', cells_bool'] at g0 g1
    obtain ⟨mk, e0, _, wk⟩ := DataW.trod_int Tryz.underlying3 g0
    obtain ⟨mo, e1, _⟩ := DataW.trod_bool Tryz.underlying4 g1
    simp only [List.cons.injEq, and_true] at e0 e1
    subst e0 e1
    exact ⟨mk, mo, rfl⟩

set_option maxRecDepth 100000 in
theorem open_bools {H : Type} {enc : TypeId × Value → H} {W : World} {base : Nat} {held : Bool} {fuel : Nat} {v : Value} {x : DataW H × List MemPlace}
    (h : DataW.trod enc Tryz.prog W base (fun _ => true) held fuel 88 [v] = some x) :
    ∃ (a : Option Addr) (c : Nat) (bs : List Bool), v = .slice a bs.length c ∧ VCame W a (bv bs) ∧ bs.length ≤ maxLen := by
  rcases Go.Deep.open_slice Tryz.underlying88 h with ⟨h0, _⟩ | ⟨a, len, cap, m, n, D, Pl, hcs, hb, hl, hm, hmm, _, hx⟩
  · simp at h0
    exact ⟨none, 0, [], h0, fun i v hi => by simp [bv] at hi, Nat.zero_le _⟩
  · simp at hcs
    simp at hmm
    have key : ∀ i, i < len → ∃ x : Bool, ∃ b off, a = ⟨b, off, none⟩ ∧ W.cell? ⟨b, off + i, none⟩ = some (.bool x) := by
      intro i hi
      obtain ⟨cs', h1, h2⟩ := hx i (by omega)
      rw [cells_bool'] at h1
      obtain ⟨_, hlen, hcell⟩ := World.cells?_some h1
      obtain ⟨o, e, _⟩ := DataW.trod_bool Tryz.underlying4 h2
      subst e
      have e0 := hcell 0 (by simp)
      rw [Go.Deep.add_add] at e0
      have hs : a.spot = none := by
        obtain ⟨cs0, g1, g2⟩ := hx 0 (by omega)
        rw [cells_bool'] at g1
        obtain ⟨_, _, gcell⟩ := World.cells?_some g1
        obtain ⟨_, e', _⟩ := DataW.trod_bool Tryz.underlying4 g2
        subst e'
        have g0 := gcell 0 (by simp)
        rw [Go.Deep.add_add] at g0
        simpa [Addr.add] using World.cell?_spot g0
      obtain ⟨b, off, spot⟩ := a
      have hspot : spot = none := hs
      subst hspot
      rw [add_off' _ b off rfl] at e0
      exact ⟨o, b, off, rfl, by simpa using e0⟩
    obtain ⟨bs, hml, hbs⟩ := list_of' len key
    refine ⟨some a, cap, bs, by rw [hml]; exact hcs, fun i v hi => ?_, by omega⟩
    rw [bv, List.getElem?_map] at hi
    cases hbi : bs[i]? with
    | none => rw [hbi] at hi; simp at hi
    | some y =>
      rw [hbi] at hi
      simp at hi
      obtain ⟨b, off, rfl, hc⟩ := hbs i y hbi
      exact ⟨b, off, rfl, by rw [hc, hi]⟩

set_option maxRecDepth 100000 in
theorem open_waits {H : Type} {enc : TypeId × Value → H} {W : World} {base : Nat} {held : Bool} {fuel : Nat} {v : Value} {x : DataW H × List MemPlace}
    (h : DataW.trod enc Tryz.prog W base (fun _ => true) held fuel 123 [v] = some x) :
    ∃ (a : Option Addr) (c : Nat) (ws : List (Int × Bool)), v = .slice a ws.length c ∧ VCame W a (wv ws) ∧ ws.length ≤ maxLen := by
  rcases Go.Deep.open_slice Tryz.underlying123 h with ⟨h0, _⟩ | ⟨a, len, cap, m, n, D, Pl, hcs, hb, hl, hm, hmm, _, hx⟩
  · simp at h0
    exact ⟨none, 0, [], h0, fun i v hi => by simp [wv] at hi, Nat.zero_le _⟩
  · simp at hcs
    simp at hmm
    have key : ∀ i, i < len → ∃ x : Int × Bool, ∃ b off, a = ⟨b, off, none⟩ ∧ W.cell? ⟨b, off + i * 2, none⟩ = some (.int .i64 x.1) ∧ W.cell? ⟨b, off + i * 2 + 1, none⟩ = some (.bool x.2) := by
      intro i hi
      obtain ⟨cs', h1, h2⟩ := hx i (by omega)
      rw [cells_wait'] at h1
      obtain ⟨k, o, rfl⟩ := wait_cells h2
      obtain ⟨_, hlen, hcell⟩ := World.cells?_some h1
      have e0 := hcell 0 (by simp)
      have e1 := hcell 1 (by simp)
      rw [Go.Deep.add_add] at e0 e1
      have hs : a.spot = none := by
        obtain ⟨cs0, g1, g2⟩ := hx 0 (by omega)
        rw [cells_wait'] at g1
        obtain ⟨_, _, rfl⟩ := wait_cells g2
        obtain ⟨_, _, gcell⟩ := World.cells?_some g1
        have g0 := gcell 0 (by simp)
        rw [Go.Deep.add_add] at g0
        simpa [Addr.add] using World.cell?_spot g0
      obtain ⟨b, off, spot⟩ := a
      have hspot : spot = none := hs
      subst hspot
      rw [add_off' _ b off rfl] at e0 e1
      exact ⟨(k, o), b, off, rfl, by simpa using e0, by simpa [Nat.add_assoc] using e1⟩
    obtain ⟨ws, hml, hws⟩ := list_of' len key
    refine ⟨some a, cap, ws, by rw [hml]; exact hcs, fun i v hi => ?_, by omega⟩
    have hlt : i < ws.length * 2 := by
      have := (List.getElem?_eq_some_iff.1 hi).1
      rw [wv_length] at this
      exact this
    have hg : ws[i / 2]? = some (ws.getD (i / 2) (0, false)) := by
      have h2 : i / 2 < ws.length := by omega
      simp [h2]
    obtain ⟨b, off, rfl, h0, h1⟩ := hws (i / 2) _ hg
    obtain ⟨w0, w1⟩ := wv_get ws (i / 2) (by omega)
    refine ⟨b, off, rfl, ?_⟩
    by_cases hp : i % 2 = 0
    · rw [show i / 2 * 2 = i by omega] at w0 h0
      rw [h0, ← w0, hi]
    · rw [show i / 2 * 2 + 1 = i by omega] at w1
      rw [Nat.add_assoc, show i / 2 * 2 + 1 = i by omega] at h1
      rw [h1, ← w1, hi]

set_option maxRecDepth 100000 in
theorem open_home {H : Type} {enc : TypeId × Value → H} {W : World} {base : Nat} {held : Bool} {r : Reach} {b0 : Nat} {v : Value} {d : DataW H} {q : List MemPlace}
    (hv : Value.okWide Tryz.prog W r b0 125 v) (h : DataW.Trod enc Tryz.prog W base (fun _ => true) held 125 v d q) :
    ∃ (ow wh ak : Int) (bz wo : Bool) (al ar aq : Option Addr) (cl cr cq : Nat) (xs : List Int) (bs : List Bool) (ws : List (Int × Bool)), v = .agg #[.slice al xs.length cl, .int .i64 ow, .slice ar bs.length cr, .bool bz, .int .i64 wh, .bool wo, .int .i64 ak, .slice aq ws.length cq] ∧
      Came .i64 W al cl xs ∧ VCame W ar (bv bs) ∧ VCame W aq (wv ws) ∧ bs.length ≤ maxLen ∧ ws.length ≤ maxLen := by
  obtain ⟨cs, rfl, hsz⟩ := okWide_struct Tryz.underlying125 hv
  obtain ⟨fuel, hf⟩ := h
  obtain ⟨ys, n, _, _, hl, hyl, hf⟩ := DataW.trod_struct Tryz.underlying125 hf
  rw [cells_home'] at hl
  obtain ⟨cs⟩ := cs
  simp only [Value.cells] at hl hf
  match cs, hl, ys, hyl with
  | [c0, c1, c2, c3, c4, c5, c6, c7], _, [y0, y1, y2, y3, y4, y5, y6], _ =>
    have g0 := hf 0 _ rfl
    have g1 := hf 1 _ rfl
    have g2 := hf 2 _ rfl
    have g3 := hf 3 _ rfl
    have g4 := hf 4 _ rfl
    have g5 := hf 5 _ rfl
    have g6 := hf 6 _ rfl
    simp [cells_int', cells_bool', cells_ints', cells_bools', cells_wait', cells_waits'] at g0 g1 g2 g3 g4 g5 g6
    obtain ⟨m1, e1, _, _⟩ := DataW.trod_int Tryz.underlying3 g1
    obtain ⟨ar, cr, bs, e2, hbs, hbl⟩ := open_bools g2
    obtain ⟨m3, e3, _⟩ := DataW.trod_bool Tryz.underlying4 g3
    obtain ⟨k, o, e4⟩ := wait_cells g4
    obtain ⟨m5, e5, _, _⟩ := DataW.trod_int Tryz.underlying3 g5
    obtain ⟨aq, cq, ws, e6, hws, hwl⟩ := open_waits g6
    simp only [List.cons.injEq, and_true] at e1 e3 e4 e5
    obtain ⟨rfl, rfl⟩ := e4
    subst e1 e2 e3 e5 e6
    rcases open_ints Tryz.underlying27 Tryz.underlying3 (by kernel_rfl) g0 with ⟨hcs, _⟩ | ⟨x, l, c, zs, hcs, _, hl, hm, hz, _, hcell, hwz⟩
    · simp only [List.cons.injEq, and_true] at hcs
      exact ⟨m1, k, m5, m3, o, none, ar, aq, 0, cr, cq, [], bs, ws, by rw [hcs]; rfl, came_nil _ _, hbs, hws, hbl, hwl⟩
    · simp only [List.cons.injEq, and_true] at hcs
      have hc := came_of hl hm (by simpa using hz) hcell hwz
      exact ⟨m1, k, m5, m3, o, some x, ar, aq, c, cr, cq, zs.take l, bs, ws, by rw [hc.1, hcs], hc.2, hbs, hws, hbl, hwl⟩
end Go.Proofs.YtpfppeifppdmbaaGreat

/- What the law's szSender does; a row of messages as it came in. -/
namespace Go.Proofs.YtpfppeifppdmbaaGreat
open Go.RowKit
set_option linter.unusedVariables false

/-- A slice of messages that came in, without a bound on lengths. -/
def MCame (w : World) (a : Option Addr) (cap : Nat) (ms : List M) : Prop :=
  ms.length ≤ cap ∧ cap ≤ maxLen ∧ ∀ i m, ms[i]? = some m → (∃ b off, a = some ⟨b, off, none⟩ ∧ At4 w b (off + i * 4) m) ∧ Came .i64 w m.a m.c m.xs

theorem MCame.below {w w' : World} {a : Option Addr} {cap : Nat} {ms : List M} (h : MCame w a cap ms) (hb : Below w.heap.size w w') : MCame w' a cap ms := by
  refine ⟨h.1, h.2.1, fun i m hi => ?_⟩
  obtain ⟨⟨b, off, rfl, h4⟩, hr⟩ := h.2.2 i m hi
  exact ⟨⟨b, off, rfl, h4.below hb⟩, hr.below hb⟩

theorem MCame.mrow {w : World} {a : Option Addr} {cap : Nat} {ms : List M} (h : MCame w a cap ms) (hl : ms.length ≤ 1048576) (hx : ∀ m ∈ ms, m.xs.length ≤ 1048576) : MRow w a ms :=
  ⟨by omega, fun i m hm => ⟨(h.2.2 i m hm).1, (h.2.2 i m hm).2.row (by have := hx m (List.mem_of_getElem? hm); omega)⟩⟩

def SzOk (L : Int) (n : Nat) (r : Int) : Prop := r = -1 ∨ (r = L - n ∧ 0 ≤ r)

set_option maxRecDepth 100000 in
set_option maxHeartbeats 1000000 in
theorem szMsg_gen (k p : Int) (o : Bool) (a : Option Addr) (n c : Nat) (L : Int) (w : World) (h0 : 0 ≤ L) (h1 : L ≤ 1048576) (hn : n ≤ maxLen) :
    Calls Tryz.prog 44 #[.agg #[.int .i64 k, .int .i64 p, .bool o, .slice a n c], .int .i64 L] w fun e w' => ∃ r, e = .returned (.int .i64 r) ∧ SzOk L n r ∧ Below w.heap.size w w' := by
  unfold maxLen at hn
  have bA := bel_alloc (Below.refl w.heap.size w) (.cells #[.int .i64 k, .int .i64 p, .bool o, .slice a n c] 57)
  by_cases h : (n : Int) ≤ L
  · go_enter Tryz.func44, Tryz.ntmps44
    go_wp2
    go_ret
    exact ⟨_, rfl, .inr ⟨rfl, by omega⟩, bA⟩
  · go_enter Tryz.func44, Tryz.ntmps44
    go_wp2
    go_ret
    exact ⟨_, rfl, .inl rfl, bA⟩

/-- What szMsgS and szSender tell. -/
def SzS (ms : List M) (r : Int) : Prop := r = -1 ∨ (0 ≤ r ∧ r ≤ 1048576 ∧ ms.length ≤ 1048576 ∧ ∀ m ∈ ms, m.xs.length ≤ 1048576)

set_option maxRecDepth 100000 in
set_option maxHeartbeats 1000000 in
theorem szMsgS_any (a : Option Addr) (ca : Nat) (ms : List M) (w : World) (ha : MCame w a ca ms) :
    Calls Tryz.prog 102 #[.slice a ms.length ca, .int .i64 1048576] w fun e w' => ∃ r, e = .returned (.int .i64 r) ∧ SzS ms r ∧ Below w.heap.size w w' := by
  obtain ⟨n, hn⟩ : ∃ n, ms.length = n := ⟨_, rfl⟩
  have HN : Hid (ms.length = n) := hn
  have hl : n ≤ 9223372036854775807 := by have h1 := ha.1; have h2 := ha.2.1; unfold maxLen at h2; omega
  rw [hn]
  clear hn
  by_cases hb : 1048576 < n
  · have hb' : (1048576 : Int) < (n : Int) := by omega
    clear ha
    go_enter Tryz.func102, Tryz.ntmps102
    go_wp2
    go_ret
    exact ⟨_, rfl, .inl rfl, Below.refl _ _⟩
  · have hb' : (n : Int) ≤ 1048576 := by omega
    go_enter Tryz.func102, Tryz.ntmps102
    go_wp2
    go_loopw [1, 5] (fun q i wr => ∃ (k : Nat) (L : Int), k ≤ n ∧ i = .int .i64 k ∧ q = .int .i64 L ∧ 0 ≤ L ∧ L ≤ 1048576 ∧ (∀ j m, j < k → ms[j]? = some m → m.xs.length ≤ 1048576) ∧ MCame wr a ca ms ∧ Below w.heap.size w wr) (fun _ i _ => n - (intOf i).toNat)
    case atStart => exact ⟨0, _, Nat.zero_le _, rfl, rfl, by omega, by omega, fun j m hj => by omega, ha, Below.refl _ _⟩
    case round =>
      obtain ⟨k, L, hk, rfl, rfl, hL0, hL1, hdone, hm, hB⟩ := hrel
      have HD : Hid (∀ j m, j < k → ms[j]? = some m → m.xs.length ≤ 1048576) := hdone
      clear hdone
      by_cases hlt : k < n
      · have hi : (k : Int) < (n : Int) := by omega
        obtain ⟨m, hmk⟩ : ∃ m, ms[k]? = some m := ⟨_, List.getElem?_eq_getElem (by have := HN.out; omega)⟩
        have HM : Hid (ms[k]? = some m) := hmk
        obtain ⟨⟨b, off, rfl, y0, y1, y2, y3⟩, hcm⟩ := hm.2.2 k m hmk
        have hml : m.xs.length ≤ maxLen := Nat.le_trans hcm.1 hcm.2.1
        clear hmk hcm ha
        go_wp2_with fail
        refine (szMsg_gen m.k m.p m.o m.a m.xs.length m.c L _ hL0 hL1 hml).mono ?_
        rintro e w1 ⟨r, rfl, hsz, b1⟩
        have hm1 := hm.below b1
        have hB1 := bel_trans hB b1
        clear hm hB b1 y0 y1 y2 y3 hml
        rcases hsz with rfl | ⟨hr, hr0⟩
        · clear hm1
          go_wp2
          go_ret
          exact ⟨_, rfl, .inl rfl, hB1⟩
        · have HX : Hid (∀ j m, j < k + 1 → ms[j]? = some m → m.xs.length ≤ 1048576) := fun j m' hj hjm => by
            by_cases hjk : j < k
            · exact HD.out j m' hjk hjm
            · have : j = k := by omega
              subst this
              rw [HM.out] at hjm
              simp at hjm
              subst hjm
              omega
          have hr1 : r ≤ 1048576 := by omega
          clear hr
          go_wp2
          go_roundw
          case rel => exact ⟨k + 1, r, by omega, by go_num, rfl, hr0, hr1, HX.out, hm1, hB1⟩
          case measure => simp [intOf]; omega
      · clear ha hm
        go_wp2
        go_ret
        refine ⟨_, rfl, .inr ⟨hL0, hL1, by have := HN.out; omega, fun m hm' => ?_⟩, hB⟩
        obtain ⟨j, hj, rfl⟩ := List.getElem_of_mem hm'
        exact HD.out j _ (by have := HN.out; omega) (List.getElem?_eq_getElem hj)

set_option maxRecDepth 100000 in
set_option maxHeartbeats 1000000 in
theorem szSender_any (base : Int) (a : Option Addr) (ca : Nat) (ms : List M) (w : World) (ha : MCame w a ca ms) :
    Calls Tryz.prog 70 #[.agg #[.int .i64 base, .slice a ms.length ca], .int .i64 1048576] w fun e w' => ∃ r, e = .returned (.int .i64 r) ∧ SzS ms r ∧ Below w.heap.size w w' := by
  have bA := bel_alloc (Below.refl w.heap.size w) (.cells #[.int .i64 base, .slice a ms.length ca] 129)
  go_enter Tryz.func70, Tryz.ntmps70
  go_wp2_with fail
  refine (szMsgS_any a ca ms _ (ha.below bA)).mono ?_
  rintro e w1 ⟨r, rfl, hsz, b1⟩
  have B := bel_trans bA b1
  clear bA b1 ha
  rcases hsz with rfl | ⟨h0, h1, hsz⟩
  · go_wp2
    go_ret
    exact ⟨_, rfl, .inl rfl, B⟩
  · have HZ : Hid (ms.length ≤ 1048576 ∧ ∀ m ∈ ms, m.xs.length ≤ 1048576) := hsz
    clear hsz
    go_wp2
    go_ret
    exact ⟨_, rfl, .inr ⟨h0, h1, HZ.out⟩, B⟩
end Go.Proofs.YtpfppeifppdmbaaGreat

/- A sender as the row hands it over. -/
namespace Go.Proofs.YtpfppeifppdmbaaGreat
open Go.ChangeShapes Go.WideShapes Go.ChangeAt Go.RowKit
set_option linter.unusedVariables false

theorem add_off (a : Addr) (b off : Nat) (h : a = ⟨b, off, none⟩) (i : Nat) : a.add i = ⟨b, off + i, none⟩ := by
  subst h
  unfold Addr.add
  split <;> simp_all

/-- A list built index by index. -/
theorem list_of {α : Type} {p : Nat → α → Prop} (n : Nat) (h : ∀ i, i < n → ∃ x, p i x) : ∃ xs : List α, xs.length = n ∧ ∀ i x, xs[i]? = some x → p i x := by
  induction n with
  | zero => exact ⟨[], rfl, by simp⟩
  | succ n ih =>
    obtain ⟨xs, hl, hx⟩ := ih (fun i hi => h i (by omega))
    obtain ⟨y, hy⟩ := h n (by omega)
    refine ⟨xs ++ [y], by simp [hl], fun i x hi => ?_⟩
    by_cases hin : i < xs.length
    · rw [List.getElem?_append_left hin] at hi
      exact hx i x hi
    · rw [List.getElem?_append_right (by omega)] at hi
      have : i - xs.length = 0 := by
        have := (List.getElem?_eq_some_iff.1 hi).1
        simp at this
        omega
      rw [this] at hi
      simp at hi
      subst hi
      have e : i = n := by omega
      rw [e]
      exact hy

set_option maxRecDepth 100000 in
theorem open_msgs {H : Type} {enc : TypeId × Value → H} {W : World} {base : Nat} {held : Bool} {fuel : Nat} {v : Value} {x : DataW H × List MemPlace}
    (h : DataW.trod enc Tryz.prog W base (fun _ => true) held fuel 127 [v] = some x) :
    ∃ (a : Option Addr) (c : Nat) (ms : List M), v = .slice a ms.length c ∧ MCame W a c ms := by
  rcases Go.Deep.open_slice Tryz.underlying127 h with ⟨h0, _⟩ | ⟨a, len, cap, m, n, D, Pl, hcs, hb, hl, hm, hmm, _, hx⟩
  · simp at h0
    exact ⟨none, 0, [], h0, by simp [MCame]⟩
  · simp at hcs
    simp at hmm
    have key : ∀ i, i < len → ∃ x : M, (∃ b off, a = ⟨b, off, none⟩ ∧ At4 W b (off + i * 4) x) ∧ Came .i64 W x.a x.c x.xs := by
      intro i hi
      obtain ⟨cs', h1, h2⟩ := hx i (by omega)
      rw [cells_msg] at h1
      obtain ⟨k, p, o, a', c', xs, rfl, hcame, _, _⟩ := msg_cells h2
      obtain ⟨_, hlen, hcell⟩ := World.cells?_some h1
      have e0 := hcell 0 (by simp)
      have e1 := hcell 1 (by simp)
      have e2 := hcell 2 (by simp)
      have e3 := hcell 3 (by simp)
      rw [Go.Deep.add_add] at e0 e1 e2 e3
      have hs : a.spot = none := by
        obtain ⟨cs0, g1, g2⟩ := hx 0 (by omega)
        rw [cells_msg] at g1
        obtain ⟨_, _, _, _, _, _, rfl, _⟩ := msg_cells g2
        obtain ⟨_, _, gcell⟩ := World.cells?_some g1
        have g0 := gcell 0 (by simp)
        rw [Go.Deep.add_add] at g0
        simpa [Addr.add] using World.cell?_spot g0
      obtain ⟨b, off, spot⟩ := a
      have hspot : spot = none := hs
      subst hspot
      rw [add_off _ b off rfl] at e0 e1 e2 e3
      refine ⟨⟨k, p, o, a', c', xs⟩, ⟨b, off, rfl, ?_, ?_, ?_, ?_⟩, hcame⟩
      · simpa using e0
      · simpa [Nat.add_assoc] using e1
      · simpa [Nat.add_assoc] using e2
      · simpa [Nat.add_assoc] using e3
    obtain ⟨ms, hml, hms⟩ := list_of len key
    refine ⟨some a, cap, ms, by rw [hml]; exact hcs, by omega, hm, fun i x hi => ?_⟩
    obtain ⟨⟨b, off, rfl, h4⟩, hc⟩ := hms i x hi
    exact ⟨⟨b, off, rfl, h4⟩, hc⟩

set_option maxRecDepth 100000 in
theorem open_sender {H : Type} {enc : TypeId × Value → H} {W : World} {base : Nat} {held : Bool} {r : Reach} {b0 : Nat} {v : Value} {d : DataW H} {q : List MemPlace}
    (hv : Value.okWide Tryz.prog W r b0 129 v) (h : DataW.Trod enc Tryz.prog W base (fun _ => true) held 129 v d q) :
    ∃ (B : Int) (a : Option Addr) (c : Nat) (ms : List M), v = .agg #[.int .i64 B, .slice a ms.length c] ∧ MCame W a c ms ∧ (Lit.int .i64 B).wf = true := by
  obtain ⟨c0, c1, y0, y1, fu, rfl, _, _, hy0, hy1⟩ := Go.Joins.open_agg2 Tryz.underlying129 (by kernel_rfl) (by kernel_rfl) hv h
  obtain ⟨B, e0, _, wB⟩ := DataW.trod_int Tryz.underlying3 hy0
  obtain ⟨a, c, ms, rfl, hc⟩ := open_msgs hy1
  simp at e0
  subst e0
  exact ⟨B, a, c, ms, rfl, hc, wB⟩
end Go.Proofs.YtpfppeifppdmbaaGreat
