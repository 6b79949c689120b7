/- Bk1 and OpenB: see the heads of the parts. -/
import Derived.Test.YtafikmpgmnhgcaaBk0
import Derived.Test.YtafikmpgmnhgcaaHtZ
/- What the law's szBlock, toBlock, eqBlock, markBlock, heldBlock do. -/
namespace Go.Proofs.Ytafikmpgmnhgcaa
open Go.RowKit
set_option linter.unusedVariables false

set_option maxHeartbeats 400000 in
theorem szInsS_any (a : Option Addr) (n c : Nat) (w : World) (hn : n ≤ maxLen) :
    Calls Try.prog 49 #[.slice a n c, .int .i64 1048576] w fun e w' => e = .returned (.int .i64 (if n ≤ 1048576 then 1048576 - (n : Int) else -1)) ∧ w' = w := by
  unfold maxLen at hn
  by_cases h : n ≤ 1048576
  · have hd : ¬ ((1048576 : Int) - n < 0) := by omega
    go_enter Try.func49, Try.ntmps49
    go_wp2
    go_ret
    exact ⟨rfl, rfl⟩
  · have hd : (1048576 : Int) - n < 0 := by omega
    go_enter Try.func49, Try.ntmps49
    go_wp2
    go_ret
    exact ⟨rfl, rfl⟩

set_option maxHeartbeats 400000 in
theorem szBlock_any (st : Int) (a : Option Addr) (n c : Nat) (w : World) (hn : n ≤ maxLen) :
    Calls Try.prog 33 #[.agg #[.int .i64 st, .slice a n c], .int .i64 1048576] w fun e w' => e = .returned (.int .i64 (if n ≤ 1048576 then 1048576 - (n : Int) else -1)) ∧ Below w.heap.size w w' := by
  have bA := bel_alloc (Below.refl w.heap.size w) (.cells #[.int .i64 st, .slice a n c] 61)
  go_enter Try.func33, Try.ntmps33
  go_wp2_with fail
  refine (szInsS_any a n c _ hn).mono ?_
  rintro e w1 ⟨rfl, h⟩
  subst h
  by_cases h : n ≤ 1048576
  · rw [if_pos h]
    have hd : ¬ ((1048576 : Int) - n < 0) := by omega
    go_wp2
    go_ret
    exact ⟨rfl, bA⟩
  · rw [if_neg h]
    go_wp2
    go_ret
    exact ⟨rfl, bA⟩

set_option maxHeartbeats 400000 in
theorem toBlock_any (st : Int) (a : Option Addr) (c n : Nat) (d : Nat → XD) (w : World) (hn : n ≤ 1048576) (ha : IR w a n d) :
    Calls Try.prog 38 #[.agg #[.int .i64 st, .slice a n c]] w fun e w' => ∃ a' c', e = .returned (.agg #[.int .i64 st, .slice a' n c']) ∧ IOw w' w.heap.size a' c' n d ∧ Below w.heap.size w w' := by
  have bA := bel_alloc (bel_alloc (bel_alloc (Below.refl w.heap.size w) (.cells #[.int .i64 st, .slice a n c] 61)) (.cells #[.int .i64 0, .slice none 0 0] 67)) (.cells #[.int .i64 st, .slice none 0 0] 67)
  go_enter Try.func38, Try.ntmps38
  go_wp2_with fail
  refine (toInsS_any a c n d _ hn (ha.below bA)).mono ?_
  rintro e w1 ⟨a1, c1, rfl, o1, b1⟩
  obtain ⟨hc, hf⟩ := bcell b1
  have hz : w.heap.size + 3 ≤ w1.heap.size := by have := b1.size; simp at this; omega
  have B : Below w.heap.size w w1 := bel_trans bA b1
  have hlt : Hid (∀ j, (Value.slice a1 n c1).ownBlock = some j → w.heap.size + 3 ≤ j) := fun j h => by have := (World.ownsRow.lt o1 j h).1; simp at this; exact this
  have HO : Hid _ := o1
  clear bA b1 ha o1
  go_wp2
  refine bodyPost_ret (v := .agg #[.int .i64 st, .slice a1 n c1]) (by simp [results, Try.results38, go_sem, hc]) rfl ⟨_, _, rfl, ?_, ?_⟩
  · show World.ownsRow _ _ _ _ _ _ _
    repeat refine owns_setCell ?_ ?_ _
    · exact owns_base HO.out (by simp; omega)
    all_goals (intro j h; have := hlt.out j h; simp; omega)
  · repeat refine bel_setCell ?_ _ _ ?_
    · exact B
    all_goals (simp; try omega)

set_option maxHeartbeats 400000 in
theorem eqBlock_any (st : Int) (a b : Option Addr) (ca cb n : Nat) (d : Nat → XD) (w : World) (ha : IR w a n d) (hb : IR w b n d) :
    Calls Try.prog 45 #[.agg #[.int .i64 st, .slice a n ca], .agg #[.int .i64 st, .slice b n cb]] w fun e w' => e = .returned (.bool true) ∧ Below w.heap.size w w' := by
  have bA := bel_alloc (bel_alloc (Below.refl w.heap.size w) (.cells #[.int .i64 st, .slice a n ca] 67)) (.cells #[.int .i64 st, .slice b n cb] 67)
  go_enter Try.func45, Try.ntmps45
  go_wp2_with fail
  refine (eqInsS_any a b ca cb n d _ (ha.below bA) (hb.below bA)).mono ?_
  rintro e w1 ⟨rfl, b1⟩
  have B := bel_trans bA b1
  clear bA b1 ha hb
  go_wp2
  go_ret
  exact ⟨rfl, B⟩


end Go.Proofs.Ytafikmpgmnhgcaa

/- A block as the row hands it over. -/
namespace Go.Proofs.Ytafikmpgmnhgcaa
open Go.ChangeShapes Go.WideShapes Go.ChangeAt Go.RowKit
set_option linter.unusedVariables false

/-- A row of places that came in. -/
def IC (w : World) (a : Option Addr) (n : Nat) (d : Nat → XD) : Prop := n ≤ maxLen ∧ VCame w a (chunks n fun i => ic (d i))
theorem IC.ir {w : World} {a : Option Addr} {n : Nat} {d : Nat → XD} (h : IC w a n d) (hn : n ≤ 1048577) : IR w a n d := ⟨hn, h.2.vrow (by rw [chunks_length (s := 5) n (fun i _ => rfl)]; omega)⟩

theorem cells_ins' : Try.prog.cellsOf 84 = 5 := by kernel_rfl
set_option maxRecDepth 100000 in
theorem ins_cells {H : Type} {enc : TypeId × Value → H} {W : World} {base : Nat} {held : Bool} {fuel : Nat} {cs : List Value} {x : DataW H × List MemPlace} (h : DataW.trod enc Try.prog W base (fun _ => true) held fuel 84 cs = some x) :
    ∃ d : XD, cs = ic d := by
  obtain ⟨ys, n, _, _, hl, hyl, hf⟩ := DataW.trod_struct Try.underlying84 h
  rw [cells_ins'] at hl
  match cs, hl, ys, hyl with
  | [c0, c1, c2, c3, c4], _, [y0, y1, y2, y3, y4], _ =>
    have g0 := hf 0 _ rfl
    have g1 := hf 1 _ rfl
    have g2 := hf 2 _ rfl
    have g3 := hf 3 _ rfl
    have g4 := hf 4 _ rfl
    simp [cells_int'] at g0 g1 g2 g3 g4
    obtain ⟨m0, e0, _, _⟩ := DataW.trod_int Try.underlying3 g0
    obtain ⟨m1, e1, _, _⟩ := DataW.trod_int Try.underlying3 g1
    obtain ⟨m2, e2, _, _⟩ := DataW.trod_int Try.underlying3 g2
    obtain ⟨m3, e3, _, _⟩ := DataW.trod_int Try.underlying3 g3
    obtain ⟨m4, e4, _, _⟩ := DataW.trod_int Try.underlying3 g4
    simp only [List.cons.injEq, and_true] at e0 e1 e2 e3 e4
    subst e0 e1 e2 e3 e4
    exact ⟨⟨m0, m1, m2, m3, m4⟩, rfl⟩
theorem open_places {H : Type} {enc : TypeId × Value → H} {W : World} {base : Nat} {held : Bool} {fuel : Nat} {v : Value} {x : DataW H × List MemPlace} (h : DataW.trod enc Try.prog W base (fun _ => true) held fuel 59 [v] = some x) :
    ∃ (a : Option Addr) (c n : Nat) (d : Nat → XD), v = .slice a n c ∧ IC W a n d := by
  obtain ⟨a, c, n, F, rfl, hn, hv, hF⟩ := open_rows 59 84 5 Try.underlying59 cells_ins' (by decide) h
  obtain ⟨g, hg⟩ := fun_of (α := XD) ⟨0, 0, 0, 0, 0⟩ (P := fun i x => F i = ic x) n (fun i hi => by
    obtain ⟨_, fl, y, hy⟩ := hF i hi
    exact ins_cells hy)
  exact ⟨a, c, n, g, rfl, hn, hv.congr hg⟩
set_option maxRecDepth 100000 in
theorem open_block {H : Type} {enc : TypeId × Value → H} {W : World} {base : Nat} {held : Bool} {r : Reach} {b0 : Nat} {v : Value} {d : DataW H} {q : List MemPlace}
    (hv : Value.okWide Try.prog W r b0 61 v) (h : DataW.Trod enc Try.prog W base (fun _ => true) held 61 v d q) :
    ∃ (st : Int) (a : Option Addr) (c n : Nat) (d' : Nat → XD), v = .agg #[.int .i64 st, .slice a n c] ∧ IC W a n d' := by
  obtain ⟨cs, rfl, hsz⟩ := okWide_struct Try.underlying61 hv
  obtain ⟨fuel, hf⟩ := h
  obtain ⟨ys, n, _, _, hl, hyl, hf⟩ := DataW.trod_struct Try.underlying61 hf
  have hc : Try.prog.cellsOf 61 = 2 := by kernel_rfl
  have hp : Try.prog.cellsOf 59 = 1 := by kernel_rfl
  rw [hc] at hl
  obtain ⟨cs⟩ := cs
  simp only [Value.cells] at hl hf
  match cs, hl, ys, hyl with
  | [c0, c1], _, [y0, y1], _ =>
    have g0 := hf 0 _ rfl
    have g1 := hf 1 _ rfl
    simp [cells_int', hp] at g0 g1
    obtain ⟨m0, e0, _, _⟩ := DataW.trod_int Try.underlying3 g0
    simp only [List.cons.injEq, and_true] at e0
    subst e0
    obtain ⟨a, c, n, d', rfl, hI⟩ := open_places g1
    exact ⟨m0, a, c, n, d', rfl, hI⟩
end Go.Proofs.Ytafikmpgmnhgcaa
