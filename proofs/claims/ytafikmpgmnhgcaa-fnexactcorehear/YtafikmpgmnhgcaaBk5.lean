/- What the specification's BlockOf answers. -/
import Derived.Test.YtafikmpgmnhgcaaBk4
import Derived.Laws.AppendOwn
import Derived.Deep.AppendLies
namespace Go.Proofs.Ytafikmpgmnhgcaa
open Go.RowKit
set_option linter.unusedVariables false

/-- What a word is taken apart to. -/
def dx (v : Int) : XD := if decB v then ⟨(decD v).1, (decD v).2.1, (decD v).2.2.1, (decD v).2.2.2.1, (decD v).2.2.2.2⟩ else ⟨0, 0, 0, 0, 0⟩
theorem dx_cells (v : Int) : decV v = icells (dx v).op (dx v).r (dx v).a (dx v).b (dx v).n := by
  unfold decV dx
  cases decB v <;> rfl
def endX (d : XD) : Bool := endsB d.op d.r d.a d.b d.n
/-- How many places there are up to and with the first that ends. -/
def cntB : List Int → Nat
  | [] => 0
  | x :: t => if endX (dx x) then 1 else cntB t + 1
theorem cntB_le : ∀ l : List Int, cntB l ≤ l.length
  | [] => Nat.le_refl _
  | x :: t => by
    have := cntB_le t
    unfold cntB
    split
    · simp
    · simp; exact this
theorem cnt_at {xs : List Int} {s : Nat} : ∀ {j : Nat}, s + j ≤ xs.length → (∀ i, i < j → endX (dx (xs.getD (s + i) 0)) = false) → cntB (xs.drop s) = j + cntB (xs.drop (s + j))
  | 0, _, _ => by simp
  | j + 1, hl, h => by
    have ih := cnt_at (j := j) (by omega) (fun i hi => h i (by omega))
    have hlt : s + j < xs.length := by omega
    rw [ih, drop_at xs (s + j) hlt]
    have e := h j (by omega)
    show j + cntB (xs.getD (s + j) 0 :: xs.drop (s + j + 1)) = _
    rw [cntB, e]
    simp only [Bool.false_eq_true, if_false]
    rw [show s + (j + 1) = s + j + 1 by omega]
    omega
theorem cnt_end {xs : List Int} {s j : Nat} (hl : s + j < xs.length) (h : ∀ i, i < j → endX (dx (xs.getD (s + i) 0)) = false) (he : endX (dx (xs.getD (s + j) 0)) = true) : cntB (xs.drop s) = j + 1 := by
  rw [cnt_at (by omega) h, drop_at xs (s + j) hl, cntB, he]
  rfl
theorem cnt_all {xs : List Int} {s j : Nat} (hl : s + j = xs.length) (h : ∀ i, i < j → endX (dx (xs.getD (s + i) 0)) = false) : cntB (xs.drop s) = j := by
  rw [cnt_at (by omega) h, hl, List.drop_length]
  rfl
def ofD (xs : List Int) (st : Int) (i : Nat) : XD := dx (xs.getD ((st % 4).toNat + i) 0)
theorem cnt_end' {xs : List Int} {st : Int} {s j : Nat} (hs : (st % 4).toNat = s) (hl : s + j < xs.length) (h : ∀ i, i < j → endX (ofD xs st i) = false) (he : endX (ofD xs st j) = true) : cntB (xs.drop (st % 4).toNat) = j + 1 := by
  subst hs
  exact cnt_end hl h he
theorem cnt_all' {xs : List Int} {st : Int} {s j : Nat} (hs : (st % 4).toNat = s) (hl : s + j = xs.length) (h : ∀ i, i < j → endX (ofD xs st i) = false) : cntB (xs.drop (st % 4).toNat) = j := by
  subst hs
  exact cnt_all hl h
def ofB (xs : List Int) (st : Int) : Bool := decide (xs.length = 4) && inB st 0 23
def ofS (xs : List Int) (st : Int) : Int := if ofB xs st then st else 0
def ofN (xs : List Int) (st : Int) : Nat := if ofB xs st then cntB (xs.drop (st % 4).toNat) else 0
theorem ofN_le (xs : List Int) (st : Int) : ofN xs st ≤ 4 := by
  unfold ofN
  cases h : ofB xs st
  · simp
  · have h4 : xs.length = 4 := by unfold ofB at h; simp at h; exact h.1
    have := cntB_le (xs.drop (st % 4).toNat)
    rw [List.length_drop] at this
    simp
    omega
theorem ofN_pos {xs : List Int} {st : Int} (h4 : xs.length = 4) (h0 : 0 ≤ st) (h1 : st ≤ 23) : 1 ≤ ofN xs st ∧ ofS xs st = st := by
  have hb : ofB xs st = true := by unfold ofB inB; simp [h4, h0, h1]
  unfold ofN ofS
  rw [hb]
  have hlt : (st % 4).toNat < xs.length := by omega
  rw [drop_at xs _ hlt]
  simp only [if_true, and_true]
  unfold cntB
  split <;> omega
/-- What BlockOf answers. -/
def BlkP (xs : List Int) (st : Int) (w : World) (e : Ending) (w' : World) : Prop :=
  ∃ a c, e = .returned (.agg #[.int .i64 (ofS xs st), .slice a (ofN xs st) c]) ∧ IOw w' w.heap.size a c (ofN xs st) (ofD xs st) ∧ Below w.heap.size w w'
theorem blk_no {xs : List Int} {st : Int} (h : ofB xs st = false) {w w' : World} (b : Below w.heap.size w w') : BlkP xs st w (.returned (.agg #[.int .i64 0, .slice none 0 0])) w' := by
  unfold BlkP ofS ofN
  rw [h]
  exact ⟨none, 0, rfl, World.ownsRow_nil _ _ _ _, b⟩
theorem blk_yes {xs : List Int} {st : Int} (h : ofB xs st = true) {n : Nat} (hn : cntB (xs.drop (st % 4).toNat) = n) {a : Option Addr} {c : Nat} {w w' : World} (o : IOw w' w.heap.size a c n (ofD xs st)) (b : Below w.heap.size w w') : BlkP xs st w (.returned (.agg #[.int .i64 st, .slice a n c])) w' := by
  subst hn
  unfold BlkP ofS ofN
  rw [h]
  exact ⟨a, c, rfl, o, b⟩
/-- The specification's walk over the words, j places done. -/
structure BkL (w0 w : World) (xs : List Int) (st : Int) (j : Nat) (a : Option Addr) (c : Nat) : Prop where
  o : IOw w (w0.heap.size + 2) a c j (ofD xs st)
  X0 : Box w w0.heap.size #[.int .i64 0, .slice none 0 0] 67
  X : Box w (w0.heap.size + 1) #[.int .i64 st, .slice a j c] 67
  b : Below w0.heap.size w0 w
theorem BkL.below {w0 w w' : World} {xs : List Int} {st : Int} {j : Nat} {a : Option Addr} {c : Nat} (h : BkL w0 w xs st j a c) (b : Below w.heap.size w w') : BkL w0 w' xs st j a c :=
  ⟨h.o.below b, h.X0.below b, h.X.below b, bel_trans h.b b⟩
theorem BkL.grow {w0 wr w5 : World} {xs : List Int} {st : Int} {j : Nat} {a : Option Addr} {c g cap : Nat} (h : BkL w0 wr xs st j a c)
    (o5 : w5.ownsRow (w0.heap.size + 2) 79 5 (.slice (some ⟨g, 0, none⟩) (j + 1) cap) (j + 1) (chunks j (fun i => ic (ofD xs st i)) ++ ic (ofD xs st j))) (g5 : wr.grownBy w5 (Value.slice a j c).ownBlock) :
    BkL w0 (w5.setCell ⟨w0.heap.size + 1, 1, none⟩ (.slice (some ⟨g, 0, none⟩) (j + 1) cap)) xs st (j + 1) (some ⟨g, 0, none⟩) cap := by
  have lo : ∀ x, (Value.slice a j c).ownBlock = some x → w0.heap.size + 2 ≤ x := fun x hx => (World.ownsRow.lt h.o x hx).1
  have on5 : Only wr w5 (fun x => (Value.slice a j c).ownBlock = some x) := (Only.refl wr _).grown g5 (fun j hj => hj)
  have X5 := h.X.only on5 (fun e => by have := lo _ e; omega)
  have Y5 := h.X0.only on5 (fun e => by have := lo _ e; omega)
  refine ⟨?_, Y5.far _ _ (by simp), heap_setCell_same _ _ 1 _ _ _ X5, ?_⟩
  · show World.ownsRow _ _ _ _ _ _ _
    rw [chunks_succ]
    refine owns_setCell o5 (fun x hx => ?_) _
    have := (World.ownsRow.lt o5 x hx).1
    simp
    omega
  · exact bel_setCell (h.b.grown g5 h.b.size (fun x hx => by have := lo x hx; omega)) _ _ (by simp)

end Go.Proofs.Ytafikmpgmnhgcaa
