/- What impl's NodeNew does. -/
import Derived.Test.YtpahjfijpjgdnaaNdL
namespace Go.Proofs.Ytpahjfijpjgdnaa
open Go.RowKit
set_option linter.unusedVariables false

/-- A new home of n nodes; a new node. -/
def newHD (n : Nat) : HD := ⟨[0, 0, 0, 0], -1, List.replicate n false, false, 0, false, 0, []⟩
def newND (id : Int) (n : Nat) : ND := ⟨id, 6, fun _ => ⟨0, [], false⟩, 6, fun _ => newHD n, n, fun _ => 0, fun _ => [], n, fun _ => 0⟩
def badND : ND := ⟨0, 0, fun _ => ⟨0, [], false⟩, 0, fun _ => newHD 0, 0, fun _ => 0, fun _ => [], 0, fun _ => 0⟩
def theND (id nodes : Int) : ND := if nodeB id nodes then newND id nodes.toNat else badND
def theR (id nodes : Int) : Nat := if nodeB id nodes then nodes.toNat else 0

/-- What NodeNew answers. -/
def NNewP (id nodes : Int) (w : World) (e : Ending) (w' : World) : Prop :=
  ∃ p : NP, e = .returned (.tuple #[.agg (ncells (theND id nodes) p), .bool (nodeB id nodes)]) ∧ NO w' w.heap.size (theND id nodes) p 4 (theR id nodes) ∧ Below w.heap.size w w'

theorem nnew_bad {id nodes : Int} (h : nodeB id nodes = false) {w w' : World} (b : Below w.heap.size w w') :
    NNewP id nodes w (.returned (.tuple #[.agg #[.int .i64 0, .slice none 0 0, .slice none 0 0, .slice none 0 0, .slice none 0 0], .bool false])) w' := by
  unfold NNewP theND theR
  rw [h]
  exact ⟨⟨(none, 0), fun _ => (none, 0), (none, 0), fun _ => ⟨(none, 0), (none, 0), (none, 0)⟩, (none, 0), fun _ => (none, 0), fun _ => [], (none, 0)⟩, rfl,
    ⟨World.ownsRow_nil _ _ _ _, fun i hi => absurd hi (Nat.not_lt_zero i), ⟨World.ownsRow_nil _ _ _ _, fun i hi => absurd hi (Nat.not_lt_zero i), fun i hi => absurd hi (Nat.not_lt_zero i)⟩, fun i k hi => absurd hi (Nat.not_lt_zero i), fun i hi => absurd hi (Nat.not_lt_zero i), World.ownsRow_nil _ _ _ _, fun i hi => absurd hi (Nat.not_lt_zero i), World.ownsRow_nil _ _ _ _, (by decide : (0:Nat) ≤ 100 ∧ (0:Nat) ≤ 100 ∧ (0:Nat) ≤ 100 ∧ (0:Nat) ≤ 100 ∧ (4:Nat) ≤ 5 ∧ (0:Nat) ≤ 5)⟩, b⟩

/-- The first j homes are laid. -/
structure HM (w : World) (lo : Nat) (a : Option Addr) (c n j : Nat) (z : List Value) (D : HD) (p : Nat → HP) : Prop where
  row : w.ownsRow lo 145 8 (.slice a n c) n (chunks n fun i => if i < j then hcells D (p i) else z)
  l : ∀ i, i < j → w.ownsRow lo 3 1 (.slice (p i).l.1 D.xs.length (p i).l.2) D.xs.length (D.xs.map (Value.int .i64))
  r : ∀ i, i < j → w.ownsRow lo 4 1 (.slice (p i).r.1 D.bs.length (p i).r.2) D.bs.length (bv D.bs)
  ap : HApart j p
  q : ∀ i, i < j → (p i).q = (none, 0)

/-- Eight cells are written. -/
abbrev W8 (w : World) (g o : Nat) (c0 c1 c2 c3 c4 c5 c6 c7 : Value) : World :=
  (((((((w.setCell ⟨g, o, none⟩ c0).setCell ⟨g, o + 1, none⟩ c1).setCell ⟨g, o + 2, none⟩ c2).setCell ⟨g, o + 3, none⟩ c3).setCell ⟨g, o + 4, none⟩ c4).setCell ⟨g, o + 5, none⟩ c5).setCell ⟨g, o + 6, none⟩ c6).setCell ⟨g, o + 7, none⟩ c7
theorem w8_owns {w : World} {g o lo e s n : Nat} {v : Value} {xs : List Value} (h : w.ownsRow lo e s v n xs) (ne : ∀ j, v.ownBlock = some j → g ≠ j) (c0 c1 c2 c3 c4 c5 c6 c7 : Value) : (W8 w g o c0 c1 c2 c3 c4 c5 c6 c7).ownsRow lo e s v n xs :=
  owns_setCell (owns_setCell (owns_setCell (owns_setCell (owns_setCell (owns_setCell (owns_setCell (owns_setCell h ne _) ne _) ne _) ne _) ne _) ne _) ne _) ne _
theorem w8_bel {w0 w : World} {g : Nat} (h : Below w0.heap.size w0 w) (hg : w0.heap.size ≤ g) (o : Nat) (c0 c1 c2 c3 c4 c5 c6 c7 : Value) : Below w0.heap.size w0 (W8 w g o c0 c1 c2 c3 c4 c5 c6 c7) :=
  bel_setCell (bel_setCell (bel_setCell (bel_setCell (bel_setCell (bel_setCell (bel_setCell (bel_setCell h _ _ hg) _ _ hg) _ _ hg) _ _ hg) _ _ hg) _ _ hg) _ _ hg) _ _ hg
theorem w8_box {w : World} {g m : Nat} {cs : Array Value} {t : TypeId} (h : Box w m cs t) (hne : m ≠ g) (o : Nat) (c0 c1 c2 c3 c4 c5 c6 c7 : Value) : Box (W8 w g o c0 c1 c2 c3 c4 c5 c6 c7) m cs t :=
  (((((((h.far _ _ hne).far _ _ hne).far _ _ hne).far _ _ hne).far _ _ hne).far _ _ hne).far _ _ hne).far _ _ hne

theorem HM.step {wr w1 : World} {lo g c n j : Nat} {z : List Value} {D : HD} {p : Nat → HP} {al ar : Option Addr} {cl cr : Nat} (h : HM wr lo (some ⟨g, 0, none⟩) c n j z D p) (hj : j < n) (hz : z.length = 8) (hw : D.ws = []) (b : Below wr.heap.size wr w1) (hlo : lo ≤ wr.heap.size)
    (ol : w1.ownsRow wr.heap.size 3 1 (.slice al D.xs.length cl) D.xs.length (D.xs.map (Value.int .i64))) (or' : w1.ownsRow wr.heap.size 4 1 (.slice ar D.bs.length cr) D.bs.length (bv D.bs)) :
    HM (W8 w1 g (j * 8) (.slice al D.xs.length cl) (.int .i64 D.ow) (.slice ar D.bs.length cr) (.bool D.bz) (.int .i64 D.wh) (.bool D.wo) (.int .i64 D.ak) (.slice none 0 0)) lo (some ⟨g, 0, none⟩) c n (j + 1) z D (fun i => if i = j then ⟨(al, cl), (ar, cr), (none, 0)⟩ else p i) := by
  have hr := owns_below h.row b
  have hf : ∀ i, i < n → ((fun i => if i < j then hcells D (p i) else z) i).length = 8 := fun i _ => by dsimp only; split; rfl; exact hz
  have k0 := owns_stored hr hf hj (j := 0) (by decide) (.slice al D.xs.length cl)
  have k1 := owns_stored k0 (set_len hf _ _ _) hj (j := 1) (by decide) (.int .i64 D.ow)
  have k2 := owns_stored k1 (set_len (set_len hf _ _ _) _ _ _) hj (j := 2) (by decide) (.slice ar D.bs.length cr)
  have k3 := owns_stored k2 (set_len (set_len (set_len hf _ _ _) _ _ _) _ _ _) hj (j := 3) (by decide) (.bool D.bz)
  have k4 := owns_stored k3 (set_len (set_len (set_len (set_len hf _ _ _) _ _ _) _ _ _) _ _ _) hj (j := 4) (by decide) (.int .i64 D.wh)
  have k5 := owns_stored k4 (set_len (set_len (set_len (set_len (set_len hf _ _ _) _ _ _) _ _ _) _ _ _) _ _ _) hj (j := 5) (by decide) (.bool D.wo)
  have k6 := owns_stored k5 (set_len (set_len (set_len (set_len (set_len (set_len hf _ _ _) _ _ _) _ _ _) _ _ _) _ _ _) _ _ _) hj (j := 6) (by decide) (.int .i64 D.ak)
  have k7 := owns_stored k6 (set_len (set_len (set_len (set_len (set_len (set_len (set_len hf _ _ _) _ _ _) _ _ _) _ _ _) _ _ _) _ _ _) _ _ _) hj (j := 7) (by decide) (.slice none 0 0)
  have ne : ∀ {m : Nat} {x : Option Addr} {xs : List Value} {e lo2 cc : Nat}, w1.ownsRow lo2 e 1 (.slice x m cc) m xs → e ≠ 145 → ∀ b, (Value.slice x m cc).ownBlock = some b → g ≠ b := fun ha he b h1 h2 => by
    subst h2
    exact owns_kinds ha hr he h1 rfl
  refine ⟨owns_congr k7 (fun i hi => ?_), fun i hi => ?_, fun i hi => ?_, fun i k hi hk hik => ?_, fun i hi => ?_⟩
  · by_cases e : i = j
    · subst e
      match z, hz with
      | [z0, z1, z2, z3, z4, z5, z6, z7], _ => simp [hcells, hw]
    · by_cases h2 : i < j
      · simp [e, h2, show i < j + 1 by omega]
      · simp [e, h2, show ¬ i < j + 1 by omega]
  · by_cases e : i = j
    · subst e
      simp only [if_pos]
      exact w8_owns (owns_base ol hlo) (ne ol (by decide)) _ _ _ _ _ _ _ _
    · have h0 := owns_below (h.l i (by omega)) b
      simp only [if_neg e]
      exact w8_owns h0 (ne h0 (by decide)) _ _ _ _ _ _ _ _
  · by_cases e : i = j
    · subst e
      simp only [if_pos]
      exact w8_owns (owns_base or' hlo) (ne or' (by decide)) _ _ _ _ _ _ _ _
    · have h0 := owns_below (h.r i (by omega)) b
      simp only [if_neg e]
      exact w8_owns h0 (ne h0 (by decide)) _ _ _ _ _ _ _ _
  · have old : ∀ x, x < j → (∀ t, blk (p x).l = some t → t < wr.heap.size) ∧ ∀ t, blk (p x).r = some t → t < wr.heap.size := fun x hx => ⟨fun t ht => ((h.l x hx).lt t (own_blk ht)).2, fun t ht => ((h.r x hx).lt t (own_blk ht)).2⟩
    have new1 : ∀ t, blk (al, cl) = some t → wr.heap.size ≤ t := fun t ht => (ol.lt t (own_blk ht)).1
    have new2 : ∀ t, blk (ar, cr) = some t → wr.heap.size ≤ t := fun t ht => (or'.lt t (own_blk ht)).1
    by_cases e1 : i = j
    · by_cases e2 : k = j
      · omega
      · simp only [if_pos e1, if_neg e2]
        refine ⟨fun t h1 h2 => ?_, fun t h1 h2 => ?_⟩
        · have := new1 t h1; have := (old k (by omega)).1 t h2; omega
        · have := new2 t h1; have := (old k (by omega)).2 t h2; omega
    · by_cases e2 : k = j
      · simp only [if_neg e1, if_pos e2]
        refine ⟨fun t h1 h2 => ?_, fun t h1 h2 => ?_⟩
        · have := new1 t h2; have := (old i (by omega)).1 t h1; omega
        · have := new2 t h2; have := (old i (by omega)).2 t h1; omega
      · simp only [if_neg e1, if_neg e2]
        exact h.ap i k (by omega) (by omega) hik
  · by_cases e : i = j
    · simp [e]
    · simp only [if_neg e]
      exact h.q i (by omega)

theorem HM.stepL {wr w1 : World} {lo g c n j L R : Nat} {ow wh ak : Int} {bz wo : Bool} {z : List Value} {D : HD} {p : Nat → HP} {al ar : Option Addr} {cl cr : Nat} (h : HM wr lo (some ⟨g, 0, none⟩) c n j z D p) (hj : j < n) (hz : z.length = 8) (hw : D.ws = []) (b : Below wr.heap.size wr w1) (hlo : lo ≤ wr.heap.size)
    (ol : w1.ownsRow wr.heap.size 3 1 (.slice al D.xs.length cl) D.xs.length (D.xs.map (Value.int .i64))) (or' : w1.ownsRow wr.heap.size 4 1 (.slice ar D.bs.length cr) D.bs.length (bv D.bs)) (e1 : D.xs.length = L) (e2 : D.ow = ow) (e3 : D.bs.length = R) (e4 : D.bz = bz) (e5 : D.wh = wh) (e6 : D.wo = wo) (e7 : D.ak = ak) :
    HM (W8 w1 g (j * 8) (.slice al L cl) (.int .i64 ow) (.slice ar R cr) (.bool bz) (.int .i64 wh) (.bool wo) (.int .i64 ak) (.slice none 0 0)) lo (some ⟨g, 0, none⟩) c n (j + 1) z D (fun i => if i = j then ⟨(al, cl), (ar, cr), (none, 0)⟩ else p i) := by
  subst e1 e2 e3 e4 e5 e6 e7
  exact h.step hj hz hw b hlo ol or'

theorem HM.ho {w : World} {lo : Nat} {a : Option Addr} {c n : Nat} {z : List Value} {D : HD} {p : Nat → HP} (h : HM w lo a c n n z D p) : HO w lo a c n (fun _ => D) p :=
  ⟨owns_congr h.row (fun i hi => by simp [hi]), h.l, h.r⟩
theorem HM.below {w w' : World} {lo : Nat} {a : Option Addr} {c n j : Nat} {z : List Value} {D : HD} {p : Nat → HP} (h : HM w lo a c n j z D p) (b : Below w.heap.size w w') : HM w' lo a c n j z D p :=
  ⟨owns_below h.row b, fun i hi => owns_below (h.l i hi) b, fun i hi => owns_below (h.r i hi) b, h.ap, h.q⟩

/-- Five cells of another block are written. -/
theorem NO.set5 {w : World} {lo m : Nat} {d : ND} {p : NP} {L R : Nat} (h : NO w lo d p L R) (ne : ∀ t, NB d p t → m ≠ t) {d0 d1 d2 d3 d4 : Value} :
    NO (((((w.setCell ⟨m, 0, none⟩ d0).setCell ⟨m, 1, none⟩ d1).setCell ⟨m, 2, none⟩ d2).setCell ⟨m, 3, none⟩ d3).setCell ⟨m, 4, none⟩ d4) lo d p L R :=
  ⟨lit_own5 h.f (fun j hj => ne j (.inl (blk_eq hj))), h.fe, ⟨lit_own5 h.h.row (fun j hj => ne j (.inr (.inl (blk_eq hj)))), fun i hi => lit_own5 (h.h.l i hi) (fun j hj => ne j (.inr (.inr (.inl ⟨i, hi, .inl (blk_eq hj)⟩)))), fun i hi => lit_own5 (h.h.r i hi) (fun j hj => ne j (.inr (.inr (.inl ⟨i, hi, .inr (blk_eq hj)⟩))))⟩, h.ha, h.he, lit_own5 h.o (fun j hj => ne j (.inr (.inr (.inr (.inl (blk_eq hj)))))), h.oe, lit_own5 h.i (fun j hj => ne j (.inr (.inr (.inr (.inr (blk_eq hj)))))), h.n⟩

/-- The result is a new node. -/
theorem nnew_ok {id : Int} {n : Nat} (hb : nodeB id n = true) {w w' : World} {p : NP} (hN : NO w' w.heap.size (newND id n) p 4 n) (b : Below w.heap.size w w') :
    NNewP id n w (.returned (.tuple #[.agg (ncells (newND id n) p), .bool true])) w' := by
  unfold NNewP theND theR
  rw [hb]
  exact ⟨p, rfl, hN, b⟩
theorem newP_new {n : Nat} (h : inB n 1 4 = true) {w w' : World} {e : Ending} (hp : NewP n w e w') : ∃ al cl ar cr, e = .returned (.agg #[.slice al 4 cl, .int .i64 (-1), .slice ar n cr, .bool false, .int .i64 0, .bool false, .int .i64 0, .slice none 0 0]) ∧
    w'.ownsRow w.heap.size 3 1 (.slice al (newHD n).xs.length cl) (newHD n).xs.length ((newHD n).xs.map (Value.int .i64)) ∧ w'.ownsRow w.heap.size 4 1 (.slice ar (newHD n).bs.length cr) (newHD n).bs.length (bv (newHD n).bs) ∧ Below w.heap.size w w' := by
  unfold NewP at hp
  have e1 : newL n = [0, 0, 0, 0] := by unfold newL; rw [h]; rfl
  have e2 : newR n = List.replicate n false := by unfold newR; rw [h]; simp
  have e3 : newO n = -1 := by unfold newO; rw [h]; rfl
  rw [e1, e2, e3] at hp
  obtain ⟨al, cl, ar, cr, he, h1, h2, h3⟩ := hp
  refine ⟨al, cl, ar, cr, ?_, h1, h2, h3⟩
  rw [he]
  simp
end Go.Proofs.Ytpahjfijpjgdnaa
