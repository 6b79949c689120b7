/- A drawn cache and drawn frames beside the cursor: what stays, what grows. -/
import Derived.Test.YtkamhinklhcbaaaDrawL
import Derived.Test.YtkamhinklhcbaaaCa3
import Derived.Test.YtkamhinklhcbaaaFmR
namespace Go.Proofs.Ytkamhinklhcbaaa
open Go.RowKit
set_option linter.unusedVariables false

def fz : FD := ⟨0, [], false⟩
def fmd (L : List FD) (i : Nat) : FD := L.getD i fz
theorem fmd_snoc (L : List FD) (y : FD) {i : Nat} (hi : i < L.length + 1) : fmd (L ++ [y]) i = if i = L.length then y else fmd L i := by
  unfold fmd
  by_cases e : i = L.length
  · subst e; simp
  · rw [if_neg e]
    simp [List.getD_eq_getElem?_getD, List.getElem?_append, show i < L.length by omega]
/-- A row of frames and one of blocks, both new, apart from each other, beside the cursor. -/
structure DQ (w0 w : World) (r : Nat) (a : Option Addr) (n ca : Nat) (L : List KD) (al : Option Addr) (cl : Nat) (pl : Nat → Pl) (G : List FD) (af : Option Addr) (cf : Nat) (pf : Nat → Pl) : Prop where
  k : KO w al cl L.length (kd L) pl
  f : FO w af cf G.length (fmd G) pf
  klo : ∀ b, RS al cl L.length (fun i => QK (pl i)) b → w0.heap.size ≤ b
  flo : ∀ b, RS af cf G.length (fun i => QF (pf i)) b → w0.heap.size ≤ b
  ap : ∀ b, RS al cl L.length (fun i => QK (pl i)) b → ¬ RS af cf G.length (fun i => QF (pf i)) b
  C : Cur w r a n ca
  gr : w0.grownBy w (some r)
  r0 : r < w0.heap.size
section
variable {w0 w w' : World} {r : Nat} {a : Option Addr} {n ca : Nat} {L : List KD} {al : Option Addr} {cl : Nat} {pl : Nat → Pl} {G : List FD} {af : Option Addr} {cf : Nat} {pf : Nat → Pl}
theorem DQ.below (h : DQ w0 w r a n ca L al cl pl G af cf pf) (b : Below w.heap.size w w') : DQ w0 w' r a n ca L al cl pl G af cf pf :=
  ⟨h.k.below b, h.f.below b, h.klo, h.flo, h.ap, h.C.below b, grownBy_trans h.gr (bel_grown b), h.r0⟩
theorem DQ.grown (h : DQ w0 w r a n ca L al cl pl G af cf pf) (C : Cur w' r a n ca) (k : w.grownBy w' (some r)) : DQ w0 w' r a n ca L al cl pl G af cf pf := by
  have h0 := h.r0
  have on : Only w w' (fun b => b = r) := (Only.refl w _).grown k (fun j hj => by simp at hj; exact hj.symm)
  exact ⟨Rw.sm h.k (on.sm (fun b hb e => by have := h.klo b hb; omega)), Rw.sm h.f (on.sm (fun b hb e => by have := h.flo b hb; omega)), h.klo, h.flo, h.ap, C, grownBy_trans h.gr k, h.r0⟩
/-- A block more. -/
theorem DQ.snocK {w1 V w5 : World} {y : KD} {g cap : Nat} {a2 : Option Addr} {c2 : Nat} (h : DQ w0 w r a n ca L al cl pl G af cf pf) (o1 : IOw w1 w.heap.size a2 c2 y.n y.x) (b1 : w.grownBy w1 (some r)) (C1 : Cur w1 r a n ca) (b2 : Below w1.heap.size w1 V)
    (o5 : w5.ownsRow 0 27 2 (.slice (some ⟨g, 0, none⟩) (L.length + 1) cap) (L.length + 1) (chunks L.length (fun i => bkcells (kd L i) (pl i)) ++ [.int .i64 y.st, .slice a2 y.n c2])) (g5 : V.grownBy w5 (Value.slice al L.length cl).ownBlock) (hg : (Value.slice al L.length cl).ownBlock = some g ∨ g = V.heap.size) :
    DQ w0 w5 r a n ca (L ++ [y]) (some ⟨g, 0, none⟩) cap (fun i => if i = L.length then (a2, c2) else pl i) G af cf pf := by
  have h1 := h.grown C1 b1
  have hs1 := b1.size
  have hs2 := b2.size
  have hs0 := h.gr.size
  have h0 := h.r0
  have oV : EK y (a2, c2) V := owns_base (owns_below o1 b2) (Nat.zero_le _)
  have hqw : ∀ x, QK (a2, c2) x → w.heap.size ≤ x ∧ x < w1.heap.size := fun x hx => World.ownsRow.lt o1 x (blk_own hx)
  have kV := h1.k.below b2
  have fV := h1.f.below b2
  have hold : ∀ x, RS al cl L.length (fun i => QK (pl i)) x → x < w.heap.size := fun x hx => Rw.slt h.k hx
  have holdf : ∀ x, RS af cf G.length (fun i => QF (pf i)) x → x < w.heap.size := fun x hx => Rw.slt h.f hx
  have on5 : Only V w5 (fun x => (Value.slice al L.length cl).ownBlock = some x) := (Only.refl V _).grown g5 (fun j hj => hj)
  have el : (L ++ [y]).length = L.length + 1 := by simp
  have gin : (Value.slice al L.length cl).ownBlock = some g → RS al cl L.length (fun i => QK (pl i)) g := fun e => .inl (blk_eq e)
  have ng : ∀ i, i < L.length → ¬ QK (pl i) g := fun i hi hq => by
    rcases hg with e | e
    · exact h.k.out i hi g (blk_eq e) hq
    · have := hold g (.inr ⟨i, hi, hq⟩); omega
  have nq : ¬ QK (a2, c2) g := fun hq => by
    have := hqw g hq
    rcases hg with e | e
    · have := hold g (gin e); omega
    · omega
  have ownQ : ∀ x, (Value.slice al L.length cl).ownBlock = some x → ∀ i, i < L.length → ¬ QK (pl i) x := fun x hx i hi => h.k.out i hi x (blk_eq hx)
  have K5 : KO w5 (some ⟨g, 0, none⟩) cap (L ++ [y]).length (kd (L ++ [y])) (fun i => if i = L.length then (a2, c2) else pl i) := by
    rw [el]
    refine ⟨?_, fun i hi => ?_, fun i hi => fix_k _ _, fun i hi x hx => ?_, fun i k hi hk hne b hb => ?_, fun i hi b hb => ?_⟩
    · have e : chunks (L.length + 1) (fun i => bkcells (kd (L ++ [y]) i) (if i = L.length then (a2, c2) else pl i)) = chunks L.length (fun i => bkcells (kd L i) (pl i)) ++ [.int .i64 y.st, .slice a2 y.n c2] := by
        rw [chunks_succ]
        congr 1
        · exact chunks_congr (fun i hi => by rw [kd_snoc L y (by omega), if_neg (by omega), if_neg (by omega)])
        · rw [kd_snoc L y (by omega)]; simp [bkcells]
      rw [e]
      exact o5
    · rw [kd_snoc L y hi]
      by_cases e : i = L.length
      · simp only [if_pos e]
        exact fix_k y (a2, c2) V w5 (on5.sm (fun b hb he => by have := hqw b hb; have := hold b (.inl (blk_eq he)); omega)) oV
      · simp only [if_neg e]
        exact fix_k _ _ V w5 (on5.sm (fun b hb he => ownQ b he i (by omega) hb)) (kV.el i (by omega))
    · simp [blk] at hx
      subst hx
      by_cases e : i = L.length
      · simp only [if_pos e]; exact nq
      · simp only [if_neg e]; exact ng i (by omega)
    · by_cases e1 : i = L.length
      · simp only [if_pos e1] at hb
        by_cases e2 : k = L.length
        · omega
        · simp only [if_neg e2]
          intro hq
          have := hqw b hb
          have := hold b (.inr ⟨k, by omega, hq⟩)
          omega
      · simp only [if_neg e1] at hb
        by_cases e2 : k = L.length
        · simp only [if_pos e2]
          intro hq
          have := hqw b hq
          have := hold b (.inr ⟨i, by omega, hb⟩)
          omega
        · simp only [if_neg e2]
          exact h.k.ap i k (by omega) (by omega) hne b hb
    · have hz := g5.size
      by_cases e : i = L.length
      · simp only [if_pos e] at hb
        have := hqw b hb
        omega
      · simp only [if_neg e] at hb
        have := hold b (.inr ⟨i, by omega, hb⟩)
        omega
  have key : ∀ b, RS (some ⟨g, 0, none⟩) cap (L ++ [y]).length (fun i => QK (if i = L.length then (a2, c2) else pl i)) b → RS al cl L.length (fun i => QK (pl i)) b ∨ w.heap.size ≤ b := fun b hb => by
    rw [el] at hb
    rcases hb with hb | ⟨i, hi, hb⟩
    · simp [blk] at hb
      subst hb
      rcases hg with e | e
      · exact .inl (gin e)
      · exact .inr (by omega)
    · by_cases e : i = L.length
      · rw [if_pos e] at hb
        exact .inr (hqw b hb).1
      · rw [if_neg e] at hb
        exact .inl (.inr ⟨i, by omega, hb⟩)
  refine ⟨K5, Rw.sm fV (on5.sm (fun b hb he => h.ap b (.inl (blk_eq he)) hb)), fun b hb => ?_, h.flo, fun b hb hf => ?_, ?_, ?_, h.r0⟩
  · rcases key b hb with hb | hb
    · exact h.klo b hb
    · omega
  · rcases key b hb with hb | hb
    · exact h.ap b hb hf
    · have := holdf b hf; omega
  · exact (C1.below b2).kept g5 (fun j hj => by have := h.klo j (.inl (blk_eq hj)); omega)
  · exact old_grown (grownBy_trans (grownBy_trans h.gr b1) (bel_grown b2)) g5 (fun j hj => h.klo j (.inl (blk_eq hj)))
/-- A frame more. -/
theorem DQ.snocF {w1 V w5 : World} {y : FD} {g cap : Nat} {a2 : Option Addr} {c2 : Nat} (h : DQ w0 w r a n ca L al cl pl G af cf pf) (o1 : w1.ownsRow w.heap.size 3 1 (.slice a2 y.xs.length c2) y.xs.length (y.xs.map (Value.int .i64))) (b1 : Below w.heap.size w w1) (b2 : Below w1.heap.size w1 V)
    (o5 : w5.ownsRow 0 84 3 (.slice (some ⟨g, 0, none⟩) (G.length + 1) cap) (G.length + 1) (chunks G.length (fun i => fcells (fmd G i) (pf i)) ++ [.int .i64 y.s, .slice a2 y.xs.length c2, .bool y.q])) (g5 : V.grownBy w5 (Value.slice af G.length cf).ownBlock) (hg : (Value.slice af G.length cf).ownBlock = some g ∨ g = V.heap.size) :
    DQ w0 w5 r a n ca L al cl pl (G ++ [y]) (some ⟨g, 0, none⟩) cap (fun i => if i = G.length then (a2, c2) else pf i) := by
  have h1 := h.below b1
  have hs1 := b1.size
  have hs2 := b2.size
  have hs0 := h.gr.size
  have h0 := h.r0
  have oV : EF y (a2, c2) V := owns_base (owns_below o1 b2) (Nat.zero_le _)
  have hqw : ∀ x, QF (a2, c2) x → w.heap.size ≤ x ∧ x < w1.heap.size := fun x hx => World.ownsRow.lt o1 x (blk_own hx)
  have kV := h1.k.below b2
  have fV := h1.f.below b2
  have holdk : ∀ x, RS al cl L.length (fun i => QK (pl i)) x → x < w.heap.size := fun x hx => Rw.slt h.k hx
  have hold : ∀ x, RS af cf G.length (fun i => QF (pf i)) x → x < w.heap.size := fun x hx => Rw.slt h.f hx
  have on5 : Only V w5 (fun x => (Value.slice af G.length cf).ownBlock = some x) := (Only.refl V _).grown g5 (fun j hj => hj)
  have el : (G ++ [y]).length = G.length + 1 := by simp
  have gin : (Value.slice af G.length cf).ownBlock = some g → RS af cf G.length (fun i => QF (pf i)) g := fun e => .inl (blk_eq e)
  have ng : ∀ i, i < G.length → ¬ QF (pf i) g := fun i hi hq => by
    rcases hg with e | e
    · exact h.f.out i hi g (blk_eq e) hq
    · have := hold g (.inr ⟨i, hi, hq⟩); omega
  have nq : ¬ QF (a2, c2) g := fun hq => by
    have := hqw g hq
    rcases hg with e | e
    · have := hold g (gin e); omega
    · omega
  have ownQ : ∀ x, (Value.slice af G.length cf).ownBlock = some x → ∀ i, i < G.length → ¬ QF (pf i) x := fun x hx i hi => h.f.out i hi x (blk_eq hx)
  have K5 : FO w5 (some ⟨g, 0, none⟩) cap (G ++ [y]).length (fmd (G ++ [y])) (fun i => if i = G.length then (a2, c2) else pf i) := by
    rw [el]
    refine ⟨?_, fun i hi => ?_, fun i hi => fix_f _ _, fun i hi x hx => ?_, fun i k hi hk hne b hb => ?_, fun i hi b hb => ?_⟩
    · have e : chunks (G.length + 1) (fun i => fcells (fmd (G ++ [y]) i) (if i = G.length then (a2, c2) else pf i)) = chunks G.length (fun i => fcells (fmd G i) (pf i)) ++ [.int .i64 y.s, .slice a2 y.xs.length c2, .bool y.q] := by
        rw [chunks_succ]
        congr 1
        · exact chunks_congr (fun i hi => by rw [fmd_snoc G y (by omega), if_neg (by omega), if_neg (by omega)])
        · rw [fmd_snoc G y (by omega)]; simp [fcells]
      rw [e]
      exact o5
    · rw [fmd_snoc G y hi]
      by_cases e : i = G.length
      · simp only [if_pos e]
        exact fix_f y (a2, c2) V w5 (on5.sm (fun b hb he => by have := hqw b hb; have := hold b (.inl (blk_eq he)); omega)) oV
      · simp only [if_neg e]
        exact fix_f _ _ V w5 (on5.sm (fun b hb he => ownQ b he i (by omega) hb)) (fV.el i (by omega))
    · simp [blk] at hx
      subst hx
      by_cases e : i = G.length
      · simp only [if_pos e]; exact nq
      · simp only [if_neg e]; exact ng i (by omega)
    · by_cases e1 : i = G.length
      · simp only [if_pos e1] at hb
        by_cases e2 : k = G.length
        · omega
        · simp only [if_neg e2]
          intro hq
          have := hqw b hb
          have := hold b (.inr ⟨k, by omega, hq⟩)
          omega
      · simp only [if_neg e1] at hb
        by_cases e2 : k = G.length
        · simp only [if_pos e2]
          intro hq
          have := hqw b hq
          have := hold b (.inr ⟨i, by omega, hb⟩)
          omega
        · simp only [if_neg e2]
          exact h.f.ap i k (by omega) (by omega) hne b hb
    · have hz := g5.size
      by_cases e : i = G.length
      · simp only [if_pos e] at hb
        have := hqw b hb
        omega
      · simp only [if_neg e] at hb
        have := hold b (.inr ⟨i, by omega, hb⟩)
        omega
  have key : ∀ b, RS (some ⟨g, 0, none⟩) cap (G ++ [y]).length (fun i => QF (if i = G.length then (a2, c2) else pf i)) b → RS af cf G.length (fun i => QF (pf i)) b ∨ w.heap.size ≤ b := fun b hb => by
    rw [el] at hb
    rcases hb with hb | ⟨i, hi, hb⟩
    · simp [blk] at hb
      subst hb
      rcases hg with e | e
      · exact .inl (gin e)
      · exact .inr (by omega)
    · by_cases e : i = G.length
      · rw [if_pos e] at hb
        exact .inr (hqw b hb).1
      · rw [if_neg e] at hb
        exact .inl (.inr ⟨i, by omega, hb⟩)
  refine ⟨Rw.sm kV (on5.sm (fun b hb he => h.ap b hb (.inl (blk_eq he)))), K5, h.klo, fun b hb => ?_, fun b hb hf => ?_, ?_, ?_, h.r0⟩
  · rcases key b hb with hb | hb
    · exact h.flo b hb
    · omega
  · rcases key b hf with hf | hf
    · exact h.ap b hb hf
    · have := holdk b hb; omega
  · exact (h1.C.below b2).kept g5 (fun j hj => by have := h.flo j (.inl (blk_eq hj)); omega)
  · exact old_grown (grownBy_trans h.gr (bel_grown (bel_trans b1 b2))) g5 (fun j hj => h.flo j (.inl (blk_eq hj)))
theorem fmd_set (G : List FD) (y : FD) {i k : Nat} (hk : k < G.length) : fmd (G.set k y) i = if i = k then y else fmd G i := by
  unfold fmd
  by_cases e : i = k
  · subst e; simp [List.getD_eq_getElem?_getD, hk]
  · rw [if_neg e]
    simp [List.getD_eq_getElem?_getD, Ne.symm e]
/-- Another frame in the place of one. -/
theorem DQ.putF {w2 : World} {y : FD} {k g : Nat} {a2 : Option Addr} {c2 : Nat} (h : DQ w0 w r a n ca L al cl pl G (some ⟨g, 0, none⟩) cf pf) (hk : k < G.length) (o1 : w2.ownsRow w.heap.size 3 1 (.slice a2 y.xs.length c2) y.xs.length (y.xs.map (Value.int .i64))) (C2 : Cur w2 r a n ca) (g2 : w.grownBy w2 (some r)) :
    DQ w0 (((w2.setCell ⟨g, k * 3, none⟩ (.int .i64 y.s)).setCell ⟨g, k * 3 + 1, none⟩ (.slice a2 y.xs.length c2)).setCell ⟨g, k * 3 + 2, none⟩ (.bool y.q)) r a n ca L al cl pl (G.set k y) (some ⟨g, 0, none⟩) cf (fun i => if i = k then (a2, c2) else pf i) := by
  have h2 := h.grown C2 g2
  have hs2 := g2.size
  have hs0 := h.gr.size
  have h0 := h.r0
  have el : (G.set k y).length = G.length := by simp
  have hgf : RS (some ⟨g, 0, none⟩) cf G.length (fun i => QF (pf i)) g := .inl rfl
  have hg0 := h.flo g hgf
  have hgw : g < w.heap.size := Rw.slt h.f hgf
  have hqw : ∀ x, QF (a2, c2) x → w.heap.size ≤ x ∧ x < w2.heap.size := fun x hx => o1.lt x (blk_own hx)
  have hold : ∀ i, i < G.length → ∀ x, QF (pf i) x → x < w.heap.size := fun i hi x hx => h.f.lt i hi x hx
  have hs := store3 h2.f.row (fun i _ => rfl) hk (.int .i64 y.s) (.slice a2 y.xs.length c2) (.bool y.q)
  obtain ⟨w3, hw3⟩ : ∃ w3, ((w2.setCell ⟨g, k * 3, none⟩ (.int .i64 y.s)).setCell ⟨g, k * 3 + 1, none⟩ (.slice a2 y.xs.length c2)).setCell ⟨g, k * 3 + 2, none⟩ (.bool y.q) = w3 := ⟨_, rfl⟩
  have on : Only w2 w3 (fun b => b = g) := by rw [← hw3]; exact ((((Only.refl w2 (fun b => b = g)).setCell ⟨g, k * 3, none⟩ _ rfl).setCell ⟨g, k * 3 + 1, none⟩ _ rfl).setCell ⟨g, k * 3 + 2, none⟩ _ rfl)
  have hC3 : Cur w3 r a n ca := by rw [← hw3]; exact ((C2.off _ _ (by simp; omega)).off _ _ (by simp; omega)).off _ _ (by simp; omega)
  have hG3 : w0.grownBy w3 (some r) := by rw [← hw3]; exact gr_off (gr_off (gr_off h2.gr _ _ hg0) _ _ hg0) _ _ hg0
  rw [hw3] at hs ⊢
  have hz3 := on.size
  refine ⟨Rw.sm h2.k (on.sm (fun b hb e => by subst e; exact h.ap b hb hgf)), ?_, h.klo, fun b hb => ?_, fun b hb hf => ?_, hC3, hG3, h.r0⟩
  · rw [el]
    refine ⟨owns_congr hs (fun i hi => ?_), fun i hi => ?_, fun i hi => fix_f _ _, fun i hi x hx => ?_, fun i j hi hj hne b hb => ?_, fun i hi b hb => ?_⟩
    · rw [fmd_set G y hk]
      by_cases e : i = k
      · simp [e, fcells]
      · simp [e]
    · rw [fmd_set G y hk]
      by_cases e : i = k
      · simp only [if_pos e]
        exact fix_f y (a2, c2) w2 w3 (on.sm (fun b hb he => by have := hqw b hb; omega)) (owns_base o1 (Nat.zero_le _))
      · simp only [if_neg e]
        exact fix_f _ _ w2 w3 (on.sm (fun b hb he => by subst he; exact h.f.out i hi b rfl hb)) (h2.f.el i hi)
    · simp [blk] at hx
      subst hx
      by_cases e : i = k
      · simp only [if_pos e]
        intro hq
        have := hqw _ hq
        omega
      · simp only [if_neg e]
        exact h.f.out i hi _ rfl
    · by_cases e1 : i = k
      · simp only [if_pos e1] at hb
        simp only [if_neg (show ¬ j = k by omega)]
        intro hq
        have := hqw b hb
        have := hold j hj b hq
        omega
      · simp only [if_neg e1] at hb
        by_cases e2 : j = k
        · simp only [if_pos e2]
          intro hq
          have := hqw b hq
          have := hold i hi b hb
          omega
        · simp only [if_neg e2]
          exact h.f.ap i j hi hj hne b hb
    · by_cases e : i = k
      · simp only [if_pos e] at hb
        have := hqw b hb
        omega
      · simp only [if_neg e] at hb
        have := hold i hi b hb
        omega
  · rw [el] at hb
    rcases hb with hb | ⟨i, hi, hb⟩
    · exact h.flo b (.inl hb)
    · by_cases e : i = k
      · rw [if_pos e] at hb
        have := hqw b hb
        omega
      · rw [if_neg e] at hb
        exact h.flo b (.inr ⟨i, hi, hb⟩)
  · rw [el] at hf
    rcases hf with hf | ⟨i, hi, hf⟩
    · exact h.ap b hb (.inl hf)
    · by_cases e : i = k
      · rw [if_pos e] at hf
        have := hqw b hf
        have := Rw.slt h.k hb
        omega
      · rw [if_neg e] at hf
        exact h.ap b hb (.inr ⟨i, hi, hf⟩)
/-- No block yet. -/
theorem DQ.lit (h : DQ w0 w r a n ca [] none 0 (fun _ => (none, 0)) G af cf pf) : DQ w0 (w.alloc (.cells #[] 27)) r a n ca [] (some ⟨w.heap.size, 0, none⟩) 0 (fun _ => (none, 0)) G af cf pf := by
  have b := bel_alloc (Below.refl w.heap.size w) (.cells #[] 27)
  have h1 := h.below b
  have hs := h.gr.size
  refine ⟨⟨own_litE w 27 2 0 (Nat.zero_le _), fun i hi => absurd hi (Nat.not_lt_zero i), fun i hi => absurd hi (Nat.not_lt_zero i), fun i hi => absurd hi (Nat.not_lt_zero i), fun i k hi => absurd hi (Nat.not_lt_zero i), fun i hi => absurd hi (Nat.not_lt_zero i)⟩, h1.f, fun x hx => ?_, h.flo, fun x hx hf => ?_, h1.C, h1.gr, h.r0⟩
  · rcases hx with hx | ⟨i, hi, _⟩
    · simp [blk] at hx; omega
    · exact absurd hi (Nat.not_lt_zero i)
  · rcases hx with hx | ⟨i, hi, _⟩
    · simp [blk] at hx
      have := Rw.slt h.f hf
      omega
    · exact absurd hi (Nat.not_lt_zero i)
/-- Neither yet. -/
theorem DQ.start (C : Cur w r a n ca) (gr : w0.grownBy w (some r)) (h0 : r < w0.heap.size) : DQ w0 (w.alloc (.cells #[] 84)) r a n ca [] none 0 (fun _ => (none, 0)) [] (some ⟨w.heap.size, 0, none⟩) 0 (fun _ => (none, 0)) := by
  have b := bel_alloc (Below.refl w.heap.size w) (.cells #[] 84)
  have hs := gr.size
  refine ⟨⟨World.ownsRow_nil _ _ _ _, fun i hi => absurd hi (Nat.not_lt_zero i), fun i hi => absurd hi (Nat.not_lt_zero i), fun i hi => absurd hi (Nat.not_lt_zero i), fun i k hi => absurd hi (Nat.not_lt_zero i), fun i hi => absurd hi (Nat.not_lt_zero i)⟩, ⟨own_litE w 84 3 0 (Nat.zero_le _), fun i hi => absurd hi (Nat.not_lt_zero i), fun i hi => absurd hi (Nat.not_lt_zero i), fun i hi => absurd hi (Nat.not_lt_zero i), fun i k hi => absurd hi (Nat.not_lt_zero i), fun i hi => absurd hi (Nat.not_lt_zero i)⟩, fun x hx => ?_, fun x hx => ?_, fun x hx => ?_, C.below b, grownBy_trans gr (bel_grown b), h0⟩
  · rcases hx with hx | ⟨i, hi, _⟩
    · simp [blk] at hx
    · exact absurd hi (Nat.not_lt_zero i)
  · rcases hx with hx | ⟨i, hi, _⟩
    · simp [blk] at hx; omega
    · exact absurd hi (Nat.not_lt_zero i)
  · rcases hx with hx | ⟨i, hi, _⟩
    · simp [blk] at hx
    · exact absurd hi (Nat.not_lt_zero i)
end
end Go.Proofs.Ytkamhinklhcbaaa
