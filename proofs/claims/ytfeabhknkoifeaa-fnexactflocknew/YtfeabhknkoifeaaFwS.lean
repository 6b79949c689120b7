/- A home's list laid anew in an owned node, and in an owned row of nodes. -/
import Derived.Test.YtfeabhknkoifeaaWoO0
namespace Go.Proofs.Ytfeabhknkoifeaa
open Go.RowKit
set_option linter.unusedVariables false

/-- Element j is laid anew: in blocks that it had, or in new ones. -/
theorem Rw.swap {w w2 w3 : World} {e s : Nat} {g c n m : Nat} {f f' : Nat → List Value} {Q : Nat → Nat → Prop} {E : Nat → World → Prop} (h : Rw w e s (some ⟨g, 0, none⟩) c n m f Q E) {j : Nat} (hj : j < m) {E' : World → Prop} {Q' : Nat → Prop}
    (b : Below w.heap.size w w2) (k : Only w2 w3 (fun x => x = g ∨ Q j x)) (row : w3.ownsRow 0 e s (.slice (some ⟨g, 0, none⟩) n c) n (chunks n f')) (he : E' w3) (hfix : Fix Q' E') (hQ : ∀ x, Q' x → Q j x ∨ (w.heap.size ≤ x ∧ x < w3.heap.size)) :
    Rw w3 e s (some ⟨g, 0, none⟩) c n m f' (fun i => if i = j then Q' else Q i) (fun i => if i = j then E' else E i) := by
  have hg : g < w.heap.size := (h.row.lt g rfl).2
  have hz : w.heap.size ≤ w3.heap.size := Nat.le_trans b.size k.size
  refine ⟨row, fun i hi => ?_, fun i hi => ?_, fun i hi g' hg' => ?_, fun i k' hi hk hne x hx => ?_, fun i hi x hx => ?_⟩
  · by_cases e' : i = j
    · simp only [if_pos e']; exact he
    · simp only [if_neg e']
      refine h.fix i hi w w3 (Sm.trans (sm_bel b) (k.sm (fun x hx hs => ?_))) (h.el i hi)
      rcases hs with rfl | hs
      · exact h.out i hi _ rfl hx
      · exact h.ap i j hi hj e' x hx hs
  · by_cases e' : i = j
    · simp only [if_pos e']; exact hfix
    · simp only [if_neg e']; exact h.fix i hi
  · simp only [blk, Option.map_some, Option.some.injEq] at hg'
    subst hg'
    by_cases e' : i = j
    · simp only [if_pos e']
      intro hq
      rcases hQ _ hq with h1 | h1
      · exact h.out j hj _ rfl h1
      · omega
    · simp only [if_neg e']; exact h.out i hi _ rfl
  · by_cases e1 : i = j
    · have e2 : ¬ k' = j := fun e2 => hne (e1.trans e2.symm)
      simp only [if_pos e1] at hx
      simp only [if_neg e2]
      intro h2
      rcases hQ _ hx with h1 | h1
      · exact h.ap k' j hk hj e2 x h2 h1
      · have := h.lt k' hk x h2; omega
    · simp only [if_neg e1] at hx
      by_cases e2 : k' = j
      · simp only [if_pos e2]
        intro h2
        rcases hQ _ h2 with h1 | h1
        · exact h.ap i j hi hj e1 x hx h1
        · have := h.lt i hi x hx; omega
      · simp only [if_neg e2]; exact h.ap i k' hi hk hne x hx
  · by_cases e1 : i = j
    · simp only [if_pos e1] at hx
      rcases hQ _ hx with h1 | h1
      · have := h.lt j hj x h1; omega
      · exact h1.2
    · simp only [if_neg e1] at hx
      have := h.lt i hi x hx; omega

/-- Home j with another list. -/
def setHD (d : Nat → HD) (j : Nat) (ys : List Int) : Nat → HD := fun i => if i = j then { d j with xs := ys } else d i
def setHP (p : Nat → HP) (j : Nat) (l : Pl) : Nat → HP := fun i => if i = j then { p j with l := l } else p i
theorem homes_list {w w2 : World} {g c n : Nat} {d : Nat → HD} {p : Nat → HP} (h : HOw w (some ⟨g, 0, none⟩) c n d p) {j : Nat} (hj : j < n) (b : Below w.heap.size w w2) {ys : List Int} {a2 : Option Addr} {c2 : Nat} (o2 : w2.ownsRow w.heap.size 3 1 (.slice a2 ys.length c2) ys.length (ys.map (Value.int .i64))) :
    HOw (w2.setCell ⟨g, j * 8, none⟩ (.slice a2 ys.length c2)) (some ⟨g, 0, none⟩) c n (setHD d j ys) (setHP p j (a2, c2)) := by
  have hg : g < w.heap.size := (h.row.lt g rfl).2
  have on : Only w2 (w2.setCell ⟨g, j * 8, none⟩ (.slice a2 ys.length c2)) (fun x => x = g) := (Only.refl w2 _).setCell _ _ rfl
  have row := owns_stored (owns_below h.row b) (fun i _ => rfl) hj (j := 0) (by decide) (.slice a2 ys.length c2)
  have hE := h.el j hj
  have l2 : ∀ x, blk (a2, c2) = some x → w.heap.size ≤ x ∧ x < w2.heap.size := fun x hx => o2.lt x (blk_own (p := (a2, c2)) hx)
  have he : EH { d j with xs := ys } { p j with l := (a2, c2) } (w2.setCell ⟨g, j * 8, none⟩ (.slice a2 ys.length c2)) :=
    ⟨owns_only (owns_base o2 (Nat.zero_le _)) on (fun x hx e => by have := l2 x (blk_eq hx); omega), owns_only (owns_below hE.2.1 b) on (fun x hx e => h.out j hj g rfl (by subst e; exact .inr (.inl (blk_eq hx)))), owns_only (owns_below hE.2.2 b) on (fun x hx e => h.out j hj g rfl (by subst e; exact .inr (.inr (blk_eq hx))))⟩
  refine (h.swap hj b (on.more (fun x hx => .inl hx)) row he (fix_h _ _) (fun x hx => ?_)).congr (fun i hi => ?_) (fun i hi => ?_) (fun i hi => ?_)
  · rcases hx with hx | hx | hx
    · refine .inr ⟨(l2 x hx).1, ?_⟩
      have := (l2 x hx).2
      simpa using this
    · exact .inl (.inr (.inl hx))
    · exact .inl (.inr (.inr hx))
  · by_cases e : i = j
    · subst e; simp [setHD, setHP, hcells]
    · simp [setHD, setHP, e]
  · by_cases e : i = j
    · subst e; simp [setHP]
    · simp [setHP, e]
  · by_cases e : i = j
    · subst e; simp [setHP, setHD]
    · simp [setHP, setHD, e]

def setND (d : ND) (j : Nat) (ys : List Int) : ND := { d with h := setHD d.h j ys }
def setNP (p : NP) (j : Nat) (l : Pl) : NP := { p with hp := setHP p.hp j l }
theorem nbs_set {d : ND} {p : NP} {j : Nat} {ys : List Int} {l : Pl} {x : Nat} (hx : NBs (setND d j ys) (setNP p j l) x) : NBs d p x ∨ blk l = some x := by
  rcases hx with hx | hx | hx
  · exact .inl (.inl hx)
  · rcases hx with hx | ⟨i, hi, hx⟩
    · exact .inl (.inr (.inl (.inl hx)))
    · by_cases e : i = j
      · subst e
        simp only [setNP, setHP, if_pos] at hx
        rcases hx with hx | hx
        · exact .inr hx
        · exact .inl (.inr (.inl (.inr ⟨i, hi, .inr hx⟩)))
      · simp only [setNP, setHP, if_neg e] at hx
        exact .inl (.inr (.inl (.inr ⟨i, hi, hx⟩)))
  · exact .inl (.inr (.inr hx))
theorem node_list {w w2 : World} {d : ND} {p : NP} (h : NOw w d p) {g c : Nat} (hp : p.h = (some ⟨g, 0, none⟩, c)) {j : Nat} (hj : j < d.nh) (b : Below w.heap.size w w2) {ys : List Int} {a2 : Option Addr} {c2 : Nat} (o2 : w2.ownsRow w.heap.size 3 1 (.slice a2 ys.length c2) ys.length (ys.map (Value.int .i64))) :
    NOw (w2.setCell ⟨g, j * 8, none⟩ (.slice a2 ys.length c2)) (setND d j ys) (setNP p j (a2, c2)) := by
  have hh := h.h
  rw [hp] at hh
  have hgb : RS p.h.1 p.h.2 d.nh (fun i => QH (p.hp i)) g := .inl (by rw [hp]; rfl)
  have l2 : ∀ x, blk (a2, c2) = some x → w.heap.size ≤ x ∧ x < w2.heap.size := fun x hx => o2.lt x (blk_own (p := (a2, c2)) hx)
  have on : Only w2 (w2.setCell ⟨g, j * 8, none⟩ (.slice a2 ys.length c2)) (fun x => x = g) := (Only.refl w2 _).setCell _ _ rfl
  have sm : ∀ P : Nat → Prop, (¬ P g) → Sm P w (w2.setCell ⟨g, j * 8, none⟩ (.slice a2 ys.length c2)) := fun P hP => Sm.trans (sm_bel b) (on.sm (fun x hx e => hP (by rw [← e]; exact hx)))
  have key : ∀ x, RS p.h.1 p.h.2 d.nh (fun i => QH (setHP p.hp j (a2, c2) i)) x → RS p.h.1 p.h.2 d.nh (fun i => QH (p.hp i)) x ∨ w.heap.size ≤ x := fun x hx => by
    rcases hx with hx | ⟨i, hi, hx⟩
    · exact .inl (.inl hx)
    · by_cases e : i = j
      · subst e
        simp only [setHP, if_pos] at hx
        rcases hx with hx | hx
        · exact .inr (l2 x hx).1
        · exact .inl (.inr ⟨i, hi, .inr hx⟩)
      · simp only [setHP, if_neg e] at hx
        exact .inl (.inr ⟨i, hi, hx⟩)
  have hl := homes_list hh hj b o2
  refine ⟨Rw.sm h.f (sm _ (fun hx => h.fh g hx hgb)), ?_, Rw.sm h.o (sm _ (fun hx => h.ho g hgb hx)), GO.sm h.i (sm (fun x => blk p.i = some x) (h.hi g hgb)) (fun x hx => hx), h.e, fun x hx hy => ?_, h.fo, h.fi, fun x hx hy => ?_, fun x hx hy => ?_, h.oi⟩
  · show HOw _ p.h.1 p.h.2 d.nh _ _
    rw [hp]
    exact hl
  · rcases key x hy with hy | hy
    · exact h.fh x hx hy
    · have := Rw.slt h.f hx; omega
  · rcases key x hx with hx | hx
    · exact h.ho x hx hy
    · have := Rw.slt h.o hy; omega
  · rcases key x hx with hx | hx
    · exact h.hi x hx hy
    · have := (World.ownsRow.lt h.i x (blk_own hy)).2; omega

/-- Home j of node i with another list, in a row of nodes. -/
theorem nodes_list {w w2 : World} {G c n : Nat} {d : Nat → ND} {p : Nat → NP} (h : NsO w (some ⟨G, 0, none⟩) c n d p) {i : Nat} (hi : i < n) {g c1 : Nat} (hp : (p i).h = (some ⟨g, 0, none⟩, c1)) {j : Nat} (hj : j < (d i).nh) (b : Below w.heap.size w w2) {ys : List Int} {a2 : Option Addr} {c2 : Nat} (o2 : w2.ownsRow w.heap.size 3 1 (.slice a2 ys.length c2) ys.length (ys.map (Value.int .i64))) :
    NsO (w2.setCell ⟨g, j * 8, none⟩ (.slice a2 ys.length c2)) (some ⟨G, 0, none⟩) c n (fun x => if x = i then setND (d i) j ys else d x) (fun x => if x = i then setNP (p i) j (a2, c2) else p x) := by
  have hgb : NBs (d i) (p i) g := .inr (.inl (.inl (by rw [hp]; rfl)))
  have hGg : G ≠ g := fun e => h.out i hi G rfl (by rw [e]; exact hgb)
  have l2 : ∀ x, blk (a2, c2) = some x → w.heap.size ≤ x ∧ x < w2.heap.size := fun x hx => o2.lt x (blk_own (p := (a2, c2)) hx)
  have on : Only w2 (w2.setCell ⟨g, j * 8, none⟩ (.slice a2 ys.length c2)) (fun x => x = g) := (Only.refl w2 _).setCell _ _ rfl
  have row := owns_only (owns_below h.row b) on (fun x hx e => by simp [Value.ownBlock] at hx; omega)
  refine (h.swap hi b (on.more (fun x hx => .inr (by rw [hx]; exact hgb))) row (E' := fun w => NOw w (setND (d i) j ys) (setNP (p i) j (a2, c2))) (node_list (h.el i hi) hp hj b o2) (fix_n _ _) (fun x hx => ?_)).congr (fun x hx => ?_) (fun x hx => ?_) (fun x hx => ?_)
  · rcases nbs_set hx with hx | hx
    · exact .inl hx
    · refine .inr ⟨(l2 x hx).1, ?_⟩
      have := (l2 x hx).2
      simpa using this
  · by_cases e : x = i
    · subst e; simp [nlist, setND, setNP]
    · simp [e]
  · by_cases e : x = i
    · subst e; simp
    · simp [e]
  · by_cases e : x = i
    · subst e; simp
    · simp [e]
end Go.Proofs.Ytfeabhknkoifeaa
