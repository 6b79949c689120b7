/- Rows of harts: what a reader is told; what the law's eqHartS, toHartS, markHartS, heldHartS do. -/
import Derived.Test.YtpahjfijpjgdnaaRwC
import Derived.Test.YtpahjfijpjgdnaaHr9
namespace Go.Proofs.Ytpahjfijpjgdnaa
open Go.RowKit
set_option linter.unusedVariables false

/-- What a hart says: its words, its place, its state. -/
structure TD where
  xs : List Int
  pc : Int
  st : Int
def htcells (d : TD) (p : Pl) : List Value := [.slice p.1 d.xs.length p.2, .int .i64 d.pc, .int .i64 d.st]
def TR (w : World) (a : Option Addr) (n : Nat) (d : Nat → TD) (p : Nat → Pl) : Prop := n ≤ 1048577 ∧ VRow w a (chunks n fun i => htcells (d i) (p i)) ∧ ∀ i, i < n → Row .i64 w (p i).1 (d i).xs
theorem TR.below {w w' : World} {a : Option Addr} {n : Nat} {d : Nat → TD} {p : Nat → Pl} (h : TR w a n d p) (hb : Below w.heap.size w w') : TR w' a n d p := ⟨h.1, h.2.1.below hb, fun i hi => (h.2.2 i hi).below hb⟩
theorem TR.at {w : World} {a : Option Addr} {n : Nat} {d : Nat → TD} {p : Nat → Pl} (h : TR w a n d p) {i : Nat} (hi : i < n) :
    ∃ b off, a = some ⟨b, off, none⟩ ∧ w.cell? ⟨b, off + i * 3, none⟩ = some (.slice (p i).1 (d i).xs.length (p i).2) ∧ w.cell? ⟨b, off + i * 3 + 1, none⟩ = some (.int .i64 (d i).pc) ∧ w.cell? ⟨b, off + i * 3 + 2, none⟩ = some (.int .i64 (d i).st) := by
  obtain ⟨b, off, rfl, hc⟩ := h.2.1.chunk (s := 3) (fun i _ => rfl) (by decide) hi
  exact ⟨b, off, rfl, hc 0 _ rfl, hc 1 _ rfl, hc 2 _ rfl⟩

def ET (d : TD) (p : Pl) (w : World) : Prop := w.ownsRow 0 3 1 (.slice p.1 d.xs.length p.2) d.xs.length (d.xs.map (Value.int .i64))
def QT (p : Pl) (b : Nat) : Prop := blk p = some b
theorem fix_t (d : TD) (p : Pl) : Fix (QT p) (ET d p) := fun w w' k h => owns_sm h k (fun j hj => blk_eq hj)

/-- A row of harts that is owned, each with its words. -/
def TO (w : World) (a : Option Addr) (c n : Nat) (d : Nat → TD) (p : Nat → Pl) : Prop := Rw w 46 3 a c n n (fun i => htcells (d i) (p i)) (fun i => QT (p i)) (fun i => ET (d i) (p i))
theorem TO.tr {w : World} {a : Option Addr} {c n : Nat} {d : Nat → TD} {p : Nat → Pl} (h : TO w a c n d p) (hn : n ≤ 1048576) (hx : ∀ i, i < n → (d i).xs.length ≤ 1048576) : TR w a n d p :=
  ⟨by omega, owns_vrow' h.row (by rw [chunks_length (s := 3) n (fun i _ => rfl)]; omega), fun i hi => owns_row' (h.el i hi) (by have := hx i hi; omega)⟩
abbrev TTw (w : World) (lo : Nat) (a : Option Addr) (c n k : Nat) (d : Nat → TD) (p : Nat → Pl) (z : Nat → List Value) : Prop := Tw w lo 46 3 a c n k (fun i => htcells (d i) (p i)) z (fun i => QT (p i)) (fun i => ET (d i) (p i))
def t0 : List Value := [.slice none 0 0, .int .i64 0, .int .i64 0]

theorem hart_put {w w2 : World} {lo g c n k : Nat} {d : Nat → TD} {p : Nat → Pl} {z : Nat → List Value} (h : TTw w lo (some ⟨g, 0, none⟩) c n k d p z) (hz : ∀ i, i < n → (z i).length = 3) (hk : k < n) (b : Below w.heap.size w w2) (hlo : lo ≤ w.heap.size) {a2 : Option Addr} {c2 : Nat} (o2 : w2.ownsRow w.heap.size 3 1 (.slice a2 (d k).xs.length c2) (d k).xs.length ((d k).xs.map (Value.int .i64))) :
    TTw (((w2.setCell ⟨g, k * 3, none⟩ (.slice a2 (d k).xs.length c2)).setCell ⟨g, k * 3 + 1, none⟩ (.int .i64 (d k).pc)).setCell ⟨g, k * 3 + 2, none⟩ (.int .i64 (d k).st)) lo (some ⟨g, 0, none⟩) c n (k + 1) d (fun i => if i = k then (a2, c2) else p i) z := by
  have hr := owns_below h.r.row b
  have hf : ∀ i, i < n → ((fun i => if i < k then htcells (d i) (p i) else z i) i).length = 3 := fun i hi => by dsimp only; split; rfl; exact hz i hi
  have hs := store3 hr hf hk (.slice a2 (d k).xs.length c2) (.int .i64 (d k).pc) (.int .i64 (d k).st)
  have on : Only w2 (((w2.setCell ⟨g, k * 3, none⟩ (.slice a2 (d k).xs.length c2)).setCell ⟨g, k * 3 + 1, none⟩ (.int .i64 (d k).pc)).setCell ⟨g, k * 3 + 2, none⟩ (.int .i64 (d k).st)) (fun b => b = g) := (((Only.refl w2 (fun b => b = g)).setCell ⟨g, k * 3, none⟩ _ rfl).setCell ⟨g, k * 3 + 1, none⟩ _ rfl).setCell ⟨g, k * 3 + 2, none⟩ _ rfl
  refine (h.step b hlo on hs (E' := ET (d k) (a2, c2)) (owns_base o2 (Nat.zero_le _)) (fix_t _ _) (fun x hx => o2.lt x (blk_own hx))).congr (fun i hi => ?_) (fun i hi => ?_) (fun i hi => ?_)
  all_goals
    by_cases e : i = k
    · subst e; simp [htcells]
    · simp [e]

end Go.Proofs.Ytpahjfijpjgdnaa
