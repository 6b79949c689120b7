/- Nd and NdM: see the heads of the parts. -/
import Derived.Test.YtpahjfijpjgdnaaRwC
import Derived.Test.YtpahjfijpjgdnaaHomM
import Derived.Test.YtpahjfijpjgdnaaHr9
import Derived.Test.YtpahjfijpjgdnaaFmR
import Derived.Test.YtpahjfijpjgdnaaSndTo
import Derived.Test.YtpahjfijpjgdnaaKeep
/- Rows by their elements; what a reader is told of a node; what the law's eqNode does. -/
namespace Go.Proofs.Ytpahjfijpjgdnaa
open Go.RowKit
set_option linter.unusedVariables false

structure HD where
  xs : List Int
  ow : Int
  bs : List Bool
  bz : Bool
  wh : Int
  wo : Bool
  ak : Int
  ws : List (Int × Bool)
structure HP where
  l : Pl
  r : Pl
  q : Pl
def hcells (d : HD) (p : HP) : List Value := [.slice p.l.1 d.xs.length p.l.2, .int .i64 d.ow, .slice p.r.1 d.bs.length p.r.2, .bool d.bz, .int .i64 d.wh, .bool d.wo, .int .i64 d.ak, .slice p.q.1 d.ws.length p.q.2]
def scells (b : Int) (p : Pl) (n : Nat) : List Value := [.int .i64 b, .slice p.1 n p.2]
def gcells (g : Int) : List Value := [.int .i64 g]

def HR2 (w : World) (a : Option Addr) (n : Nat) (d : Nat → HD) (p : Nat → HP) : Prop := n ≤ 1048577 ∧ VRow w a (chunks n fun i => hcells (d i) (p i)) ∧
  ∀ i, i < n → Row .i64 w (p i).l.1 (d i).xs ∧ VRow w (p i).r.1 (bv (d i).bs) ∧ VRow w (p i).q.1 (wv (d i).ws)
def SR (w : World) (a : Option Addr) (n : Nat) (b : Nat → Int) (y : Nat → List Say) (p : Nat → Pl) (ms : Nat → List M) : Prop := n ≤ 1048577 ∧ VRow w a (chunks n fun i => scells (b i) (p i) (y i).length) ∧
  ∀ i, i < n → MRow w (p i).1 (ms i) ∧ (ms i).map M.say = y i
def GR (w : World) (a : Option Addr) (n : Nat) (g : Nat → Int) : Prop := n ≤ 1048577 ∧ VRow w a (chunks n fun i => gcells (g i))

theorem HR2.below {w w' : World} {a : Option Addr} {n : Nat} {d : Nat → HD} {p : Nat → HP} (h : HR2 w a n d p) (hb : Below w.heap.size w w') : HR2 w' a n d p :=
  ⟨h.1, h.2.1.below hb, fun i hi => ⟨(h.2.2 i hi).1.below hb, (h.2.2 i hi).2.1.below hb, (h.2.2 i hi).2.2.below hb⟩⟩
theorem SR.below {w w' : World} {a : Option Addr} {n : Nat} {b : Nat → Int} {y : Nat → List Say} {p : Nat → Pl} {ms : Nat → List M} (h : SR w a n b y p ms) (hb : Below w.heap.size w w') : SR w' a n b y p ms :=
  ⟨h.1, h.2.1.below hb, fun i hi => ⟨(h.2.2 i hi).1.below hb, (h.2.2 i hi).2⟩⟩
theorem GR.below {w w' : World} {a : Option Addr} {n : Nat} {g : Nat → Int} (h : GR w a n g) (hb : Below w.heap.size w w') : GR w' a n g := ⟨h.1, h.2.below hb⟩

theorem HR2.at {w : World} {a : Option Addr} {n : Nat} {d : Nat → HD} {p : Nat → HP} (h : HR2 w a n d p) {i : Nat} (hi : i < n) :
    ∃ b off, a = some ⟨b, off, none⟩ ∧ w.cell? ⟨b, off + i * 8, none⟩ = some (.slice (p i).l.1 (d i).xs.length (p i).l.2) ∧ w.cell? ⟨b, off + i * 8 + 1, none⟩ = some (.int .i64 (d i).ow) ∧
      w.cell? ⟨b, off + i * 8 + 2, none⟩ = some (.slice (p i).r.1 (d i).bs.length (p i).r.2) ∧ w.cell? ⟨b, off + i * 8 + 3, none⟩ = some (.bool (d i).bz) ∧ w.cell? ⟨b, off + i * 8 + 4, none⟩ = some (.int .i64 (d i).wh) ∧
      w.cell? ⟨b, off + i * 8 + 5, none⟩ = some (.bool (d i).wo) ∧ w.cell? ⟨b, off + i * 8 + 6, none⟩ = some (.int .i64 (d i).ak) ∧ w.cell? ⟨b, off + i * 8 + 7, none⟩ = some (.slice (p i).q.1 (d i).ws.length (p i).q.2) := by
  obtain ⟨b, off, rfl, hc⟩ := h.2.1.chunk (s := 8) (fun i _ => rfl) (by decide) hi
  exact ⟨b, off, rfl, hc 0 _ rfl, hc 1 _ rfl, hc 2 _ rfl, hc 3 _ rfl, hc 4 _ rfl, hc 5 _ rfl, hc 6 _ rfl, hc 7 _ rfl⟩
theorem SR.at {w : World} {a : Option Addr} {n : Nat} {b : Nat → Int} {y : Nat → List Say} {p : Nat → Pl} {ms : Nat → List M} (h : SR w a n b y p ms) {i : Nat} (hi : i < n) :
    ∃ m off, a = some ⟨m, off, none⟩ ∧ w.cell? ⟨m, off + i * 2, none⟩ = some (.int .i64 (b i)) ∧ w.cell? ⟨m, off + i * 2 + 1, none⟩ = some (.slice (p i).1 (y i).length (p i).2) := by
  obtain ⟨b, off, rfl, hc⟩ := h.2.1.chunk (s := 2) (fun i _ => rfl) (by decide) hi
  exact ⟨b, off, rfl, hc 0 _ rfl, hc 1 _ rfl⟩
theorem GR.at {w : World} {a : Option Addr} {n : Nat} {g : Nat → Int} (h : GR w a n g) {i : Nat} (hi : i < n) :
    ∃ m off, a = some ⟨m, off, none⟩ ∧ w.cell? ⟨m, off + i, none⟩ = some (.int .i64 (g i)) := by
  obtain ⟨b, off, rfl, hc⟩ := h.2.chunk (s := 1) (fun i _ => rfl) (by decide) hi
  have := hc 0 _ rfl
  rw [Nat.mul_one, Nat.add_zero] at this
  exact ⟨b, off, rfl, this⟩
end Go.Proofs.Ytpahjfijpjgdnaa

/- What the law's markFrameS, markSenderS, markReceiverS and the like of 'held' do at rows whose lists are empty. -/
namespace Go.Proofs.Ytpahjfijpjgdnaa
open Go.RowKit
set_option linter.unusedVariables false





def s0 (b : Int) : List Value := [.int .i64 b, .slice none 0 0]
/-- Marked: frames, senders, receivers, counted on from k. -/
def mf (k : Int) (i : Nat) : List Value := f0 (k + 2 * (i : Int)) ((k + 2 * (i : Int) + 1) % 3 == 0)
def ms' (k : Int) (i : Nat) : List Value := s0 (k + i)
def mg (k : Int) (i : Nat) : List Value := gcells (k + i)

theorem mark_f {w : World} {lo n g c j : Nat} {k : Int} {o : Nat → Int × Bool} (hr : w.ownsRow lo 140 3 (.slice (some ⟨g, 0, none⟩) n c) n (chunks n fun i => if i < j then mf k i else f0 (o i).1 (o i).2)) (hj : j < n) :
    ((w.setCell ⟨g, j * 3, none⟩ (.int .i64 (k + 2 * (j : Int)))).setCell ⟨g, j * 3 + 2, none⟩ (.bool ((k + 2 * (j : Int) + 1) % 3 == 0))).ownsRow lo 140 3 (.slice (some ⟨g, 0, none⟩) n c) n (chunks n fun i => if i < j + 1 then mf k i else f0 (o i).1 (o i).2) := by
  have hf : ∀ i, i < n → ((fun i => if i < j then mf k i else f0 (o i).1 (o i).2) i).length = 3 := fun i _ => by dsimp only; split <;> rfl
  have h1 := owns_stored hr hf hj (j := 0) (by decide) (.int .i64 (k + 2 * (j : Int)))
  have h2 := owns_stored h1 (set_len hf _ _ _) hj (j := 2) (by decide) (.bool ((k + 2 * (j : Int) + 1) % 3 == 0))
  refine owns_congr h2 (fun i hi => ?_)
  by_cases e : i = j
  · subst e
    simp [f0, mf]
  · try dsimp only
    rw [if_neg e, if_neg e]
    by_cases h : i < j
    · rw [if_pos h, if_pos (by omega)]
    · rw [if_neg h, if_neg (by omega)]

theorem grown_set {w wr : World} {lo e s n g c : Nat} {xs : List Value} (hg : w.grownBy wr (Value.slice (some ⟨g, 0, none⟩) n c).ownBlock) (hr : wr.ownsRow lo e s (.slice (some ⟨g, 0, none⟩) n c) n xs) (k : Nat) (u : Value) : w.grownBy (wr.setCell ⟨g, k, none⟩ u) (Value.slice (some ⟨g, 0, none⟩) n c).ownBlock :=
  grownBy_trans hg (hr.stored k u).2



theorem mark_s {w : World} {lo n g c j : Nat} {k : Int} {o : Nat → Int} (hr : w.ownsRow lo 149 2 (.slice (some ⟨g, 0, none⟩) n c) n (chunks n fun i => if i < j then ms' k i else s0 (o i))) (hj : j < n) :
    (w.setCell ⟨g, j * 2, none⟩ (.int .i64 (k + (j : Int)))).ownsRow lo 149 2 (.slice (some ⟨g, 0, none⟩) n c) n (chunks n fun i => if i < j + 1 then ms' k i else s0 (o i)) := by
  have hf : ∀ i, i < n → ((fun i => if i < j then ms' k i else s0 (o i)) i).length = 2 := fun i _ => by dsimp only; split <;> rfl
  have h1 := owns_stored hr hf hj (j := 0) (by decide) (.int .i64 (k + (j : Int)))
  refine owns_congr h1 (fun i hi => ?_)
  by_cases e : i = j
  · subst e
    simp [s0, ms']
  · try dsimp only
    rw [if_neg e]
    by_cases h : i < j
    · rw [if_pos h, if_pos (by omega)]
    · rw [if_neg h, if_neg (by omega)]



theorem mark_g {w : World} {lo n g c j : Nat} {k : Int} {o : Nat → Int} (hr : w.ownsRow lo 152 1 (.slice (some ⟨g, 0, none⟩) n c) n (chunks n fun i => if i < j then mg k i else gcells (o i))) (hj : j < n) :
    (w.setCell ⟨g, j, none⟩ (.int .i64 (k + (j : Int)))).ownsRow lo 152 1 (.slice (some ⟨g, 0, none⟩) n c) n (chunks n fun i => if i < j + 1 then mg k i else gcells (o i)) := by
  have hf : ∀ i, i < n → ((fun i => if i < j then mg k i else gcells (o i)) i).length = 1 := fun i _ => by dsimp only; split <;> rfl
  have h1 := owns_stored hr hf hj (j := 0) (by decide) (.int .i64 (k + (j : Int)))
  rw [Nat.mul_one, Nat.add_zero] at h1
  refine owns_congr h1 (fun i hi => ?_)
  by_cases e : i = j
  · subst e
    simp [gcells, mg]
  · try dsimp only
    rw [if_neg e]
    by_cases h : i < j
    · rw [if_pos h, if_pos (by omega)]
    · rw [if_neg h, if_neg (by omega)]


end Go.Proofs.Ytpahjfijpjgdnaa
