/- HomM and NdM: see the heads of the parts. -/
import Derived.Test.YtmhgmdohibldoaaHom
import Derived.Test.YtmhgmdohibldoaaNd
import Derived.Test.YtmhgmdohibldoaaKeep
/- What the law's small functions over homes do: markHome and heldHome of a home for whom nobody waits, and what they call. -/
namespace Go.Proofs.Ytmhgmdohibldoaa
open Go.RowKit
set_option linter.unusedVariables false

/-- What is marked: so many truth values, counted on from k. -/
def mkb (k : Int) (n : Nat) : List Bool := (List.range n).map fun (i : Nat) => (k + (i : Int)) % 3 == 0
theorem mkb_length (k : Int) (n : Nat) : (mkb k n).length = n := by simp [mkb]
theorem mkb_get (k : Int) (n i : Nat) (h : i < n) : (mkb k n).getD i false = ((k + (i : Int)) % 3 == 0) := by
  simp [mkb, h]
theorem mkb_succ (k : Int) (n : Nat) : mkb k (n + 1) = mkb k n ++ [((k + (n : Int)) % 3 == 0)] := by
  simp [mkb, List.range_succ]






end Go.Proofs.Ytmhgmdohibldoaa

/- What the law's markFrameS, markSenderS, markReceiverS and the like of 'held' do at rows whose lists are empty. -/
namespace Go.Proofs.Ytmhgmdohibldoaa
open Go.RowKit
set_option linter.unusedVariables false

theorem owns_chunk {w : World} {lo e s n g c : Nat} {f : Nat → List Value} (h : w.ownsRow lo e s (.slice (some ⟨g, 0, none⟩) n c) n (chunks n f)) (hf : ∀ i, i < n → (f i).length = s) {i j : Nat} (hi : i < n) (hj : j < s) :
    w.cell? ⟨g, i * s + j, none⟩ = (f i)[j]? := by
  have h2 : (i + 1) * s ≤ n * s := Nat.mul_le_mul_right s hi
  rw [Nat.succ_mul] at h2
  rw [h.cellAt (i * s + j) (by omega), chunks_get hf hi hj]
theorem owns_stored {w : World} {lo e s n g c : Nat} {f : Nat → List Value} (h : w.ownsRow lo e s (.slice (some ⟨g, 0, none⟩) n c) n (chunks n f)) (hf : ∀ i, i < n → (f i).length = s) {i j : Nat} (hi : i < n) (hj : j < s) (u : Value) :
    (w.setCell ⟨g, i * s + j, none⟩ u).ownsRow lo e s (.slice (some ⟨g, 0, none⟩) n c) n (chunks n (fun x => if x = i then (f x).set j u else f x)) := by
  have h2 := (h.stored (i * s + j) u).1
  rw [chunks_set hf hi hj] at h2
  exact h2
theorem owns_congr {w : World} {lo e s n : Nat} {v : Value} {f g : Nat → List Value} (h : w.ownsRow lo e s v n (chunks n f)) (hfg : ∀ i, i < n → f i = g i) : w.ownsRow lo e s v n (chunks n g) := by
  rw [← chunks_congr hfg]
  exact h
theorem set_len {f : Nat → List Value} {n s : Nat} (hf : ∀ i, i < n → (f i).length = s) (i j : Nat) (u : Value) : ∀ x, x < n → ((fun x => if x = i then (f x).set j u else f x) x).length = s := fun x hx => by
  dsimp only
  by_cases e : x = i
  · rw [if_pos e, List.length_set]; exact hf x hx
  · rw [if_neg e]; exact hf x hx





/-- A frame without words; a sender that queues nothing. -/
def f0 (s : Int) (q : Bool) : List Value := [.int .i64 s, .slice none 0 0, .bool q]
def s0 (b : Int) : List Value := [.int .i64 b, .slice none 0 0]
/-- Marked: frames, senders, receivers, counted on from k. -/
def mf (k : Int) (i : Nat) : List Value := f0 (k + 2 * (i : Int)) ((k + 2 * (i : Int) + 1) % 3 == 0)
def ms' (k : Int) (i : Nat) : List Value := s0 (k + i)
def mg (k : Int) (i : Nat) : List Value := gcells (k + i)

theorem upto_step {n : Nat} {j : Nat} {m o : Nat → List Value} {c : List Value} (hc : c = m j) : ∀ i, i < n → (if i = j then c else (if i < j then m i else o i)) = (if i < j + 1 then m i else o i) := fun i _ => by
  by_cases h : i = j
  · subst h
    rw [if_pos rfl, if_pos (by omega), hc]
  · rw [if_neg h]
    by_cases h2 : i < j
    · rw [if_pos h2, if_pos (by omega)]
    · rw [if_neg h2, if_neg (by omega)]

theorem mark_f {w : World} {lo n g c j : Nat} {k : Int} {o : Nat → Int × Bool} (hr : w.ownsRow lo 71 3 (.slice (some ⟨g, 0, none⟩) n c) n (chunks n fun i => if i < j then mf k i else f0 (o i).1 (o i).2)) (hj : j < n) :
    ((w.setCell ⟨g, j * 3, none⟩ (.int .i64 (k + 2 * (j : Int)))).setCell ⟨g, j * 3 + 2, none⟩ (.bool ((k + 2 * (j : Int) + 1) % 3 == 0))).ownsRow lo 71 3 (.slice (some ⟨g, 0, none⟩) n c) n (chunks n fun i => if i < j + 1 then mf k i else f0 (o i).1 (o i).2) := by
  have hf : ∀ i, i < n → ((fun i => if i < j then mf k i else f0 (o i).1 (o i).2) i).length = 3 := fun i _ => by dsimp only; split <;> rfl
  have h1 := owns_stored hr hf hj (j := 0) (by decide) (.int .i64 (k + 2 * (j : Int)))
  have h2 := owns_stored h1 (set_len hf _ _ _) hj (j := 2) (by decide) (.bool ((k + 2 * (j : Int) + 1) % 3 == 0))
  refine owns_congr h2 (fun i hi => ?_)
  by_cases e : i = j
  · subst e
    simp [f0, mf]
  · try dsimp only
    rw [if_neg e, if_neg e]
    by_cases h : i < j
    · rw [if_pos h, if_pos (by omega)]
    · rw [if_neg h, if_neg (by omega)]

theorem grown_set {w wr : World} {lo e s n g c : Nat} {xs : List Value} (hg : w.grownBy wr (Value.slice (some ⟨g, 0, none⟩) n c).ownBlock) (hr : wr.ownsRow lo e s (.slice (some ⟨g, 0, none⟩) n c) n xs) (k : Nat) (u : Value) : w.grownBy (wr.setCell ⟨g, k, none⟩ u) (Value.slice (some ⟨g, 0, none⟩) n c).ownBlock :=
  grownBy_trans hg (hr.stored k u).2



theorem mark_s {w : World} {lo n g c j : Nat} {k : Int} {o : Nat → Int} (hr : w.ownsRow lo 82 2 (.slice (some ⟨g, 0, none⟩) n c) n (chunks n fun i => if i < j then ms' k i else s0 (o i))) (hj : j < n) :
    (w.setCell ⟨g, j * 2, none⟩ (.int .i64 (k + (j : Int)))).ownsRow lo 82 2 (.slice (some ⟨g, 0, none⟩) n c) n (chunks n fun i => if i < j + 1 then ms' k i else s0 (o i)) := by
  have hf : ∀ i, i < n → ((fun i => if i < j then ms' k i else s0 (o i)) i).length = 2 := fun i _ => by dsimp only; split <;> rfl
  have h1 := owns_stored hr hf hj (j := 0) (by decide) (.int .i64 (k + (j : Int)))
  refine owns_congr h1 (fun i hi => ?_)
  by_cases e : i = j
  · subst e
    simp [s0, ms']
  · try dsimp only
    rw [if_neg e]
    by_cases h : i < j
    · rw [if_pos h, if_pos (by omega)]
    · rw [if_neg h, if_neg (by omega)]



theorem mark_g {w : World} {lo n g c j : Nat} {k : Int} {o : Nat → Int} (hr : w.ownsRow lo 84 1 (.slice (some ⟨g, 0, none⟩) n c) n (chunks n fun i => if i < j then mg k i else gcells (o i))) (hj : j < n) :
    (w.setCell ⟨g, j, none⟩ (.int .i64 (k + (j : Int)))).ownsRow lo 84 1 (.slice (some ⟨g, 0, none⟩) n c) n (chunks n fun i => if i < j + 1 then mg k i else gcells (o i)) := by
  have hf : ∀ i, i < n → ((fun i => if i < j then mg k i else gcells (o i)) i).length = 1 := fun i _ => by dsimp only; split <;> rfl
  have h1 := owns_stored hr hf hj (j := 0) (by decide) (.int .i64 (k + (j : Int)))
  rw [Nat.mul_one, Nat.add_zero] at h1
  refine owns_congr h1 (fun i hi => ?_)
  by_cases e : i = j
  · subst e
    simp [gcells, mg]
  · try dsimp only
    rw [if_neg e]
    by_cases h : i < j
    · rw [if_pos h, if_pos (by omega)]
    · rw [if_neg h, if_neg (by omega)]


end Go.Proofs.Ytmhgmdohibldoaa
