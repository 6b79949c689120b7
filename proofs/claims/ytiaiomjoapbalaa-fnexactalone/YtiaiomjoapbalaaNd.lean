/- Rows by their elements; what a reader is told of a node; what the law's eqNode does. -/
import Derived.Test.YtiaiomjoapbalaaHom
import Derived.Test.YtiaiomjoapbalaaFrm
import Derived.Test.YtiaiomjoapbalaaSndTo
namespace Go.Proofs.Ytiaiomjoapbalaa
open Go.RowKit
set_option linter.unusedVariables false

/-- A row's cells, element by element. -/
def chunks (n : Nat) (f : Nat → List Value) : List Value := (List.range n).flatMap f

theorem chunks_succ (n : Nat) (f : Nat → List Value) : chunks (n + 1) f = chunks n f ++ f n := by simp [chunks, List.range_succ]
theorem chunks_zero (f : Nat → List Value) : chunks 0 f = [] := rfl
theorem chunks_length {s : Nat} (n : Nat) {f : Nat → List Value} (hf : ∀ i, i < n → (f i).length = s) : (chunks n f).length = n * s := by
  induction n with
  | zero => simp [chunks]
  | succ n ih => rw [chunks_succ, List.length_append, ih (fun i hi => hf i (by omega)), hf n (by omega), Nat.succ_mul]
theorem chunks_get {s n : Nat} {f : Nat → List Value} (hf : ∀ i, i < n → (f i).length = s) {i j : Nat} (hi : i < n) (hj : j < s) : (chunks n f)[i * s + j]? = (f i)[j]? := by
  induction n with
  | zero => omega
  | succ n ih =>
    have hl := chunks_length n (f := f) (s := s) (fun i hi => hf i (by omega))
    rw [chunks_succ]
    by_cases h : i < n
    · have h2 : (i + 1) * s ≤ n * s := Nat.mul_le_mul_right s h
      rw [Nat.succ_mul] at h2
      rw [List.getElem?_append_left (by omega)]
      exact ih (fun i hi => hf i (by omega)) h
    · obtain rfl : i = n := by omega
      rw [List.getElem?_append_right (by omega), hl]
      congr 1
      omega
theorem chunks_congr {n : Nat} {f g : Nat → List Value} (h : ∀ i, i < n → f i = g i) : chunks n f = chunks n g := by
  induction n with
  | zero => rfl
  | succ n ih => rw [chunks_succ, chunks_succ, ih (fun i hi => h i (by omega)), h n (by omega)]
theorem chunks_set {s n : Nat} {f : Nat → List Value} (hf : ∀ i, i < n → (f i).length = s) {i j : Nat} (hi : i < n) (hj : j < s) (u : Value) :
    (chunks n f).set (i * s + j) u = chunks n (fun x => if x = i then (f x).set j u else f x) := by
  induction n with
  | zero => omega
  | succ n ih =>
    have hl := chunks_length n (f := f) (s := s) (fun i hi => hf i (by omega))
    rw [chunks_succ, chunks_succ]
    by_cases h : i < n
    · have h2 : (i + 1) * s ≤ n * s := Nat.mul_le_mul_right s h
      rw [Nat.succ_mul] at h2
      rw [List.set_append_left _ _ (by omega), ih (fun i hi => hf i (by omega)) h, if_neg (by omega)]
    · obtain rfl : i = n := by omega
      rw [List.set_append_right _ _ (by omega), hl, if_pos rfl]
      congr 1
      · exact chunks_congr (fun x hx => by rw [if_neg (by omega)])
      · congr 1
        omega

theorem VRow.chunk {w : World} {a : Option Addr} {s n : Nat} {f : Nat → List Value} (h : VRow w a (chunks n f)) (hf : ∀ i, i < n → (f i).length = s) (hs : 0 < s) {i : Nat} (hi : i < n) :
    ∃ b off, a = some ⟨b, off, none⟩ ∧ ∀ j v, (f i)[j]? = some v → w.cell? ⟨b, off + i * s + j, none⟩ = some v := by
  have hl := hf i hi
  obtain ⟨b, off, rfl, _⟩ := h.2 (i * s + 0) _ ((chunks_get hf hi hs).trans (List.getElem?_eq_getElem (by omega)))
  refine ⟨b, off, rfl, fun j v hv => ?_⟩
  have hj : j < s := by have := (List.getElem?_eq_some_iff.1 hv).1; omega
  obtain ⟨b', off', e, hc⟩ := h.2 (i * s + j) v ((chunks_get hf hi hj).trans hv)
  simp only [Option.some.injEq, Addr.mk.injEq, and_true] at e
  obtain ⟨rfl, rfl⟩ := e
  rw [Nat.add_assoc]
  exact hc

/-- What a frame, a home, a node say. -/
structure FD where
  s : Int
  xs : List Int
  q : Bool
structure HD where
  xs : List Int
  ow : Int
  bs : List Bool
  bz : Bool
  wh : Int
  wo : Bool
  ak : Int
  ws : List (Int × Bool)
abbrev Pl := Option Addr × Nat
structure HP where
  l : Pl
  r : Pl
  q : Pl
def fcells (d : FD) (p : Pl) : List Value := [.int .i64 d.s, .slice p.1 d.xs.length p.2, .bool d.q]
def hcells (d : HD) (p : HP) : List Value := [.slice p.l.1 d.xs.length p.l.2, .int .i64 d.ow, .slice p.r.1 d.bs.length p.r.2, .bool d.bz, .int .i64 d.wh, .bool d.wo, .int .i64 d.ak, .slice p.q.1 d.ws.length p.q.2]
def scells (b : Int) (p : Pl) (n : Nat) : List Value := [.int .i64 b, .slice p.1 n p.2]
def gcells (g : Int) : List Value := [.int .i64 g]

def FR (w : World) (a : Option Addr) (n : Nat) (d : Nat → FD) (p : Nat → Pl) : Prop := n ≤ 1048577 ∧ VRow w a (chunks n fun i => fcells (d i) (p i)) ∧ ∀ i, i < n → Row .i64 w (p i).1 (d i).xs
def HR2 (w : World) (a : Option Addr) (n : Nat) (d : Nat → HD) (p : Nat → HP) : Prop := n ≤ 1048577 ∧ VRow w a (chunks n fun i => hcells (d i) (p i)) ∧
  ∀ i, i < n → Row .i64 w (p i).l.1 (d i).xs ∧ VRow w (p i).r.1 (bv (d i).bs) ∧ VRow w (p i).q.1 (wv (d i).ws)
def SR (w : World) (a : Option Addr) (n : Nat) (b : Nat → Int) (y : Nat → List Say) (p : Nat → Pl) (ms : Nat → List M) : Prop := n ≤ 1048577 ∧ VRow w a (chunks n fun i => scells (b i) (p i) (y i).length) ∧
  ∀ i, i < n → MRow w (p i).1 (ms i) ∧ (ms i).map M.say = y i
def GR (w : World) (a : Option Addr) (n : Nat) (g : Nat → Int) : Prop := n ≤ 1048577 ∧ VRow w a (chunks n fun i => gcells (g i))

theorem FR.below {w w' : World} {a : Option Addr} {n : Nat} {d : Nat → FD} {p : Nat → Pl} (h : FR w a n d p) (hb : Below w.heap.size w w') : FR w' a n d p := ⟨h.1, h.2.1.below hb, fun i hi => (h.2.2 i hi).below hb⟩
theorem HR2.below {w w' : World} {a : Option Addr} {n : Nat} {d : Nat → HD} {p : Nat → HP} (h : HR2 w a n d p) (hb : Below w.heap.size w w') : HR2 w' a n d p :=
  ⟨h.1, h.2.1.below hb, fun i hi => ⟨(h.2.2 i hi).1.below hb, (h.2.2 i hi).2.1.below hb, (h.2.2 i hi).2.2.below hb⟩⟩
theorem SR.below {w w' : World} {a : Option Addr} {n : Nat} {b : Nat → Int} {y : Nat → List Say} {p : Nat → Pl} {ms : Nat → List M} (h : SR w a n b y p ms) (hb : Below w.heap.size w w') : SR w' a n b y p ms :=
  ⟨h.1, h.2.1.below hb, fun i hi => ⟨(h.2.2 i hi).1.below hb, (h.2.2 i hi).2⟩⟩
theorem GR.below {w w' : World} {a : Option Addr} {n : Nat} {g : Nat → Int} (h : GR w a n g) (hb : Below w.heap.size w w') : GR w' a n g := ⟨h.1, h.2.below hb⟩

theorem FR.at {w : World} {a : Option Addr} {n : Nat} {d : Nat → FD} {p : Nat → Pl} (h : FR w a n d p) {i : Nat} (hi : i < n) :
    ∃ b off, a = some ⟨b, off, none⟩ ∧ w.cell? ⟨b, off + i * 3, none⟩ = some (.int .i64 (d i).s) ∧ w.cell? ⟨b, off + i * 3 + 1, none⟩ = some (.slice (p i).1 (d i).xs.length (p i).2) ∧ w.cell? ⟨b, off + i * 3 + 2, none⟩ = some (.bool (d i).q) := by
  obtain ⟨b, off, rfl, hc⟩ := h.2.1.chunk (s := 3) (fun i _ => rfl) (by decide) hi
  exact ⟨b, off, rfl, hc 0 _ rfl, hc 1 _ rfl, hc 2 _ rfl⟩
theorem HR2.at {w : World} {a : Option Addr} {n : Nat} {d : Nat → HD} {p : Nat → HP} (h : HR2 w a n d p) {i : Nat} (hi : i < n) :
    ∃ b off, a = some ⟨b, off, none⟩ ∧ w.cell? ⟨b, off + i * 8, none⟩ = some (.slice (p i).l.1 (d i).xs.length (p i).l.2) ∧ w.cell? ⟨b, off + i * 8 + 1, none⟩ = some (.int .i64 (d i).ow) ∧
      w.cell? ⟨b, off + i * 8 + 2, none⟩ = some (.slice (p i).r.1 (d i).bs.length (p i).r.2) ∧ w.cell? ⟨b, off + i * 8 + 3, none⟩ = some (.bool (d i).bz) ∧ w.cell? ⟨b, off + i * 8 + 4, none⟩ = some (.int .i64 (d i).wh) ∧
      w.cell? ⟨b, off + i * 8 + 5, none⟩ = some (.bool (d i).wo) ∧ w.cell? ⟨b, off + i * 8 + 6, none⟩ = some (.int .i64 (d i).ak) ∧ w.cell? ⟨b, off + i * 8 + 7, none⟩ = some (.slice (p i).q.1 (d i).ws.length (p i).q.2) := by
  obtain ⟨b, off, rfl, hc⟩ := h.2.1.chunk (s := 8) (fun i _ => rfl) (by decide) hi
  exact ⟨b, off, rfl, hc 0 _ rfl, hc 1 _ rfl, hc 2 _ rfl, hc 3 _ rfl, hc 4 _ rfl, hc 5 _ rfl, hc 6 _ rfl, hc 7 _ rfl⟩
theorem SR.at {w : World} {a : Option Addr} {n : Nat} {b : Nat → Int} {y : Nat → List Say} {p : Nat → Pl} {ms : Nat → List M} (h : SR w a n b y p ms) {i : Nat} (hi : i < n) :
    ∃ m off, a = some ⟨m, off, none⟩ ∧ w.cell? ⟨m, off + i * 2, none⟩ = some (.int .i64 (b i)) ∧ w.cell? ⟨m, off + i * 2 + 1, none⟩ = some (.slice (p i).1 (y i).length (p i).2) := by
  obtain ⟨b, off, rfl, hc⟩ := h.2.1.chunk (s := 2) (fun i _ => rfl) (by decide) hi
  exact ⟨b, off, rfl, hc 0 _ rfl, hc 1 _ rfl⟩
theorem GR.at {w : World} {a : Option Addr} {n : Nat} {g : Nat → Int} (h : GR w a n g) {i : Nat} (hi : i < n) :
    ∃ m off, a = some ⟨m, off, none⟩ ∧ w.cell? ⟨m, off + i, none⟩ = some (.int .i64 (g i)) := by
  obtain ⟨b, off, rfl, hc⟩ := h.2.chunk (s := 1) (fun i _ => rfl) (by decide) hi
  have := hc 0 _ rfl
  rw [Nat.mul_one, Nat.add_zero] at this
  exact ⟨b, off, rfl, this⟩
end Go.Proofs.Ytiaiomjoapbalaa
