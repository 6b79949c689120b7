/- Owned rows whose elements own memory besides, by the blocks of each. -/
import Derived.Test.YtpahjfijpjgdnaaNdT3
namespace Go.Proofs.Ytpahjfijpjgdnaa
open Go.RowKit
set_option linter.unusedVariables false

def EH (d : HD) (p : HP) (w : World) : Prop := w.ownsRow 0 3 1 (.slice p.l.1 d.xs.length p.l.2) d.xs.length (d.xs.map (Value.int .i64)) ∧ w.ownsRow 0 4 1 (.slice p.r.1 d.bs.length p.r.2) d.bs.length (bv d.bs) ∧ w.ownsRow 0 142 2 (.slice p.q.1 d.ws.length p.q.2) d.ws.length (wv d.ws)
def QH (p : HP) (b : Nat) : Prop := blk p.l = some b ∨ blk p.r = some b ∨ blk p.q = some b
def ES (p : Pl) (ms : List M) (w : World) : Prop := Deep w 0 p.1 p.2 ms
def QS (p : Pl) (ms : List M) (b : Nat) : Prop := blk p = some b ∨ ∃ m ∈ ms, m.v.ownBlock = some b

theorem fix_h (d : HD) (p : HP) : Fix (QH p) (EH d p) := fun w w' k h => ⟨owns_sm h.1 k (fun j hj => .inl (blk_eq hj)), owns_sm h.2.1 k (fun j hj => .inr (.inl (blk_eq hj))), owns_sm h.2.2 k (fun j hj => .inr (.inr (blk_eq hj)))⟩
theorem fix_s (p : Pl) (ms : List M) : Fix (QS p ms) (ES p ms) := fun w w' k h => ⟨owns_sm h.row k (fun j hj => .inl (blk_eq hj)), fun m hm => owns_sm (h.lists.1 m hm) k (fun j hj => .inr ⟨m, hm, hj⟩), h.lists.2⟩

def HOw (w : World) (a : Option Addr) (c n : Nat) (d : Nat → HD) (p : Nat → HP) : Prop := Rw w 145 8 a c n n (fun i => hcells (d i) (p i)) (fun i => QH (p i)) (fun i => EH (d i) (p i))
def SO (w : World) (a : Option Addr) (c n : Nat) (b : Nat → Int) (p : Nat → Pl) (ms : Nat → List M) : Prop := Rw w 149 2 a c n n (fun i => scells (b i) (p i) (ms i).length) (fun i => QS (p i) (ms i)) (fun i => ES (p i) (ms i))
def GO (w : World) (a : Option Addr) (c n : Nat) (g : Nat → Int) : Prop := w.ownsRow 0 152 1 (.slice a n c) n (chunks n fun i => gcells (g i))

theorem HOw.hr {w : World} {a : Option Addr} {c n : Nat} {d : Nat → HD} {p : Nat → HP} (h : HOw w a c n d p) (hn : n ≤ 1048576) (hx : ∀ i, i < n → (d i).xs.length ≤ 1048576 ∧ (d i).bs.length ≤ 1048576 ∧ (d i).ws.length ≤ 1048576) : HR2 w a n d p :=
  ⟨by omega, owns_vrow' h.row (by rw [chunks_length (s := 8) n (fun i _ => rfl)]; omega), fun i hi => ⟨owns_row' (h.el i hi).1 (by have := hx i hi; omega), owns_vrow' (h.el i hi).2.1 (by have := hx i hi; rw [bv_length]; omega), owns_vrow' (h.el i hi).2.2 (by have := hx i hi; rw [wv_length]; omega)⟩⟩
theorem GO.gr {w : World} {a : Option Addr} {c n : Nat} {g : Nat → Int} (h : GO w a c n g) (hn : n ≤ 1048576) : GR w a n g := ⟨by omega, owns_vrow' h (by rw [chunks_length (s := 1) n (fun i _ => rfl)]; omega)⟩
theorem SO.sr {w : World} {a : Option Addr} {c n : Nat} {b : Nat → Int} {y : Nat → List Say} {p : Nat → Pl} {ms : Nat → List M} (h : SO w a c n b p ms) (hn : n ≤ 1048576) (he : ∀ i, i < n → (ms i).map M.say = y i) (hx : ∀ i, i < n → (ms i).length ≤ 1048577 ∧ ∀ m ∈ ms i, m.xs.length ≤ 1048577) : SR w a n b y p ms := by
  have hl : ∀ i, i < n → (ms i).length = (y i).length := fun i hi => by rw [← he i hi, List.length_map]
  refine ⟨by omega, ?_, fun i hi => ⟨(h.el i hi).mrow (hx i hi).1 (hx i hi).2, he i hi⟩⟩
  have h1 := owns_congr (g := fun i => scells (b i) (p i) (y i).length) h.row (fun i hi => by rw [hl i hi])
  exact owns_vrow' h1 (by rw [chunks_length (s := 2) n (fun i _ => rfl)]; omega)

/-- A node that is owned with all that it says; no two of its rows share memory. -/
structure NOw (w : World) (d : ND) (p : NP) : Prop where
  f : FO w p.f.1 p.f.2 d.nf d.f p.fp
  h : HOw w p.h.1 p.h.2 d.nh d.h p.hp
  o : SO w p.o.1 p.o.2 d.no d.b p.op p.ms
  i : GO w p.i.1 p.i.2 d.ni d.g
  e : ∀ i, i < d.no → (p.ms i).map M.say = d.y i
  fh : ∀ b, RS p.f.1 p.f.2 d.nf (fun i => QF (p.fp i)) b → ¬ RS p.h.1 p.h.2 d.nh (fun i => QH (p.hp i)) b
  fo : ∀ b, RS p.f.1 p.f.2 d.nf (fun i => QF (p.fp i)) b → ¬ RS p.o.1 p.o.2 d.no (fun i => QS (p.op i) (p.ms i)) b
  fi : ∀ b, RS p.f.1 p.f.2 d.nf (fun i => QF (p.fp i)) b → blk p.i ≠ some b
  ho : ∀ b, RS p.h.1 p.h.2 d.nh (fun i => QH (p.hp i)) b → ¬ RS p.o.1 p.o.2 d.no (fun i => QS (p.op i) (p.ms i)) b
  hi : ∀ b, RS p.h.1 p.h.2 d.nh (fun i => QH (p.hp i)) b → blk p.i ≠ some b
  oi : ∀ b, RS p.o.1 p.o.2 d.no (fun i => QS (p.op i) (p.ms i)) b → blk p.i ≠ some b
/-- All blocks of a node. -/
def NBs (d : ND) (p : NP) (b : Nat) : Prop := RS p.f.1 p.f.2 d.nf (fun i => QF (p.fp i)) b ∨ RS p.h.1 p.h.2 d.nh (fun i => QH (p.hp i)) b ∨ RS p.o.1 p.o.2 d.no (fun i => QS (p.op i) (p.ms i)) b ∨ blk p.i = some b
theorem GO.sm {w w' : World} {a : Option Addr} {c n : Nat} {g : Nat → Int} {P : Nat → Prop} (h : GO w a c n g) (k : Sm P w w') (hp : ∀ b, blk (a, c) = some b → P b) : GO w' a c n g := owns_sm h k (fun j hj => hp j (blk_eq hj))
theorem NOw.sm {w w' : World} {d : ND} {p : NP} (h : NOw w d p) (k : Sm (NBs d p) w w') : NOw w' d p :=
  ⟨h.f.sm (k.mono (fun b hb => .inl hb)), h.h.sm (k.mono (fun b hb => .inr (.inl hb))), h.o.sm (k.mono (fun b hb => .inr (.inr (.inl hb)))), h.i.sm k (fun b hb => .inr (.inr (.inr hb))), h.e, h.fh, h.fo, h.fi, h.ho, h.hi, h.oi⟩
theorem NOw.below {w w' : World} {d : ND} {p : NP} (h : NOw w d p) (b : Below w.heap.size w w') : NOw w' d p := h.sm (sm_bel b)
theorem GO.lt {w : World} {a : Option Addr} {c n : Nat} {g : Nat → Int} (h : GO w a c n g) {b : Nat} (hb : blk (a, c) = some b) : b < w.heap.size := by
  cases a with
  | none => simp [blk] at hb
  | some x => exact (World.ownsRow.lt h b (by simpa [Value.ownBlock, blk] using hb)).2
theorem NOw.lt {w : World} {d : ND} {p : NP} (h : NOw w d p) {b : Nat} (hb : NBs d p b) : b < w.heap.size := by
  rcases hb with hb | hb | hb | hb
  · exact Rw.slt h.f hb
  · exact Rw.slt h.h hb
  · exact Rw.slt h.o hb
  · exact GO.lt h.i hb
theorem NOw.nr {w : World} {d : ND} {p : NP} (h : NOw w d p) (s : Nsm d) : NR w d p := by
  refine ⟨h.f.fr s.f.1 s.f.2, h.h.hr s.h.1 s.h.2, h.o.sr s.o.1 h.e (fun i hi => ?_), h.i.gr s.i⟩
  have h1 := s.o.2 i hi
  have h2 := h.e i hi
  refine ⟨?_, fun m hm => ?_⟩
  · have := congrArg List.length h2
    rw [List.length_map] at this
    omega
  · have h3 : m.say ∈ d.y i := by rw [← h2]; exact List.mem_map_of_mem hm
    have := h1.2 _ h3
    simp only [M.say] at this
    omega
end Go.Proofs.Ytpahjfijpjgdnaa
