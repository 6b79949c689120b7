/- Rows of messages, as a reader is told of them; what both SenderOk answer. -/
import Derived.Test.YtgpmkojajmkkoaaLetter
import Derived.Test.YtgpmkojajmkkoaaBox
import Derived.Test.YtgpmkojajmkkoaaSeq
namespace Go.Proofs.Ytgpmkojajmkkoaa
open Go.RowKit
set_option linter.unusedVariables false

/-- A message that lies somewhere: its fields, and where its words lie. -/
structure M where
  k : Int
  p : Int
  o : Bool
  a : Option Addr
  c : Nat
  xs : List Int

/-- What a message says, wherever it lies. -/
abbrev Say := Int × Int × Bool × List Int
def M.say (m : M) : Say := (m.k, m.p, m.o, m.xs)
def okS (s : Say) : Bool := msgOkB s.1 s.2.1 s.2.2.1 s.2.2.2

/-- Four cells at one place. -/
def At4 (w : World) (b off : Nat) (m : M) : Prop :=
  w.cell? ⟨b, off, none⟩ = some (.int .i64 m.k) ∧ w.cell? ⟨b, off + 1, none⟩ = some (.int .i64 m.p) ∧ w.cell? ⟨b, off + 2, none⟩ = some (.bool m.o) ∧ w.cell? ⟨b, off + 3, none⟩ = some (.slice m.a m.xs.length m.c)

/-- WHAT A READER IS TOLD OF A SLICE OF MESSAGES. -/
def MRow (w : World) (a : Option Addr) (ms : List M) : Prop :=
  ms.length ≤ 1048577 ∧ ∀ i m, ms[i]? = some m → (∃ b off, a = some ⟨b, off, none⟩ ∧ At4 w b (off + i * 4) m) ∧ Row .i64 w m.a m.xs

theorem At4.lt {w : World} {b off : Nat} {m : M} (h : At4 w b off m) : b < w.heap.size := lt_of_cell h.1
theorem At4.below {w w' : World} {b off : Nat} {m : M} (h : At4 w b off m) (hb : Below w.heap.size w w') : At4 w' b off m :=
  ⟨(hb.cell (p := ⟨b, off, none⟩) h.lt).trans h.1, (hb.cell (p := ⟨b, off + 1, none⟩) h.lt).trans h.2.1, (hb.cell (p := ⟨b, off + 2, none⟩) h.lt).trans h.2.2.1, (hb.cell (p := ⟨b, off + 3, none⟩) h.lt).trans h.2.2.2⟩

theorem MRow.below {w w' : World} {a : Option Addr} {ms : List M} (h : MRow w a ms) (hb : Below w.heap.size w w') : MRow w' a ms := by
  refine ⟨h.1, fun i m hi => ?_⟩
  obtain ⟨⟨b, off, rfl, h4⟩, hr⟩ := h.2 i m hi
  exact ⟨⟨b, off, rfl, h4.below hb⟩, hr.below hb⟩

theorem MRow.dr {w w' : World} {d : Nat} (e : w' = w.drewN d) {a : Option Addr} {ms : List M} (h : MRow w a ms) : MRow w' a ms := by subst e; exact h

def senderB (base : Int) (ms : List M) : Bool := decide (0 ≤ base ∧ base ≤ 100000) && (decide (ms.length ≤ 30) && (decide (base + ms.length ≤ 100000) && ms.all (fun m => okS m.say)))

theorem senderB_bad (base : Int) {ms : List M} {k : Nat} {m : M} (hm : ms[k]? = some m) (hb : msgOkB m.k m.p m.o m.xs = false) : senderB base ms = false := by
  have : ms.all (fun m => okS m.say) = false := by
    rw [List.all_eq_false]
    exact ⟨m, List.mem_of_getElem? hm, by simp [okS, M.say, hb]⟩
  simp [senderB, this]
theorem take_ok {ms : List M} {k : Nat} {m : M} (h : (ms.take k).all (fun m => okS m.say) = true) (hm : ms[k]? = some m) (hb : msgOkB m.k m.p m.o m.xs = true) : (ms.take (k + 1)).all (fun m => okS m.say) = true := by
  obtain ⟨hk, rfl⟩ := List.getElem?_eq_some_iff.1 hm
  rw [List.take_succ_eq_append_getElem hk, List.all_append, h]
  simp [okS, M.say, hb]


end Go.Proofs.Ytgpmkojajmkkoaa
