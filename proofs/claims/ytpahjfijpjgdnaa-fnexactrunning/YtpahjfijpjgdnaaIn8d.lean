/- SpecIn and Seq and In8 and In8d: see the heads of the parts. -/
import Derived.Test.YtpahjfijpjgdnaaRows
import Derived.Test.YtpahjfijpjgdnaaBase
import Derived.Test.YtpahjfijpjgdnaaKeep
/- What the specification's l1In does. -/
namespace Go.Proofs.Ytpahjfijpjgdnaa
open Go.RowKit


end Go.Proofs.Ytpahjfijpjgdnaa

/- What isSeq does. -/
namespace Go.Proofs.Ytpahjfijpjgdnaa
open Go.RowKit
set_option linter.unusedVariables false

def inB (x lo hi : Int) : Bool := decide (lo ≤ x ∧ x ≤ hi)

end Go.Proofs.Ytpahjfijpjgdnaa

/- What the specification's InsOk, Code, Decode and Ends answer (written by mki8.py). -/
namespace Go.Proofs.Ytpahjfijpjgdnaa
open Go.RowKit
set_option linter.unusedVariables false

/-- What an op has; what is right. -/
def hasR (op : Int) : Bool := op == 1 || (op == 2 || (op == 3 || (op == 4 || (op == 6 || op == 10))))
def hasA (op : Int) : Bool := op == 2 || (op == 3 || (op == 4 || (op == 5 || (op == 6 || (op == 7 || op == 10)))))
def hasB (op : Int) : Bool := op == 2 || (op == 5 || (op == 6 || op == 10))
def hasN (op : Int) : Bool := op == 1 || (op == 3 || (op == 4 || (op == 5 || (op == 6 || (op == 7 || op == 8)))))
def fldB (x most : Int) (h : Bool) : Bool := inB x 0 most && (h || x == 0)
def insB (op r a b n : Int) : Bool := inB op 1 10 && (fldB r 3 (hasR op) && (fldB a 3 (hasA op) && (fldB b 3 (hasB op) && fldB n 63 (hasN op))))
def tab (op : Int) : Int := if inB op 1 10 then [0, 9, 7, 11, 11, 14, 15, 10, 8, 0, 7].getD op.toNat 0 else 0
abbrev icells (op r a b n : Int) : Array Value := #[.int .i64 op, .int .i64 r, .int .i64 a, .int .i64 b, .int .i64 n]
theorem op_cases {op : Int} (h : inB op 1 10 = true) : op = 1 ∨ op = 2 ∨ op = 3 ∨ op = 4 ∨ op = 5 ∨ op = 6 ∨ op = 7 ∨ op = 8 ∨ op = 9 ∨ op = 10 := by
  have : 1 ≤ op ∧ op ≤ 10 := by simpa [inB] using h
  omega
theorem Box.at5i {w : World} {m : Nat} {c0 c1 c2 c3 c4 : Value} {t : TypeId} (h : Box w m #[c0, c1, c2, c3, c4] t) :
    w.cell? ⟨m, 0, none⟩ = some c0 ∧ w.cell? ⟨m, 1, none⟩ = some c1 ∧ w.cell? ⟨m, 2, none⟩ = some c2 ∧ w.cell? ⟨m, 3, none⟩ = some c3 ∧ w.cell? ⟨m, 4, none⟩ = some c4 ∧ m < w.heap.size :=
  ⟨by rw [h.cell]; rfl, by rw [h.cell]; rfl, by rw [h.cell]; rfl, by rw [h.cell]; rfl, by rw [h.cell]; rfl, h.lt⟩





def codeW (op r a b n : Int) : Int := op + 16 * r + 64 * a + 256 * b + 1024 * n
theorem fld_le {x most : Int} {h : Bool} (hx : fldB x most h = true) : 0 ≤ x ∧ x ≤ most := by
  unfold fldB inB at hx
  simp only [Bool.and_eq_true, decide_eq_true_eq] at hx
  exact hx.1
theorem ins_le {op r a b n : Int} (h : insB op r a b n = true) : (1 ≤ op ∧ op ≤ 10) ∧ (0 ≤ r ∧ r ≤ 3) ∧ (0 ≤ a ∧ a ≤ 3) ∧ (0 ≤ b ∧ b ≤ 3) ∧ (0 ≤ n ∧ n ≤ 63) := by
  unfold insB at h
  simp only [Bool.and_eq_true] at h
  obtain ⟨h1, h2, h3, h4, h5⟩ := h
  exact ⟨by simpa [inB] using h1, fld_le h2, fld_le h3, fld_le h4, fld_le h5⟩


end Go.Proofs.Ytpahjfijpjgdnaa

/- What the specification's Decode answers (written by mki8.py). -/
namespace Go.Proofs.Ytpahjfijpjgdnaa
open Go.RowKit
set_option linter.unusedVariables false

/-- What Decode reads. -/
def decD (v : Int) : Int × Int × Int × Int × Int := (v % 16, v / 16 % 4, v / 64 % 4, v / 256 % 4, v / 1024)
def decB (v : Int) : Bool := inB v 0 65535 && insB (decD v).1 (decD v).2.1 (decD v).2.2.1 (decD v).2.2.2.1 (decD v).2.2.2.2
def decV (v : Int) : Array Value := if decB v then icells (decD v).1 (decD v).2.1 (decD v).2.2.1 (decD v).2.2.2.1 (decD v).2.2.2.2 else icells 0 0 0 0 0


end Go.Proofs.Ytpahjfijpjgdnaa
