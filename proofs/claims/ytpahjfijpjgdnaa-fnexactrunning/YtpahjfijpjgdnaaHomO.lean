/- What both HomeOk do. -/
import Derived.Test.YtpahjfijpjgdnaaHomM
import Derived.Test.YtpahjfijpjgdnaaIn8d
import Derived.Test.YtpahjfijpjgdnaaPacket
namespace Go.Proofs.Ytpahjfijpjgdnaa
open Go.RowKit
set_option linter.unusedVariables false

/-- What HomeOk answers. -/
def homeB (nodes ow wh ak : Int) (xs : List Int) (nr : Nat) (ws : List (Int × Bool)) : Bool :=
  inB nodes 1 4 && (wordsB xs 4 && (inB ow (-1) (nodes - 1) && (decide ((nr : Int) = nodes) && (inB wh 0 (nodes - 1) && (inB ak 0 nodes && (decide (ws.length ≤ 12) && ws.all (fun p => inB p.1 0 (nodes - 1))))))))




theorem at8o {w : World} {m : Nat} {t : TypeId} {c0 c1 c2 c3 c4 c5 c6 c7 : Value} (h : Box w m #[c0, c1, c2, c3, c4, c5, c6, c7] t) :
    w.cell? ⟨m, 0, none⟩ = some c0 ∧ w.cell? ⟨m, 1, none⟩ = some c1 ∧ w.cell? ⟨m, 2, none⟩ = some c2 ∧ w.cell? ⟨m, 3, none⟩ = some c3 ∧ w.cell? ⟨m, 4, none⟩ = some c4 ∧ w.cell? ⟨m, 5, none⟩ = some c5 ∧ w.cell? ⟨m, 6, none⟩ = some c6 ∧ w.cell? ⟨m, 7, none⟩ = some c7 ∧ m < w.heap.size :=
  ⟨by rw [h.cell]; rfl, by rw [h.cell]; rfl, by rw [h.cell]; rfl, by rw [h.cell]; rfl, by rw [h.cell]; rfl, by rw [h.cell]; rfl, by rw [h.cell]; rfl, by rw [h.cell]; rfl, h.lt⟩

theorem waits_bad (nodes ow wh ak : Int) (xs : List Int) (nr : Nat) (ws : List (Int × Bool)) {k : Nat} (hk : k < ws.length) (hb : inB (ws.getD k (0, false)).1 0 (nodes - 1) = false) : homeB nodes ow wh ak xs nr ws = false := by
  have : ws.all (fun p => inB p.1 0 (nodes - 1)) = false := by
    rw [List.all_eq_false]
    have e : ws.getD k (0, false) = ws[k] := by simp [hk]
    rw [e] at hb
    exact ⟨ws[k], List.getElem_mem hk, by simp [hb]⟩
  simp [homeB, this]
theorem waits_take (nodes : Int) (ws : List (Int × Bool)) {k : Nat} (hk : k < ws.length) (h : (ws.take k).all (fun p => inB p.1 0 (nodes - 1)) = true) (hb : inB (ws.getD k (0, false)).1 0 (nodes - 1) = true) : (ws.take (k + 1)).all (fun p => inB p.1 0 (nodes - 1)) = true := by
  have e : ws.getD k (0, false) = ws[k] := by simp [hk]
  rw [e] at hb
  rw [List.take_succ_eq_append_getElem hk, List.all_append, h]
  simp [hb]


end Go.Proofs.Ytpahjfijpjgdnaa
