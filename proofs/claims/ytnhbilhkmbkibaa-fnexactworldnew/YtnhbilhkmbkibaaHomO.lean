/- What both HomeOk do. -/
import Derived.Test.YtnhbilhkmbkibaaHom
import Derived.Test.YtnhbilhkmbkibaaSpecIn
import Derived.Test.YtnhbilhkmbkibaaSnd
namespace Go.Proofs.Ytnhbilhkmbkibaa
open Go.RowKit
set_option linter.unusedVariables false

/-- What HomeOk answers. -/
def homeB (nodes ow wh ak : Int) (xs : List Int) (nr : Nat) (ws : List (Int × Bool)) : Bool :=
  inB nodes 1 4 && (wordsB xs 4 && (inB ow (-1) (nodes - 1) && (decide ((nr : Int) = nodes) && (inB wh 0 (nodes - 1) && (inB ak 0 nodes && (decide (ws.length ≤ 12) && ws.all (fun p => inB p.1 0 (nodes - 1))))))))

theorem specIn_h (x lo hi : Int) (w : World) :
    Calls Try.prog 9 #[.int .i64 x, .int .i64 lo, .int .i64 hi] w fun e w' => e = .returned (.bool (inB x lo hi)) ∧ w' = w := specIn_any x lo hi w

theorem areNodes_h (n : Int) (w : World) :
    Calls Try.prog 11 #[.int .i64 n] w fun e w' => e = .returned (.bool (inB n 1 4)) ∧ w' = w := by
  by_cases h0 : 1 ≤ n
  · by_cases h1 : n ≤ 4
    · have hd : inB n 1 4 = true := by simp [inB, h0, h1]
      rw [hd]
      go_enter Try.func11, Try.ntmps11
      go_wp2
      go_ret
      exact ⟨rfl, rfl⟩
    · have hd : inB n 1 4 = false := by simp [inB, h1]
      rw [hd]
      have h1' : 4 < n := by omega
      go_enter Try.func11, Try.ntmps11
      go_wp2
      go_ret
      exact ⟨rfl, rfl⟩
  · have hd : inB n 1 4 = false := by simp [inB, h0]
    rw [hd]
    have h1' : n < 1 := by omega
    go_enter Try.func11, Try.ntmps11
    go_wp2
    go_ret
    exact ⟨rfl, rfl⟩

theorem isNode_h (id nodes : Int) (w : World) (h : nodes ≤ 4) :
    Calls Try.prog 20 #[.int .i64 id, .int .i64 nodes] w fun e w' => e = .returned (.bool (inB id 0 (nodes - 1))) ∧ w' = w := by
  by_cases h1 : 0 ≤ id
  · by_cases h2 : id < nodes
    · have hd : inB id 0 (nodes - 1) = true := by simp [inB, h1]; omega
      rw [hd]
      go_enter Try.func20, Try.ntmps20
      go_wp2
      go_ret
      exact ⟨rfl, rfl⟩
    · have hd : inB id 0 (nodes - 1) = false := by simp [inB]; omega
      rw [hd]
      go_enter Try.func20, Try.ntmps20
      go_wp2
      go_ret
      exact ⟨rfl, rfl⟩
  · have hd : inB id 0 (nodes - 1) = false := by simp [inB]; omega
    rw [hd]
    have h1' : id < 0 := by omega
    go_enter Try.func20, Try.ntmps20
    go_wp2
    go_ret
    exact ⟨rfl, rfl⟩

theorem at8o {w : World} {m : Nat} {t : TypeId} {c0 c1 c2 c3 c4 c5 c6 c7 : Value} (h : Box w m #[c0, c1, c2, c3, c4, c5, c6, c7] t) :
    w.cell? ⟨m, 0, none⟩ = some c0 ∧ w.cell? ⟨m, 1, none⟩ = some c1 ∧ w.cell? ⟨m, 2, none⟩ = some c2 ∧ w.cell? ⟨m, 3, none⟩ = some c3 ∧ w.cell? ⟨m, 4, none⟩ = some c4 ∧ w.cell? ⟨m, 5, none⟩ = some c5 ∧ w.cell? ⟨m, 6, none⟩ = some c6 ∧ w.cell? ⟨m, 7, none⟩ = some c7 ∧ m < w.heap.size :=
  ⟨by rw [h.cell]; rfl, by rw [h.cell]; rfl, by rw [h.cell]; rfl, by rw [h.cell]; rfl, by rw [h.cell]; rfl, by rw [h.cell]; rfl, by rw [h.cell]; rfl, by rw [h.cell]; rfl, h.lt⟩

theorem waits_bad (nodes ow wh ak : Int) (xs : List Int) (nr : Nat) (ws : List (Int × Bool)) {k : Nat} (hk : k < ws.length) (hb : inB (ws.getD k (0, false)).1 0 (nodes - 1) = false) : homeB nodes ow wh ak xs nr ws = false := by
  have : ws.all (fun p => inB p.1 0 (nodes - 1)) = false := by
    rw [List.all_eq_false]
    have e : ws.getD k (0, false) = ws[k] := by simp [hk]
    rw [e] at hb
    exact ⟨ws[k], List.getElem_mem hk, by simp [hb]⟩
  simp [homeB, this]
theorem waits_take (nodes : Int) (ws : List (Int × Bool)) {k : Nat} (hk : k < ws.length) (h : (ws.take k).all (fun p => inB p.1 0 (nodes - 1)) = true) (hb : inB (ws.getD k (0, false)).1 0 (nodes - 1) = true) : (ws.take (k + 1)).all (fun p => inB p.1 0 (nodes - 1)) = true := by
  have e : ws.getD k (0, false) = ws[k] := by simp [hk]
  rw [e] at hb
  rw [List.take_succ_eq_append_getElem hk, List.all_append, h]
  simp [hb]


end Go.Proofs.Ytnhbilhkmbkibaa
