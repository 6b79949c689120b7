/- What impl's field answers, and the letters of an op's fields. -/
import Derived.Test.YtfigbfddhmgafaaDoorTq2
import Derived.Test.YtfigbfddhmgafaaDoorTx10
namespace Go.Proofs.YtfigbfddhmgafaaDoor
open Go.RowKit
set_option linter.unusedVariables false

/-- The letters of the fields that an op has, in order. -/
def fldT (op : Int) : List UInt8 :=
  if op = 1 then [82, 78] else if op = 2 then [82, 65, 66] else if op = 3 then [82, 65, 78] else if op = 4 then [82, 65, 78] else if op = 5 then [65, 66, 78] else if op = 6 then [82, 65, 66, 78] else if op = 7 then [65, 78] else if op = 8 then [78] else if op = 9 then [] else [82, 65, 66]
theorem op_ten {op : Nat} (h1 : 1 ≤ op) (h2 : op ≤ 10) : op = 1 ∨ op = 2 ∨ op = 3 ∨ op = 4 ∨ op = 5 ∨ op = 6 ∨ op = 7 ∨ op = 8 ∨ op = 9 ∨ op = 10 := by omega
theorem fldT_mem {op : Int} {c : UInt8} (h : c ∈ fldT op) : c = 82 ∨ c = 65 ∨ c = 66 ∨ c = 78 := by
  unfold fldT at h
  revert h
  repeat' split
  all_goals (intro h; simp at h)
  all_goals first | (rcases h with rfl | rfl | rfl | rfl <;> simp) | (rcases h with rfl | rfl | rfl <;> simp) | (rcases h with rfl | rfl <;> simp) | (subst h; simp)
theorem fldT_len (op : Int) : (fldT op).length ≤ 4 := by
  unfold fldT
  repeat' split
  all_goals decide

/-- Where a letter's field lies in a place. -/
def ixF (c : UInt8) : Nat := if c = 82 then 1 else if c = 65 then 2 else if c = 66 then 3 else 4

set_option maxRecDepth 100000 in
set_option maxHeartbeats 4000000 in
theorem field_any (b : Nat) (c : UInt8) (hc : c = 82 ∨ c = 65 ∨ c = 66 ∨ c = 78) (w : World) : Calls Tryd.prog 24 #[.pointer (some ⟨b, 0, none⟩), .int .i32 c.toNat] w fun e w' => e = .returned (.pointer (some ⟨b, ixF c, none⟩)) ∧ w' = w := by
  rcases hc with rfl | rfl | rfl | rfl
  all_goals
    go_enter Tryd.func24, Tryd.ntmps24
    go_wp2
    go_ret
    exact ⟨rfl, rfl⟩
end Go.Proofs.YtfigbfddhmgafaaDoor
