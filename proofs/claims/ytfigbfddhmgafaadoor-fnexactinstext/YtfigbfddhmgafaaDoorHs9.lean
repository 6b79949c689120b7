/- What the specification's HartOk, HartNew, l9Copy, Target answer. -/
import Derived.Deep.RegionHeld3
import Derived.Test.YtfigbfddhmgafaaDoorHr9
import Derived.Test.YtfigbfddhmgafaaDoorSpecOk
import Derived.Test.YtfigbfddhmgafaaDoorIn8
import Derived.Test.YtfigbfddhmgafaaDoorAppR
namespace Go.Proofs.YtfigbfddhmgafaaDoor
open Go.RowKit
set_option linter.unusedVariables false

def hartB (xs : List Int) (pc st : Int) : Bool := wordsB xs 4 && (inB pc 0 23 && inB st 0 2)
theorem adr_eq (n : Int) : (if n.tmod 24 < 0 then n.tmod 24 + 24 else n.tmod 24) = n % 24 := by
  by_cases h : 0 ≤ n
  · rw [Int.tmod_eq_emod_of_nonneg h]
    split <;> omega
  · obtain ⟨m, rfl⟩ : ∃ m, n = -m := ⟨-n, by omega⟩
    rw [Int.neg_tmod, Int.tmod_eq_emod_of_nonneg (by omega)]
    split <;> omega
theorem and65535 (n : Int) : bits .and .i64 n 65535 = n % 65536 := by
  have h16 : (BitVec.ofInt 64 65535).toNat = 2 ^ 16 - 1 := by decide
  have key : (BitVec.ofInt 64 n &&& BitVec.ofInt 64 65535).toNat = (n % ((2 ^ 64 : Nat) : Int)).toNat % 2 ^ 16 := by
    rw [BitVec.toNat_and, BitVec.toNat_ofInt, h16, Nat.and_two_pow_sub_one_eq_mod]
  show IntKind.i64.wrap ((BitVec.ofInt 64 n &&& BitVec.ofInt 64 65535).toNat : Nat) = n % 65536
  rw [key, IntKind.wrap_i64]
  omega




/-- A call that answers a hart. -/
def HartP (L : List Int) (pc st : Int) (w : World) (e : Ending) (w' : World) : Prop := ∃ (a : Option Addr) (c : Nat), e = .returned (.agg #[.slice a L.length c, .int .i64 pc, .int .i64 st]) ∧ w'.ownsRow w.heap.size 3 1 (.slice a L.length c) L.length (L.map (Value.int .i64)) ∧ Below w.heap.size w w'

theorem hart_of {L : List Int} {n : Nat} (hl : L.length = n) {pc st : Int} {w w' : World} {a : Option Addr} {c : Nat} (o : w'.ownsRow w.heap.size 3 1 (.slice a n c) n (L.map (Value.int .i64))) (b : Below w.heap.size w w') : HartP L pc st w (.returned (.agg #[.slice a n c, .int .i64 pc, .int .i64 st])) w' := by
  subst hl
  exact ⟨a, c, rfl, o, b⟩


end Go.Proofs.YtfigbfddhmgafaaDoor
