/- What the specification's HartOk, HartNew, l9Copy, Target answer. -/
import Derived.Deep.RegionHeld3
import Derived.Test.YtafikmpgmnhgcaaHr9
import Derived.Test.YtafikmpgmnhgcaaSpecOk
import Derived.Test.YtafikmpgmnhgcaaIn8
import Derived.Test.YtafikmpgmnhgcaaAppR
namespace Go.Proofs.Ytafikmpgmnhgcaa
open Go.RowKit
set_option linter.unusedVariables false

def hartB (xs : List Int) (pc st : Int) : Bool := wordsB xs 4 && (inB pc 0 23 && inB st 0 2)
theorem adr_eq (n : Int) : (if n.tmod 24 < 0 then n.tmod 24 + 24 else n.tmod 24) = n % 24 := by
  by_cases h : 0 ≤ n
  · rw [Int.tmod_eq_emod_of_nonneg h]
    split <;> omega
  · obtain ⟨m, rfl⟩ : ∃ m, n = -m := ⟨-n, by omega⟩
    rw [Int.neg_tmod, Int.tmod_eq_emod_of_nonneg (by omega)]
    split <;> omega
theorem and65535 (n : Int) : bits .and .i64 n 65535 = n % 65536 := by
  have h16 : (BitVec.ofInt 64 65535).toNat = 2 ^ 16 - 1 := by decide
  have key : (BitVec.ofInt 64 n &&& BitVec.ofInt 64 65535).toNat = (n % ((2 ^ 64 : Nat) : Int)).toNat % 2 ^ 16 := by
    rw [BitVec.toNat_and, BitVec.toNat_ofInt, h16, Nat.and_two_pow_sub_one_eq_mod]
  show IntKind.i64.wrap ((BitVec.ofInt 64 n &&& BitVec.ofInt 64 65535).toNat : Nat) = n % 65536
  rw [key, IntKind.wrap_i64]
  omega




/-- A call that answers a hart. -/
def HartP (L : List Int) (pc st : Int) (w : World) (e : Ending) (w' : World) : Prop := ∃ (a : Option Addr) (c : Nat), e = .returned (.agg #[.slice a L.length c, .int .i64 pc, .int .i64 st]) ∧ w'.ownsRow w.heap.size 3 1 (.slice a L.length c) L.length (L.map (Value.int .i64)) ∧ Below w.heap.size w w'

theorem hart_of {L : List Int} {n : Nat} (hl : L.length = n) {pc st : Int} {w w' : World} {a : Option Addr} {c : Nat} (o : w'.ownsRow w.heap.size 3 1 (.slice a n c) n (L.map (Value.int .i64))) (b : Below w.heap.size w w') : HartP L pc st w (.returned (.agg #[.slice a n c, .int .i64 pc, .int .i64 st])) w' := by
  subst hl
  exact ⟨a, c, rfl, o, b⟩

set_option maxRecDepth 100000 in
set_option maxHeartbeats 2000000 in
theorem l9Copy_any (a : Option Addr) (c : Nat) (xs : List Int) (pc st : Int) (w : World) (hsm : xs.length ≤ 1048577) (ha : Row .i64 w a xs) :
    Calls Try.prog 34 #[.agg #[.slice a xs.length c, .int .i64 pc, .int .i64 st]] w (HartP xs pc st w) := by
  obtain ⟨i1, hi1, hz10, hz11, hz12⟩ := info_parts info_i64
  have bA := bel_alloc (bel_alloc (bel_alloc (Below.refl w.heap.size w) (.cells #[.slice a xs.length c, .int .i64 pc, .int .i64 st] 32)) (.cells #[.slice none 0 0, .int .i64 0, .int .i64 0] 32)) (.cells #[] 3)
  have hv := (row_v ha hsm).below bA
  have oE := own_litE ((w.alloc (.cells #[.slice a xs.length c, .int .i64 pc, .int .i64 st] 32)).alloc (.cells #[.slice none 0 0, .int .i64 0, .int .i64 0] 32)) 3 1 (w.heap.size + 1 + 1) (by simp)
  rw [show ((w.alloc (.cells #[.slice a xs.length c, .int .i64 pc, .int .i64 st] 32)).alloc (.cells #[.slice none 0 0, .int .i64 0, .int .i64 0] 32)).heap.size = w.heap.size + 1 + 1 by simp] at oE
  obtain ⟨X0, X1⟩ := Box.two w #[.slice a xs.length c, .int .i64 pc, .int .i64 st] #[.slice none 0 0, .int .i64 0, .int .i64 0] 32 32
  obtain ⟨n, hn⟩ : ∃ n, xs.length = n := ⟨_, rfl⟩
  have HN : Hid (xs.length = n) := hn
  rw [hn] at X0 X1 hsm bA hv oE ⊢
  go_enter Try.func34, Try.ntmps34
  have HB : Hid (Below w.heap.size w _) := bA
  have X0' := X0.below (bel_alloc (Below.refl _ _) (.cells #[] 3))
  have X1' := X1.below (bel_alloc (Below.refl _ _) (.cells #[] 3))
  clear X0 X1 bA ha hn
  go_wp2_with (at_builtin; refine wpList_append_rowYtafikmpgmnhgcaa rfl (.tmp 3) (.tmp 5) 22 rfl (w.heap.size + 1 + 1) 3 i1 (.int .i64 0) 1 8 Try.underlying22 hi1 hz10 hz11 hz12 rfl (by decide) (.slice (some ⟨w.heap.size + 1 + 1, 0, none⟩) 0 0) 0 [] (by rfl) oE a n c (xs.map (Value.int .i64)) (by rfl) (by rw [List.length_map, HN.out]; omega) hv.2 (by intro u hu; obtain ⟨x, _, rfl⟩ := List.mem_map.1 hu; rfl) (by unfold maxLen; omega) (by omega) (by simp) ?_)
  intro v1 w5 o5 g5
  replace X0' := X0'.kept g5 (fun j hj => by simp [Value.ownBlock] at hj; omega)
  replace X1' := X1'.kept g5 (fun j hj => by simp [Value.ownBlock] at hj; omega)
  have B5 : Hid (Below w.heap.size w w5) := HB.out.grown g5 HB.out.size (fun j hj => by simp [Value.ownBlock] at hj; omega)
  try simp only [Nat.zero_add, List.nil_append] at o5
  obtain ⟨a5, c5, rfl⟩ := owns_slice o5
  have hlt : Hid (∀ j, (Value.slice a5 n c5).ownBlock = some j → w.heap.size + 2 ≤ j) := fun j h => (o5.lt j h).1
  have HO : Hid (w5.ownsRow (w.heap.size + 1 + 1) 3 1 (.slice a5 n c5) n (xs.map (Value.int .i64))) := o5
  obtain ⟨x0, x1, x2, xz⟩ := X0'.at3
  have fz0 := X0'.frozen 0
  obtain ⟨y0, y1, y2, yz⟩ := X1'.at3
  have fy0 := X1'.frozen 0
  have fy1 := X1'.frozen 1
  have fy2 := X1'.frozen 2
  clear X0' X1' g5 o5 oE hv
  go_wp2
  refine bodyPost_ret (v := .agg #[.slice a5 n c5, .int .i64 pc, .int .i64 st]) (by simp [results, Try.results34, go_sem, y0, y1, y2]) rfl (hart_of HN.out ?_ ?_)
  · repeat refine owns_setCell ?_ ?_ _
    · exact owns_base HO.out (by omega)
    all_goals (intro j h; have := hlt.out j h; simp; omega)
  · repeat refine bel_setCell ?_ _ _ ?_
    · exact B5.out
    all_goals (simp; try omega)

end Go.Proofs.Ytafikmpgmnhgcaa
