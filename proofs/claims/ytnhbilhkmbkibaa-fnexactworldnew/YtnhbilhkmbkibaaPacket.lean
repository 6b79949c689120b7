/- What both PacketOk do, and the law's small functions over packets. -/
import Derived.Test.YtnhbilhkmbkibaaSnd
import Derived.Test.YtnhbilhkmbkibaaBox
import Derived.Test.YtnhbilhkmbkibaaSeq
namespace Go.Proofs.Ytnhbilhkmbkibaa
open Go.RowKit
set_option linter.unusedVariables false

def zeroB (k p : Int) (o : Bool) (n : Nat) : Bool := k == 0 && (p == 0 && (!o && (n : Int) == 0))
def restB (A : Bool) (k p : Int) (o : Bool) (xs : List Int) : Bool := if A then zeroB k p o xs.length else msgOkB k p o xs
/-- What PacketOk answers. -/
def packetB (F T : Int) (A : Bool) (N k p : Int) (o : Bool) (xs : List Int) (nodes : Int) : Bool :=
  inB nodes 1 4 && (inB F 0 (nodes - 1) && (inB T 0 (nodes - 1) && (inB N 0 100000 && restB A k p o xs)))

abbrev pkV (F T : Int) (A : Bool) (N k p : Int) (o : Bool) (a : Option Addr) (n ca : Nat) : Array Value := #[.int .i64 F, .int .i64 T, .bool A, .int .i64 N, .int .i64 k, .int .i64 p, .bool o, .slice a n ca]

theorem at8 {w : World} {m : Nat} {t : TypeId} {c0 c1 c2 c3 c4 c5 c6 c7 : Value} (h : Box w m #[c0, c1, c2, c3, c4, c5, c6, c7] t) :
    w.cell? ⟨m, 0, none⟩ = some c0 ∧ w.cell? ⟨m, 1, none⟩ = some c1 ∧ w.cell? ⟨m, 2, none⟩ = some c2 ∧ w.cell? ⟨m, 3, none⟩ = some c3 ∧ w.cell? ⟨m, 4, none⟩ = some c4 ∧ w.cell? ⟨m, 5, none⟩ = some c5 ∧ w.cell? ⟨m, 6, none⟩ = some c6 ∧ w.cell? ⟨m, 7, none⟩ = some c7 ∧ m < w.heap.size :=
  ⟨by rw [h.cell]; rfl, by rw [h.cell]; rfl, by rw [h.cell]; rfl, by rw [h.cell]; rfl, by rw [h.cell]; rfl, by rw [h.cell]; rfl, by rw [h.cell]; rfl, by rw [h.cell]; rfl, h.lt⟩




set_option maxRecDepth 100000 in
set_option maxHeartbeats 1000000 in
theorem eqPacket_any (F T : Int) (A : Bool) (N k p : Int) (o : Bool) (a b : Option Addr) (ca cb : Nat) (xs : List Int) (w : World) (ha : Row .i64 w a xs) (hb : Row .i64 w b xs) :
    Calls Try.prog 23 #[.agg #[.int .i64 F, .int .i64 T, .bool A, .int .i64 N, .int .i64 k, .int .i64 p, .bool o, .slice a xs.length ca], .agg #[.int .i64 F, .int .i64 T, .bool A, .int .i64 N, .int .i64 k, .int .i64 p, .bool o, .slice b xs.length cb]] w fun e w' => e = .returned (.bool true) ∧ Below w.heap.size w w' := by
  have bA := bel_alloc (bel_alloc (Below.refl w.heap.size w) (.cells #[.int .i64 F, .int .i64 T, .bool A, .int .i64 N, .int .i64 k, .int .i64 p, .bool o, .slice a xs.length ca] 58)) (.cells #[.int .i64 F, .int .i64 T, .bool A, .int .i64 N, .int .i64 k, .int .i64 p, .bool o, .slice b xs.length cb] 58)
  go_enter Try.func23, Try.ntmps23
  go_wp2_with fail
  refine (eqMsg_any k p o a b ca cb xs _ (ha.below bA) (hb.below bA)).mono ?_
  rintro e w1 ⟨rfl, b1⟩
  have B := bel_trans bA b1
  go_wp2
  go_ret
  exact ⟨rfl, B⟩

def nodePB (id nodes : Int) : Bool := decide (nodes ≤ 4) && (decide (0 ≤ id) && decide (id < nodes))

theorem isNode_any (id nodes : Int) (w : World) :
    Calls Try.prog 20 #[.int .i64 id, .int .i64 nodes] w fun e w' => e = .returned (.bool (nodePB id nodes)) ∧ w' = w := by
  unfold nodePB
  by_cases h0 : nodes ≤ 4
  · by_cases h1 : 0 ≤ id
    · rw [decide_eq_true h0, decide_eq_true h1]
      go_enter Try.func20, Try.ntmps20
      go_wp2
      go_ret
      exact ⟨rfl, rfl⟩
    · rw [decide_eq_true h0, decide_eq_false h1]
      have h1' : id < 0 := by omega
      go_enter Try.func20, Try.ntmps20
      go_wp2
      go_ret
      exact ⟨rfl, rfl⟩
  · rw [decide_eq_false h0]
    have h0' : 4 < nodes := by omega
    go_enter Try.func20, Try.ntmps20
    go_wp2
    go_ret
    exact ⟨rfl, rfl⟩


end Go.Proofs.Ytnhbilhkmbkibaa
