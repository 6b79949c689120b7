/- SpecOk and Words and Letter and Snd and Packet: see the heads of the parts. -/
import Derived.Test.YtpahjfijpjgdnaaMsg
import Derived.Test.YtpahjfijpjgdnaaOkB
import Derived.Test.YtpahjfijpjgdnaaIn8d
import Derived.BigQuiet
import Derived.Test.YtpahjfijpjgdnaaKeep
/- What the specification's MsgOk does. -/
namespace Go.Proofs.Ytpahjfijpjgdnaa
open Go.RowKit
set_option linter.unusedVariables false


theorem msgOk_kind {k p : Int} {o : Bool} {xs : List Int} (h : decide (1 ≤ k ∧ k ≤ 7) = false) : msgOkB k p o xs = false := by simp [msgOkB, h]
theorem msgOk_page {k p : Int} {o : Bool} {xs : List Int} (h : decide (0 ≤ p ∧ p ≤ 5) = false) : msgOkB k p o xs = false := by simp [msgOkB, h]

end Go.Proofs.Ytpahjfijpjgdnaa

/- What wordsOf does: four words as an array, and whether they are that. -/
namespace Go.Proofs.Ytpahjfijpjgdnaa
open Go.RowKit
set_option linter.unusedVariables false

def arr4 (c0 c1 c2 c3 : Int) : Value := .agg #[.int .i64 c0, .int .i64 c1, .int .i64 c2, .int .i64 c3]





theorem four (xs : List Int) (h : xs.length = 4) : ∃ x0 x1 x2 x3, xs = [x0, x1, x2, x3] := by
  match xs, h with
  | [x0, x1, x2, x3], _ => exact ⟨x0, x1, x2, x3, rfl⟩

end Go.Proofs.Ytpahjfijpjgdnaa

/- What letterOf and MsgOk do. -/
namespace Go.Proofs.Ytpahjfijpjgdnaa
open Go.RowKit
set_option linter.unusedVariables false












end Go.Proofs.Ytpahjfijpjgdnaa

/- Rows of messages, as a reader is told of them; what both SenderOk answer. -/
namespace Go.Proofs.Ytpahjfijpjgdnaa
open Go.RowKit
set_option linter.unusedVariables false

/-- A message that lies somewhere: its fields, and where its words lie. -/
structure M where
  k : Int
  p : Int
  o : Bool
  a : Option Addr
  c : Nat
  xs : List Int

/-- What a message says, wherever it lies. -/
abbrev Say := Int × Int × Bool × List Int
def M.say (m : M) : Say := (m.k, m.p, m.o, m.xs)
def okS (s : Say) : Bool := msgOkB s.1 s.2.1 s.2.2.1 s.2.2.2

/-- Four cells at one place. -/
def At4 (w : World) (b off : Nat) (m : M) : Prop :=
  w.cell? ⟨b, off, none⟩ = some (.int .i64 m.k) ∧ w.cell? ⟨b, off + 1, none⟩ = some (.int .i64 m.p) ∧ w.cell? ⟨b, off + 2, none⟩ = some (.bool m.o) ∧ w.cell? ⟨b, off + 3, none⟩ = some (.slice m.a m.xs.length m.c)

/-- WHAT A READER IS TOLD OF A SLICE OF MESSAGES. -/
def MRow (w : World) (a : Option Addr) (ms : List M) : Prop :=
  ms.length ≤ 1048577 ∧ ∀ i m, ms[i]? = some m → (∃ b off, a = some ⟨b, off, none⟩ ∧ At4 w b (off + i * 4) m) ∧ Row .i64 w m.a m.xs

theorem At4.lt {w : World} {b off : Nat} {m : M} (h : At4 w b off m) : b < w.heap.size := lt_of_cell h.1
theorem At4.below {w w' : World} {b off : Nat} {m : M} (h : At4 w b off m) (hb : Below w.heap.size w w') : At4 w' b off m :=
  ⟨(hb.cell (p := ⟨b, off, none⟩) h.lt).trans h.1, (hb.cell (p := ⟨b, off + 1, none⟩) h.lt).trans h.2.1, (hb.cell (p := ⟨b, off + 2, none⟩) h.lt).trans h.2.2.1, (hb.cell (p := ⟨b, off + 3, none⟩) h.lt).trans h.2.2.2⟩

theorem MRow.below {w w' : World} {a : Option Addr} {ms : List M} (h : MRow w a ms) (hb : Below w.heap.size w w') : MRow w' a ms := by
  refine ⟨h.1, fun i m hi => ?_⟩
  obtain ⟨⟨b, off, rfl, h4⟩, hr⟩ := h.2 i m hi
  exact ⟨⟨b, off, rfl, h4.below hb⟩, hr.below hb⟩

theorem MRow.dr {w w' : World} {d : Nat} (e : w' = w.drewN d) {a : Option Addr} {ms : List M} (h : MRow w a ms) : MRow w' a ms := by subst e; exact h

def senderB (base : Int) (ms : List M) : Bool := decide (0 ≤ base ∧ base ≤ 100000) && (decide (ms.length ≤ 30) && (decide (base + ms.length ≤ 100000) && ms.all (fun m => okS m.say)))

theorem senderB_bad (base : Int) {ms : List M} {k : Nat} {m : M} (hm : ms[k]? = some m) (hb : msgOkB m.k m.p m.o m.xs = false) : senderB base ms = false := by
  have : ms.all (fun m => okS m.say) = false := by
    rw [List.all_eq_false]
    exact ⟨m, List.mem_of_getElem? hm, by simp [okS, M.say, hb]⟩
  simp [senderB, this]
theorem take_ok {ms : List M} {k : Nat} {m : M} (h : (ms.take k).all (fun m => okS m.say) = true) (hm : ms[k]? = some m) (hb : msgOkB m.k m.p m.o m.xs = true) : (ms.take (k + 1)).all (fun m => okS m.say) = true := by
  obtain ⟨hk, rfl⟩ := List.getElem?_eq_some_iff.1 hm
  rw [List.take_succ_eq_append_getElem hk, List.all_append, h]
  simp [okS, M.say, hb]


end Go.Proofs.Ytpahjfijpjgdnaa

/- What both PacketOk do, and the law's small functions over packets. -/
namespace Go.Proofs.Ytpahjfijpjgdnaa
open Go.RowKit
set_option linter.unusedVariables false

def zeroB (k p : Int) (o : Bool) (n : Nat) : Bool := k == 0 && (p == 0 && (!o && (n : Int) == 0))
def restB (A : Bool) (k p : Int) (o : Bool) (xs : List Int) : Bool := if A then zeroB k p o xs.length else msgOkB k p o xs
/-- What PacketOk answers. -/
def packetB (F T : Int) (A : Bool) (N k p : Int) (o : Bool) (xs : List Int) (nodes : Int) : Bool :=
  inB nodes 1 4 && (inB F 0 (nodes - 1) && (inB T 0 (nodes - 1) && (inB N 0 100000 && restB A k p o xs)))

abbrev pkV (F T : Int) (A : Bool) (N k p : Int) (o : Bool) (a : Option Addr) (n ca : Nat) : Array Value := #[.int .i64 F, .int .i64 T, .bool A, .int .i64 N, .int .i64 k, .int .i64 p, .bool o, .slice a n ca]

theorem at8 {w : World} {m : Nat} {t : TypeId} {c0 c1 c2 c3 c4 c5 c6 c7 : Value} (h : Box w m #[c0, c1, c2, c3, c4, c5, c6, c7] t) :
    w.cell? ⟨m, 0, none⟩ = some c0 ∧ w.cell? ⟨m, 1, none⟩ = some c1 ∧ w.cell? ⟨m, 2, none⟩ = some c2 ∧ w.cell? ⟨m, 3, none⟩ = some c3 ∧ w.cell? ⟨m, 4, none⟩ = some c4 ∧ w.cell? ⟨m, 5, none⟩ = some c5 ∧ w.cell? ⟨m, 6, none⟩ = some c6 ∧ w.cell? ⟨m, 7, none⟩ = some c7 ∧ m < w.heap.size :=
  ⟨by rw [h.cell]; rfl, by rw [h.cell]; rfl, by rw [h.cell]; rfl, by rw [h.cell]; rfl, by rw [h.cell]; rfl, by rw [h.cell]; rfl, by rw [h.cell]; rfl, by rw [h.cell]; rfl, h.lt⟩

set_option maxRecDepth 100000 in
set_option maxHeartbeats 1000000 in
theorem szPacket_big (F T : Int) (A : Bool) (N k p : Int) (o : Bool) (a : Option Addr) (n c : Nat) (w : World) (h : 1048576 < n) (hn : n ≤ maxLen) :
    Calls Try.prog 26 #[.agg #[.int .i64 F, .int .i64 T, .bool A, .int .i64 N, .int .i64 k, .int .i64 p, .bool o, .slice a n c], .int .i64 1048576] w fun e w' => e = .returned (.int .i64 (-1)) ∧ Below w.heap.size w w' := by
  have bA := bel_alloc (Below.refl w.heap.size w) (.cells #[.int .i64 F, .int .i64 T, .bool A, .int .i64 N, .int .i64 k, .int .i64 p, .bool o, .slice a n c] 78)
  go_enter Try.func26, Try.ntmps26
  go_wp2_with fail
  refine (szMsg_big k p o a n c _ h hn).mono ?_
  rintro e w1 ⟨rfl, b1⟩
  have B := bel_trans bA b1
  go_wp2
  go_ret
  exact ⟨rfl, B⟩

set_option maxRecDepth 100000 in
set_option maxHeartbeats 1000000 in
theorem szPacket_small (F T : Int) (A : Bool) (N k p : Int) (o : Bool) (a : Option Addr) (n c : Nat) (w : World) (h : n ≤ 1048576) :
    Calls Try.prog 26 #[.agg #[.int .i64 F, .int .i64 T, .bool A, .int .i64 N, .int .i64 k, .int .i64 p, .bool o, .slice a n c], .int .i64 1048576] w fun e w' => e = .returned (.int .i64 (1048576 - n)) ∧ Below w.heap.size w w' := by
  have bA := bel_alloc (Below.refl w.heap.size w) (.cells #[.int .i64 F, .int .i64 T, .bool A, .int .i64 N, .int .i64 k, .int .i64 p, .bool o, .slice a n c] 78)
  go_enter Try.func26, Try.ntmps26
  go_wp2_with fail
  refine (szMsg_small k p o a n c _ h).mono ?_
  rintro e w1 ⟨rfl, b1⟩
  have B := bel_trans bA b1
  have hd : decide ((1048576 : Int) - n < 0) = false := by simp; omega
  go_wp2
  go_ret
  exact ⟨rfl, B⟩

set_option maxRecDepth 100000 in
set_option maxHeartbeats 2000000 in
theorem toPacket_any (F T : Int) (A : Bool) (N k p : Int) (o : Bool) (a : Option Addr) (c : Nat) (xs : List Int) (w : World) (hsm : xs.length ≤ 1048576) (ha : Row .i64 w a xs) :
    Calls Try.prog 30 #[.agg #[.int .i64 F, .int .i64 T, .bool A, .int .i64 N, .int .i64 k, .int .i64 p, .bool o, .slice a xs.length c]] w fun e w' => ∃ v, e = .returned (.agg #[.int .i64 F, .int .i64 T, .bool A, .int .i64 N, .int .i64 k, .int .i64 p, .bool o, v]) ∧ w'.ownsRow w.heap.size 3 1 v xs.length (xs.map (Value.int .i64)) ∧ Below w.heap.size w w' := by
  go_enter Try.func30, Try.ntmps30
  go_wp2_with fail
  have bA := bel_alloc (bel_alloc (bel_alloc (Below.refl w.heap.size w) (.cells #[.int .i64 F, .int .i64 T, .bool A, .int .i64 N, .int .i64 k, .int .i64 p, .bool o, .slice a xs.length c] 78)) (.cells #[.int .i64 0, .int .i64 0, .bool false, .int .i64 0, .int .i64 0, .int .i64 0, .bool false, .slice none 0 0] 90)) (.cells #[.int .i64 F, .int .i64 T, .bool A, .int .i64 N, .int .i64 0, .int .i64 0, .bool false, .slice none 0 0] 90)
  refine (toMsg_any k p o a c xs _ hsm (ha.below bA)).mono ?_
  rintro e w1 ⟨v, rfl, o1, b1⟩
  obtain ⟨hc, hf⟩ := bcell b1
  have hz : w.heap.size + 3 ≤ w1.heap.size := by have := b1.size; simp at this; omega
  have B : Below w.heap.size w w1 := bel_trans bA b1
  have hlt : Hid (∀ j, v.ownBlock = some j → w.heap.size + 3 ≤ j) := fun j h => by have := (o1.lt j h).1; simp at this; exact this
  obtain ⟨a1, c1, rfl⟩ := owns_slice o1
  clear bA b1 ha
  go_wp2
  refine bodyPost_ret (v := .agg #[.int .i64 F, .int .i64 T, .bool A, .int .i64 N, .int .i64 k, .int .i64 p, .bool o, .slice a1 xs.length c1]) (by simp [results, Try.results30, go_sem, hc]) rfl ⟨_, rfl, ?_, ?_⟩
  · repeat refine owns_setCell ?_ ?_ _
    · refine owns_base o1 ?_
      simp; omega
    all_goals (intro j h; have := hlt.out j h; simp; omega)
  · repeat refine bel_setCell ?_ _ _ ?_
    · exact B
    all_goals (simp; try omega)

set_option maxRecDepth 100000 in
set_option maxHeartbeats 1000000 in
theorem eqPacket_any (F T : Int) (A : Bool) (N k p : Int) (o : Bool) (a b : Option Addr) (ca cb : Nat) (xs : List Int) (w : World) (ha : Row .i64 w a xs) (hb : Row .i64 w b xs) :
    Calls Try.prog 34 #[.agg #[.int .i64 F, .int .i64 T, .bool A, .int .i64 N, .int .i64 k, .int .i64 p, .bool o, .slice a xs.length ca], .agg #[.int .i64 F, .int .i64 T, .bool A, .int .i64 N, .int .i64 k, .int .i64 p, .bool o, .slice b xs.length cb]] w fun e w' => e = .returned (.bool true) ∧ Below w.heap.size w w' := by
  have bA := bel_alloc (bel_alloc (Below.refl w.heap.size w) (.cells #[.int .i64 F, .int .i64 T, .bool A, .int .i64 N, .int .i64 k, .int .i64 p, .bool o, .slice a xs.length ca] 90)) (.cells #[.int .i64 F, .int .i64 T, .bool A, .int .i64 N, .int .i64 k, .int .i64 p, .bool o, .slice b xs.length cb] 90)
  go_enter Try.func34, Try.ntmps34
  go_wp2_with fail
  refine (eqMsg_any k p o a b ca cb xs _ (ha.below bA) (hb.below bA)).mono ?_
  rintro e w1 ⟨rfl, b1⟩
  have B := bel_trans bA b1
  go_wp2
  go_ret
  exact ⟨rfl, B⟩

def nodePB (id nodes : Int) : Bool := decide (nodes ≤ 4) && (decide (0 ≤ id) && decide (id < nodes))



end Go.Proofs.Ytpahjfijpjgdnaa
