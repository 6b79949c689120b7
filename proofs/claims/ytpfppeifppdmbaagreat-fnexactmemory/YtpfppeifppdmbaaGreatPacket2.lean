/- Packet and Packet2: see the heads of the parts. -/
import Derived.Test.YtpfppeifppdmbaaGreatSnd
import Derived.Test.YtpfppeifppdmbaaGreatKeep
import Derived.Test.YtpfppeifppdmbaaGreatSeq
import Derived.Test.YtpfppeifppdmbaaGreatWords
/- What both PacketOk do, and the law's small functions over packets. -/
namespace Go.Proofs.YtpfppeifppdmbaaGreat
open Go.RowKit
set_option linter.unusedVariables false

def zeroB (k p : Int) (o : Bool) (n : Nat) : Bool := k == 0 && (p == 0 && (!o && (n : Int) == 0))
def restB (A : Bool) (k p : Int) (o : Bool) (xs : List Int) : Bool := if A then zeroB k p o xs.length else msgOkB k p o xs
/-- What PacketOk answers. -/
def packetB (F T : Int) (A : Bool) (N k p : Int) (o : Bool) (xs : List Int) (nodes : Int) : Bool :=
  inB nodes 1 4 && (inB F 0 (nodes - 1) && (inB T 0 (nodes - 1) && (inB N 0 100000 && restB A k p o xs)))

abbrev pkV (F T : Int) (A : Bool) (N k p : Int) (o : Bool) (a : Option Addr) (n ca : Nat) : Array Value := #[.int .i64 F, .int .i64 T, .bool A, .int .i64 N, .int .i64 k, .int .i64 p, .bool o, .slice a n ca]

theorem at8 {w : World} {m : Nat} {t : TypeId} {c0 c1 c2 c3 c4 c5 c6 c7 : Value} (h : Box w m #[c0, c1, c2, c3, c4, c5, c6, c7] t) :
    w.cell? ⟨m, 0, none⟩ = some c0 ∧ w.cell? ⟨m, 1, none⟩ = some c1 ∧ w.cell? ⟨m, 2, none⟩ = some c2 ∧ w.cell? ⟨m, 3, none⟩ = some c3 ∧ w.cell? ⟨m, 4, none⟩ = some c4 ∧ w.cell? ⟨m, 5, none⟩ = some c5 ∧ w.cell? ⟨m, 6, none⟩ = some c6 ∧ w.cell? ⟨m, 7, none⟩ = some c7 ∧ m < w.heap.size :=
  ⟨by rw [h.cell]; rfl, by rw [h.cell]; rfl, by rw [h.cell]; rfl, by rw [h.cell]; rfl, by rw [h.cell]; rfl, by rw [h.cell]; rfl, by rw [h.cell]; rfl, by rw [h.cell]; rfl, h.lt⟩

set_option maxRecDepth 100000 in
set_option maxHeartbeats 1000000 in
theorem szPacket_big (F T : Int) (A : Bool) (N k p : Int) (o : Bool) (a : Option Addr) (n c : Nat) (w : World) (h : 1048576 < n) (hn : n ≤ maxLen) :
    Calls Tryz.prog 24 #[.agg #[.int .i64 F, .int .i64 T, .bool A, .int .i64 N, .int .i64 k, .int .i64 p, .bool o, .slice a n c], .int .i64 1048576] w fun e w' => e = .returned (.int .i64 (-1)) ∧ Below w.heap.size w w' := by
  have bA := bel_alloc (Below.refl w.heap.size w) (.cells #[.int .i64 F, .int .i64 T, .bool A, .int .i64 N, .int .i64 k, .int .i64 p, .bool o, .slice a n c] 59)
  go_enter Tryz.func24, Tryz.ntmps24
  go_wp2_with fail
  refine (szMsg_big k p o a n c _ h hn).mono ?_
  rintro e w1 ⟨rfl, b1⟩
  have B := bel_trans bA b1
  go_wp2
  go_ret
  exact ⟨rfl, B⟩

set_option maxRecDepth 100000 in
set_option maxHeartbeats 1000000 in
theorem szPacket_small (F T : Int) (A : Bool) (N k p : Int) (o : Bool) (a : Option Addr) (n c : Nat) (w : World) (h : n ≤ 1048576) :
    Calls Tryz.prog 24 #[.agg #[.int .i64 F, .int .i64 T, .bool A, .int .i64 N, .int .i64 k, .int .i64 p, .bool o, .slice a n c], .int .i64 1048576] w fun e w' => e = .returned (.int .i64 (1048576 - n)) ∧ Below w.heap.size w w' := by
  have bA := bel_alloc (Below.refl w.heap.size w) (.cells #[.int .i64 F, .int .i64 T, .bool A, .int .i64 N, .int .i64 k, .int .i64 p, .bool o, .slice a n c] 59)
  go_enter Tryz.func24, Tryz.ntmps24
  go_wp2_with fail
  refine (szMsg_small k p o a n c _ h).mono ?_
  rintro e w1 ⟨rfl, b1⟩
  have B := bel_trans bA b1
  have hd : decide ((1048576 : Int) - n < 0) = false := by simp; omega
  go_wp2
  go_ret
  exact ⟨rfl, B⟩

set_option maxRecDepth 100000 in
set_option maxHeartbeats 2000000 in
theorem toPacket_any (F T : Int) (A : Bool) (N k p : Int) (o : Bool) (a : Option Addr) (c : Nat) (xs : List Int) (w : World) (hsm : xs.length ≤ 1048576) (ha : Row .i64 w a xs) :
    Calls Tryz.prog 29 #[.agg #[.int .i64 F, .int .i64 T, .bool A, .int .i64 N, .int .i64 k, .int .i64 p, .bool o, .slice a xs.length c]] w fun e w' => ∃ v, e = .returned (.agg #[.int .i64 F, .int .i64 T, .bool A, .int .i64 N, .int .i64 k, .int .i64 p, .bool o, v]) ∧ w'.ownsRow w.heap.size 3 1 v xs.length (xs.map (Value.int .i64)) ∧ Below w.heap.size w w' := by
  go_enter Tryz.func29, Tryz.ntmps29
  go_wp2_with fail
  have bA := bel_alloc (bel_alloc (bel_alloc (Below.refl w.heap.size w) (.cells #[.int .i64 F, .int .i64 T, .bool A, .int .i64 N, .int .i64 k, .int .i64 p, .bool o, .slice a xs.length c] 59)) (.cells #[.int .i64 0, .int .i64 0, .bool false, .int .i64 0, .int .i64 0, .int .i64 0, .bool false, .slice none 0 0] 71)) (.cells #[.int .i64 F, .int .i64 T, .bool A, .int .i64 N, .int .i64 0, .int .i64 0, .bool false, .slice none 0 0] 71)
  refine (toMsg_any k p o a c xs _ hsm (ha.below bA)).mono ?_
  rintro e w1 ⟨v, rfl, o1, b1⟩
  obtain ⟨hc, hf⟩ := bcell b1
  have hz : w.heap.size + 3 ≤ w1.heap.size := by have := b1.size; simp at this; omega
  have B : Below w.heap.size w w1 := bel_trans bA b1
  have hlt : Hid (∀ j, v.ownBlock = some j → w.heap.size + 3 ≤ j) := fun j h => by have := (o1.lt j h).1; simp at this; exact this
  obtain ⟨a1, c1, rfl⟩ := owns_slice o1
  clear bA b1 ha
  go_wp2
  refine bodyPost_ret (v := .agg #[.int .i64 F, .int .i64 T, .bool A, .int .i64 N, .int .i64 k, .int .i64 p, .bool o, .slice a1 xs.length c1]) (by simp [results, Tryz.results29, go_sem, hc]) rfl ⟨_, rfl, ?_, ?_⟩
  · repeat refine owns_setCell ?_ ?_ _
    · refine owns_base o1 ?_
      simp; omega
    all_goals (intro j h; have := hlt.out j h; simp; omega)
  · repeat refine bel_setCell ?_ _ _ ?_
    · exact B
    all_goals (simp; try omega)

set_option maxRecDepth 100000 in
set_option maxHeartbeats 1000000 in
theorem eqPacket_any (F T : Int) (A : Bool) (N k p : Int) (o : Bool) (a b : Option Addr) (ca cb : Nat) (xs : List Int) (w : World) (ha : Row .i64 w a xs) (hb : Row .i64 w b xs) :
    Calls Tryz.prog 35 #[.agg #[.int .i64 F, .int .i64 T, .bool A, .int .i64 N, .int .i64 k, .int .i64 p, .bool o, .slice a xs.length ca], .agg #[.int .i64 F, .int .i64 T, .bool A, .int .i64 N, .int .i64 k, .int .i64 p, .bool o, .slice b xs.length cb]] w fun e w' => e = .returned (.bool true) ∧ Below w.heap.size w w' := by
  have bA := bel_alloc (bel_alloc (Below.refl w.heap.size w) (.cells #[.int .i64 F, .int .i64 T, .bool A, .int .i64 N, .int .i64 k, .int .i64 p, .bool o, .slice a xs.length ca] 71)) (.cells #[.int .i64 F, .int .i64 T, .bool A, .int .i64 N, .int .i64 k, .int .i64 p, .bool o, .slice b xs.length cb] 71)
  go_enter Tryz.func35, Tryz.ntmps35
  go_wp2_with fail
  refine (eqMsg_any k p o a b ca cb xs _ (ha.below bA) (hb.below bA)).mono ?_
  rintro e w1 ⟨rfl, b1⟩
  have B := bel_trans bA b1
  go_wp2
  go_ret
  exact ⟨rfl, B⟩

def nodePB (id nodes : Int) : Bool := decide (nodes ≤ 4) && (decide (0 ≤ id) && decide (id < nodes))

theorem isNode_any (id nodes : Int) (w : World) :
    Calls Tryz.prog 82 #[.int .i64 id, .int .i64 nodes] w fun e w' => e = .returned (.bool (nodePB id nodes)) ∧ w' = w := by
  unfold nodePB
  by_cases h0 : nodes ≤ 4
  · by_cases h1 : 0 ≤ id
    · rw [decide_eq_true h0, decide_eq_true h1]
      go_enter Tryz.func82, Tryz.ntmps82
      go_wp2
      go_ret
      exact ⟨rfl, rfl⟩
    · rw [decide_eq_true h0, decide_eq_false h1]
      have h1' : id < 0 := by omega
      go_enter Tryz.func82, Tryz.ntmps82
      go_wp2
      go_ret
      exact ⟨rfl, rfl⟩
  · rw [decide_eq_false h0]
    have h0' : 4 < nodes := by omega
    go_enter Tryz.func82, Tryz.ntmps82
    go_wp2
    go_ret
    exact ⟨rfl, rfl⟩

set_option maxRecDepth 100000 in
set_option maxHeartbeats 1000000 in
theorem isNoMsg_any (k p : Int) (o : Bool) (a : Option Addr) (n c : Nat) (w : World) (hn : n ≤ 140737488351232) :
    Calls Tryz.prog 93 #[.agg #[.int .i64 k, .int .i64 p, .bool o, .slice a n c]] w fun e w' => e = .returned (.bool (zeroB k p o n)) ∧ Below w.heap.size w w' := by
  have bA := bel_alloc (Below.refl w.heap.size w) (.cells #[.int .i64 k, .int .i64 p, .bool o, .slice a n c] 69)
  unfold zeroB
  by_cases h0 : k = 0
  · subst h0
    by_cases h1 : p = 0
    · subst h1
      cases o
      · go_enter Tryz.func93, Tryz.ntmps93
        go_wp2
        go_ret
        exact ⟨rfl, bA⟩
      · go_enter Tryz.func93, Tryz.ntmps93
        go_wp2
        go_ret
        exact ⟨rfl, bA⟩
    · have e1 : (p == 0) = false := by simp [h1]
      rw [e1]
      go_enter Tryz.func93, Tryz.ntmps93
      go_wp2
      go_ret
      exact ⟨rfl, bA⟩
  · have e1 : (k == 0) = false := by simp [h0]
    rw [e1]
    go_enter Tryz.func93, Tryz.ntmps93
    go_wp2
    go_ret
    exact ⟨rfl, bA⟩

end Go.Proofs.YtpfppeifppdmbaaGreat

/- What both PacketOk answer. -/
namespace Go.Proofs.YtpfppeifppdmbaaGreat
open Go.RowKit
set_option linter.unusedVariables false

theorem nodePB_eq (id nodes : Int) : nodePB id nodes = (inB nodes 1 4 && inB id 0 (nodes - 1)) := by
  unfold nodePB inB
  rw [Bool.eq_iff_iff]
  simp only [Bool.and_eq_true, decide_eq_true_eq]
  omega

theorem packetB_eq (F T : Int) (A : Bool) (N k p : Int) (o : Bool) (xs : List Int) (nodes : Int) :
    packetB F T A N k p o xs nodes = (nodePB F nodes && (nodePB T nodes && (inB N 0 100000 && restB A k p o xs))) := by
  rw [nodePB_eq, nodePB_eq]
  unfold packetB
  cases inB nodes 1 4 <;> simp

set_option maxRecDepth 100000 in
set_option maxHeartbeats 2000000 in
theorem implPacket_any (F T : Int) (A : Bool) (N k p : Int) (o : Bool) (a : Option Addr) (ca : Nat) (xs : List Int) (nodes : Int) (w : World) (ha : Row .i64 w a xs) :
    Calls Tryz.prog 57 #[.agg #[.int .i64 F, .int .i64 T, .bool A, .int .i64 N, .int .i64 k, .int .i64 p, .bool o, .slice a xs.length ca], .int .i64 nodes] w fun e w' => e = .returned (.bool (packetB F T A N k p o xs nodes)) ∧ Below w.heap.size w w' := by
  rw [packetB_eq]
  have bA := bel_alloc (Below.refl w.heap.size w) (.cells #[.int .i64 F, .int .i64 T, .bool A, .int .i64 N, .int .i64 k, .int .i64 p, .bool o, .slice a xs.length ca] 71)
  have hq := ha.below bA
  have hlen := ha.1
  clear ha
  cases h1 : nodePB F nodes
  · have H1 : Hid (nodePB F nodes = false) := h1
    clear h1
    go_enter Tryz.func57, Tryz.ntmps57
    go_wp2_with fail
    refine (isNode_any F nodes _).mono ?_
    rintro e w1 ⟨rfl, h⟩
    subst h
    rw [H1.out]
    go_wp2
    go_ret
    exact ⟨rfl, bA⟩
  · have H1 : Hid (nodePB F nodes = true) := h1
    clear h1
    cases h2 : nodePB T nodes
    · have H2 : Hid (nodePB T nodes = false) := h2
      clear h2
      go_enter Tryz.func57, Tryz.ntmps57
      go_wp2_with fail
      refine (isNode_any F nodes _).mono ?_
      rintro e w1 ⟨rfl, h⟩
      subst h
      rw [H1.out]
      go_wp2_with fail
      refine (isNode_any T nodes _).mono ?_
      rintro e w1 ⟨rfl, h⟩
      subst h
      rw [H2.out]
      go_wp2
      go_ret
      exact ⟨rfl, bA⟩
    · have H2 : Hid (nodePB T nodes = true) := h2
      clear h2
      cases h3 : inB N 0 100000
      · have H3 : Hid (inB N 0 100000 = false) := h3
        clear h3
        go_enter Tryz.func57, Tryz.ntmps57
        go_wp2_with fail
        refine (isNode_any F nodes _).mono ?_
        rintro e w1 ⟨rfl, h⟩
        subst h
        rw [H1.out]
        go_wp2_with fail
        refine (isNode_any T nodes _).mono ?_
        rintro e w1 ⟨rfl, h⟩
        subst h
        rw [H2.out]
        go_wp2_with fail
        refine (isSeq_any N _).mono ?_
        rintro e w1 ⟨rfl, h⟩
        subst h
        rw [H3.out]
        go_wp2
        go_ret
        exact ⟨rfl, bA⟩
      · have H3 : Hid (inB N 0 100000 = true) := h3
        clear h3
        cases A
        · go_enter Tryz.func57, Tryz.ntmps57
          go_wp2_with fail
          refine (isNode_any F nodes _).mono ?_
          rintro e w1 ⟨rfl, h⟩
          subst h
          rw [H1.out]
          go_wp2_with fail
          refine (isNode_any T nodes _).mono ?_
          rintro e w1 ⟨rfl, h⟩
          subst h
          rw [H2.out]
          go_wp2_with fail
          refine (isSeq_any N _).mono ?_
          rintro e w1 ⟨rfl, h⟩
          subst h
          rw [H3.out]
          go_wp2_with fail
          refine (msgOk_any k p o a ca xs _ hq).mono ?_
          rintro e w1 ⟨rfl, b1⟩
          have B := bel_trans bA b1
          clear bA b1 hq
          go_wp2
          go_ret
          exact ⟨ret_bool (by simp [restB]), B⟩
        · go_enter Tryz.func57, Tryz.ntmps57
          go_wp2_with fail
          refine (isNode_any F nodes _).mono ?_
          rintro e w1 ⟨rfl, h⟩
          subst h
          rw [H1.out]
          go_wp2_with fail
          refine (isNode_any T nodes _).mono ?_
          rintro e w1 ⟨rfl, h⟩
          subst h
          rw [H2.out]
          go_wp2_with fail
          refine (isSeq_any N _).mono ?_
          rintro e w1 ⟨rfl, h⟩
          subst h
          rw [H3.out]
          go_wp2_with fail
          refine (isNoMsg_any k p o a xs.length ca _ hlen).mono ?_
          rintro e w1 ⟨rfl, b1⟩
          have B := bel_trans bA b1
          clear bA b1 hq
          go_wp2
          go_ret
          exact ⟨ret_bool (by simp [restB]), B⟩

theorem specInB (x lo hi : Int) (w : World) :
    Calls Tryz.prog 26 #[.int .i64 x, .int .i64 lo, .int .i64 hi] w fun e w' => e = .returned (.bool (inB x lo hi)) ∧ w' = w := specIn_any x lo hi w

set_option maxRecDepth 100000 in
set_option maxHeartbeats 2000000 in
theorem specPacket_any (F T : Int) (A : Bool) (N k p : Int) (o : Bool) (a : Option Addr) (ca : Nat) (xs : List Int) (nodes : Int) (w : World) (ha : Row .i64 w a xs) :
    Calls Tryz.prog 46 #[.agg #[.int .i64 F, .int .i64 T, .bool A, .int .i64 N, .int .i64 k, .int .i64 p, .bool o, .slice a xs.length ca], .int .i64 nodes] w fun e w' => e = .returned (.bool (packetB F T A N k p o xs nodes)) ∧ Below w.heap.size w w' := by
  unfold packetB
  have bA := bel_alloc (Below.refl w.heap.size w) (.cells #[.int .i64 F, .int .i64 T, .bool A, .int .i64 N, .int .i64 k, .int .i64 p, .bool o, .slice a xs.length ca] 71)
  have hq := ha.below bA
  have hlen := ha.1
  clear ha
  cases h0 : inB nodes 1 4
  · have H0 : Hid (inB nodes 1 4 = false) := h0
    clear h0
    go_enter Tryz.func46, Tryz.ntmps46
    go_wp2_with fail
    refine (specInB nodes 1 4 _).mono ?_
    rintro e w1 ⟨rfl, h⟩
    subst h
    rw [H0.out]
    go_wp2
    go_ret
    exact ⟨rfl, bA⟩
  · have H0 : Hid (inB nodes 1 4 = true) := h0
    have hn : 1 ≤ nodes ∧ nodes ≤ 4 := of_decide_eq_true h0
    obtain ⟨hn1, hn2⟩ := hn
    clear h0
    cases h1 : inB F 0 (nodes - 1)
    · have H1 : Hid (inB F 0 (nodes - 1) = false) := h1
      clear h1
      go_enter Tryz.func46, Tryz.ntmps46
      go_wp2_with fail
      refine (specInB nodes 1 4 _).mono ?_
      rintro e w1 ⟨rfl, h⟩
      subst h
      rw [H0.out]
      go_wp2_with fail
      refine (specInB F 0 (nodes - 1) _).mono ?_
      rintro e w1 ⟨rfl, h⟩
      subst h
      rw [H1.out]
      go_wp2
      go_ret
      exact ⟨rfl, bA⟩
    · have H1 : Hid (inB F 0 (nodes - 1) = true) := h1
      clear h1
      cases h2 : inB T 0 (nodes - 1)
      · have H2 : Hid (inB T 0 (nodes - 1) = false) := h2
        clear h2
        go_enter Tryz.func46, Tryz.ntmps46
        go_wp2_with fail
        refine (specInB nodes 1 4 _).mono ?_
        rintro e w1 ⟨rfl, h⟩
        subst h
        rw [H0.out]
        go_wp2_with fail
        refine (specInB F 0 (nodes - 1) _).mono ?_
        rintro e w1 ⟨rfl, h⟩
        subst h
        rw [H1.out]
        go_wp2_with fail
        refine (specInB T 0 (nodes - 1) _).mono ?_
        rintro e w1 ⟨rfl, h⟩
        subst h
        rw [H2.out]
        go_wp2
        go_ret
        exact ⟨rfl, bA⟩
      · have H2 : Hid (inB T 0 (nodes - 1) = true) := h2
        clear h2
        cases h3 : inB N 0 100000
        · have H3 : Hid (inB N 0 100000 = false) := h3
          clear h3
          go_enter Tryz.func46, Tryz.ntmps46
          go_wp2_with fail
          refine (specInB nodes 1 4 _).mono ?_
          rintro e w1 ⟨rfl, h⟩
          subst h
          rw [H0.out]
          go_wp2_with fail
          refine (specInB F 0 (nodes - 1) _).mono ?_
          rintro e w1 ⟨rfl, h⟩
          subst h
          rw [H1.out]
          go_wp2_with fail
          refine (specInB T 0 (nodes - 1) _).mono ?_
          rintro e w1 ⟨rfl, h⟩
          subst h
          rw [H2.out]
          go_wp2_with fail
          refine (specInB N 0 100000 _).mono ?_
          rintro e w1 ⟨rfl, h⟩
          subst h
          rw [H3.out]
          go_wp2
          go_ret
          exact ⟨rfl, bA⟩
        · have H3 : Hid (inB N 0 100000 = true) := h3
          clear h3
          cases A
          · go_enter Tryz.func46, Tryz.ntmps46
            go_wp2_with fail
            refine (specInB nodes 1 4 _).mono ?_
            rintro e w1 ⟨rfl, h⟩
            subst h
            rw [H0.out]
            go_wp2_with fail
            refine (specInB F 0 (nodes - 1) _).mono ?_
            rintro e w1 ⟨rfl, h⟩
            subst h
            rw [H1.out]
            go_wp2_with fail
            refine (specInB T 0 (nodes - 1) _).mono ?_
            rintro e w1 ⟨rfl, h⟩
            subst h
            rw [H2.out]
            go_wp2_with fail
            refine (specInB N 0 100000 _).mono ?_
            rintro e w1 ⟨rfl, h⟩
            subst h
            rw [H3.out]
            go_wp2_with fail
            refine (specMsgOk_any k p o a ca xs _ hq).mono ?_
            rintro e w1 ⟨rfl, b1⟩
            have B := bel_trans bA b1
            clear bA b1 hq
            go_wp2
            go_ret
            exact ⟨ret_bool (by simp [restB]), B⟩
          · have er : restB true k p o xs = zeroB k p o xs.length := rfl
            rw [er]
            unfold zeroB
            clear er
            by_cases k0 : k = 0
            · subst k0
              by_cases p0 : p = 0
              · subst p0
                cases o
                all_goals
                  go_enter Tryz.func46, Tryz.ntmps46
                  go_wp2_with fail
                  refine (specInB nodes 1 4 _).mono ?_
                  rintro e w1 ⟨rfl, h⟩
                  subst h
                  rw [H0.out]
                  go_wp2_with fail
                  refine (specInB F 0 (nodes - 1) _).mono ?_
                  rintro e w1 ⟨rfl, h⟩
                  subst h
                  rw [H1.out]
                  go_wp2_with fail
                  refine (specInB T 0 (nodes - 1) _).mono ?_
                  rintro e w1 ⟨rfl, h⟩
                  subst h
                  rw [H2.out]
                  go_wp2_with fail
                  refine (specInB N 0 100000 _).mono ?_
                  rintro e w1 ⟨rfl, h⟩
                  subst h
                  rw [H3.out]
                  go_wp2
                  go_ret
                  exact ⟨ret_bool (by simp), bA⟩
              · have e1 : (p == 0) = false := by simp [p0]
                rw [e1]
                go_enter Tryz.func46, Tryz.ntmps46
                go_wp2_with fail
                refine (specInB nodes 1 4 _).mono ?_
                rintro e w1 ⟨rfl, h⟩
                subst h
                rw [H0.out]
                go_wp2_with fail
                refine (specInB F 0 (nodes - 1) _).mono ?_
                rintro e w1 ⟨rfl, h⟩
                subst h
                rw [H1.out]
                go_wp2_with fail
                refine (specInB T 0 (nodes - 1) _).mono ?_
                rintro e w1 ⟨rfl, h⟩
                subst h
                rw [H2.out]
                go_wp2_with fail
                refine (specInB N 0 100000 _).mono ?_
                rintro e w1 ⟨rfl, h⟩
                subst h
                rw [H3.out]
                go_wp2
                go_ret
                exact ⟨ret_bool (by simp), bA⟩
            · have e1 : (k == 0) = false := by simp [k0]
              rw [e1]
              go_enter Tryz.func46, Tryz.ntmps46
              go_wp2_with fail
              refine (specInB nodes 1 4 _).mono ?_
              rintro e w1 ⟨rfl, h⟩
              subst h
              rw [H0.out]
              go_wp2_with fail
              refine (specInB F 0 (nodes - 1) _).mono ?_
              rintro e w1 ⟨rfl, h⟩
              subst h
              rw [H1.out]
              go_wp2_with fail
              refine (specInB T 0 (nodes - 1) _).mono ?_
              rintro e w1 ⟨rfl, h⟩
              subst h
              rw [H2.out]
              go_wp2_with fail
              refine (specInB N 0 100000 _).mono ?_
              rintro e w1 ⟨rfl, h⟩
              subst h
              rw [H3.out]
              go_wp2
              go_ret
              exact ⟨ret_bool (by simp), bA⟩

end Go.Proofs.YtpfppeifppdmbaaGreat
