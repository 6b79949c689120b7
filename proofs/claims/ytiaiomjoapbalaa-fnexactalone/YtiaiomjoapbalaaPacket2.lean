/- What both PacketOk answer. -/
import Derived.Test.YtiaiomjoapbalaaPacket
import Derived.Test.YtiaiomjoapbalaaSpecOk
namespace Go.Proofs.Ytiaiomjoapbalaa
open Go.RowKit
set_option linter.unusedVariables false

theorem nodePB_eq (id nodes : Int) : nodePB id nodes = (inB nodes 1 4 && inB id 0 (nodes - 1)) := by
  unfold nodePB inB
  rw [Bool.eq_iff_iff]
  simp only [Bool.and_eq_true, decide_eq_true_eq]
  omega

theorem packetB_eq (F T : Int) (A : Bool) (N k p : Int) (o : Bool) (xs : List Int) (nodes : Int) :
    packetB F T A N k p o xs nodes = (nodePB F nodes && (nodePB T nodes && (inB N 0 100000 && restB A k p o xs))) := by
  rw [nodePB_eq, nodePB_eq]
  unfold packetB
  cases inB nodes 1 4 <;> simp

set_option maxRecDepth 100000 in
set_option maxHeartbeats 2000000 in
theorem implPacket_any (F T : Int) (A : Bool) (N k p : Int) (o : Bool) (a : Option Addr) (ca : Nat) (xs : List Int) (nodes : Int) (w : World) (ha : Row .i64 w a xs) :
    Calls Try.prog 30 #[.agg #[.int .i64 F, .int .i64 T, .bool A, .int .i64 N, .int .i64 k, .int .i64 p, .bool o, .slice a xs.length ca], .int .i64 nodes] w fun e w' => e = .returned (.bool (packetB F T A N k p o xs nodes)) ∧ Below w.heap.size w w' := by
  rw [packetB_eq]
  have bA := bel_alloc (Below.refl w.heap.size w) (.cells #[.int .i64 F, .int .i64 T, .bool A, .int .i64 N, .int .i64 k, .int .i64 p, .bool o, .slice a xs.length ca] 70)
  have hq := ha.below bA
  have hlen := ha.1
  clear ha
  cases h1 : nodePB F nodes
  · have H1 : Hid (nodePB F nodes = false) := h1
    clear h1
    go_enter Try.func30, Try.ntmps30
    go_wp2_with fail
    refine (isNode_any F nodes _).mono ?_
    rintro e w1 ⟨rfl, h⟩
    subst h
    rw [H1.out]
    go_wp2
    go_ret
    exact ⟨rfl, bA⟩
  · have H1 : Hid (nodePB F nodes = true) := h1
    clear h1
    cases h2 : nodePB T nodes
    · have H2 : Hid (nodePB T nodes = false) := h2
      clear h2
      go_enter Try.func30, Try.ntmps30
      go_wp2_with fail
      refine (isNode_any F nodes _).mono ?_
      rintro e w1 ⟨rfl, h⟩
      subst h
      rw [H1.out]
      go_wp2_with fail
      refine (isNode_any T nodes _).mono ?_
      rintro e w1 ⟨rfl, h⟩
      subst h
      rw [H2.out]
      go_wp2
      go_ret
      exact ⟨rfl, bA⟩
    · have H2 : Hid (nodePB T nodes = true) := h2
      clear h2
      cases h3 : inB N 0 100000
      · have H3 : Hid (inB N 0 100000 = false) := h3
        clear h3
        go_enter Try.func30, Try.ntmps30
        go_wp2_with fail
        refine (isNode_any F nodes _).mono ?_
        rintro e w1 ⟨rfl, h⟩
        subst h
        rw [H1.out]
        go_wp2_with fail
        refine (isNode_any T nodes _).mono ?_
        rintro e w1 ⟨rfl, h⟩
        subst h
        rw [H2.out]
        go_wp2_with fail
        refine (isSeq_any N _).mono ?_
        rintro e w1 ⟨rfl, h⟩
        subst h
        rw [H3.out]
        go_wp2
        go_ret
        exact ⟨rfl, bA⟩
      · have H3 : Hid (inB N 0 100000 = true) := h3
        clear h3
        cases A
        · go_enter Try.func30, Try.ntmps30
          go_wp2_with fail
          refine (isNode_any F nodes _).mono ?_
          rintro e w1 ⟨rfl, h⟩
          subst h
          rw [H1.out]
          go_wp2_with fail
          refine (isNode_any T nodes _).mono ?_
          rintro e w1 ⟨rfl, h⟩
          subst h
          rw [H2.out]
          go_wp2_with fail
          refine (isSeq_any N _).mono ?_
          rintro e w1 ⟨rfl, h⟩
          subst h
          rw [H3.out]
          go_wp2_with fail
          refine (msgOk_any k p o a ca xs _ hq).mono ?_
          rintro e w1 ⟨rfl, b1⟩
          have B := bel_trans bA b1
          clear bA b1 hq
          go_wp2
          go_ret
          exact ⟨ret_bool (by simp [restB]), B⟩
        · go_enter Try.func30, Try.ntmps30
          go_wp2_with fail
          refine (isNode_any F nodes _).mono ?_
          rintro e w1 ⟨rfl, h⟩
          subst h
          rw [H1.out]
          go_wp2_with fail
          refine (isNode_any T nodes _).mono ?_
          rintro e w1 ⟨rfl, h⟩
          subst h
          rw [H2.out]
          go_wp2_with fail
          refine (isSeq_any N _).mono ?_
          rintro e w1 ⟨rfl, h⟩
          subst h
          rw [H3.out]
          go_wp2_with fail
          refine (isNoMsg_any k p o a xs.length ca _ hlen).mono ?_
          rintro e w1 ⟨rfl, b1⟩
          have B := bel_trans bA b1
          clear bA b1 hq
          go_wp2
          go_ret
          exact ⟨ret_bool (by simp [restB]), B⟩

theorem specInB (x lo hi : Int) (w : World) :
    Calls Try.prog 12 #[.int .i64 x, .int .i64 lo, .int .i64 hi] w fun e w' => e = .returned (.bool (inB x lo hi)) ∧ w' = w := specIn_any x lo hi w

set_option maxRecDepth 100000 in
set_option maxHeartbeats 2000000 in
theorem specPacket_any (F T : Int) (A : Bool) (N k p : Int) (o : Bool) (a : Option Addr) (ca : Nat) (xs : List Int) (nodes : Int) (w : World) (ha : Row .i64 w a xs) :
    Calls Try.prog 24 #[.agg #[.int .i64 F, .int .i64 T, .bool A, .int .i64 N, .int .i64 k, .int .i64 p, .bool o, .slice a xs.length ca], .int .i64 nodes] w fun e w' => e = .returned (.bool (packetB F T A N k p o xs nodes)) ∧ Below w.heap.size w w' := by
  unfold packetB
  have bA := bel_alloc (Below.refl w.heap.size w) (.cells #[.int .i64 F, .int .i64 T, .bool A, .int .i64 N, .int .i64 k, .int .i64 p, .bool o, .slice a xs.length ca] 70)
  have hq := ha.below bA
  have hlen := ha.1
  clear ha
  cases h0 : inB nodes 1 4
  · have H0 : Hid (inB nodes 1 4 = false) := h0
    clear h0
    go_enter Try.func24, Try.ntmps24
    go_wp2_with fail
    refine (specInB nodes 1 4 _).mono ?_
    rintro e w1 ⟨rfl, h⟩
    subst h
    rw [H0.out]
    go_wp2
    go_ret
    exact ⟨rfl, bA⟩
  · have H0 : Hid (inB nodes 1 4 = true) := h0
    have hn : 1 ≤ nodes ∧ nodes ≤ 4 := of_decide_eq_true h0
    obtain ⟨hn1, hn2⟩ := hn
    clear h0
    cases h1 : inB F 0 (nodes - 1)
    · have H1 : Hid (inB F 0 (nodes - 1) = false) := h1
      clear h1
      go_enter Try.func24, Try.ntmps24
      go_wp2_with fail
      refine (specInB nodes 1 4 _).mono ?_
      rintro e w1 ⟨rfl, h⟩
      subst h
      rw [H0.out]
      go_wp2_with fail
      refine (specInB F 0 (nodes - 1) _).mono ?_
      rintro e w1 ⟨rfl, h⟩
      subst h
      rw [H1.out]
      go_wp2
      go_ret
      exact ⟨rfl, bA⟩
    · have H1 : Hid (inB F 0 (nodes - 1) = true) := h1
      clear h1
      cases h2 : inB T 0 (nodes - 1)
      · have H2 : Hid (inB T 0 (nodes - 1) = false) := h2
        clear h2
        go_enter Try.func24, Try.ntmps24
        go_wp2_with fail
        refine (specInB nodes 1 4 _).mono ?_
        rintro e w1 ⟨rfl, h⟩
        subst h
        rw [H0.out]
        go_wp2_with fail
        refine (specInB F 0 (nodes - 1) _).mono ?_
        rintro e w1 ⟨rfl, h⟩
        subst h
        rw [H1.out]
        go_wp2_with fail
        refine (specInB T 0 (nodes - 1) _).mono ?_
        rintro e w1 ⟨rfl, h⟩
        subst h
        rw [H2.out]
        go_wp2
        go_ret
        exact ⟨rfl, bA⟩
      · have H2 : Hid (inB T 0 (nodes - 1) = true) := h2
        clear h2
        cases h3 : inB N 0 100000
        · have H3 : Hid (inB N 0 100000 = false) := h3
          clear h3
          go_enter Try.func24, Try.ntmps24
          go_wp2_with fail
          refine (specInB nodes 1 4 _).mono ?_
          rintro e w1 ⟨rfl, h⟩
          subst h
          rw [H0.out]
          go_wp2_with fail
          refine (specInB F 0 (nodes - 1) _).mono ?_
          rintro e w1 ⟨rfl, h⟩
          subst h
          rw [H1.out]
          go_wp2_with fail
          refine (specInB T 0 (nodes - 1) _).mono ?_
          rintro e w1 ⟨rfl, h⟩
          subst h
          rw [H2.out]
          go_wp2_with fail
          refine (specInB N 0 100000 _).mono ?_
          rintro e w1 ⟨rfl, h⟩
          subst h
          rw [H3.out]
          go_wp2
          go_ret
          exact ⟨rfl, bA⟩
        · have H3 : Hid (inB N 0 100000 = true) := h3
          clear h3
          cases A
          · go_enter Try.func24, Try.ntmps24
            go_wp2_with fail
            refine (specInB nodes 1 4 _).mono ?_
            rintro e w1 ⟨rfl, h⟩
            subst h
            rw [H0.out]
            go_wp2_with fail
            refine (specInB F 0 (nodes - 1) _).mono ?_
            rintro e w1 ⟨rfl, h⟩
            subst h
            rw [H1.out]
            go_wp2_with fail
            refine (specInB T 0 (nodes - 1) _).mono ?_
            rintro e w1 ⟨rfl, h⟩
            subst h
            rw [H2.out]
            go_wp2_with fail
            refine (specInB N 0 100000 _).mono ?_
            rintro e w1 ⟨rfl, h⟩
            subst h
            rw [H3.out]
            go_wp2_with fail
            refine (specMsgOk_any k p o a ca xs _ hq).mono ?_
            rintro e w1 ⟨rfl, b1⟩
            have B := bel_trans bA b1
            clear bA b1 hq
            go_wp2
            go_ret
            exact ⟨ret_bool (by simp [restB]), B⟩
          · have er : restB true k p o xs = zeroB k p o xs.length := rfl
            rw [er]
            unfold zeroB
            clear er
            by_cases k0 : k = 0
            · subst k0
              by_cases p0 : p = 0
              · subst p0
                cases o
                all_goals
                  go_enter Try.func24, Try.ntmps24
                  go_wp2_with fail
                  refine (specInB nodes 1 4 _).mono ?_
                  rintro e w1 ⟨rfl, h⟩
                  subst h
                  rw [H0.out]
                  go_wp2_with fail
                  refine (specInB F 0 (nodes - 1) _).mono ?_
                  rintro e w1 ⟨rfl, h⟩
                  subst h
                  rw [H1.out]
                  go_wp2_with fail
                  refine (specInB T 0 (nodes - 1) _).mono ?_
                  rintro e w1 ⟨rfl, h⟩
                  subst h
                  rw [H2.out]
                  go_wp2_with fail
                  refine (specInB N 0 100000 _).mono ?_
                  rintro e w1 ⟨rfl, h⟩
                  subst h
                  rw [H3.out]
                  go_wp2
                  go_ret
                  exact ⟨ret_bool (by simp), bA⟩
              · have e1 : (p == 0) = false := by simp [p0]
                rw [e1]
                go_enter Try.func24, Try.ntmps24
                go_wp2_with fail
                refine (specInB nodes 1 4 _).mono ?_
                rintro e w1 ⟨rfl, h⟩
                subst h
                rw [H0.out]
                go_wp2_with fail
                refine (specInB F 0 (nodes - 1) _).mono ?_
                rintro e w1 ⟨rfl, h⟩
                subst h
                rw [H1.out]
                go_wp2_with fail
                refine (specInB T 0 (nodes - 1) _).mono ?_
                rintro e w1 ⟨rfl, h⟩
                subst h
                rw [H2.out]
                go_wp2_with fail
                refine (specInB N 0 100000 _).mono ?_
                rintro e w1 ⟨rfl, h⟩
                subst h
                rw [H3.out]
                go_wp2
                go_ret
                exact ⟨ret_bool (by simp), bA⟩
            · have e1 : (k == 0) = false := by simp [k0]
              rw [e1]
              go_enter Try.func24, Try.ntmps24
              go_wp2_with fail
              refine (specInB nodes 1 4 _).mono ?_
              rintro e w1 ⟨rfl, h⟩
              subst h
              rw [H0.out]
              go_wp2_with fail
              refine (specInB F 0 (nodes - 1) _).mono ?_
              rintro e w1 ⟨rfl, h⟩
              subst h
              rw [H1.out]
              go_wp2_with fail
              refine (specInB T 0 (nodes - 1) _).mono ?_
              rintro e w1 ⟨rfl, h⟩
              subst h
              rw [H2.out]
              go_wp2_with fail
              refine (specInB N 0 100000 _).mono ?_
              rintro e w1 ⟨rfl, h⟩
              subst h
              rw [H3.out]
              go_wp2
              go_ret
              exact ⟨ret_bool (by simp), bA⟩

end Go.Proofs.Ytiaiomjoapbalaa
