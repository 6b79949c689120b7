/- What spec's NodeOk does (written by mkno3.py). -/
import Derived.Test.YtpfppeifppdmbaaGreatNdO2
namespace Go.Proofs.YtpfppeifppdmbaaGreat
open Go.RowKit
set_option linter.unusedVariables false

theorem specNodeOk_and {d : ND} {nodes : Int} {n : Nat} (h : nodeB d.id nodes = true) (h1 : d.nf = 6) (h2 : d.nh = 6) (h3 : (d.no : Int) = nodes) (h4 : (d.ni : Int) = nodes) (hn : nodes = (n : Int)) :
    (∀ i, i < 6 → frB (d.f i) = true ∧ hoB nodes (d.h i) = true) → (∀ i, i < n → sB (d.b i) (d.y i) = true ∧ inB (d.g i) 0 100000 = true) → nodeOkB d nodes = true := fun ha hb => by
  rw [nodeOk_good h h1 h2 h3 h4, allB_ok (fun i hi => (ha i (by omega)).1), allB_ok (fun i hi => (ha i (by omega)).2), allB_ok (fun i hi => (hb i (by omega)).1), allB_ok (fun i hi => (hb i (by omega)).2)]
  rfl
theorem specNodeOk_f {d : ND} {nodes : Int} {i : Nat} (hi : i < d.nf) (h : frB (d.f i) = false) : nodeOkB d nodes = false := by unfold nodeOkB; rw [allB_bad (f := fun i => frB (d.f i)) hi h]; simp
theorem specNodeOk_h {d : ND} {nodes : Int} {i : Nat} (hi : i < d.nh) (h : hoB nodes (d.h i) = false) : nodeOkB d nodes = false := by unfold nodeOkB; rw [allB_bad (f := fun i => hoB nodes (d.h i)) hi h]; simp
theorem specNodeOk_s {d : ND} {nodes : Int} {i : Nat} (hi : i < d.no) (h : sB (d.b i) (d.y i) = false) : nodeOkB d nodes = false := by unfold nodeOkB; rw [allB_bad (f := fun i => sB (d.b i) (d.y i)) hi h]; simp
theorem specNodeOk_g {d : ND} {nodes : Int} {i : Nat} (hi : i < d.ni) (h : inB (d.g i) 0 100000 = false) : nodeOkB d nodes = false := by unfold nodeOkB; rw [allB_bad (f := fun i => inB (d.g i) 0 100000) hi h]; simp

set_option maxRecDepth 100000 in
set_option maxHeartbeats 8000000 in
theorem specNodeOk_any (d : ND) (p : NP) (nodes : Int) (w : World) (hbs : ∀ i, i < d.nh → (d.h i).bs.length ≤ 1048577) (hR : NR w d p) :
    Calls Tryz.prog 45 #[.agg (ncells d p), .int .i64 nodes] w fun e w' => e = .returned (.bool (nodeOkB d nodes)) ∧ Below w.heap.size w w' := by
  have B := bel_alloc (Below.refl w.heap.size w) (.cells (ncells d p) 67)
  have X := Box.new w (ncells d p) 67
  replace hR := hR.below B
  have n1 : d.nf ≤ 1048577 := hR.f.1
  have n2 : d.nh ≤ 1048577 := hR.h.1
  have n3 : d.no ≤ 1048577 := hR.o.1
  have n4 : d.ni ≤ 1048577 := hR.i.1
  have HBS : Hid (∀ i, i < d.nh → (d.h i).bs.length ≤ 1048577) := hbs
  clear hbs
  by_cases a0 : inB nodes 1 4 = true
  case neg =>
    have HE : Hid (nodeOkB d nodes = false) := nodeOk_bad (.inl (by simp [nodeB, a0]))
    have G0 : Hid (inB nodes 1 4 = false) := by show _ = _; simpa using a0
    clear a0 hR
    clear X
    go_enter Tryz.func45, Tryz.ntmps45
    go_wp2_with fail
    refine (specIn_b nodes 1 4 _).mono ?_
    rintro e w1 ⟨rfl, h⟩
    subst h
    rw [G0.out]
    go_wp2
    go_ret
    exact ⟨ret_bool HE.out.symm, B⟩
  by_cases a1 : inB d.id 0 (nodes - 1) = true
  case neg =>
    have HE : Hid (nodeOkB d nodes = false) := nodeOk_bad (.inl (by simp [nodeB, a1]))
    have G0 : Hid (inB nodes 1 4 = true) := by show _ = _; simpa using a0
    have h14 : 1 ≤ nodes ∧ nodes ≤ 4 := by simpa [inB] using a0
    have G1 : Hid (inB d.id 0 (nodes - 1) = false) := by show _ = _; simpa using a1
    clear a0 a1 hR
    clear X
    go_enter Tryz.func45, Tryz.ntmps45
    go_wp2_with fail
    refine (specIn_b nodes 1 4 _).mono ?_
    rintro e w1 ⟨rfl, h⟩
    subst h
    rw [G0.out]
    go_wp2_with fail
    refine (specIn_b d.id 0 (nodes - 1) _).mono ?_
    rintro e w1 ⟨rfl, h⟩
    subst h
    rw [G1.out]
    go_wp2
    go_ret
    exact ⟨ret_bool HE.out.symm, B⟩
  by_cases a2 : d.nf = 6
  case neg =>
    have HE : Hid (nodeOkB d nodes = false) := nodeOk_bad (.inr (.inl a2))
    have G0 : Hid (inB nodes 1 4 = true) := by show _ = _; simpa using a0
    have h14 : 1 ≤ nodes ∧ nodes ≤ 4 := by simpa [inB] using a0
    have G1 : Hid (inB d.id 0 (nodes - 1) = true) := by show _ = _; simpa using a1
    have e2 : ((d.nf : Int) != 6) = true := by simp; omega
    clear a0 a1 a2 hR
    go_enter Tryz.func45, Tryz.ntmps45
    go_wp2_with fail
    refine (specIn_b nodes 1 4 _).mono ?_
    rintro e w1 ⟨rfl, h⟩
    subst h
    rw [G0.out]
    go_wp2_with fail
    refine (specIn_b d.id 0 (nodes - 1) _).mono ?_
    rintro e w1 ⟨rfl, h⟩
    subst h
    rw [G1.out]
    go_wp2
    go_ret
    exact ⟨ret_bool HE.out.symm, B⟩
  by_cases a3 : d.nh = 6
  case neg =>
    have HE : Hid (nodeOkB d nodes = false) := nodeOk_bad (.inr (.inr (.inl a3)))
    have G0 : Hid (inB nodes 1 4 = true) := by show _ = _; simpa using a0
    have h14 : 1 ≤ nodes ∧ nodes ≤ 4 := by simpa [inB] using a0
    have G1 : Hid (inB d.id 0 (nodes - 1) = true) := by show _ = _; simpa using a1
    have e2 : ((d.nf : Int) != 6) = false := by simp; omega
    have e3 : ((d.nh : Int) != 6) = true := by simp; omega
    clear a0 a1 a2 a3 hR
    go_enter Tryz.func45, Tryz.ntmps45
    go_wp2_with fail
    refine (specIn_b nodes 1 4 _).mono ?_
    rintro e w1 ⟨rfl, h⟩
    subst h
    rw [G0.out]
    go_wp2_with fail
    refine (specIn_b d.id 0 (nodes - 1) _).mono ?_
    rintro e w1 ⟨rfl, h⟩
    subst h
    rw [G1.out]
    go_wp2
    go_ret
    exact ⟨ret_bool HE.out.symm, B⟩
  by_cases a4 : (d.no : Int) = nodes
  case neg =>
    have HE : Hid (nodeOkB d nodes = false) := nodeOk_bad (.inr (.inr (.inr (.inl a4))))
    have G0 : Hid (inB nodes 1 4 = true) := by show _ = _; simpa using a0
    have h14 : 1 ≤ nodes ∧ nodes ≤ 4 := by simpa [inB] using a0
    have G1 : Hid (inB d.id 0 (nodes - 1) = true) := by show _ = _; simpa using a1
    have e2 : ((d.nf : Int) != 6) = false := by simp; omega
    have e3 : ((d.nh : Int) != 6) = false := by simp; omega
    have e4 : ((d.no : Int) != nodes) = true := by simp; omega
    clear a0 a1 a2 a3 a4 hR
    go_enter Tryz.func45, Tryz.ntmps45
    go_wp2_with fail
    refine (specIn_b nodes 1 4 _).mono ?_
    rintro e w1 ⟨rfl, h⟩
    subst h
    rw [G0.out]
    go_wp2_with fail
    refine (specIn_b d.id 0 (nodes - 1) _).mono ?_
    rintro e w1 ⟨rfl, h⟩
    subst h
    rw [G1.out]
    go_wp2
    go_ret
    exact ⟨ret_bool HE.out.symm, B⟩
  by_cases a5 : (d.ni : Int) = nodes
  case neg =>
    have HE : Hid (nodeOkB d nodes = false) := nodeOk_bad (.inr (.inr (.inr (.inr a5))))
    have G0 : Hid (inB nodes 1 4 = true) := by show _ = _; simpa using a0
    have h14 : 1 ≤ nodes ∧ nodes ≤ 4 := by simpa [inB] using a0
    have G1 : Hid (inB d.id 0 (nodes - 1) = true) := by show _ = _; simpa using a1
    have e2 : ((d.nf : Int) != 6) = false := by simp; omega
    have e3 : ((d.nh : Int) != 6) = false := by simp; omega
    have e4 : ((d.no : Int) != nodes) = false := by simp; omega
    have e5 : ((d.ni : Int) != nodes) = true := by simp; omega
    clear a0 a1 a2 a3 a4 a5 hR
    go_enter Tryz.func45, Tryz.ntmps45
    go_wp2_with fail
    refine (specIn_b nodes 1 4 _).mono ?_
    rintro e w1 ⟨rfl, h⟩
    subst h
    rw [G0.out]
    go_wp2_with fail
    refine (specIn_b d.id 0 (nodes - 1) _).mono ?_
    rintro e w1 ⟨rfl, h⟩
    subst h
    rw [G1.out]
    go_wp2
    go_ret
    exact ⟨ret_bool HE.out.symm, B⟩
  have h14 : 1 ≤ nodes ∧ nodes ≤ 4 := by simpa [inB] using a0
  obtain ⟨n, hn⟩ : ∃ n : Nat, nodes = (n : Int) := ⟨nodes.toNat, by omega⟩
  obtain ⟨bf, of, ef, _⟩ := hR.f.at (i := 0) (by omega)
  obtain ⟨bh, oh, eh, _⟩ := hR.h.at (i := 0) (by omega)
  obtain ⟨bo, oo, eo, _⟩ := hR.o.at (i := 0) (by omega)
  obtain ⟨bi, oi, ei, _⟩ := hR.i.at (i := 0) (by omega)
  obtain ⟨⟨af, cf⟩, fp, ⟨ah, ch⟩, hp, ⟨ao, co⟩, op, ms, ⟨ai, ci⟩⟩ := p
  dsimp only at ef eh eo ei
  subst ef eh eo ei
  replace X : Box (w.alloc (.cells #[.int .i64 d.id, .slice (some ⟨bf, of, none⟩) d.nf cf, .slice (some ⟨bh, oh, none⟩) d.nh ch, .slice (some ⟨bo, oo, none⟩) d.no co, .slice (some ⟨bi, oi, none⟩) d.ni ci] 67)) w.heap.size #[.int .i64 d.id, .slice (some ⟨bf, of, none⟩) d.nf cf, .slice (some ⟨bh, oh, none⟩) d.nh ch, .slice (some ⟨bo, oo, none⟩) d.no co, .slice (some ⟨bi, oi, none⟩) d.ni ci] 67 := X
  have HA : Hid ((∀ i, i < 6 → frB (d.f i) = true ∧ hoB nodes (d.h i) = true) → (∀ i, i < n → sB (d.b i) (d.y i) = true ∧ inB (d.g i) 0 100000 = true) → nodeOkB d nodes = true) := fun ha hb => specNodeOk_and (n := n) (by simp [nodeB, a0, a1]) a2 a3 a4 a5 hn ha hb
  have G0 : Hid (inB nodes 1 4 = true) := a0
  have G1 : Hid (inB d.id 0 (nodes - 1) = true) := a1
  have e2 : ((d.nf : Int) != 6) = false := by simp; omega
  have e3 : ((d.nh : Int) != 6) = false := by simp; omega
  have e4 : ((d.no : Int) != nodes) = false := by simp; omega
  have e5 : ((d.ni : Int) != nodes) = false := by simp; omega
  have m1 : Hid (d.nf = 6 ∧ d.nh = 6 ∧ d.no = n ∧ d.ni = n) := ⟨a2, a3, by omega, by omega⟩
  have HNN : Hid (nodes = (n : Int)) := hn
  have n9 : (n : Int) ≤ 4 := by omega
  clear hn a0 a1 a2 a3 a4 a5
  go_enter Tryz.func45, Tryz.ntmps45
  go_wp2_with fail
  refine (specIn_b nodes 1 4 _).mono ?_
  rintro e w1 ⟨rfl, h⟩
  subst h
  rw [G0.out]
  go_wp2_with fail
  refine (specIn_b d.id 0 (nodes - 1) _).mono ?_
  rintro e w1 ⟨rfl, h⟩
  subst h
  rw [G1.out]
  go_wp2
  clear e2 e3 e4 e5
  go_loopw [5] (fun i wr => ∃ k : Nat, k ≤ 6 ∧ i = .int .i64 k ∧ (∀ i, i < k → frB (d.f i) = true ∧ hoB nodes (d.h i) = true) ∧ Box wr w.heap.size #[.int .i64 d.id, .slice (some ⟨bf, of, none⟩) d.nf cf, .slice (some ⟨bh, oh, none⟩) d.nh ch, .slice (some ⟨bo, oo, none⟩) d.no co, .slice (some ⟨bi, oi, none⟩) d.ni ci] 67 ∧ NR wr d ⟨(some ⟨bf, of, none⟩, cf), fp, (some ⟨bh, oh, none⟩, ch), hp, (some ⟨bo, oo, none⟩, co), op, ms, (some ⟨bi, oi, none⟩, ci)⟩ ∧ Below w.heap.size w wr) (fun i _ => 6 - (intOf i).toNat)
  case atStart => exact ⟨0, by decide, rfl, fun i hi => absurd hi (Nat.not_lt_zero i), X, hR, B⟩
  case round =>
    obtain ⟨k, hk, rfl, hall, hX, hN, hB⟩ := hrel
    have HL : Hid (∀ i, i < k → frB (d.f i) = true ∧ hoB nodes (d.h i) = true) := hall
    clear hall X hR B
    obtain ⟨x0, x1, x2, x3, x4, zx⟩ := hX.at5
    by_cases hlt : k < 6
    · have hi : (k : Int) < 6 := by omega
      have k1 : k < d.nf := by have := m1.out; omega
      have k2 : k < d.nh := by have := m1.out; omega
      have i1 : (k : Int) < (d.nf : Int) := by omega
      have i2 : (k : Int) < (d.nh : Int) := by omega
      obtain ⟨ba, oa, ea, y0, y1, y2⟩ := hN.f.at k1
      simp only [Option.some.injEq, Addr.mk.injEq, and_true] at ea
      obtain ⟨rfl, rfl⟩ := ea
      have ra := hN.f.2.2 k k1
      go_wp2_with fail
      refine (specFrameOk_any (d.f k).s (d.f k).q (fp k).1 (fp k).2 (d.f k).xs _ ra).mono ?_
      rintro e w1 ⟨rfl, b1⟩
      replace hX := hX.below b1
      replace hN := hN.below b1
      replace hB := bel_trans hB b1
      clear b1 y0 y1 y2 ra x0 x1 x2 x3 x4 zx
      cases hf : frameOkB (d.f k).s (d.f k).xs
      · have HF : Hid (nodeOkB d nodes = false) := specNodeOk_f k1 (by simpa [frB] using hf)
        clear hf hX hN
        go_wp2
        go_ret
        exact ⟨ret_bool HF.out.symm, hB⟩
      · have HF1 : Hid (frB (d.f k) = true) := hf
        clear hf
        obtain ⟨x0, x1, x2, x3, x4, zx⟩ := hX.at5
        obtain ⟨bh2, oh2, eh, z0, z1, z2, z3, z4, z5, z6, z7⟩ := hN.h.at k2
        simp only [Option.some.injEq, Addr.mk.injEq, and_true] at eh
        obtain ⟨rfl, rfl⟩ := eh
        have rh := hN.h.2.2 k k2
        go_wp2_with fail
        refine (specHomeOk_any nodes (d.h k).ow (d.h k).wh (d.h k).ak (d.h k).bz (d.h k).wo (hp k).l.1 (hp k).r.1 (hp k).q.1 (hp k).l.2 (d.h k).bs.length (hp k).r.2 (hp k).q.2 (d.h k).xs (d.h k).ws _ (HBS.out k k2) rh.1 rh.2.2).mono ?_
        rintro e w2 ⟨rfl, b1⟩
        replace hX := hX.below b1
        replace hN := hN.below b1
        replace hB := bel_trans hB b1
        clear b1 z0 z1 z2 z3 z4 z5 z6 z7 rh x0 x1 x2 x3 x4 zx
        cases hf : homeB nodes (d.h k).ow (d.h k).wh (d.h k).ak (d.h k).xs (d.h k).bs.length (d.h k).ws
        · have HF : Hid (nodeOkB d nodes = false) := specNodeOk_h k2 (by simpa [hoB] using hf)
          clear hf hX hN
          go_wp2
          go_ret
          exact ⟨ret_bool HF.out.symm, hB⟩
        · have HT : Hid (∀ i, i < k + 1 → frB (d.f i) = true ∧ hoB nodes (d.h i) = true) := fun i hi => by
            by_cases e : i = k
            · subst e; exact ⟨HF1.out, by simpa [hoB] using hf⟩
            · exact HL.out i (by omega)
          clear hf
          go_wp2
          go_roundw
          case rel => exact ⟨k + 1, by omega, by go_num, HT.out, hX, hN, hB⟩
          case measure => simp [intOf]; omega
    · have hk6 : k = 6 := by omega
      subst hk6
      have e6 : ((6 : Nat) : Int) = 6 := rfl
      rw [e6]
      clear x0 x1 x2 x3 x4 zx hk
      go_wp2
      go_loopw [6] (fun i wr2 => ∃ k : Nat, k ≤ n ∧ i = .int .i64 k ∧ (∀ i, i < k → sB (d.b i) (d.y i) = true ∧ inB (d.g i) 0 100000 = true) ∧ Box wr2 w.heap.size #[.int .i64 d.id, .slice (some ⟨bf, of, none⟩) d.nf cf, .slice (some ⟨bh, oh, none⟩) d.nh ch, .slice (some ⟨bo, oo, none⟩) d.no co, .slice (some ⟨bi, oi, none⟩) d.ni ci] 67 ∧ NR wr2 d ⟨(some ⟨bf, of, none⟩, cf), fp, (some ⟨bh, oh, none⟩, ch), hp, (some ⟨bo, oo, none⟩, co), op, ms, (some ⟨bi, oi, none⟩, ci)⟩ ∧ Below w.heap.size w wr2) (fun i _ => n - (intOf i).toNat)
      case atStart => exact ⟨0, Nat.zero_le _, rfl, fun i hi => absurd hi (Nat.not_lt_zero i), hX, hN, hB⟩
      case round =>
        obtain ⟨k, hk, rfl, hall, hX2, hN2, hB2⟩ := hrel
        have HL2 : Hid (∀ i, i < k → sB (d.b i) (d.y i) = true ∧ inB (d.g i) 0 100000 = true) := hall
        clear hall hX hN hB
        obtain ⟨x0, x1, x2, x3, x4, zx⟩ := hX2.at5
        by_cases hlt2 : k < n
        · have hi : (k : Int) < nodes := by have := HNN.out; omega
          have k1 : k < d.no := by have := m1.out; omega
          have k2 : k < d.ni := by have := m1.out; omega
          have i1 : (k : Int) < (d.no : Int) := by omega
          have i2 : (k : Int) < (d.ni : Int) := by omega
          obtain ⟨ba, oa, ea, y0, y1⟩ := hN2.o.at k1
          simp only [Option.some.injEq, Addr.mk.injEq, and_true] at ea
          obtain ⟨rfl, rfl⟩ := ea
          obtain ⟨ra, hE⟩ := hN2.o.2.2 k k1
          have HE : Hid (senderB (d.b k) (ms k) = sB (d.b k) (d.y k)) := by show _ = _; rw [senderB_eq, hE]
          have HLn : (d.y k).length = (ms k).length := by have := congrArg List.length hE; simpa using this.symm
          rw [HLn] at y1
          clear HLn hE
          go_wp2_with fail
          refine (specSender_any (d.b k) (op k).1 (op k).2 (ms k) _ ra).mono ?_
          rintro e w1 ⟨rfl, b1⟩
          rw [HE.out]
          replace hX2 := hX2.below b1
          replace hN2 := hN2.below b1
          replace hB2 := bel_trans hB2 b1
          clear b1 y0 y1 ra x0 x1 x2 x3 x4 zx
          cases hf : sB (d.b k) (d.y k)
          · have HF : Hid (nodeOkB d nodes = false) := specNodeOk_s k1 hf
            clear hf hX2 hN2
            go_wp2
            go_ret
            exact ⟨ret_bool HF.out.symm, hB2⟩
          · have HF1 : Hid (sB (d.b k) (d.y k) = true) := hf
            clear hf
            obtain ⟨x0, x1, x2, x3, x4, zx⟩ := hX2.at5
            obtain ⟨bh2, oh2, eh, z0⟩ := hN2.i.at k2
            simp only [Option.some.injEq, Addr.mk.injEq, and_true] at eh
            obtain ⟨rfl, rfl⟩ := eh
            go_wp2_with fail
            refine (specIn_b (d.g k) 0 100000 _).mono ?_
            rintro e w2 ⟨rfl, h⟩
            subst h
            clear z0 x0 x1 x2 x3 x4 zx
            cases hf : inB (d.g k) 0 100000
            · have HF : Hid (nodeOkB d nodes = false) := specNodeOk_g k2 hf
              clear hf hX2 hN2
              go_wp2
              go_ret
              exact ⟨ret_bool HF.out.symm, hB2⟩
            · have HT : Hid (∀ i, i < k + 1 → sB (d.b i) (d.y i) = true ∧ inB (d.g i) 0 100000 = true) := fun i hi => by
                by_cases e : i = k
                · subst e; exact ⟨HF1.out, hf⟩
                · exact HL2.out i (by omega)
              clear hf
              go_wp2
              go_roundw
              case rel => exact ⟨k + 1, by omega, by go_num, HT.out, hX2, hN2, hB2⟩
              case measure => simp [intOf]; omega
        · have hkn : k = n := by omega
          have HF : Hid (nodeOkB d nodes = true) := HA.out HL.out (fun i hi => HL2.out i (by omega))
          have hi : ¬ (k : Int) < nodes := by have := HNN.out; omega
          clear hX2 hN2 x0 x1 x2 x3 x4 zx
          go_wp2
          go_ret
          exact ⟨ret_bool HF.out.symm, hB2⟩
end Go.Proofs.YtpfppeifppdmbaaGreat
