/- What impl's WorldOk answers. -/
import Derived.Test.YtpfppeifppdmbaaGreatWoS
import Derived.Test.YtpfppeifppdmbaaGreatNdO2
namespace Go.Proofs.YtpfppeifppdmbaaGreat
open Go.RowKit
set_option linter.unusedVariables false

set_option maxRecDepth 100000 in
set_option maxHeartbeats 1000000 in
theorem packetOk1_any (d : PkD) (q : Pl) (nb : Nat) (c1 c2 : Value) (nodes : Int) (w : World) (hX : Box w nb #[.int .i64 nodes, c1, c2] 32) (hl : Row .i64 w q.1 d.xs) :
    Calls Tryz.prog 56 #[.agg #[.int .i64 d.f, .int .i64 d.t, .bool d.a, .int .i64 d.n, .int .i64 d.k, .int .i64 d.p, .bool d.o, .slice q.1 d.xs.length q.2], .pointer (some ⟨nb, 0, none⟩)] w fun e w' => e = .returned (.bool (pkB d nodes)) ∧ Below w.heap.size w w' := by
  have bA := bel_alloc (Below.refl w.heap.size w) (.cells #[.int .i64 d.f, .int .i64 d.t, .bool d.a, .int .i64 d.n, .int .i64 d.k, .int .i64 d.p, .bool d.o, .slice q.1 d.xs.length q.2] 71)
  replace hX := hX.below bA
  obtain ⟨x0, x1, x2, zx⟩ := hX.at3
  replace hl := hl.below bA
  go_enter Tryz.func56, Tryz.ntmps56
  go_wp2_with fail
  refine (implPacket_any d.f d.t d.a d.n d.k d.p d.o q.1 q.2 d.xs nodes _ hl).mono ?_
  rintro e w1 ⟨rfl, b1⟩
  have B := bel_trans bA b1
  clear bA b1 hX x0 x1 x2 zx hl
  go_wp2
  go_ret
  exact ⟨rfl, B⟩

set_option maxRecDepth 100000 in
set_option maxHeartbeats 1000000 in
theorem allOkP_any (a : Option Addr) (c n nb : Nat) (c1 c2 : Value) (nodes : Int) (d : Nat → PkD) (p : Nat → Pl) (w : World) (hX : Box w nb #[.int .i64 nodes, c1, c2] 32) (ha : PkR w a n d p) :
    Calls Tryz.prog 58 #[.slice a n c, .func (.func 56) #[] #[.pointer (some ⟨nb, 0, none⟩)]] w fun e w' => e = .returned (.bool (allB n fun i => pkB (d i) nodes)) ∧ Below w.heap.size w w' := by
  have hl : n ≤ 1048577 := ha.1
  go_enter Tryz.func58, Tryz.ntmps58
  go_wp2
  go_loopw [9] (fun i wr => ∃ k : Nat, k ≤ n ∧ i = .int .i64 k ∧ (∀ i, i < k → pkB (d i) nodes = true) ∧ PkR wr a n d p ∧ Box wr nb #[.int .i64 nodes, c1, c2] 32 ∧ Below w.heap.size w wr) (fun i _ => n - (intOf i).toNat)
  case atStart => exact ⟨0, Nat.zero_le _, rfl, fun i hi => absurd hi (Nat.not_lt_zero i), ha, hX, Below.refl _ _⟩
  case round =>
    obtain ⟨k, hk, rfl, hall, hma, hX1, hB⟩ := hrel
    have HA : Hid (∀ i, i < k → pkB (d i) nodes = true) := hall
    clear hall ha hX
    by_cases hlt : k < n
    · have hi : (k : Int) < (n : Int) := by omega
      obtain ⟨ba, oa, rfl, y0, y1, y2, y3, y4, y5, y6, y7⟩ := hma.at hlt
      have ra := hma.2.2 k hlt
      have bx := bel_alloc (Below.refl wr.heap.size wr) (.cells #[.int .i64 (d k).f, .int .i64 (d k).t, .bool (d k).a, .int .i64 (d k).n, .int .i64 (d k).k, .int .i64 (d k).p, .bool (d k).o, .slice (p k).1 (d k).xs.length (p k).2] 71)
      have r1 := ra.below bx
      have hX2 := hX1.below bx
      clear ra
      go_wp2_with fail
      refine (packetOk1_any (d k) (p k) nb c1 c2 nodes _ hX2 r1).mono ?_
      rintro e w1 ⟨rfl, b1⟩
      have hma1 := hma.below (bel_trans bx b1)
      have hX3 := hX1.below (bel_trans bx b1)
      have hB1 := bel_trans hB (bel_trans bx b1)
      clear hma hB b1 y0 y1 y2 y3 y4 y5 y6 y7 r1 bx hX1 hX2
      cases hf : pkB (d k) nodes
      · have HF : Hid (allB n (fun i => pkB (d i) nodes) = false) := allB_bad hlt hf
        clear hf hX3 hma1
        go_wp2
        go_ret
        exact ⟨ret_bool HF.out.symm, hB1⟩
      · have HT : Hid (∀ i, i < k + 1 → pkB (d i) nodes = true) := fun i hi => by
          by_cases e : i = k
          · subst e; exact hf
          · exact HA.out i (by omega)
        clear hf
        go_wp2
        go_roundw
        case rel => exact ⟨k + 1, by omega, by go_num, HT.out, hma1, hX3, hB1⟩
        case measure => simp [intOf]; omega
    · have HT : Hid (allB n (fun i => pkB (d i) nodes) = true) := allB_ok (fun i hi => HA.out i (by omega))
      clear hma hX1
      go_wp2
      go_ret
      exact ⟨ret_bool HT.out.symm, hB⟩

set_option maxRecDepth 100000 in
set_option maxHeartbeats 4000000 in
theorem implWorldOk_big (size : Int) (nn nk : Nat) (D : Nat → ND) (K : Nat → PkD) (p : WoP) (w : World) (hn : nn ≤ 1048577) (hk : nk ≤ 1048577) (hb : inB size 1 4 = false ∨ (inB size 1 4 = true ∧ (¬ (nn : Int) = size ∨ ((nn : Int) = size ∧ 40 < nk)))) :
    Calls Tryz.prog 30 #[.agg (wcells ⟨size, nn, D, nk, K⟩ p)] w fun e w' => e = .returned (.bool false) ∧ Below w.heap.size w w' := by
  have B := bel_alloc (Below.refl w.heap.size w) (.cells (wcells ⟨size, nn, D, nk, K⟩ p) 32)
  rcases hb with h | ⟨h, h2 | ⟨h2, h3⟩⟩
  · have H1 : Hid (inB size 1 4 = false) := h
    clear h
    go_enter Tryz.func30, Tryz.ntmps30
    go_wp2_with fail
    refine (areNodes_h size _).mono ?_
    rintro e w1 ⟨rfl, h⟩
    subst h
    rw [H1.out]
    go_wp2
    go_ret
    exact ⟨rfl, B⟩
  · have H1 : Hid (inB size 1 4 = true) := h
    have h4 : ((nn : Int) == size) = false := by simpa using h2
    clear h
    go_enter Tryz.func30, Tryz.ntmps30
    go_wp2_with fail
    refine (areNodes_h size _).mono ?_
    rintro e w1 ⟨rfl, h⟩
    subst h
    rw [H1.out]
    go_wp2
    go_ret
    exact ⟨rfl, B⟩
  · subst h2
    have H1 : Hid (inB (nn : Int) 1 4 = true) := h
    have h4 : (40 : Int) < (nk : Int) := by omega
    clear h
    go_enter Tryz.func30, Tryz.ntmps30
    go_wp2_with fail
    refine (areNodes_h (nn : Int) _).mono ?_
    rintro e w1 ⟨rfl, h⟩
    subst h
    rw [H1.out]
    go_wp2
    go_ret
    exact ⟨rfl, B⟩

set_option maxRecDepth 100000 in
set_option maxHeartbeats 8000000 in
theorem implWorldOk_in (nn nk : Nat) (D : Nat → ND) (K : Nat → PkD) (pn pk : Option Addr) (cn ck : Nat) (P : Nat → NP) (Q : Nat → Pl) (w : World) (hbs : ∀ i, i < nn → ∀ j, j < (D i).nh → ((D i).h j).bs.length ≤ 1048577) (hN : NsR w pn nn D P) (hK : PkR w pk nk K Q) (h1 : inB (nn : Int) 1 4 = true) (h3 : nk ≤ 40) :
    Calls Tryz.prog 30 #[.agg #[.int .i64 (nn : Int), .slice pn nn cn, .slice pk nk ck]] w fun e w' => e = .returned (.bool (allB nn (fun i => nodeOkB (D i) nn && decide ((D i).id = (i : Int))) && allB nk (fun i => pkB (K i) nn))) ∧ Below w.heap.size w w' := by
  have B := bel_alloc (Below.refl w.heap.size w) (.cells #[.int .i64 (nn : Int), .slice pn nn cn, .slice pk nk ck] 32)
  have X := Box.new w #[.int .i64 (nn : Int), .slice pn nn cn, .slice pk nk ck] 32
  have HN : Hid (NsR w pn nn D P) := hN
  have HK : Hid (PkR w pk nk K Q) := hK
  have HBS : Hid (∀ i, i < nn → ∀ j, j < (D i).nh → ((D i).h j).bs.length ≤ 1048577) := hbs
  have H1 : Hid (inB (nn : Int) 1 4 = true) := h1
  have hn4 : nn ≤ 4 := by simp [inB] at h1; omega
  have hk40 : (nk : Int) ≤ 40 := by omega
  obtain ⟨W0, hW0⟩ : ∃ W0, w.alloc (.cells #[.int .i64 (nn : Int), .slice pn nn cn, .slice pk nk ck] 32) = W0 := ⟨_, rfl⟩
  rw [hW0] at B X
  have HX : Hid (Box W0 w.heap.size #[.int .i64 (nn : Int), .slice pn nn cn, .slice pk nk ck] 32) := X
  have HB : Hid (Below w.heap.size w W0) := B
  obtain ⟨x0, x1, x2, xz⟩ := X.at3
  clear hN hK hbs h1 B X
  go_enter Tryz.func30, Tryz.ntmps30
  go_wp2_with fail
  refine (areNodes_h (nn : Int) _).mono ?_
  rintro e w1 ⟨rfl, h⟩
  replace h := h.symm
  subst h
  rw [H1.out]
  go_wp2_with fail
  go_loopw [27] (fun i wr => ∃ k : Nat, k ≤ nn ∧ i = .int .i64 k ∧ (∀ j, j < k → (nodeOkB (D j) nn && decide ((D j).id = (j : Int))) = true) ∧ Below W0.heap.size W0 wr) (fun i _ => nn - (intOf i).toNat)
  case atStart => exact ⟨0, Nat.zero_le _, rfl, fun j hj => absurd hj (Nat.not_lt_zero j), Below.refl _ _⟩
  case round =>
    obtain ⟨k, hk, rfl, hdone, Bk⟩ := hrel
    have HD : Hid (∀ j, j < k → (nodeOkB (D j) nn && decide ((D j).id = (j : Int))) = true) := hdone
    clear hdone x0 x1 x2 xz
    have Xk := HX.out.below Bk
    have BW := bel_trans HB.out Bk
    by_cases hkn : k < nn
    · have hi : (k : Int) < (nn : Int) := by omega
      have hNk := HN.out.below BW
      obtain ⟨b, off, rfl, y0, y1, y2, y3, y4⟩ := hNk.at hkn
      have hrow := hNk.2.2 k hkn
      have HROW : Hid (NR wr (D k) (P k)) := hrow
      have HBK : Hid (Below W0.heap.size W0 wr) := Bk
      obtain ⟨x0, x1, x2, xz⟩ := Xk.at3
      have HBS2 := HBS.out k hkn
      clear hNk hrow Bk Xk BW
      by_cases hid : (D k).id = (k : Int)
      · have HID : Hid ((D k).id = (k : Int)) := hid
        have bx := bel_alloc (Below.refl wr.heap.size wr) (.cells #[.int .i64 (k : Int), .slice (P k).f.1 (D k).nf (P k).f.2, .slice (P k).h.1 (D k).nh (P k).h.2, .slice (P k).o.1 (D k).no (P k).o.2, .slice (P k).i.1 (D k).ni (P k).i.2] 67)
        have HBX : Hid (Below wr.heap.size wr _) := bx
        have HRW : Hid (NR _ (D k) (P k)) := HROW.out.below bx
        have HCE : Hid (ncells (D k) (P k) = #[.int .i64 (k : Int), .slice (P k).f.1 (D k).nf (P k).f.2, .slice (P k).h.1 (D k).nh (P k).h.2, .slice (P k).o.1 (D k).no (P k).o.2, .slice (P k).i.1 (D k).ni (P k).i.2]) := by show _ = _; rw [← hid]
        rw [hid] at y0
        clear hid bx
        cases hok : nodeOkB (D k) nn
        · have HOK : Hid (nodeOkB (D k) nn = false) := hok
          clear hok
          go_wp2_with fail
          have key := implNodeOk_any (D k) (P k) nn _ HBS2 HRW.out
          rw [HCE.out] at key
          refine key.mono ?_
          rintro e w1 ⟨rfl, b1⟩
          rw [HOK.out]
          have HF : Hid (Below w.heap.size w w1) := bel_trans HB.out (bel_trans HBK.out (bel_trans HBX.out b1))
          have HV : Hid ((allB nn (fun i => nodeOkB (D i) nn && decide ((D i).id = (i : Int))) && allB nk (fun i => pkB (K i) nn)) = false) := by show _ = _; rw [allB_bad hkn (by rw [HOK.out]; rfl)]; rfl
          clear b1 key
          go_wp2
          go_ret
          exact ⟨ret_bool HV.out.symm, HF.out⟩
        · have HOK : Hid (nodeOkB (D k) nn = true) := hok
          clear hok
          go_wp2_with fail
          have key := implNodeOk_any (D k) (P k) nn _ HBS2 HRW.out
          rw [HCE.out] at key
          refine key.mono ?_
          rintro e w1 ⟨rfl, b1⟩
          rw [HOK.out]
          have HF : Hid (Below W0.heap.size W0 w1) := bel_trans HBK.out (bel_trans HBX.out b1)
          have HD2 : Hid (∀ j, j < k + 1 → (nodeOkB (D j) nn && decide ((D j).id = (j : Int))) = true) := fun j hj => by
            by_cases e : j = k
            · subst e; rw [HOK.out, decide_eq_true HID.out]; rfl
            · exact HD.out j (by omega)
          clear b1 key x0 x1 x2 xz y0 y1 y2 y3 y4
          go_wp2
          go_roundw
          case rel => exact ⟨k + 1, by omega, by go_num, HD2.out, HF.out⟩
          case measure => simp [intOf]; omega
      · have HID : Hid (¬ (D k).id = (k : Int)) := hid
        have hidb : ((D k).id == (k : Int)) = false := by simpa using hid
        have bx := bel_alloc (Below.refl wr.heap.size wr) (.cells #[.int .i64 (D k).id, .slice (P k).f.1 (D k).nf (P k).f.2, .slice (P k).h.1 (D k).nh (P k).h.2, .slice (P k).o.1 (D k).no (P k).o.2, .slice (P k).i.1 (D k).ni (P k).i.2] 67)
        have HBX : Hid (Below wr.heap.size wr _) := bx
        clear bx
        have HF : Hid (Below w.heap.size w _) := bel_trans HB.out (bel_trans HBK.out HBX.out)
        have HV : Hid ((allB nn (fun i => nodeOkB (D i) nn && decide ((D i).id = (i : Int))) && allB nk (fun i => pkB (K i) nn)) = false) := by show _ = _; rw [allB_bad hkn (by rw [decide_eq_false HID.out, Bool.and_false])]; rfl
        go_wp2
        go_ret
        exact ⟨ret_bool HV.out.symm, HF.out⟩
    · have hke : (nn : Int) ≤ (k : Int) := by omega
      have HA : Hid (allB nn (fun i => nodeOkB (D i) nn && decide ((D i).id = (i : Int))) = true) := allB_ok (fun i hi => HD.out i (by omega))
      have HBW : Hid (Below w.heap.size w wr) := BW
      have HKR := HK.out.below BW
      obtain ⟨x0, x1, x2, xz⟩ := Xk.at3
      clear BW Bk
      go_wp2_with fail
      refine (allOkP_any pk ck nk w.heap.size _ _ nn K Q _ Xk HKR).mono ?_
      rintro e w1 ⟨rfl, b1⟩
      have HF : Hid (Below w.heap.size w w1) := bel_trans HBW.out b1
      have HV : Hid ((allB nn (fun i => nodeOkB (D i) nn && decide ((D i).id = (i : Int))) && allB nk (fun i => pkB (K i) nn)) = allB nk (fun i => pkB (K i) nn)) := by show _ = _; rw [HA.out]; rfl
      clear b1 Xk x0 x1 x2 xz HKR
      go_wp2
      go_ret
      exact ⟨ret_bool HV.out.symm, HF.out⟩

theorem implWorldOk_any (d : WoD) (p : WoP) (w : World) (hbs : ∀ i, i < d.nn → ∀ j, j < (d.d i).nh → ((d.d i).h j).bs.length ≤ 1048577) (hR : WoR w d p) :
    Calls Tryz.prog 30 #[.agg (wcells d p)] w fun e w' => e = .returned (.bool (worldB d)) ∧ Below w.heap.size w w' := by
  obtain ⟨size, nn, D, nk, K⟩ := d
  have hn := hR.n.1
  have hk := hR.k.1
  unfold worldB
  cases h1 : inB size 1 4
  · exact implWorldOk_big size nn nk D K p w hn hk (.inl h1)
  · by_cases h2 : (nn : Int) = size
    · by_cases h3 : nk ≤ 40
      · subst h2
        rw [decide_eq_true rfl, decide_eq_true h3]
        exact implWorldOk_in nn nk D K p.n.1 p.k.1 p.n.2 p.k.2 p.np p.kp w hbs hR.n hR.k h1 h3
      · rw [decide_eq_true h2, decide_eq_false h3]
        exact implWorldOk_big size nn nk D K p w hn hk (.inr ⟨h1, .inr ⟨h2, by omega⟩⟩)
    · rw [decide_eq_false h2]
      exact implWorldOk_big size nn nk D K p w hn hk (.inr ⟨h1, .inl h2⟩)
end Go.Proofs.YtpfppeifppdmbaaGreat
