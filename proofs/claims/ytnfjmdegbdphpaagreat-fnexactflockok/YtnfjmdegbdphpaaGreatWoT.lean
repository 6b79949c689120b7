/- WoZ and WoT: see the heads of the parts. -/
import Derived.Test.YtnfjmdegbdphpaaGreatWoR
import Derived.Test.YtnfjmdegbdphpaaGreatNdZ
import Derived.Test.YtnfjmdegbdphpaaGreatWoO0
import Derived.Test.YtnfjmdegbdphpaaGreatWtT2
/- How great a world is: what the law's szNodeS, szPacketS and szWorld tell of one that came in. -/
namespace Go.Proofs.YtnfjmdegbdphpaaGreat
open Go.RowKit
set_option linter.unusedVariables false

/-- Rows of packets and of nodes, and a world, that came in. -/
def PkC (w : World) (a : Option Addr) (n : Nat) (d : Nat → PkD) (q : Nat → Pl) : Prop := n ≤ maxLen ∧ VCame w a (chunks n fun i => pkcells (d i) (q i)) ∧ ∀ i, i < n → Came .i64 w (q i).1 (q i).2 (d i).xs
def NsC (w : World) (a : Option Addr) (n : Nat) (d : Nat → ND) (p : Nat → NP) : Prop := n ≤ maxLen ∧ VCame w a (chunks n fun i => nlist (d i) (p i)) ∧ ∀ i, i < n → NC w (d i) (p i)
theorem PkC.below {w w' : World} {a : Option Addr} {n : Nat} {d : Nat → PkD} {q : Nat → Pl} (h : PkC w a n d q) (hb : Below w.heap.size w w') : PkC w' a n d q := ⟨h.1, h.2.1.below hb, fun i hi => (h.2.2 i hi).below hb⟩
theorem NsC.below {w w' : World} {a : Option Addr} {n : Nat} {d : Nat → ND} {p : Nat → NP} (h : NsC w a n d p) (hb : Below w.heap.size w w') : NsC w' a n d p := ⟨h.1, h.2.1.below hb, fun i hi => (h.2.2 i hi).below hb⟩
theorem PkC.pr {w : World} {a : Option Addr} {n : Nat} {d : Nat → PkD} {q : Nat → Pl} (h : PkC w a n d q) (hn : n ≤ 1048576) (hx : ∀ i, i < n → (d i).xs.length ≤ 1048576) : PkR w a n d q :=
  ⟨by omega, h.2.1.vrow (by rw [chunks_length (s := 8) n (fun i _ => rfl)]; omega), fun i hi => (h.2.2 i hi).row (by have := hx i hi; omega)⟩
theorem NsC.nr {w : World} {a : Option Addr} {n : Nat} {d : Nat → ND} {p : Nat → NP} (h : NsC w a n d p) (hn : n ≤ 1048576) (hx : ∀ i, i < n → Nsm (d i)) : NsR w a n d p :=
  ⟨by omega, h.2.1.vrow (by rw [chunks_length (s := 5) n (fun i _ => rfl)]; omega), fun i hi => (h.2.2 i hi).nr (hx i hi)⟩
structure WoC (w : World) (d : WoD) (p : WoP) : Prop where
  n : NsC w p.n.1 d.nn d.d p.np
  k : PkC w p.k.1 d.nk d.k p.kp
theorem WoC.below {w w' : World} {d : WoD} {p : WoP} (h : WoC w d p) (b : Below w.heap.size w w') : WoC w' d p := ⟨h.n.below b, h.k.below b⟩
/-- How great a world may be. -/
structure Wsm (d : WoD) : Prop where
  n : d.nn ≤ 1048576 ∧ ∀ i, i < d.nn → Nsm (d.d i)
  k : d.nk ≤ 1048576 ∧ ∀ i, i < d.nk → (d.k i).xs.length ≤ 1048576
theorem WoC.wr {w : World} {d : WoD} {p : WoP} (h : WoC w d p) (s : Wsm d) : WoR w d p := ⟨h.n.nr s.n.1 s.n.2, h.k.pr s.k.1 s.k.2⟩

set_option maxRecDepth 100000 in
set_option maxHeartbeats 2000000 in
theorem szNode_gen (d : ND) (p : NP) (L0 : Int) (w : World) (l0 : 0 ≤ L0) (l9 : L0 ≤ 1048576) (hC : NC w d p) :
    Calls Tryz.prog 40 #[.agg (ncells d p), .int .i64 L0] w fun e w' => ∃ r, e = .returned (.int .i64 r) ∧ (r = -1 ∨ (0 ≤ r ∧ r ≤ 1048576 ∧ Nsm d)) ∧ Below w.heap.size w w' := by
  have B := bel_alloc (Below.refl w.heap.size w) (.cells (ncells d p) 92)
  have X := Box.new w (ncells d p) 92
  replace hC := hC.below B
  go_enter Tryz.func40, Tryz.ntmps40
  go_wp2_with fail
  refine (szFrameS_gen _ _ d.nf d.f p.fp L0 _ l0 l9 hC.f).mono ?_
  rintro e w1 ⟨r1, rfl, h1, b1⟩
  replace X := X.below b1
  replace hC := hC.below b1
  replace B := bel_trans B b1
  clear b1
  rcases h1 with rfl | ⟨l1, u1, s1⟩
  · clear X hC
    go_wp2
    go_ret
    exact ⟨_, rfl, .inl rfl, B⟩
  have S1 : Hid (d.nf ≤ 1048576 ∧ ∀ i, i < d.nf → (d.f i).xs.length ≤ 1048576) := s1
  clear s1
  obtain ⟨x0, x1, x2, x3, x4, zx⟩ := X.at5
  go_wp2_with fail
  refine (szHomeS_gen _ _ d.nh d.h p.hp r1 _ l1 u1 hC.h).mono ?_
  rintro e w2 ⟨r2, rfl, h2, b1⟩
  replace X := X.below b1
  replace hC := hC.below b1
  replace B := bel_trans B b1
  clear b1 x0 x1 x2 x3 x4 zx
  rcases h2 with rfl | ⟨l2, u2, s2⟩
  · clear X hC
    go_wp2
    go_ret
    exact ⟨_, rfl, .inl rfl, B⟩
  have S2 : Hid (d.nh ≤ 1048576 ∧ ∀ i, i < d.nh → (d.h i).xs.length ≤ 1048576 ∧ (d.h i).bs.length ≤ 1048576 ∧ (d.h i).ws.length ≤ 1048576) := s2
  clear s2
  obtain ⟨x0, x1, x2, x3, x4, zx⟩ := X.at5
  go_wp2_with fail
  refine (szSenderS_gen _ _ d.no d.b d.y p.op p.ms r2 _ l2 u2 hC.o).mono ?_
  rintro e w3 ⟨r3, rfl, h3, b1⟩
  replace X := X.below b1
  replace hC := hC.below b1
  replace B := bel_trans B b1
  clear b1 x0 x1 x2 x3 x4 zx
  rcases h3 with rfl | ⟨l3, u3, s3⟩
  · clear X hC
    go_wp2
    go_ret
    exact ⟨_, rfl, .inl rfl, B⟩
  have S3 : Hid (d.no ≤ 1048576 ∧ ∀ i, i < d.no → (d.y i).length ≤ 1048576 ∧ ∀ s ∈ d.y i, s.2.2.2.length ≤ 1048576) := s3
  clear s3
  obtain ⟨x0, x1, x2, x3, x4, zx⟩ := X.at5
  go_wp2_with fail
  refine (szReceiverS_gen _ _ d.ni r3 _ l3 u3 hC.i.1).mono ?_
  rintro e w4 ⟨r4, rfl, h4, b1⟩
  replace B := bel_trans B b1
  clear b1 x0 x1 x2 x3 x4 zx X hC
  rcases h4 with rfl | ⟨l4, u4, s4⟩
  · go_wp2
    go_ret
    exact ⟨_, rfl, .inl rfl, B⟩
  go_wp2
  go_ret
  exact ⟨_, rfl, .inr ⟨l4, u4, S1.out, S2.out, S3.out, s4⟩, B⟩
set_option maxRecDepth 100000 in
set_option maxHeartbeats 2000000 in
theorem szPacket_gen (d : PkD) (q : Pl) (L : Int) (w : World) (h0 : 0 ≤ L) (h1 : L ≤ 1048576) (hn : d.xs.length ≤ maxLen) :
    Calls Tryz.prog 41 #[.agg #[.int .i64 d.f, .int .i64 d.t, .bool d.a, .int .i64 d.n, .int .i64 d.k, .int .i64 d.p, .bool d.o, .slice q.1 d.xs.length q.2], .int .i64 L] w fun e w' => ∃ r, e = .returned (.int .i64 r) ∧ (r = -1 ∨ (0 ≤ r ∧ r ≤ 1048576 ∧ d.xs.length ≤ 1048576)) ∧ Below w.heap.size w w' := by
  have bA := bel_alloc (Below.refl w.heap.size w) (.cells #[.int .i64 d.f, .int .i64 d.t, .bool d.a, .int .i64 d.n, .int .i64 d.k, .int .i64 d.p, .bool d.o, .slice q.1 d.xs.length q.2] 96)
  go_enter Tryz.func41, Tryz.ntmps41
  go_wp2_with fail
  refine (szMsg_gen d.k d.p d.o q.1 d.xs.length q.2 L _ h0 h1 hn).mono ?_
  rintro e w1 ⟨r, rfl, hr, b1⟩
  have B := bel_trans bA b1
  rcases hr with rfl | ⟨rfl, r2⟩
  · go_wp2
    go_ret
    exact ⟨_, rfl, .inl rfl, B⟩
  · have hd : decide (L - (d.xs.length : Int) < 0) = false := by simp; omega
    have HL : Hid (d.xs.length ≤ 1048576 ∧ L - (d.xs.length : Int) ≤ 1048576) := ⟨by omega, by omega⟩
    go_wp2
    go_ret
    exact ⟨_, rfl, .inr ⟨r2, HL.out.2, HL.out.1⟩, B⟩

set_option maxRecDepth 100000 in
set_option maxHeartbeats 2000000 in
theorem szNodeS_gen (a : Option Addr) (ca n : Nat) (d : Nat → ND) (p : Nat → NP) (L0 : Int) (w : World) (l0 : 0 ≤ L0) (l1 : L0 ≤ 1048576) (ha : NsC w a n d p) :
    Calls Tryz.prog 19 #[.slice a n ca, .int .i64 L0] w fun e w' => ∃ r, e = .returned (.int .i64 r) ∧ (r = -1 ∨ (0 ≤ r ∧ r ≤ 1048576 ∧ n ≤ 1048576 ∧ ∀ i, i < n → Nsm (d i))) ∧ Below w.heap.size w w' := by
  have hl : n ≤ 9223372036854775807 := by have h1 := ha.1; unfold maxLen at h1; omega
  by_cases hb : L0 < (n : Int)
  · clear ha
    go_enter Tryz.func19, Tryz.ntmps19
    go_wp2
    go_ret
    exact ⟨_, rfl, .inl rfl, Below.refl _ _⟩
  · have hb' : (n : Int) ≤ L0 := by omega
    go_enter Tryz.func19, Tryz.ntmps19
    go_wp2
    go_loopw [1, 5] (fun q i wr => ∃ (k : Nat) (L : Int), k ≤ n ∧ i = .int .i64 k ∧ q = .int .i64 L ∧ 0 ≤ L ∧ L ≤ 1048576 ∧ (∀ i, i < k → Nsm (d i)) ∧ NsC wr a n d p ∧ Below w.heap.size w wr) (fun _ i _ => n - (intOf i).toNat)
    case atStart => exact ⟨0, _, Nat.zero_le _, rfl, rfl, by omega, by omega, fun j hj => absurd hj (Nat.not_lt_zero j), ha, Below.refl _ _⟩
    case round =>
      obtain ⟨k, L, hk, rfl, rfl, hL0, hL1, hdone, hm, hB⟩ := hrel
      have HD : Hid (∀ i, i < k → Nsm (d i)) := hdone
      clear hdone
      by_cases hlt : k < n
      · have hi : (k : Int) < (n : Int) := by omega
        obtain ⟨b, off, rfl, hc⟩ := hm.2.1.chunk (s := 5) (fun i _ => rfl) (by decide) hlt
        have y0 := hc 0 _ rfl
        have y1 := hc 1 _ rfl
        have y2 := hc 2 _ rfl
        have y3 := hc 3 _ rfl
        have y4 := hc 4 _ rfl
        rw [Nat.add_zero] at y0
        have hml := hm.2.2 k hlt
        clear hc
        clear ha
        go_wp2_with fail
        refine (szNode_gen (d k) (p k) L _ hL0 hL1 hml).mono ?_
        rintro e w1 ⟨r, rfl, hsz, b1⟩
        have hm1 := hm.below b1
        have hB1 := bel_trans hB b1
        clear hm hB b1 y0 y1 y2 y3 y4 hml
        rcases hsz with rfl | ⟨hr0, hr1, hr2⟩
        · clear hm1
          go_wp2
          go_ret
          exact ⟨_, rfl, .inl rfl, hB1⟩
        · have HX : Hid (∀ i, i < k + 1 → Nsm (d i)) := fun i hi => by
            by_cases e : i = k
            · subst e
              exact hr2
            · exact HD.out i (by omega)
          clear hr2
          go_wp2
          go_roundw
          case rel => exact ⟨k + 1, r, by omega, by go_num, rfl, hr0, hr1, HX.out, hm1, hB1⟩
          case measure => simp [intOf]; omega
      · clear ha hm
        go_wp2
        go_ret
        exact ⟨_, rfl, .inr ⟨hL0, hL1, by omega, fun i hi => HD.out i (by omega)⟩, hB⟩

set_option maxRecDepth 100000 in
set_option maxHeartbeats 2000000 in
theorem szPacketS_gen (a : Option Addr) (ca n : Nat) (d : Nat → PkD) (p : Nat → Pl) (L0 : Int) (w : World) (l0 : 0 ≤ L0) (l1 : L0 ≤ 1048576) (ha : PkC w a n d p) :
    Calls Tryz.prog 20 #[.slice a n ca, .int .i64 L0] w fun e w' => ∃ r, e = .returned (.int .i64 r) ∧ (r = -1 ∨ (0 ≤ r ∧ r ≤ 1048576 ∧ n ≤ 1048576 ∧ ∀ i, i < n → (d i).xs.length ≤ 1048576)) ∧ Below w.heap.size w w' := by
  have hl : n ≤ 9223372036854775807 := by have h1 := ha.1; unfold maxLen at h1; omega
  by_cases hb : L0 < (n : Int)
  · clear ha
    go_enter Tryz.func20, Tryz.ntmps20
    go_wp2
    go_ret
    exact ⟨_, rfl, .inl rfl, Below.refl _ _⟩
  · have hb' : (n : Int) ≤ L0 := by omega
    go_enter Tryz.func20, Tryz.ntmps20
    go_wp2
    go_loopw [1, 5] (fun q i wr => ∃ (k : Nat) (L : Int), k ≤ n ∧ i = .int .i64 k ∧ q = .int .i64 L ∧ 0 ≤ L ∧ L ≤ 1048576 ∧ (∀ i, i < k → (d i).xs.length ≤ 1048576) ∧ PkC wr a n d p ∧ Below w.heap.size w wr) (fun _ i _ => n - (intOf i).toNat)
    case atStart => exact ⟨0, _, Nat.zero_le _, rfl, rfl, by omega, by omega, fun j hj => absurd hj (Nat.not_lt_zero j), ha, Below.refl _ _⟩
    case round =>
      obtain ⟨k, L, hk, rfl, rfl, hL0, hL1, hdone, hm, hB⟩ := hrel
      have HD : Hid (∀ i, i < k → (d i).xs.length ≤ 1048576) := hdone
      clear hdone
      by_cases hlt : k < n
      · have hi : (k : Int) < (n : Int) := by omega
        obtain ⟨b, off, rfl, hc⟩ := hm.2.1.chunk (s := 8) (fun i _ => rfl) (by decide) hlt
        have y0 := hc 0 _ rfl
        have y1 := hc 1 _ rfl
        have y2 := hc 2 _ rfl
        have y3 := hc 3 _ rfl
        have y4 := hc 4 _ rfl
        have y5 := hc 5 _ rfl
        have y6 := hc 6 _ rfl
        have y7 := hc 7 _ rfl
        rw [Nat.add_zero] at y0
        have hml : (d k).xs.length ≤ maxLen := Nat.le_trans (hm.2.2 k hlt).1 (hm.2.2 k hlt).2.1
        clear hc
        clear ha
        go_wp2_with fail
        refine (szPacket_gen (d k) (p k) L _ hL0 hL1 hml).mono ?_
        rintro e w1 ⟨r, rfl, hsz, b1⟩
        have hm1 := hm.below b1
        have hB1 := bel_trans hB b1
        clear hm hB b1 y0 y1 y2 y3 y4 y5 y6 y7 hml
        rcases hsz with rfl | ⟨hr0, hr1, hr2⟩
        · clear hm1
          go_wp2
          go_ret
          exact ⟨_, rfl, .inl rfl, hB1⟩
        · have HX : Hid (∀ i, i < k + 1 → (d i).xs.length ≤ 1048576) := fun i hi => by
            by_cases e : i = k
            · subst e
              exact hr2
            · exact HD.out i (by omega)
          clear hr2
          go_wp2
          go_roundw
          case rel => exact ⟨k + 1, r, by omega, by go_num, rfl, hr0, hr1, HX.out, hm1, hB1⟩
          case measure => simp [intOf]; omega
      · clear ha hm
        go_wp2
        go_ret
        exact ⟨_, rfl, .inr ⟨hL0, hL1, by omega, fun i hi => HD.out i (by omega)⟩, hB⟩

set_option maxRecDepth 100000 in
set_option maxHeartbeats 2000000 in
theorem szWorld_any (d : WoD) (p : WoP) (w : World) (hC : WoC w d p) :
    Calls Tryz.prog 9 #[.agg (wcells d p), .int .i64 1048576] w fun e w' => ∃ r, e = .returned (.int .i64 r) ∧ (r = -1 ∨ (0 ≤ r ∧ r ≤ 1048576 ∧ Wsm d)) ∧ Below w.heap.size w w' := by
  have B := bel_alloc (Below.refl w.heap.size w) (.cells (wcells d p) 25)
  have X := Box.new w (wcells d p) 25
  replace hC := hC.below B
  go_enter Tryz.func9, Tryz.ntmps9
  go_wp2_with fail
  refine (szNodeS_gen _ _ d.nn d.d p.np 1048576 _ (by omega) (by omega) hC.n).mono ?_
  rintro e w1 ⟨r1, rfl, h1, b1⟩
  replace X := X.below b1
  replace hC := hC.below b1
  replace B := bel_trans B b1
  clear b1
  rcases h1 with rfl | ⟨l1, u1, s1⟩
  · clear X hC
    go_wp2
    go_ret
    exact ⟨_, rfl, .inl rfl, B⟩
  have S1 : Hid (d.nn ≤ 1048576 ∧ ∀ i, i < d.nn → Nsm (d.d i)) := s1
  clear s1
  obtain ⟨x0, x1, x2, zx⟩ := X.at3
  go_wp2_with fail
  refine (szPacketS_gen _ _ d.nk d.k p.kp r1 _ l1 u1 hC.k).mono ?_
  rintro e w2 ⟨r2, rfl, h2, b1⟩
  replace B := bel_trans B b1
  clear b1 x0 x1 x2 zx X hC
  rcases h2 with rfl | ⟨l2, u2, s2⟩
  · go_wp2
    go_ret
    exact ⟨_, rfl, .inl rfl, B⟩
  go_wp2
  go_ret
  exact ⟨_, rfl, .inr ⟨l2, u2, S1.out, s2⟩, B⟩
end Go.Proofs.YtnfjmdegbdphpaaGreat

/- Owned rows of nodes and of packets, and an owned world; what the law's toNodeS, toPacketS and toWorld lay. -/
namespace Go.Proofs.YtnfjmdegbdphpaaGreat
open Go.RowKit
set_option linter.unusedVariables false

theorem WoO.wr {w : World} {d : WoD} {p : WoP} (h : WoO w d p) (s : Wsm d) : WoR w d p := ⟨NsO.nr h.n s.n.1 s.n.2, PkO.pr h.k s.k.1 s.k.2⟩

set_option maxRecDepth 100000 in
set_option maxHeartbeats 2000000 in
theorem toPacketS_own (a : Option Addr) (ca n : Nat) (d : Nat → PkD) (p : Nat → Pl) (w : World) (hn : n ≤ 1048576) (hx : ∀ i, i < n → (d i).xs.length ≤ 1048576) (ha : PkR w a n d p) :
    Calls Tryz.prog 28 #[.slice a n ca] w fun e w' => ∃ a' c' p', e = .returned (.slice a' n c') ∧ PkO w' a' c' n d p' ∧ (∀ b, RS a' c' n (fun i => QF (p' i)) b → w.heap.size ≤ b) ∧ Below w.heap.size w w' := by
  obtain ⟨i0, hi, hz0, hz1, hz2⟩ := info_parts info_packetW
  have HX : Hid (∀ i, i < n → (d i).xs.length ≤ 1048576) := hx
  clear hx
  go_enter Tryz.func28, Tryz.ntmps28
  go_wp2_with (at_make; refine wpList_make_full _ rfl (.tmp 6) (.tmp 6) 32 rfl w.heap.size 74 i0 (.agg #[.int .i64 0, .int .i64 0, .bool false, .int .i64 0, .int .i64 0, .int .i64 0, .bool false, .slice none 0 0]) 8 Tryz.underlying32 hi hz0 hz1 .i64 .i64 _ _ n rfl rfl rfl rfl (by rw [hz2]; omega) (by unfold maxLen; omega) (Nat.le_refl _) ?_)
  intro w1 ho hg
  have hb1 : Below w.heap.size w w1 := (Below.refl _ _).grown hg (Nat.le_refl _) (fun k hk => by cases hk)
  rw [made_chunks _ 8 n rfl (by decide)] at ho
  have F0 : PTw w1 w.heap.size (some ⟨w.heap.size, 0, none⟩) n n 0 d (fun _ => (none, 0)) (fun _ => [.int .i64 0, .int .i64 0, .bool false, .int .i64 0, .int .i64 0, .int .i64 0, .bool false, .slice none 0 0]) := Tw.start (owns_base ho (Nat.zero_le _))
  clear hg ho
  go_wp2
  go_loopw [4] (fun i wr => ∃ k : Nat, k ≤ n ∧ i = .int .i64 k ∧ ∃ p', PTw wr w.heap.size (some ⟨w.heap.size, 0, none⟩) n n k d p' (fun _ => [.int .i64 0, .int .i64 0, .bool false, .int .i64 0, .int .i64 0, .int .i64 0, .bool false, .slice none 0 0]) ∧ Below w.heap.size w wr) (fun i _ => n - (intOf i).toNat)
  case atStart => exact ⟨0, Nat.zero_le _, rfl, _, F0, hb1⟩
  case round =>
    obtain ⟨k, hk, rfl, p', hF, hbr⟩ := hrel
    clear F0 hb1
    by_cases hkn : k < n
    · have hi' : (k : Int) < (n : Int) := by omega
      have har := ha.below hbr
      obtain ⟨b, off, rfl, y0, y1, y2, y3, y4, y5, y6, y7⟩ := har.at hkn
      have hrow := har.2.2 k hkn
      go_wp2_with fail
      refine (toPacket_any (d k).f (d k).t (d k).a (d k).n (d k).k (d k).p (d k).o (p k).1 (p k).2 (d k).xs _ (HX.out k hkn) hrow).mono ?_
      rintro e w2 ⟨v2, rfl, o2, b2⟩
      obtain ⟨a2, c2, rfl⟩ := owns_slice o2
      have R : Hid _ := packet_put hF (fun i _ => rfl) hkn b2 hbr.size o2
      have hr2 := owns_below hF.r.row b2
      have B : Hid _ := bel_setCell (bel_setCell (bel_setCell (bel_setCell (bel_setCell (bel_setCell (bel_setCell (bel_setCell ((bel_trans hbr b2)) ⟨w.heap.size, k * 8, none⟩ (.int .i64 (d k).f) (Nat.le_refl _)) ⟨w.heap.size, k * 8 + 1, none⟩ (.int .i64 (d k).t) (Nat.le_refl _)) ⟨w.heap.size, k * 8 + 2, none⟩ (.bool (d k).a) (Nat.le_refl _)) ⟨w.heap.size, k * 8 + 3, none⟩ (.int .i64 (d k).n) (Nat.le_refl _)) ⟨w.heap.size, k * 8 + 4, none⟩ (.int .i64 (d k).k) (Nat.le_refl _)) ⟨w.heap.size, k * 8 + 5, none⟩ (.int .i64 (d k).p) (Nat.le_refl _)) ⟨w.heap.size, k * 8 + 6, none⟩ (.bool (d k).o) (Nat.le_refl _)) ⟨w.heap.size, k * 8 + 7, none⟩ (.slice a2 (d k).xs.length c2) (Nat.le_refl _)
      have q0 := hr2.frozenAt (k * 8)
      have q1 := hr2.frozenAt (k * 8 + 1)
      have q2 := hr2.frozenAt (k * 8 + 2)
      have q3 := hr2.frozenAt (k * 8 + 3)
      have q4 := hr2.frozenAt (k * 8 + 4)
      have q5 := hr2.frozenAt (k * 8 + 5)
      have q6 := hr2.frozenAt (k * 8 + 6)
      have q7 := hr2.frozenAt (k * 8 + 7)
      obtain ⟨u0, g0⟩ := cellN hr2 hkn (t := 0) (by decide)
      obtain ⟨u1, g1⟩ := cellN hr2 hkn (t := 1) (by decide)
      obtain ⟨u2, g2⟩ := cellN hr2 hkn (t := 2) (by decide)
      obtain ⟨u3, g3⟩ := cellN hr2 hkn (t := 3) (by decide)
      obtain ⟨u4, g4⟩ := cellN hr2 hkn (t := 4) (by decide)
      obtain ⟨u5, g5⟩ := cellN hr2 hkn (t := 5) (by decide)
      obtain ⟨u6, g6⟩ := cellN hr2 hkn (t := 6) (by decide)
      obtain ⟨u7, g7⟩ := cellN hr2 hkn (t := 7) (by decide)
      rw [Nat.add_zero] at g0
      clear hF har y0 y1 y2 y3 y4 y5 y6 y7 hrow hr2 o2 b2 hbr ha
      go_wp2
      go_roundw
      case rel => exact ⟨k + 1, by omega, by go_num, _, R.out, B.out⟩
      case measure => simp [intOf]; omega
    · have : k = n := by omega
      subst this
      have R : Hid (PkO wr (some ⟨w.heap.size, 0, none⟩) k k d p' ∧ ∀ b, RS (some ⟨w.heap.size, 0, none⟩) k k (fun i => QF (p' i)) b → w.heap.size ≤ b) := ⟨hF.all, hF.low (fun g hg => by simp [blk] at hg; omega)⟩
      clear hF ha
      go_wp2
      go_ret
      exact ⟨_, _, p', rfl, R.out.1, R.out.2, hbr⟩

set_option maxRecDepth 100000 in
set_option maxHeartbeats 2000000 in
theorem toNodeS_own (a : Option Addr) (ca n : Nat) (d : Nat → ND) (p : Nat → NP) (w : World) (hn : n ≤ 1048576) (hx : ∀ i, i < n → Nsm (d i)) (ha : NsR w a n d p) :
    Calls Tryz.prog 27 #[.slice a n ca] w fun e w' => ∃ a' c' p', e = .returned (.slice a' n c') ∧ NsO w' a' c' n d p' ∧ (∀ b, RS a' c' n (fun i => NBs (d i) (p' i)) b → w.heap.size ≤ b) ∧ Below w.heap.size w w' := by
  obtain ⟨i0, hi, hz0, hz1, hz2⟩ := info_parts info_nodeW
  have HX : Hid (∀ i, i < n → Nsm (d i)) := hx
  clear hx
  go_enter Tryz.func27, Tryz.ntmps27
  go_wp2_with (at_make; refine wpList_make_full _ rfl (.tmp 6) (.tmp 6) 31 rfl w.heap.size 56 i0 (.agg #[.int .i64 0, .slice none 0 0, .slice none 0 0, .slice none 0 0, .slice none 0 0]) 5 Tryz.underlying31 hi hz0 hz1 .i64 .i64 _ _ n rfl rfl rfl rfl (by rw [hz2]; omega) (by unfold maxLen; omega) (Nat.le_refl _) ?_)
  intro w1 ho hg
  have hb1 : Below w.heap.size w w1 := (Below.refl _ _).grown hg (Nat.le_refl _) (fun k hk => by cases hk)
  rw [made_chunks _ 5 n rfl (by decide)] at ho
  have F0 : NTw w1 w.heap.size (some ⟨w.heap.size, 0, none⟩) n n 0 d (fun _ => ⟨(none, 0), fun _ => (none, 0), (none, 0), fun _ => ⟨(none, 0), (none, 0), (none, 0)⟩, (none, 0), fun _ => (none, 0), fun _ => [], (none, 0)⟩) (fun _ => [.int .i64 0, .slice none 0 0, .slice none 0 0, .slice none 0 0, .slice none 0 0]) := Tw.start (owns_base ho (Nat.zero_le _))
  clear hg ho
  go_wp2
  go_loopw [4] (fun i wr => ∃ k : Nat, k ≤ n ∧ i = .int .i64 k ∧ ∃ p', NTw wr w.heap.size (some ⟨w.heap.size, 0, none⟩) n n k d p' (fun _ => [.int .i64 0, .slice none 0 0, .slice none 0 0, .slice none 0 0, .slice none 0 0]) ∧ Below w.heap.size w wr) (fun i _ => n - (intOf i).toNat)
  case atStart => exact ⟨0, Nat.zero_le _, rfl, _, F0, hb1⟩
  case round =>
    obtain ⟨k, hk, rfl, p', hF, hbr⟩ := hrel
    clear F0 hb1
    by_cases hkn : k < n
    · have hi' : (k : Int) < (n : Int) := by omega
      have har := ha.below hbr
      obtain ⟨b, off, rfl, y0, y1, y2, y3, y4⟩ := har.at hkn
      have hrow := har.2.2 k hkn
      go_wp2_with fail
      refine (toNode_own (d k) (p k) _ (HX.out k hkn) hrow).mono ?_
      rintro e w2 ⟨p2, rfl, o2, l2, b2⟩
      have R : Hid _ := node_put hF (fun i _ => rfl) hkn b2 hbr.size o2 l2
      have hr2 := owns_below hF.r.row b2
      have B : Hid _ := bel_setCell (bel_setCell (bel_setCell (bel_setCell (bel_setCell ((bel_trans hbr b2)) ⟨w.heap.size, k * 5, none⟩ (.int .i64 (d k).id) (Nat.le_refl _)) ⟨w.heap.size, k * 5 + 1, none⟩ (.slice p2.f.1 (d k).nf p2.f.2) (Nat.le_refl _)) ⟨w.heap.size, k * 5 + 2, none⟩ (.slice p2.h.1 (d k).nh p2.h.2) (Nat.le_refl _)) ⟨w.heap.size, k * 5 + 3, none⟩ (.slice p2.o.1 (d k).no p2.o.2) (Nat.le_refl _)) ⟨w.heap.size, k * 5 + 4, none⟩ (.slice p2.i.1 (d k).ni p2.i.2) (Nat.le_refl _)
      have q0 := hr2.frozenAt (k * 5)
      have q1 := hr2.frozenAt (k * 5 + 1)
      have q2 := hr2.frozenAt (k * 5 + 2)
      have q3 := hr2.frozenAt (k * 5 + 3)
      have q4 := hr2.frozenAt (k * 5 + 4)
      obtain ⟨u0, g0⟩ := cellN hr2 hkn (t := 0) (by decide)
      obtain ⟨u1, g1⟩ := cellN hr2 hkn (t := 1) (by decide)
      obtain ⟨u2, g2⟩ := cellN hr2 hkn (t := 2) (by decide)
      obtain ⟨u3, g3⟩ := cellN hr2 hkn (t := 3) (by decide)
      obtain ⟨u4, g4⟩ := cellN hr2 hkn (t := 4) (by decide)
      rw [Nat.add_zero] at g0
      clear hF har y0 y1 y2 y3 y4 hrow hr2 o2 b2 hbr ha
      go_wp2
      go_roundw
      case rel => exact ⟨k + 1, by omega, by go_num, _, R.out, B.out⟩
      case measure => simp [intOf]; omega
    · have : k = n := by omega
      subst this
      have R : Hid (NsO wr (some ⟨w.heap.size, 0, none⟩) k k d p' ∧ ∀ b, RS (some ⟨w.heap.size, 0, none⟩) k k (fun i => NBs (d i) (p' i)) b → w.heap.size ≤ b) := ⟨hF.all, hF.low (fun g hg => by simp [blk] at hg; omega)⟩
      clear hF ha
      go_wp2
      go_ret
      exact ⟨_, _, p', rfl, R.out.1, R.out.2, hbr⟩

set_option maxRecDepth 100000 in
set_option maxHeartbeats 2000000 in
theorem toWorld_own (d : WoD) (p : WoP) (w : World) (hd : Wsm d) (hR : WoR w d p) :
    Calls Tryz.prog 13 #[.agg (wcells d p)] w fun e w' => ∃ p', e = .returned (.agg (wcells d p')) ∧ WoO w' d p' ∧ (∀ b, WBs d p' b → w.heap.size ≤ b) ∧ Below w.heap.size w w' := by
  have B := bel_alloc (bel_alloc (bel_alloc (Below.refl w.heap.size w) (.cells (wcells d p) 25)) (.cells #[.int .i64 0, .slice none 0 0, .slice none 0 0] 34)) (.cells #[.int .i64 d.size, .slice none 0 0, .slice none 0 0] 34)
  obtain ⟨XA, XR, XO⟩ := Box.tri w (wcells d p) #[.int .i64 0, .slice none 0 0, .slice none 0 0] #[.int .i64 d.size, .slice none 0 0, .slice none 0 0] 25 34 34
  have hR0 := hR.below B
  have HR : Hid (WoR w d p) := hR
  have HD : Hid (Wsm d) := hd
  clear hR hd
  go_enter Tryz.func13, Tryz.ntmps13
  go_wp2_with fail
  refine (toNodeS_own _ _ d.nn d.d p.np _ HD.out.n.1 HD.out.n.2 hR0.n).mono ?_
  rintro e w1 ⟨a1, c1, p1, rfl, r1, l1, b1⟩
  have hz1 : w.heap.size + 3 ≤ w1.heap.size := by have := b1.size; simp at this; omega
  replace XA := XA.below b1
  replace XR := XR.below b1
  replace XO := XO.below b1
  replace B := bel_trans B b1
  have L1 : Hid (∀ b, RS a1 c1 d.nn (fun i => NBs (d.d i) (p1 i)) b → w.heap.size + 3 ≤ b ∧ b < w1.heap.size) := fun b hb => ⟨by have := l1 b hb; simp at this; omega, Rw.slt r1 hb⟩
  have R1 : Hid (∀ wz, Ab (w.heap.size + 3) w1 wz → w1.heap.size ≤ wz.heap.size → NsO wz a1 c1 d.nn d.d p1) := fun wz h hsz => Rw.sm r1 (ab_sm h hsz (fun b hb => by have := L1.out b hb; omega))
  clear b1 r1 l1 hR0
  have XA1 := XA.far ⟨w.heap.size + 1 + 1, 1, none⟩ (.slice a1 d.nn c1) (by first | omega | (simp; done) | (simp; omega))
  have XR1 := XR.far ⟨w.heap.size + 1 + 1, 1, none⟩ (.slice a1 d.nn c1) (by first | omega | (simp; done) | (simp; omega))
  have XO1 : Box (w1.setCell ⟨w.heap.size + 1 + 1, 1, none⟩ (.slice a1 d.nn c1)) (w.heap.size + 1 + 1) #[.int .i64 d.size, .slice a1 d.nn c1, .slice none 0 0] 34 := heap_setCell_same _ _ 1 _ _ _ XO
  have B1 := bel_setCell B ⟨w.heap.size + 1 + 1, 1, none⟩ (.slice a1 d.nn c1) (by first | omega | (simp; done) | (simp; omega))
  have A1 : Hid (Ab (w.heap.size + 3) w1 (w1.setCell ⟨w.heap.size + 1 + 1, 1, none⟩ (.slice a1 d.nn c1))) := (Ab.refl _ _).set _ _ (by first | omega | (simp; done) | (simp; omega))
  have hR1 := HR.out.below B1
  obtain ⟨x0, x1, x2, zx⟩ := XA.at3
  obtain ⟨o0, o1, o2, zo⟩ := XO.at3
  have fz := XO.frozen 1
  go_wp2_with fail
  refine (toPacketS_own _ _ d.nk d.k p.kp _ HD.out.k.1 HD.out.k.2 hR1.k).mono ?_
  rintro e w2 ⟨a2, c2, p2, rfl, r2, l2, b2⟩
  have hz2 : w1.heap.size ≤ w2.heap.size := by have := b2.size; simp at this; omega
  replace XA := XA1.below b2
  replace XR := XR1.below b2
  replace XO := XO1.below b2
  replace B := bel_trans B1 b2
  replace A1 : Hid (Ab (w.heap.size + 3) w1 w2) := A1.out.below (by first | omega | (simp; done) | (simp; omega)) b2
  clear XA1 XR1 XO1 B1 hR1 x0 x1 x2 zx o0 o1 o2 zo fz
  have L2 : Hid (∀ b, RS a2 c2 d.nk (fun i => QF (p2 i)) b → w1.heap.size ≤ b ∧ b < w2.heap.size) := fun b hb => ⟨by have := l2 b hb; simp at this; omega, Rw.slt r2 hb⟩
  have R2 : Hid (PkO w2 a2 c2 d.nk d.k p2) := r2
  clear r2 l2 b2
  obtain ⟨o0, o1, o2, zo⟩ := XO.at3
  obtain ⟨q0, q1, q2, zq⟩ := XR.at3
  have fz := XO.frozen 2
  have f0 := XR.frozen 0
  have f1 := XR.frozen 1
  have f2 := XR.frozen 2
  have HB : Hid (Below w.heap.size w w2) := B
  have hwz : Hid (w.heap.size + 3 ≤ w1.heap.size ∧ w1.heap.size ≤ w2.heap.size) := ⟨hz1, hz2⟩
  clear XA XR XO B
  go_wp2
  refine bodyPost_ret (v := .agg (wcells d ⟨(a1, c1), p1, (a2, c2), p2⟩)) (by simp [results, Tryz.results13, go_sem, q0, q1, q2]) rfl ⟨⟨(a1, c1), p1, (a2, c2), p2⟩, rfl, ?_, ?_, ?_⟩
  · have on : Only w2 ((((w2.setCell ⟨w.heap.size + 1 + 1, 2, none⟩ (.slice a2 d.nk c2)).setCell ⟨w.heap.size + 1, 0, none⟩ (.int .i64 d.size)).setCell ⟨w.heap.size + 1, 1, none⟩ (.slice a1 d.nn c1)).setCell ⟨w.heap.size + 1, 2, none⟩ (.slice a2 d.nk c2)) (fun x => x = w.heap.size + 1 ∨ x = w.heap.size + 2) := (((((Only.refl w2 _).setCell ⟨w.heap.size + 1 + 1, 2, none⟩ _ (by simp)).setCell ⟨w.heap.size + 1, 0, none⟩ _ (by simp)).setCell ⟨w.heap.size + 1, 1, none⟩ _ (by simp)).setCell ⟨w.heap.size + 1, 2, none⟩ _ (by simp))
    refine ⟨?_, ?_, fun b h1 h2 => by have := L1.out b h1; have := L2.out b h2; omega⟩
    · exact Rw.sm (R1.out w2 A1.out hwz.out.2) (on.sm (fun b hb e => by have := L1.out b hb; omega))
    · exact Rw.sm R2.out (on.sm (fun b hb e => by have := L2.out b hb; have := hwz.out; omega))
  · intro b hb
    rcases hb with hb | hb
    · have := L1.out b hb; omega
    · have := L2.out b hb; have := hwz.out; omega
  · repeat refine bel_setCell ?_ _ _ ?_
    · exact HB.out
    all_goals (simp; try omega)
end Go.Proofs.YtnfjmdegbdphpaaGreat
