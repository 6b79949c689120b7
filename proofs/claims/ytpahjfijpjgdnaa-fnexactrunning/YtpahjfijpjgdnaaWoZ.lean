/- How great a world is: what the law's szNodeS, szPacketS and szWorld tell of one that came in. -/
import Derived.Test.YtpahjfijpjgdnaaWoR
import Derived.Test.YtpahjfijpjgdnaaNdZ
namespace Go.Proofs.Ytpahjfijpjgdnaa
open Go.RowKit
set_option linter.unusedVariables false

/-- Rows of packets and of nodes, and a world, that came in. -/
def PkC (w : World) (a : Option Addr) (n : Nat) (d : Nat → PkD) (q : Nat → Pl) : Prop := n ≤ maxLen ∧ VCame w a (chunks n fun i => pkcells (d i) (q i)) ∧ ∀ i, i < n → Came .i64 w (q i).1 (q i).2 (d i).xs
def NsC (w : World) (a : Option Addr) (n : Nat) (d : Nat → ND) (p : Nat → NP) : Prop := n ≤ maxLen ∧ VCame w a (chunks n fun i => nlist (d i) (p i)) ∧ ∀ i, i < n → NC w (d i) (p i)
theorem PkC.below {w w' : World} {a : Option Addr} {n : Nat} {d : Nat → PkD} {q : Nat → Pl} (h : PkC w a n d q) (hb : Below w.heap.size w w') : PkC w' a n d q := ⟨h.1, h.2.1.below hb, fun i hi => (h.2.2 i hi).below hb⟩
theorem NsC.below {w w' : World} {a : Option Addr} {n : Nat} {d : Nat → ND} {p : Nat → NP} (h : NsC w a n d p) (hb : Below w.heap.size w w') : NsC w' a n d p := ⟨h.1, h.2.1.below hb, fun i hi => (h.2.2 i hi).below hb⟩
theorem PkC.pr {w : World} {a : Option Addr} {n : Nat} {d : Nat → PkD} {q : Nat → Pl} (h : PkC w a n d q) (hn : n ≤ 1048576) (hx : ∀ i, i < n → (d i).xs.length ≤ 1048576) : PkR w a n d q :=
  ⟨by omega, h.2.1.vrow (by rw [chunks_length (s := 8) n (fun i _ => rfl)]; omega), fun i hi => (h.2.2 i hi).row (by have := hx i hi; omega)⟩
theorem NsC.nr {w : World} {a : Option Addr} {n : Nat} {d : Nat → ND} {p : Nat → NP} (h : NsC w a n d p) (hn : n ≤ 1048576) (hx : ∀ i, i < n → Nsm (d i)) : NsR w a n d p :=
  ⟨by omega, h.2.1.vrow (by rw [chunks_length (s := 5) n (fun i _ => rfl)]; omega), fun i hi => (h.2.2 i hi).nr (hx i hi)⟩
structure WoC (w : World) (d : WoD) (p : WoP) : Prop where
  n : NsC w p.n.1 d.nn d.d p.np
  k : PkC w p.k.1 d.nk d.k p.kp
theorem WoC.below {w w' : World} {d : WoD} {p : WoP} (h : WoC w d p) (b : Below w.heap.size w w') : WoC w' d p := ⟨h.n.below b, h.k.below b⟩
/-- How great a world may be. -/
structure Wsm (d : WoD) : Prop where
  n : d.nn ≤ 1048576 ∧ ∀ i, i < d.nn → Nsm (d.d i)
  k : d.nk ≤ 1048576 ∧ ∀ i, i < d.nk → (d.k i).xs.length ≤ 1048576
theorem WoC.wr {w : World} {d : WoD} {p : WoP} (h : WoC w d p) (s : Wsm d) : WoR w d p := ⟨h.n.nr s.n.1 s.n.2, h.k.pr s.k.1 s.k.2⟩

set_option maxRecDepth 100000 in
set_option maxHeartbeats 2000000 in
theorem szNode_gen (d : ND) (p : NP) (L0 : Int) (w : World) (l0 : 0 ≤ L0) (l9 : L0 ≤ 1048576) (hC : NC w d p) :
    Calls Try.prog 25 #[.agg (ncells d p), .int .i64 L0] w fun e w' => ∃ r, e = .returned (.int .i64 r) ∧ (r = -1 ∨ (0 ≤ r ∧ r ≤ 1048576 ∧ Nsm d)) ∧ Below w.heap.size w w' := by
  have B := bel_alloc (Below.refl w.heap.size w) (.cells (ncells d p) 73)
  have X := Box.new w (ncells d p) 73
  replace hC := hC.below B
  go_enter Try.func25, Try.ntmps25
  go_wp2_with fail
  refine (szFrameS_gen _ _ d.nf d.f p.fp L0 _ l0 l9 hC.f).mono ?_
  rintro e w1 ⟨r1, rfl, h1, b1⟩
  replace X := X.below b1
  replace hC := hC.below b1
  replace B := bel_trans B b1
  clear b1
  rcases h1 with rfl | ⟨l1, u1, s1⟩
  · clear X hC
    go_wp2
    go_ret
    exact ⟨_, rfl, .inl rfl, B⟩
  have S1 : Hid (d.nf ≤ 1048576 ∧ ∀ i, i < d.nf → (d.f i).xs.length ≤ 1048576) := s1
  clear s1
  obtain ⟨x0, x1, x2, x3, x4, zx⟩ := X.at5
  go_wp2_with fail
  refine (szHomeS_gen _ _ d.nh d.h p.hp r1 _ l1 u1 hC.h).mono ?_
  rintro e w2 ⟨r2, rfl, h2, b1⟩
  replace X := X.below b1
  replace hC := hC.below b1
  replace B := bel_trans B b1
  clear b1 x0 x1 x2 x3 x4 zx
  rcases h2 with rfl | ⟨l2, u2, s2⟩
  · clear X hC
    go_wp2
    go_ret
    exact ⟨_, rfl, .inl rfl, B⟩
  have S2 : Hid (d.nh ≤ 1048576 ∧ ∀ i, i < d.nh → (d.h i).xs.length ≤ 1048576 ∧ (d.h i).bs.length ≤ 1048576 ∧ (d.h i).ws.length ≤ 1048576) := s2
  clear s2
  obtain ⟨x0, x1, x2, x3, x4, zx⟩ := X.at5
  go_wp2_with fail
  refine (szSenderS_gen _ _ d.no d.b d.y p.op p.ms r2 _ l2 u2 hC.o).mono ?_
  rintro e w3 ⟨r3, rfl, h3, b1⟩
  replace X := X.below b1
  replace hC := hC.below b1
  replace B := bel_trans B b1
  clear b1 x0 x1 x2 x3 x4 zx
  rcases h3 with rfl | ⟨l3, u3, s3⟩
  · clear X hC
    go_wp2
    go_ret
    exact ⟨_, rfl, .inl rfl, B⟩
  have S3 : Hid (d.no ≤ 1048576 ∧ ∀ i, i < d.no → (d.y i).length ≤ 1048576 ∧ ∀ s ∈ d.y i, s.2.2.2.length ≤ 1048576) := s3
  clear s3
  obtain ⟨x0, x1, x2, x3, x4, zx⟩ := X.at5
  go_wp2_with fail
  refine (szReceiverS_gen _ _ d.ni r3 _ l3 u3 hC.i.1).mono ?_
  rintro e w4 ⟨r4, rfl, h4, b1⟩
  replace B := bel_trans B b1
  clear b1 x0 x1 x2 x3 x4 zx X hC
  rcases h4 with rfl | ⟨l4, u4, s4⟩
  · go_wp2
    go_ret
    exact ⟨_, rfl, .inl rfl, B⟩
  go_wp2
  go_ret
  exact ⟨_, rfl, .inr ⟨l4, u4, S1.out, S2.out, S3.out, s4⟩, B⟩
set_option maxRecDepth 100000 in
set_option maxHeartbeats 2000000 in
theorem szPacket_gen (d : PkD) (q : Pl) (L : Int) (w : World) (h0 : 0 ≤ L) (h1 : L ≤ 1048576) (hn : d.xs.length ≤ maxLen) :
    Calls Try.prog 26 #[.agg #[.int .i64 d.f, .int .i64 d.t, .bool d.a, .int .i64 d.n, .int .i64 d.k, .int .i64 d.p, .bool d.o, .slice q.1 d.xs.length q.2], .int .i64 L] w fun e w' => ∃ r, e = .returned (.int .i64 r) ∧ (r = -1 ∨ (0 ≤ r ∧ r ≤ 1048576 ∧ d.xs.length ≤ 1048576)) ∧ Below w.heap.size w w' := by
  have bA := bel_alloc (Below.refl w.heap.size w) (.cells #[.int .i64 d.f, .int .i64 d.t, .bool d.a, .int .i64 d.n, .int .i64 d.k, .int .i64 d.p, .bool d.o, .slice q.1 d.xs.length q.2] 78)
  go_enter Try.func26, Try.ntmps26
  go_wp2_with fail
  refine (szMsg_gen d.k d.p d.o q.1 d.xs.length q.2 L _ h0 h1 hn).mono ?_
  rintro e w1 ⟨r, rfl, hr, b1⟩
  have B := bel_trans bA b1
  rcases hr with rfl | ⟨rfl, r2⟩
  · go_wp2
    go_ret
    exact ⟨_, rfl, .inl rfl, B⟩
  · have hd : decide (L - (d.xs.length : Int) < 0) = false := by simp; omega
    have HL : Hid (d.xs.length ≤ 1048576 ∧ L - (d.xs.length : Int) ≤ 1048576) := ⟨by omega, by omega⟩
    go_wp2
    go_ret
    exact ⟨_, rfl, .inr ⟨r2, HL.out.2, HL.out.1⟩, B⟩

set_option maxRecDepth 100000 in
set_option maxHeartbeats 2000000 in
theorem szNodeS_gen (a : Option Addr) (ca n : Nat) (d : Nat → ND) (p : Nat → NP) (L0 : Int) (w : World) (l0 : 0 ≤ L0) (l1 : L0 ≤ 1048576) (ha : NsC w a n d p) :
    Calls Try.prog 16 #[.slice a n ca, .int .i64 L0] w fun e w' => ∃ r, e = .returned (.int .i64 r) ∧ (r = -1 ∨ (0 ≤ r ∧ r ≤ 1048576 ∧ n ≤ 1048576 ∧ ∀ i, i < n → Nsm (d i))) ∧ Below w.heap.size w w' := by
  have hl : n ≤ 9223372036854775807 := by have h1 := ha.1; unfold maxLen at h1; omega
  by_cases hb : L0 < (n : Int)
  · clear ha
    go_enter Try.func16, Try.ntmps16
    go_wp2
    go_ret
    exact ⟨_, rfl, .inl rfl, Below.refl _ _⟩
  · have hb' : (n : Int) ≤ L0 := by omega
    go_enter Try.func16, Try.ntmps16
    go_wp2
    go_loopw [1, 5] (fun q i wr => ∃ (k : Nat) (L : Int), k ≤ n ∧ i = .int .i64 k ∧ q = .int .i64 L ∧ 0 ≤ L ∧ L ≤ 1048576 ∧ (∀ i, i < k → Nsm (d i)) ∧ NsC wr a n d p ∧ Below w.heap.size w wr) (fun _ i _ => n - (intOf i).toNat)
    case atStart => exact ⟨0, _, Nat.zero_le _, rfl, rfl, by omega, by omega, fun j hj => absurd hj (Nat.not_lt_zero j), ha, Below.refl _ _⟩
    case round =>
      obtain ⟨k, L, hk, rfl, rfl, hL0, hL1, hdone, hm, hB⟩ := hrel
      have HD : Hid (∀ i, i < k → Nsm (d i)) := hdone
      clear hdone
      by_cases hlt : k < n
      · have hi : (k : Int) < (n : Int) := by omega
        obtain ⟨b, off, rfl, hc⟩ := hm.2.1.chunk (s := 5) (fun i _ => rfl) (by decide) hlt
        have y0 := hc 0 _ rfl
        have y1 := hc 1 _ rfl
        have y2 := hc 2 _ rfl
        have y3 := hc 3 _ rfl
        have y4 := hc 4 _ rfl
        rw [Nat.add_zero] at y0
        have hml := hm.2.2 k hlt
        clear hc
        clear ha
        go_wp2_with fail
        refine (szNode_gen (d k) (p k) L _ hL0 hL1 hml).mono ?_
        rintro e w1 ⟨r, rfl, hsz, b1⟩
        have hm1 := hm.below b1
        have hB1 := bel_trans hB b1
        clear hm hB b1 y0 y1 y2 y3 y4 hml
        rcases hsz with rfl | ⟨hr0, hr1, hr2⟩
        · clear hm1
          go_wp2
          go_ret
          exact ⟨_, rfl, .inl rfl, hB1⟩
        · have HX : Hid (∀ i, i < k + 1 → Nsm (d i)) := fun i hi => by
            by_cases e : i = k
            · subst e
              exact hr2
            · exact HD.out i (by omega)
          clear hr2
          go_wp2
          go_roundw
          case rel => exact ⟨k + 1, r, by omega, by go_num, rfl, hr0, hr1, HX.out, hm1, hB1⟩
          case measure => simp [intOf]; omega
      · clear ha hm
        go_wp2
        go_ret
        exact ⟨_, rfl, .inr ⟨hL0, hL1, by omega, fun i hi => HD.out i (by omega)⟩, hB⟩

set_option maxRecDepth 100000 in
set_option maxHeartbeats 2000000 in
theorem szPacketS_gen (a : Option Addr) (ca n : Nat) (d : Nat → PkD) (p : Nat → Pl) (L0 : Int) (w : World) (l0 : 0 ≤ L0) (l1 : L0 ≤ 1048576) (ha : PkC w a n d p) :
    Calls Try.prog 17 #[.slice a n ca, .int .i64 L0] w fun e w' => ∃ r, e = .returned (.int .i64 r) ∧ (r = -1 ∨ (0 ≤ r ∧ r ≤ 1048576 ∧ n ≤ 1048576 ∧ ∀ i, i < n → (d i).xs.length ≤ 1048576)) ∧ Below w.heap.size w w' := by
  have hl : n ≤ 9223372036854775807 := by have h1 := ha.1; unfold maxLen at h1; omega
  by_cases hb : L0 < (n : Int)
  · clear ha
    go_enter Try.func17, Try.ntmps17
    go_wp2
    go_ret
    exact ⟨_, rfl, .inl rfl, Below.refl _ _⟩
  · have hb' : (n : Int) ≤ L0 := by omega
    go_enter Try.func17, Try.ntmps17
    go_wp2
    go_loopw [1, 5] (fun q i wr => ∃ (k : Nat) (L : Int), k ≤ n ∧ i = .int .i64 k ∧ q = .int .i64 L ∧ 0 ≤ L ∧ L ≤ 1048576 ∧ (∀ i, i < k → (d i).xs.length ≤ 1048576) ∧ PkC wr a n d p ∧ Below w.heap.size w wr) (fun _ i _ => n - (intOf i).toNat)
    case atStart => exact ⟨0, _, Nat.zero_le _, rfl, rfl, by omega, by omega, fun j hj => absurd hj (Nat.not_lt_zero j), ha, Below.refl _ _⟩
    case round =>
      obtain ⟨k, L, hk, rfl, rfl, hL0, hL1, hdone, hm, hB⟩ := hrel
      have HD : Hid (∀ i, i < k → (d i).xs.length ≤ 1048576) := hdone
      clear hdone
      by_cases hlt : k < n
      · have hi : (k : Int) < (n : Int) := by omega
        obtain ⟨b, off, rfl, hc⟩ := hm.2.1.chunk (s := 8) (fun i _ => rfl) (by decide) hlt
        have y0 := hc 0 _ rfl
        have y1 := hc 1 _ rfl
        have y2 := hc 2 _ rfl
        have y3 := hc 3 _ rfl
        have y4 := hc 4 _ rfl
        have y5 := hc 5 _ rfl
        have y6 := hc 6 _ rfl
        have y7 := hc 7 _ rfl
        rw [Nat.add_zero] at y0
        have hml : (d k).xs.length ≤ maxLen := Nat.le_trans (hm.2.2 k hlt).1 (hm.2.2 k hlt).2.1
        clear hc
        clear ha
        go_wp2_with fail
        refine (szPacket_gen (d k) (p k) L _ hL0 hL1 hml).mono ?_
        rintro e w1 ⟨r, rfl, hsz, b1⟩
        have hm1 := hm.below b1
        have hB1 := bel_trans hB b1
        clear hm hB b1 y0 y1 y2 y3 y4 y5 y6 y7 hml
        rcases hsz with rfl | ⟨hr0, hr1, hr2⟩
        · clear hm1
          go_wp2
          go_ret
          exact ⟨_, rfl, .inl rfl, hB1⟩
        · have HX : Hid (∀ i, i < k + 1 → (d i).xs.length ≤ 1048576) := fun i hi => by
            by_cases e : i = k
            · subst e
              exact hr2
            · exact HD.out i (by omega)
          clear hr2
          go_wp2
          go_roundw
          case rel => exact ⟨k + 1, r, by omega, by go_num, rfl, hr0, hr1, HX.out, hm1, hB1⟩
          case measure => simp [intOf]; omega
      · clear ha hm
        go_wp2
        go_ret
        exact ⟨_, rfl, .inr ⟨hL0, hL1, by omega, fun i hi => HD.out i (by omega)⟩, hB⟩

set_option maxRecDepth 100000 in
set_option maxHeartbeats 2000000 in
theorem szWorld_any (d : WoD) (p : WoP) (w : World) (hC : WoC w d p) :
    Calls Try.prog 9 #[.agg (wcells d p), .int .i64 1048576] w fun e w' => ∃ r, e = .returned (.int .i64 r) ∧ (r = -1 ∨ (0 ≤ r ∧ r ≤ 1048576 ∧ Wsm d)) ∧ Below w.heap.size w w' := by
  have B := bel_alloc (Below.refl w.heap.size w) (.cells (wcells d p) 25)
  have X := Box.new w (wcells d p) 25
  replace hC := hC.below B
  go_enter Try.func9, Try.ntmps9
  go_wp2_with fail
  refine (szNodeS_gen _ _ d.nn d.d p.np 1048576 _ (by omega) (by omega) hC.n).mono ?_
  rintro e w1 ⟨r1, rfl, h1, b1⟩
  replace X := X.below b1
  replace hC := hC.below b1
  replace B := bel_trans B b1
  clear b1
  rcases h1 with rfl | ⟨l1, u1, s1⟩
  · clear X hC
    go_wp2
    go_ret
    exact ⟨_, rfl, .inl rfl, B⟩
  have S1 : Hid (d.nn ≤ 1048576 ∧ ∀ i, i < d.nn → Nsm (d.d i)) := s1
  clear s1
  obtain ⟨x0, x1, x2, zx⟩ := X.at3
  go_wp2_with fail
  refine (szPacketS_gen _ _ d.nk d.k p.kp r1 _ l1 u1 hC.k).mono ?_
  rintro e w2 ⟨r2, rfl, h2, b1⟩
  replace B := bel_trans B b1
  clear b1 x0 x1 x2 zx X hC
  rcases h2 with rfl | ⟨l2, u2, s2⟩
  · go_wp2
    go_ret
    exact ⟨_, rfl, .inl rfl, B⟩
  go_wp2
  go_ret
  exact ⟨_, rfl, .inr ⟨l2, u2, S1.out, s2⟩, B⟩
end Go.Proofs.Ytpahjfijpjgdnaa
