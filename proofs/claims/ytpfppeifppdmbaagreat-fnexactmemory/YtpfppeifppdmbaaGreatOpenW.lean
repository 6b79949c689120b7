/- WoZ and OpenN and OpenW: see the heads of the parts. -/
import Derived.Test.YtpfppeifppdmbaaGreatWoR
import Derived.Test.YtpfppeifppdmbaaGreatNdZ
import Derived.Test.YtpfppeifppdmbaaGreatOpenS
/- How great a world is: what the law's szNodeS, szPacketS and szWorld tell of one that came in. -/
namespace Go.Proofs.YtpfppeifppdmbaaGreat
open Go.RowKit
set_option linter.unusedVariables false

/-- Rows of packets and of nodes, and a world, that came in. -/
def PkC (w : World) (a : Option Addr) (n : Nat) (d : Nat → PkD) (q : Nat → Pl) : Prop := n ≤ maxLen ∧ VCame w a (chunks n fun i => pkcells (d i) (q i)) ∧ ∀ i, i < n → Came .i64 w (q i).1 (q i).2 (d i).xs
def NsC (w : World) (a : Option Addr) (n : Nat) (d : Nat → ND) (p : Nat → NP) : Prop := n ≤ maxLen ∧ VCame w a (chunks n fun i => nlist (d i) (p i)) ∧ ∀ i, i < n → NC w (d i) (p i)
theorem PkC.below {w w' : World} {a : Option Addr} {n : Nat} {d : Nat → PkD} {q : Nat → Pl} (h : PkC w a n d q) (hb : Below w.heap.size w w') : PkC w' a n d q := ⟨h.1, h.2.1.below hb, fun i hi => (h.2.2 i hi).below hb⟩
theorem NsC.below {w w' : World} {a : Option Addr} {n : Nat} {d : Nat → ND} {p : Nat → NP} (h : NsC w a n d p) (hb : Below w.heap.size w w') : NsC w' a n d p := ⟨h.1, h.2.1.below hb, fun i hi => (h.2.2 i hi).below hb⟩
theorem PkC.pr {w : World} {a : Option Addr} {n : Nat} {d : Nat → PkD} {q : Nat → Pl} (h : PkC w a n d q) (hn : n ≤ 1048576) (hx : ∀ i, i < n → (d i).xs.length ≤ 1048576) : PkR w a n d q :=
  ⟨by omega, h.2.1.vrow (by rw [chunks_length (s := 8) n (fun i _ => rfl)]; omega), fun i hi => (h.2.2 i hi).row (by have := hx i hi; omega)⟩
theorem NsC.nr {w : World} {a : Option Addr} {n : Nat} {d : Nat → ND} {p : Nat → NP} (h : NsC w a n d p) (hn : n ≤ 1048576) (hx : ∀ i, i < n → Nsm (d i)) : NsR w a n d p :=
  ⟨by omega, h.2.1.vrow (by rw [chunks_length (s := 5) n (fun i _ => rfl)]; omega), fun i hi => (h.2.2 i hi).nr (hx i hi)⟩
structure WoC (w : World) (d : WoD) (p : WoP) : Prop where
  n : NsC w p.n.1 d.nn d.d p.np
  k : PkC w p.k.1 d.nk d.k p.kp
theorem WoC.below {w w' : World} {d : WoD} {p : WoP} (h : WoC w d p) (b : Below w.heap.size w w') : WoC w' d p := ⟨h.n.below b, h.k.below b⟩
/-- How great a world may be. -/
structure Wsm (d : WoD) : Prop where
  n : d.nn ≤ 1048576 ∧ ∀ i, i < d.nn → Nsm (d.d i)
  k : d.nk ≤ 1048576 ∧ ∀ i, i < d.nk → (d.k i).xs.length ≤ 1048576
theorem WoC.wr {w : World} {d : WoD} {p : WoP} (h : WoC w d p) (s : Wsm d) : WoR w d p := ⟨h.n.nr s.n.1 s.n.2, h.k.pr s.k.1 s.k.2⟩

set_option maxRecDepth 100000 in
set_option maxHeartbeats 2000000 in
theorem szNode_gen (d : ND) (p : NP) (L0 : Int) (w : World) (l0 : 0 ≤ L0) (l9 : L0 ≤ 1048576) (hC : NC w d p) :
    Calls Tryz.prog 23 #[.agg (ncells d p), .int .i64 L0] w fun e w' => ∃ r, e = .returned (.int .i64 r) ∧ (r = -1 ∨ (0 ≤ r ∧ r ≤ 1048576 ∧ Nsm d)) ∧ Below w.heap.size w w' := by
  have B := bel_alloc (Below.refl w.heap.size w) (.cells (ncells d p) 54)
  have X := Box.new w (ncells d p) 54
  replace hC := hC.below B
  go_enter Tryz.func23, Tryz.ntmps23
  go_wp2_with fail
  refine (szFrameS_gen _ _ d.nf d.f p.fp L0 _ l0 l9 hC.f).mono ?_
  rintro e w1 ⟨r1, rfl, h1, b1⟩
  replace X := X.below b1
  replace hC := hC.below b1
  replace B := bel_trans B b1
  clear b1
  rcases h1 with rfl | ⟨l1, u1, s1⟩
  · clear X hC
    go_wp2
    go_ret
    exact ⟨_, rfl, .inl rfl, B⟩
  have S1 : Hid (d.nf ≤ 1048576 ∧ ∀ i, i < d.nf → (d.f i).xs.length ≤ 1048576) := s1
  clear s1
  obtain ⟨x0, x1, x2, x3, x4, zx⟩ := X.at5
  go_wp2_with fail
  refine (szHomeS_gen _ _ d.nh d.h p.hp r1 _ l1 u1 hC.h).mono ?_
  rintro e w2 ⟨r2, rfl, h2, b1⟩
  replace X := X.below b1
  replace hC := hC.below b1
  replace B := bel_trans B b1
  clear b1 x0 x1 x2 x3 x4 zx
  rcases h2 with rfl | ⟨l2, u2, s2⟩
  · clear X hC
    go_wp2
    go_ret
    exact ⟨_, rfl, .inl rfl, B⟩
  have S2 : Hid (d.nh ≤ 1048576 ∧ ∀ i, i < d.nh → (d.h i).xs.length ≤ 1048576 ∧ (d.h i).bs.length ≤ 1048576 ∧ (d.h i).ws.length ≤ 1048576) := s2
  clear s2
  obtain ⟨x0, x1, x2, x3, x4, zx⟩ := X.at5
  go_wp2_with fail
  refine (szSenderS_gen _ _ d.no d.b d.y p.op p.ms r2 _ l2 u2 hC.o).mono ?_
  rintro e w3 ⟨r3, rfl, h3, b1⟩
  replace X := X.below b1
  replace hC := hC.below b1
  replace B := bel_trans B b1
  clear b1 x0 x1 x2 x3 x4 zx
  rcases h3 with rfl | ⟨l3, u3, s3⟩
  · clear X hC
    go_wp2
    go_ret
    exact ⟨_, rfl, .inl rfl, B⟩
  have S3 : Hid (d.no ≤ 1048576 ∧ ∀ i, i < d.no → (d.y i).length ≤ 1048576 ∧ ∀ s ∈ d.y i, s.2.2.2.length ≤ 1048576) := s3
  clear s3
  obtain ⟨x0, x1, x2, x3, x4, zx⟩ := X.at5
  go_wp2_with fail
  refine (szReceiverS_gen _ _ d.ni r3 _ l3 u3 hC.i.1).mono ?_
  rintro e w4 ⟨r4, rfl, h4, b1⟩
  replace B := bel_trans B b1
  clear b1 x0 x1 x2 x3 x4 zx X hC
  rcases h4 with rfl | ⟨l4, u4, s4⟩
  · go_wp2
    go_ret
    exact ⟨_, rfl, .inl rfl, B⟩
  go_wp2
  go_ret
  exact ⟨_, rfl, .inr ⟨l4, u4, S1.out, S2.out, S3.out, s4⟩, B⟩
set_option maxRecDepth 100000 in
set_option maxHeartbeats 2000000 in
theorem szPacket_gen (d : PkD) (q : Pl) (L : Int) (w : World) (h0 : 0 ≤ L) (h1 : L ≤ 1048576) (hn : d.xs.length ≤ maxLen) :
    Calls Tryz.prog 24 #[.agg #[.int .i64 d.f, .int .i64 d.t, .bool d.a, .int .i64 d.n, .int .i64 d.k, .int .i64 d.p, .bool d.o, .slice q.1 d.xs.length q.2], .int .i64 L] w fun e w' => ∃ r, e = .returned (.int .i64 r) ∧ (r = -1 ∨ (0 ≤ r ∧ r ≤ 1048576 ∧ d.xs.length ≤ 1048576)) ∧ Below w.heap.size w w' := by
  have bA := bel_alloc (Below.refl w.heap.size w) (.cells #[.int .i64 d.f, .int .i64 d.t, .bool d.a, .int .i64 d.n, .int .i64 d.k, .int .i64 d.p, .bool d.o, .slice q.1 d.xs.length q.2] 59)
  go_enter Tryz.func24, Tryz.ntmps24
  go_wp2_with fail
  refine (szMsg_gen d.k d.p d.o q.1 d.xs.length q.2 L _ h0 h1 hn).mono ?_
  rintro e w1 ⟨r, rfl, hr, b1⟩
  have B := bel_trans bA b1
  rcases hr with rfl | ⟨rfl, r2⟩
  · go_wp2
    go_ret
    exact ⟨_, rfl, .inl rfl, B⟩
  · have hd : decide (L - (d.xs.length : Int) < 0) = false := by simp; omega
    have HL : Hid (d.xs.length ≤ 1048576 ∧ L - (d.xs.length : Int) ≤ 1048576) := ⟨by omega, by omega⟩
    go_wp2
    go_ret
    exact ⟨_, rfl, .inr ⟨r2, HL.out.2, HL.out.1⟩, B⟩

set_option maxRecDepth 100000 in
set_option maxHeartbeats 2000000 in
theorem szNodeS_gen (a : Option Addr) (ca n : Nat) (d : Nat → ND) (p : Nat → NP) (L0 : Int) (w : World) (l0 : 0 ≤ L0) (l1 : L0 ≤ 1048576) (ha : NsC w a n d p) :
    Calls Tryz.prog 13 #[.slice a n ca, .int .i64 L0] w fun e w' => ∃ r, e = .returned (.int .i64 r) ∧ (r = -1 ∨ (0 ≤ r ∧ r ≤ 1048576 ∧ n ≤ 1048576 ∧ ∀ i, i < n → Nsm (d i))) ∧ Below w.heap.size w w' := by
  have hl : n ≤ 9223372036854775807 := by have h1 := ha.1; unfold maxLen at h1; omega
  by_cases hb : L0 < (n : Int)
  · clear ha
    go_enter Tryz.func13, Tryz.ntmps13
    go_wp2
    go_ret
    exact ⟨_, rfl, .inl rfl, Below.refl _ _⟩
  · have hb' : (n : Int) ≤ L0 := by omega
    go_enter Tryz.func13, Tryz.ntmps13
    go_wp2
    go_loopw [1, 5] (fun q i wr => ∃ (k : Nat) (L : Int), k ≤ n ∧ i = .int .i64 k ∧ q = .int .i64 L ∧ 0 ≤ L ∧ L ≤ 1048576 ∧ (∀ i, i < k → Nsm (d i)) ∧ NsC wr a n d p ∧ Below w.heap.size w wr) (fun _ i _ => n - (intOf i).toNat)
    case atStart => exact ⟨0, _, Nat.zero_le _, rfl, rfl, by omega, by omega, fun j hj => absurd hj (Nat.not_lt_zero j), ha, Below.refl _ _⟩
    case round =>
      obtain ⟨k, L, hk, rfl, rfl, hL0, hL1, hdone, hm, hB⟩ := hrel
      have HD : Hid (∀ i, i < k → Nsm (d i)) := hdone
      clear hdone
      by_cases hlt : k < n
      · have hi : (k : Int) < (n : Int) := by omega
        obtain ⟨b, off, rfl, hc⟩ := hm.2.1.chunk (s := 5) (fun i _ => rfl) (by decide) hlt
        have y0 := hc 0 _ rfl
        have y1 := hc 1 _ rfl
        have y2 := hc 2 _ rfl
        have y3 := hc 3 _ rfl
        have y4 := hc 4 _ rfl
        rw [Nat.add_zero] at y0
        have hml := hm.2.2 k hlt
        clear hc
        clear ha
        go_wp2_with fail
        refine (szNode_gen (d k) (p k) L _ hL0 hL1 hml).mono ?_
        rintro e w1 ⟨r, rfl, hsz, b1⟩
        have hm1 := hm.below b1
        have hB1 := bel_trans hB b1
        clear hm hB b1 y0 y1 y2 y3 y4 hml
        rcases hsz with rfl | ⟨hr0, hr1, hr2⟩
        · clear hm1
          go_wp2
          go_ret
          exact ⟨_, rfl, .inl rfl, hB1⟩
        · have HX : Hid (∀ i, i < k + 1 → Nsm (d i)) := fun i hi => by
            by_cases e : i = k
            · subst e
              exact hr2
            · exact HD.out i (by omega)
          clear hr2
          go_wp2
          go_roundw
          case rel => exact ⟨k + 1, r, by omega, by go_num, rfl, hr0, hr1, HX.out, hm1, hB1⟩
          case measure => simp [intOf]; omega
      · clear ha hm
        go_wp2
        go_ret
        exact ⟨_, rfl, .inr ⟨hL0, hL1, by omega, fun i hi => HD.out i (by omega)⟩, hB⟩

set_option maxRecDepth 100000 in
set_option maxHeartbeats 2000000 in
theorem szPacketS_gen (a : Option Addr) (ca n : Nat) (d : Nat → PkD) (p : Nat → Pl) (L0 : Int) (w : World) (l0 : 0 ≤ L0) (l1 : L0 ≤ 1048576) (ha : PkC w a n d p) :
    Calls Tryz.prog 14 #[.slice a n ca, .int .i64 L0] w fun e w' => ∃ r, e = .returned (.int .i64 r) ∧ (r = -1 ∨ (0 ≤ r ∧ r ≤ 1048576 ∧ n ≤ 1048576 ∧ ∀ i, i < n → (d i).xs.length ≤ 1048576)) ∧ Below w.heap.size w w' := by
  have hl : n ≤ 9223372036854775807 := by have h1 := ha.1; unfold maxLen at h1; omega
  by_cases hb : L0 < (n : Int)
  · clear ha
    go_enter Tryz.func14, Tryz.ntmps14
    go_wp2
    go_ret
    exact ⟨_, rfl, .inl rfl, Below.refl _ _⟩
  · have hb' : (n : Int) ≤ L0 := by omega
    go_enter Tryz.func14, Tryz.ntmps14
    go_wp2
    go_loopw [1, 5] (fun q i wr => ∃ (k : Nat) (L : Int), k ≤ n ∧ i = .int .i64 k ∧ q = .int .i64 L ∧ 0 ≤ L ∧ L ≤ 1048576 ∧ (∀ i, i < k → (d i).xs.length ≤ 1048576) ∧ PkC wr a n d p ∧ Below w.heap.size w wr) (fun _ i _ => n - (intOf i).toNat)
    case atStart => exact ⟨0, _, Nat.zero_le _, rfl, rfl, by omega, by omega, fun j hj => absurd hj (Nat.not_lt_zero j), ha, Below.refl _ _⟩
    case round =>
      obtain ⟨k, L, hk, rfl, rfl, hL0, hL1, hdone, hm, hB⟩ := hrel
      have HD : Hid (∀ i, i < k → (d i).xs.length ≤ 1048576) := hdone
      clear hdone
      by_cases hlt : k < n
      · have hi : (k : Int) < (n : Int) := by omega
        obtain ⟨b, off, rfl, hc⟩ := hm.2.1.chunk (s := 8) (fun i _ => rfl) (by decide) hlt
        have y0 := hc 0 _ rfl
        have y1 := hc 1 _ rfl
        have y2 := hc 2 _ rfl
        have y3 := hc 3 _ rfl
        have y4 := hc 4 _ rfl
        have y5 := hc 5 _ rfl
        have y6 := hc 6 _ rfl
        have y7 := hc 7 _ rfl
        rw [Nat.add_zero] at y0
        have hml : (d k).xs.length ≤ maxLen := Nat.le_trans (hm.2.2 k hlt).1 (hm.2.2 k hlt).2.1
        clear hc
        clear ha
        go_wp2_with fail
        refine (szPacket_gen (d k) (p k) L _ hL0 hL1 hml).mono ?_
        rintro e w1 ⟨r, rfl, hsz, b1⟩
        have hm1 := hm.below b1
        have hB1 := bel_trans hB b1
        clear hm hB b1 y0 y1 y2 y3 y4 y5 y6 y7 hml
        rcases hsz with rfl | ⟨hr0, hr1, hr2⟩
        · clear hm1
          go_wp2
          go_ret
          exact ⟨_, rfl, .inl rfl, hB1⟩
        · have HX : Hid (∀ i, i < k + 1 → (d i).xs.length ≤ 1048576) := fun i hi => by
            by_cases e : i = k
            · subst e
              exact hr2
            · exact HD.out i (by omega)
          clear hr2
          go_wp2
          go_roundw
          case rel => exact ⟨k + 1, r, by omega, by go_num, rfl, hr0, hr1, HX.out, hm1, hB1⟩
          case measure => simp [intOf]; omega
      · clear ha hm
        go_wp2
        go_ret
        exact ⟨_, rfl, .inr ⟨hL0, hL1, by omega, fun i hi => HD.out i (by omega)⟩, hB⟩

set_option maxRecDepth 100000 in
set_option maxHeartbeats 2000000 in
theorem szWorld_any (d : WoD) (p : WoP) (w : World) (hC : WoC w d p) :
    Calls Tryz.prog 4 #[.agg (wcells d p), .int .i64 1048576] w fun e w' => ∃ r, e = .returned (.int .i64 r) ∧ (r = -1 ∨ (0 ≤ r ∧ r ≤ 1048576 ∧ Wsm d)) ∧ Below w.heap.size w w' := by
  have B := bel_alloc (Below.refl w.heap.size w) (.cells (wcells d p) 25)
  have X := Box.new w (wcells d p) 25
  replace hC := hC.below B
  go_enter Tryz.func4, Tryz.ntmps4
  go_wp2_with fail
  refine (szNodeS_gen _ _ d.nn d.d p.np 1048576 _ (by omega) (by omega) hC.n).mono ?_
  rintro e w1 ⟨r1, rfl, h1, b1⟩
  replace X := X.below b1
  replace hC := hC.below b1
  replace B := bel_trans B b1
  clear b1
  rcases h1 with rfl | ⟨l1, u1, s1⟩
  · clear X hC
    go_wp2
    go_ret
    exact ⟨_, rfl, .inl rfl, B⟩
  have S1 : Hid (d.nn ≤ 1048576 ∧ ∀ i, i < d.nn → Nsm (d.d i)) := s1
  clear s1
  obtain ⟨x0, x1, x2, zx⟩ := X.at3
  go_wp2_with fail
  refine (szPacketS_gen _ _ d.nk d.k p.kp r1 _ l1 u1 hC.k).mono ?_
  rintro e w2 ⟨r2, rfl, h2, b1⟩
  replace B := bel_trans B b1
  clear b1 x0 x1 x2 zx X hC
  rcases h2 with rfl | ⟨l2, u2, s2⟩
  · go_wp2
    go_ret
    exact ⟨_, rfl, .inl rfl, B⟩
  go_wp2
  go_ret
  exact ⟨_, rfl, .inr ⟨l2, u2, S1.out, s2⟩, B⟩
end Go.Proofs.YtpfppeifppdmbaaGreat

/- A node as the row hands it over (written by mkon.py). -/
namespace Go.Proofs.YtpfppeifppdmbaaGreat
open Go.ChangeShapes Go.WideShapes Go.ChangeAt Go.RowKit
set_option linter.unusedVariables false

theorem cells_sender' : Tryz.prog.cellsOf 129 = 2 := by kernel_rfl
theorem cells_receiver' : Tryz.prog.cellsOf 139 = 1 := by kernel_rfl
theorem cells_msgs' : Tryz.prog.cellsOf 127 = 1 := by kernel_rfl
theorem cells_node' : Tryz.prog.cellsOf 54 = 5 := by kernel_rfl
theorem cells_homes' : Tryz.prog.cellsOf 50 = 1 := by kernel_rfl
theorem cells_senders' : Tryz.prog.cellsOf 51 = 1 := by kernel_rfl
theorem cells_receivers' : Tryz.prog.cellsOf 52 = 1 := by kernel_rfl


set_option maxRecDepth 100000 in
theorem home_cells {H : Type} {enc : TypeId × Value → H} {W : World} {base : Nat} {held : Bool} {fuel : Nat} {cs : List Value} {x : DataW H × List MemPlace} (h : DataW.trod enc Tryz.prog W base (fun _ => true) held fuel 125 cs = some x) :
    ∃ (d : HD) (p : HP), cs = hcells d p ∧ Came .i64 W p.l.1 p.l.2 d.xs ∧ VCame W p.r.1 (bv d.bs) ∧ VCame W p.q.1 (wv d.ws) ∧ d.bs.length ≤ maxLen ∧ d.ws.length ≤ maxLen := by
  obtain ⟨ys, n, _, _, hl, hyl, hf⟩ := DataW.trod_struct Tryz.underlying125 h
  rw [cells_home'] at hl
  match cs, hl, ys, hyl with
  | [c0, c1, c2, c3, c4, c5, c6, c7], _, [y0, y1, y2, y3, y4, y5, y6], _ =>
    have g0 := hf 0 _ rfl
    have g1 := hf 1 _ rfl
    have g2 := hf 2 _ rfl
    have g3 := hf 3 _ rfl
    have g4 := hf 4 _ rfl
    have g5 := hf 5 _ rfl
    have g6 := hf 6 _ rfl
    simp [cells_int', cells_bool', cells_ints', cells_bools', cells_wait', cells_waits'] at g0 g1 g2 g3 g4 g5 g6
    obtain ⟨m1, e1, _, _⟩ := DataW.trod_int Tryz.underlying3 g1
    obtain ⟨ar, cr, bs, e2, hbs, hbl⟩ := open_bools g2
    obtain ⟨m3, e3, _⟩ := DataW.trod_bool Tryz.underlying4 g3
    obtain ⟨k, o, e4⟩ := wait_cells g4
    obtain ⟨m5, e5, _, _⟩ := DataW.trod_int Tryz.underlying3 g5
    obtain ⟨aq, cq, ws, e6, hws, hwl⟩ := open_waits g6
    simp only [List.cons.injEq, and_true] at e1 e3 e4 e5
    obtain ⟨rfl, rfl⟩ := e4
    subst e1 e2 e3 e5 e6
    rcases open_ints Tryz.underlying27 Tryz.underlying3 (by kernel_rfl) g0 with ⟨hcs, _⟩ | ⟨x, l, c, zs, hcs, _, hl, hm, hz, _, hcell, hwz⟩
    · simp only [List.cons.injEq, and_true] at hcs
      exact ⟨⟨[], m1, bs, m3, k, o, m5, ws⟩, ⟨(none, 0), (ar, cr), (aq, cq)⟩, by rw [hcs]; rfl, came_nil _ _, hbs, hws, hbl, hwl⟩
    · simp only [List.cons.injEq, and_true] at hcs
      have hc := came_of hl hm (by simpa using hz) hcell hwz
      exact ⟨⟨zs.take l, m1, bs, m3, k, o, m5, ws⟩, ⟨(some x, c), (ar, cr), (aq, cq)⟩, by rw [hcs]; simp only [hcells]; rw [hc.1], hc.2, hbs, hws, hbl, hwl⟩
set_option maxRecDepth 100000 in
theorem sender_cells {H : Type} {enc : TypeId × Value → H} {W : World} {base : Nat} {held : Bool} {fuel : Nat} {cs : List Value} {x : DataW H × List MemPlace} (h : DataW.trod enc Tryz.prog W base (fun _ => true) held fuel 129 cs = some x) :
    ∃ (B : Int) (p : Pl) (ms : List M), cs = scells B p ms.length ∧ MCame W p.1 p.2 ms := by
  obtain ⟨ys, n, _, _, hl, hyl, hf⟩ := DataW.trod_struct Tryz.underlying129 h
  rw [cells_sender'] at hl
  match cs, hl, ys, hyl with
  | [c0, c1], _, [y0, y1], _ =>
    have g0 := hf 0 _ rfl
    have g1 := hf 1 _ rfl
    simp [cells_int', cells_msgs'] at g0 g1
    obtain ⟨m0, e0, _, _⟩ := DataW.trod_int Tryz.underlying3 g0
    obtain ⟨a, c, ms, e1, hc⟩ := open_msgs g1
    simp only [List.cons.injEq, and_true] at e0
    subst e0 e1
    exact ⟨m0, (a, c), ms, rfl, hc⟩

set_option maxRecDepth 100000 in
theorem receiver_cells {H : Type} {enc : TypeId × Value → H} {W : World} {base : Nat} {held : Bool} {fuel : Nat} {cs : List Value} {x : DataW H × List MemPlace} (h : DataW.trod enc Tryz.prog W base (fun _ => true) held fuel 139 cs = some x) : ∃ g : Int, cs = gcells g := by
  obtain ⟨ys, n, _, _, hl, hyl, hf⟩ := DataW.trod_struct Tryz.underlying139 h
  rw [cells_receiver'] at hl
  match cs, hl, ys, hyl with
  | [c0], _, [y0], _ =>
    have g0 := hf 0 _ rfl
    simp [cells_int'] at g0
    obtain ⟨m0, e0, _, _⟩ := DataW.trod_int Tryz.underlying3 g0
    simp only [List.cons.injEq, and_true] at e0
    subst e0
    exact ⟨m0, rfl⟩

theorem open_homes {H : Type} {enc : TypeId × Value → H} {W : World} {base : Nat} {held : Bool} {fuel : Nat} {v : Value} {x : DataW H × List MemPlace} (h : DataW.trod enc Tryz.prog W base (fun _ => true) held fuel 50 [v] = some x) : ∃ (a : Pl) (n : Nat) (d : Nat → HD) (p : Nat → HP), v = .slice a.1 n a.2 ∧ HC2 W a.1 n d p := by
  obtain ⟨a, c, n, F, rfl, hn, hV, hF⟩ := open_rows 50 125 8 Tryz.underlying50 cells_home' (by decide) h
  have key : ∀ i, i < n → ∃ q : HD × HP, F i = hcells q.1 q.2 ∧ Came .i64 W q.2.l.1 q.2.l.2 q.1.xs ∧ VCame W q.2.r.1 (bv q.1.bs) ∧ VCame W q.2.q.1 (wv q.1.ws) ∧ q.1.bs.length ≤ maxLen ∧ q.1.ws.length ≤ maxLen := fun i hi => by
    obtain ⟨_, fl, y, hy⟩ := hF i hi
    obtain ⟨d, p, e, hc⟩ := home_cells hy
    exact ⟨(d, p), e, hc⟩
  obtain ⟨f, hf⟩ := fun_of (⟨[], 0, [], false, 0, false, 0, []⟩, ⟨(none, 0), (none, 0), (none, 0)⟩) n key
  exact ⟨(a, c), n, fun i => (f i).1, fun i => (f i).2, rfl, hn, hV.congr (fun i hi => (hf i hi).1), fun i hi => (hf i hi).2⟩
theorem open_senders {H : Type} {enc : TypeId × Value → H} {W : World} {base : Nat} {held : Bool} {fuel : Nat} {v : Value} {x : DataW H × List MemPlace} (h : DataW.trod enc Tryz.prog W base (fun _ => true) held fuel 51 [v] = some x) : ∃ (a : Pl) (n : Nat) (b : Nat → Int) (y : Nat → List Say) (p : Nat → Pl) (ms : Nat → List M), v = .slice a.1 n a.2 ∧ SC W a.1 n b y p ms := by
  obtain ⟨a, c, n, F, rfl, hn, hV, hF⟩ := open_rows 51 129 2 Tryz.underlying51 cells_sender' (by decide) h
  have key : ∀ i, i < n → ∃ q : Int × Pl × List M, F i = scells q.1 q.2.1 q.2.2.length ∧ MCame W q.2.1.1 q.2.1.2 q.2.2 := fun i hi => by
    obtain ⟨_, fl, y, hy⟩ := hF i hi
    obtain ⟨B, p, ms, e, hc⟩ := sender_cells hy
    exact ⟨(B, p, ms), e, hc⟩
  obtain ⟨f, hf⟩ := fun_of (0, (none, 0), []) n key
  exact ⟨(a, c), n, fun i => (f i).1, fun i => (f i).2.2.map M.say, fun i => (f i).2.1, fun i => (f i).2.2, rfl, hn, hV.congr (fun i hi => by rw [(hf i hi).1]; simp), fun i hi => ⟨(hf i hi).2, rfl⟩⟩
theorem open_receivers {H : Type} {enc : TypeId × Value → H} {W : World} {base : Nat} {held : Bool} {fuel : Nat} {v : Value} {x : DataW H × List MemPlace} (h : DataW.trod enc Tryz.prog W base (fun _ => true) held fuel 52 [v] = some x) : ∃ (a : Pl) (n : Nat) (g : Nat → Int), v = .slice a.1 n a.2 ∧ GC W a.1 n g := by
  obtain ⟨a, c, n, F, rfl, hn, hV, hF⟩ := open_rows 52 139 1 Tryz.underlying52 cells_receiver' (by decide) h
  have key : ∀ i, i < n → ∃ q : Int, F i = gcells q := fun i hi => by
    obtain ⟨_, fl, y, hy⟩ := hF i hi
    exact receiver_cells hy
  obtain ⟨f, hf⟩ := fun_of 0 n key
  exact ⟨(a, c), n, f, rfl, hn, hV.congr hf⟩

set_option maxRecDepth 100000 in
theorem open_node {H : Type} {enc : TypeId × Value → H} {W : World} {base : Nat} {held : Bool} {r : Reach} {b0 : Nat} {v : Value} {d : DataW H} {q : List MemPlace}
    (hv : Value.okWide Tryz.prog W r b0 54 v) (h : DataW.Trod enc Tryz.prog W base (fun _ => true) held 54 v d q) :
    ∃ (D : ND) (p : NP), v = .agg (ncells D p) ∧ NC W D p := by
  obtain ⟨cs, rfl, hsz⟩ := okWide_struct Tryz.underlying54 hv
  obtain ⟨fuel, hf⟩ := h
  obtain ⟨ys, n, _, _, hl, hyl, hf⟩ := DataW.trod_struct Tryz.underlying54 hf
  rw [cells_node'] at hl
  obtain ⟨cs⟩ := cs
  simp only [Value.cells] at hl hf
  match cs, hl, ys, hyl with
  | [c0, c1, c2, c3, c4], _, [y0, y1, y2, y3, y4], _ =>
    have g0 := hf 0 _ rfl
    have g1 := hf 1 _ rfl
    have g2 := hf 2 _ rfl
    have g3 := hf 3 _ rfl
    have g4 := hf 4 _ rfl
    simp [cells_int', cells_frames', cells_homes', cells_senders', cells_receivers'] at g0 g1 g2 g3 g4
    obtain ⟨m0, e0, _, _⟩ := DataW.trod_int Tryz.underlying3 g0
    simp only [List.cons.injEq, and_true] at e0
    obtain ⟨pf, nf, df, fp, e1, hF⟩ := open_frames g1
    obtain ⟨ph, nh, dh, hp, e2, hH⟩ := open_homes g2
    obtain ⟨po, no, b, y, op, ms, e3, hS⟩ := open_senders g3
    obtain ⟨pi, ni, g, e4, hG⟩ := open_receivers g4
    subst e0 e1 e2 e3 e4
    exact ⟨⟨m0, nf, df, nh, dh, no, b, y, ni, g⟩, ⟨pf, fp, ph, hp, po, op, ms, pi⟩, rfl, hF, hH, hS, hG⟩
end Go.Proofs.YtpfppeifppdmbaaGreat

/- A world as the row hands it over. -/
namespace Go.Proofs.YtpfppeifppdmbaaGreat
open Go.ChangeShapes Go.WideShapes Go.ChangeAt Go.RowKit
set_option linter.unusedVariables false

theorem cells_packetW : Tryz.prog.cellsOf 59 = 8 := by kernel_rfl
theorem cells_msgW : Tryz.prog.cellsOf 57 = 4 := by kernel_rfl
theorem cells_worldW : Tryz.prog.cellsOf 25 = 3 := by kernel_rfl
theorem cells_nodesW : Tryz.prog.cellsOf 22 = 1 := by kernel_rfl
theorem cells_packetsW : Tryz.prog.cellsOf 23 = 1 := by kernel_rfl
theorem cells_intW : Tryz.prog.cellsOf 3 = 1 := by kernel_rfl
theorem cells_boolW : Tryz.prog.cellsOf 4 = 1 := by kernel_rfl

set_option maxRecDepth 100000 in
theorem packet_cells {H : Type} {enc : TypeId × Value → H} {W : World} {base : Nat} {held : Bool} {fuel : Nat} {cs : List Value} {x : DataW H × List MemPlace} (h : DataW.trod enc Tryz.prog W base (fun _ => true) held fuel 59 cs = some x) :
    ∃ (d : PkD) (q : Pl), cs = pkcells d q ∧ Came .i64 W q.1 q.2 d.xs := by
  obtain ⟨ys, n, _, _, hl, hyl, hf⟩ := DataW.trod_struct Tryz.underlying59 h
  rw [cells_packetW] at hl
  match cs, hl, ys, hyl with
  | [c0, c1, c2, c3, c4, c5, c6, c7], _, [y0, y1, y2, y3, y4], _ =>
    have g0 := hf 0 _ rfl
    have g1 := hf 1 _ rfl
    have g2 := hf 2 _ rfl
    have g3 := hf 3 _ rfl
    have g4 := hf 4 _ rfl
    simp [cells_intW, cells_boolW, cells_msgW] at g0 g1 g2 g3 g4
    obtain ⟨m0, e0, _, _⟩ := DataW.trod_int Tryz.underlying3 g0
    obtain ⟨m1, e1, _, _⟩ := DataW.trod_int Tryz.underlying3 g1
    obtain ⟨m2, e2, _⟩ := DataW.trod_bool Tryz.underlying4 g2
    obtain ⟨m3, e3, _, _⟩ := DataW.trod_int Tryz.underlying3 g3
    obtain ⟨k, p, o, a, c, xs, e4, hcame, _, _⟩ := msg_cells g4
    simp only [List.cons.injEq, and_true] at e0 e1 e2 e3 e4
    obtain ⟨rfl, rfl, rfl, rfl⟩ := e4
    subst e0 e1 e2 e3
    exact ⟨⟨m0, m1, m2, m3, k, p, o, xs⟩, (a, c), rfl, hcame⟩

set_option maxRecDepth 100000 in
theorem node_cells {H : Type} {enc : TypeId × Value → H} {W : World} {base : Nat} {held : Bool} {fuel : Nat} {cs : List Value} {x : DataW H × List MemPlace} (h : DataW.trod enc Tryz.prog W base (fun _ => true) held fuel 54 cs = some x) :
    ∃ (d : ND) (p : NP), cs = nlist d p ∧ NC W d p := by
  obtain ⟨ys, n, _, _, hl, hyl, hf⟩ := DataW.trod_struct Tryz.underlying54 h
  rw [cells_node'] at hl
  match cs, hl, ys, hyl with
  | [c0, c1, c2, c3, c4], _, [y0, y1, y2, y3, y4], _ =>
    have g0 := hf 0 _ rfl
    have g1 := hf 1 _ rfl
    have g2 := hf 2 _ rfl
    have g3 := hf 3 _ rfl
    have g4 := hf 4 _ rfl
    simp [cells_intW, cells_frames', cells_homes', cells_senders', cells_receivers'] at g0 g1 g2 g3 g4
    obtain ⟨m0, e0, _, _⟩ := DataW.trod_int Tryz.underlying3 g0
    simp only [List.cons.injEq, and_true] at e0
    obtain ⟨pf, nf, df, fp, e1, hF⟩ := open_frames g1
    obtain ⟨ph, nh, dh, hp, e2, hH⟩ := open_homes g2
    obtain ⟨po, no, b, y, op, ms, e3, hS⟩ := open_senders g3
    obtain ⟨pi, ni, g, e4, hG⟩ := open_receivers g4
    subst e0 e1 e2 e3 e4
    exact ⟨⟨m0, nf, df, nh, dh, no, b, y, ni, g⟩, ⟨pf, fp, ph, hp, po, op, ms, pi⟩, rfl, hF, hH, hS, hG⟩

theorem open_packets {H : Type} {enc : TypeId × Value → H} {W : World} {base : Nat} {held : Bool} {fuel : Nat} {v : Value} {x : DataW H × List MemPlace} (h : DataW.trod enc Tryz.prog W base (fun _ => true) held fuel 23 [v] = some x) : ∃ (a : Pl) (n : Nat) (d : Nat → PkD) (p : Nat → Pl), v = .slice a.1 n a.2 ∧ PkC W a.1 n d p := by
  obtain ⟨a, c, n, F, rfl, hn, hV, hF⟩ := open_rows 23 59 8 Tryz.underlying23 cells_packetW (by decide) h
  have key : ∀ i, i < n → ∃ q : PkD × Pl, F i = pkcells q.1 q.2 ∧ Came .i64 W q.2.1 q.2.2 q.1.xs := fun i hi => by
    obtain ⟨_, fl, y, hy⟩ := hF i hi
    obtain ⟨d, p, e, hc⟩ := packet_cells hy
    exact ⟨(d, p), e, hc⟩
  obtain ⟨f, hf⟩ := fun_of (⟨0, 0, false, 0, 0, 0, false, []⟩, (none, 0)) n key
  exact ⟨(a, c), n, fun i => (f i).1, fun i => (f i).2, rfl, hn, hV.congr (fun i hi => (hf i hi).1), fun i hi => (hf i hi).2⟩
theorem open_nodes {H : Type} {enc : TypeId × Value → H} {W : World} {base : Nat} {held : Bool} {fuel : Nat} {v : Value} {x : DataW H × List MemPlace} (h : DataW.trod enc Tryz.prog W base (fun _ => true) held fuel 22 [v] = some x) : ∃ (a : Pl) (n : Nat) (d : Nat → ND) (p : Nat → NP), v = .slice a.1 n a.2 ∧ NsC W a.1 n d p := by
  obtain ⟨a, c, n, F, rfl, hn, hV, hF⟩ := open_rows 22 54 5 Tryz.underlying22 cells_node' (by decide) h
  have key : ∀ i, i < n → ∃ q : ND × NP, F i = nlist q.1 q.2 ∧ NC W q.1 q.2 := fun i hi => by
    obtain ⟨_, fl, y, hy⟩ := hF i hi
    obtain ⟨d, p, e, hc⟩ := node_cells hy
    exact ⟨(d, p), e, hc⟩
  obtain ⟨f, hf⟩ := fun_of (⟨0, 0, fun _ => ⟨0, [], false⟩, 0, fun _ => ⟨[], 0, [], false, 0, false, 0, []⟩, 0, fun _ => 0, fun _ => [], 0, fun _ => 0⟩, ⟨(none, 0), fun _ => (none, 0), (none, 0), fun _ => ⟨(none, 0), (none, 0), (none, 0)⟩, (none, 0), fun _ => (none, 0), fun _ => [], (none, 0)⟩) n key
  exact ⟨(a, c), n, fun i => (f i).1, fun i => (f i).2, rfl, hn, hV.congr (fun i hi => (hf i hi).1), fun i hi => (hf i hi).2⟩

set_option maxRecDepth 100000 in
theorem open_world {H : Type} {enc : TypeId × Value → H} {W : World} {base : Nat} {held : Bool} {r : Reach} {b0 : Nat} {v : Value} {d : DataW H} {q : List MemPlace}
    (hv : Value.okWide Tryz.prog W r b0 25 v) (h : DataW.Trod enc Tryz.prog W base (fun _ => true) held 25 v d q) :
    ∃ (D : WoD) (p : WoP), v = .agg (wcells D p) ∧ WoC W D p := by
  obtain ⟨cs, rfl, hsz⟩ := okWide_struct Tryz.underlying25 hv
  obtain ⟨fuel, hf⟩ := h
  obtain ⟨ys, n, _, _, hl, hyl, hf⟩ := DataW.trod_struct Tryz.underlying25 hf
  rw [cells_worldW] at hl
  obtain ⟨cs⟩ := cs
  simp only [Value.cells] at hl hf
  match cs, hl, ys, hyl with
  | [c0, c1, c2], _, [y0, y1, y2], _ =>
    have g0 := hf 0 _ rfl
    have g1 := hf 1 _ rfl
    have g2 := hf 2 _ rfl
    simp [cells_intW, cells_nodesW, cells_packetsW] at g0 g1 g2
    obtain ⟨m0, e0, _, _⟩ := DataW.trod_int Tryz.underlying3 g0
    simp only [List.cons.injEq, and_true] at e0
    obtain ⟨pn, nn, dn, np, e1, hN⟩ := open_nodes g1
    obtain ⟨pk, nk, dk, kp, e2, hK⟩ := open_packets g2
    subst e0 e1 e2
    exact ⟨⟨m0, nn, dn, nk, dk⟩, ⟨pn, np, pk, kp⟩, rfl, hN, hK⟩
end Go.Proofs.YtpfppeifppdmbaaGreat
