/- NdE and NdK and WoR: see the heads of the parts. -/
import Derived.Test.YtiaiomjoapbalaaGreatNd
import Derived.Test.YtiaiomjoapbalaaGreatNdH
import Derived.Test.YtiaiomjoapbalaaGreatPacket2
/- What the law's eqFrameS, eqHomeS, eqSenderS, eqReceiverS and eqNode do at two nodes that say the same. -/
namespace Go.Proofs.YtiaiomjoapbalaaGreat
open Go.RowKit
set_option linter.unusedVariables false

theorem row_drew {k : IntKind} {w : World} {a : Option Addr} {xs : List Int} (h : Row k w a xs) : Row k w.drew a xs := h
theorem vrow_drew {w : World} {a : Option Addr} {xs : List Value} (h : VRow w a xs) : VRow w.drew a xs := h
theorem mrow_drew {w : World} {a : Option Addr} {xs : List M} (h : MRow w a xs) : MRow w.drew a xs := h

set_option maxRecDepth 100000 in
set_option maxHeartbeats 1000000 in
theorem eqFrameS_any (a b : Option Addr) (ca cb n : Nat) (d : Nat → FD) (p p' : Nat → Pl) (w : World) (ha : FR w a n d p) (hb : FR w b n d p') :
    Calls Tryz.prog 87 #[.slice a n ca, .slice b n cb] w fun e w' => e = .returned (.bool true) ∧ Below w.heap.size w w' := by
  have hl : n ≤ 1048577 := ha.1
  go_enter Tryz.func87, Tryz.ntmps87
  go_wp2
  go_loopw [5] (fun i wr => ∃ k : Nat, k ≤ n ∧ i = .int .i64 k ∧ FR wr a n d p ∧ FR wr b n d p' ∧ Below w.heap.size w wr) (fun i _ => n - (intOf i).toNat)
  case atStart => exact ⟨0, Nat.zero_le _, rfl, ha, hb, Below.refl _ _⟩
  case round =>
    obtain ⟨k, hk, rfl, hma, hmb, hB⟩ := hrel
    by_cases hlt : k < n
    · have hi : (k : Int) < (n : Int) := by omega
      obtain ⟨ba, oa, rfl, y0, y1, y2⟩ := hma.at hlt
      obtain ⟨bb, ob, rfl, z0, z1, z2⟩ := hmb.at hlt
      have ra := hma.2.2 k hlt
      have rb := hmb.2.2 k hlt
      clear ha hb
      go_wp2_with fail
      go_region_with (go_at_call 106; refine (eqFrame_any _ _ _ _ _ _ (d k).xs _ (row_drew ra) (row_drew rb)).mono ?_; rintro e w1 ⟨rfl, b1⟩)
      all_goals
        have hma1 := hma.below (bel_undrew b1)
        have hmb1 := hmb.below (bel_undrew b1)
        have hB1 := bel_trans hB (bel_undrew b1)
        clear hma hmb hB b1 y0 y1 y2 z0 z1 z2 ra rb
        go_wp2
        go_roundw
        case rel => exact ⟨k + 1, by omega, by go_num, hma1, hmb1, hB1⟩
        case measure => simp [intOf]; omega
    · clear ha hb hma hmb
      go_wp2
      go_ret
      exact ⟨rfl, hB⟩

set_option maxRecDepth 100000 in
set_option maxHeartbeats 1000000 in
theorem eqHomeS_any (a b : Option Addr) (ca cb n : Nat) (d : Nat → HD) (p p' : Nat → HP) (w : World) (ha : HR2 w a n d p) (hb : HR2 w b n d p') :
    Calls Tryz.prog 88 #[.slice a n ca, .slice b n cb] w fun e w' => e = .returned (.bool true) ∧ Below w.heap.size w w' := by
  have hl : n ≤ 1048577 := ha.1
  go_enter Tryz.func88, Tryz.ntmps88
  go_wp2
  go_loopw [5] (fun i wr => ∃ k : Nat, k ≤ n ∧ i = .int .i64 k ∧ HR2 wr a n d p ∧ HR2 wr b n d p' ∧ Below w.heap.size w wr) (fun i _ => n - (intOf i).toNat)
  case atStart => exact ⟨0, Nat.zero_le _, rfl, ha, hb, Below.refl _ _⟩
  case round =>
    obtain ⟨k, hk, rfl, hma, hmb, hB⟩ := hrel
    by_cases hlt : k < n
    · have hi : (k : Int) < (n : Int) := by omega
      obtain ⟨ba, oa, rfl, y0, y1, y2, y3, y4, y5, y6, y7⟩ := hma.at hlt
      obtain ⟨bb, ob, rfl, z0, z1, z2, z3, z4, z5, z6, z7⟩ := hmb.at hlt
      obtain ⟨ra, sa, ta⟩ := hma.2.2 k hlt
      obtain ⟨rb, sb, tb⟩ := hmb.2.2 k hlt
      clear ha hb
      go_wp2_with fail
      go_region_with (go_at_call 107; refine (eqHome_any _ _ _ _ _ _ _ _ _ _ _ _ _ _ _ _ _ (d k).xs (d k).bs (d k).ws _ (row_drew ra) (row_drew rb) (vrow_drew sa) (vrow_drew sb) (vrow_drew ta) (vrow_drew tb)).mono ?_; rintro e w1 ⟨rfl, b1⟩)
      all_goals
        have hma1 := hma.below (bel_undrew b1)
        have hmb1 := hmb.below (bel_undrew b1)
        have hB1 := bel_trans hB (bel_undrew b1)
        clear hma hmb hB b1 y0 y1 y2 y3 y4 y5 y6 y7 z0 z1 z2 z3 z4 z5 z6 z7 ra rb sa sb ta tb
        go_wp2
        go_roundw
        case rel => exact ⟨k + 1, by omega, by go_num, hma1, hmb1, hB1⟩
        case measure => simp [intOf]; omega
    · clear ha hb hma hmb
      go_wp2
      go_ret
      exact ⟨rfl, hB⟩

set_option maxRecDepth 100000 in
set_option maxHeartbeats 1000000 in
theorem eqSenderS_any (a b : Option Addr) (ca cb n : Nat) (bs : Nat → Int) (y : Nat → List Say) (p p' : Nat → Pl) (ms ds : Nat → List M) (w : World) (ha : SR w a n bs y p ms) (hb : SR w b n bs y p' ds) :
    Calls Tryz.prog 89 #[.slice a n ca, .slice b n cb] w fun e w' => e = .returned (.bool true) ∧ Below w.heap.size w w' := by
  have hl : n ≤ 1048577 := ha.1
  go_enter Tryz.func89, Tryz.ntmps89
  go_wp2
  go_loopw [5] (fun i wr => ∃ k : Nat, k ≤ n ∧ i = .int .i64 k ∧ SR wr a n bs y p ms ∧ SR wr b n bs y p' ds ∧ Below w.heap.size w wr) (fun i _ => n - (intOf i).toNat)
  case atStart => exact ⟨0, Nat.zero_le _, rfl, ha, hb, Below.refl _ _⟩
  case round =>
    obtain ⟨k, hk, rfl, hma, hmb, hB⟩ := hrel
    by_cases hlt : k < n
    · have hi : (k : Int) < (n : Int) := by omega
      obtain ⟨ba, oa, rfl, y0, y1⟩ := hma.at hlt
      obtain ⟨bb, ob, rfl, z0, z1⟩ := hmb.at hlt
      have ra := hma.2.2 k hlt
      have rb := hmb.2.2 k hlt
      have HE : Hid ((ds k).map M.say = (ms k).map M.say) := rb.2.trans ra.2.symm
      have HL : Hid ((ms k).length = (y k).length) := (by have := congrArg List.length ra.2; simpa using this : (ms k).length = (y k).length)
      clear ha hb
      go_wp2_with fail
      go_region_with (go_at_call 108; refine (eqSender_any _ _ _ _ _ (ms k) (ds k) _ _ HL.out HE.out (mrow_drew ra.1) (mrow_drew rb.1)).mono ?_; rintro e w1 ⟨rfl, b1⟩)
      all_goals
        have hma1 := hma.below (bel_undrew b1)
        have hmb1 := hmb.below (bel_undrew b1)
        have hB1 := bel_trans hB (bel_undrew b1)
        clear hma hmb hB b1 y0 y1 z0 z1 ra rb HE HL
        go_wp2
        go_roundw
        case rel => exact ⟨k + 1, by omega, by go_num, hma1, hmb1, hB1⟩
        case measure => simp [intOf]; omega
    · clear ha hb hma hmb
      go_wp2
      go_ret
      exact ⟨rfl, hB⟩

set_option maxHeartbeats 400000 in
theorem eqReceiver_any (g : Int) (w : World) :
    Calls Tryz.prog 109 #[.agg #[.int .i64 g], .agg #[.int .i64 g]] w fun e w' => e = .returned (.bool true) ∧ Below w.heap.size w w' := by
  have bA := bel_alloc (bel_alloc (Below.refl w.heap.size w) (.cells #[.int .i64 g] 89)) (.cells #[.int .i64 g] 89)
  go_enter Tryz.func109, Tryz.ntmps109
  go_wp2
  go_ret
  exact ⟨rfl, bA⟩

set_option maxRecDepth 100000 in
set_option maxHeartbeats 1000000 in
theorem eqReceiverS_any (a b : Option Addr) (ca cb n : Nat) (g : Nat → Int) (w : World) (ha : GR w a n g) (hb : GR w b n g) :
    Calls Tryz.prog 90 #[.slice a n ca, .slice b n cb] w fun e w' => e = .returned (.bool true) ∧ Below w.heap.size w w' := by
  have hl : n ≤ 1048577 := ha.1
  go_enter Tryz.func90, Tryz.ntmps90
  go_wp2
  go_loopw [5] (fun i wr => ∃ k : Nat, k ≤ n ∧ i = .int .i64 k ∧ GR wr a n g ∧ GR wr b n g ∧ Below w.heap.size w wr) (fun i _ => n - (intOf i).toNat)
  case atStart => exact ⟨0, Nat.zero_le _, rfl, ha, hb, Below.refl _ _⟩
  case round =>
    obtain ⟨k, hk, rfl, hma, hmb, hB⟩ := hrel
    by_cases hlt : k < n
    · have hi : (k : Int) < (n : Int) := by omega
      obtain ⟨ba, oa, rfl, y0⟩ := hma.at hlt
      obtain ⟨bb, ob, rfl, z0⟩ := hmb.at hlt
      clear ha hb
      go_wp2_with fail
      go_region_with (go_at_call 109; refine (eqReceiver_any _ _).mono ?_; rintro e w1 ⟨rfl, b1⟩)
      all_goals
        have hma1 := hma.below (bel_undrew b1)
        have hmb1 := hmb.below (bel_undrew b1)
        have hB1 := bel_trans hB (bel_undrew b1)
        clear hma hmb hB b1 y0 z0
        go_wp2
        go_roundw
        case rel => exact ⟨k + 1, by omega, by go_num, hma1, hmb1, hB1⟩
        case measure => simp [intOf]; omega
    · clear ha hb hma hmb
      go_wp2
      go_ret
      exact ⟨rfl, hB⟩

/-- What a node says, and where it lies. -/
structure ND where
  id : Int
  nf : Nat
  f : Nat → FD
  nh : Nat
  h : Nat → HD
  no : Nat
  b : Nat → Int
  y : Nat → List Say
  ni : Nat
  g : Nat → Int
structure NP where
  f : Pl
  fp : Nat → Pl
  h : Pl
  hp : Nat → HP
  o : Pl
  op : Nat → Pl
  ms : Nat → List M
  i : Pl
abbrev ncells (d : ND) (p : NP) : Array Value := #[.int .i64 d.id, .slice p.f.1 d.nf p.f.2, .slice p.h.1 d.nh p.h.2, .slice p.o.1 d.no p.o.2, .slice p.i.1 d.ni p.i.2]
structure NR (w : World) (d : ND) (p : NP) : Prop where
  f : FR w p.f.1 d.nf d.f p.fp
  h : HR2 w p.h.1 d.nh d.h p.hp
  o : SR w p.o.1 d.no d.b d.y p.op p.ms
  i : GR w p.i.1 d.ni d.g
theorem NR.below {w w' : World} {d : ND} {p : NP} (h : NR w d p) (b : Below w.heap.size w w') : NR w' d p := ⟨h.f.below b, h.h.below b, h.o.below b, h.i.below b⟩

theorem Box.at5 {w : World} {m : Nat} {c0 c1 c2 c3 c4 : Value} {t : TypeId} (h : Box w m #[c0, c1, c2, c3, c4] t) :
    w.cell? ⟨m, 0, none⟩ = some c0 ∧ w.cell? ⟨m, 1, none⟩ = some c1 ∧ w.cell? ⟨m, 2, none⟩ = some c2 ∧ w.cell? ⟨m, 3, none⟩ = some c3 ∧ w.cell? ⟨m, 4, none⟩ = some c4 ∧ m < w.heap.size :=
  ⟨by rw [h.cell]; rfl, by rw [h.cell]; rfl, by rw [h.cell]; rfl, by rw [h.cell]; rfl, by rw [h.cell]; rfl, h.lt⟩

set_option maxRecDepth 100000 in
set_option maxHeartbeats 1000000 in
theorem eqNode_any (d : ND) (p p' : NP) (w : World) (ha : NR w d p) (hb : NR w d p') :
    Calls Tryz.prog 53 #[.agg (ncells d p), .agg (ncells d p')] w fun e w' => e = .returned (.bool true) ∧ Below w.heap.size w w' := by
  have bA := bel_alloc (bel_alloc (Below.refl w.heap.size w) (.cells (ncells d p) 82)) (.cells (ncells d p') 82)
  obtain ⟨XA, XB⟩ := Box.two w (ncells d p) (ncells d p') 82 82
  replace ha := ha.below bA
  replace hb := hb.below bA
  go_enter Tryz.func53, Tryz.ntmps53
  go_wp2_with fail
  refine (eqFrameS_any _ _ _ _ d.nf d.f p.fp p'.fp _ ha.f hb.f).mono ?_
  rintro e w1 ⟨rfl, b1⟩
  replace XA := XA.below b1
  replace XB := XB.below b1
  replace ha := ha.below b1
  replace hb := hb.below b1
  have B := bel_trans bA b1
  clear bA b1
  obtain ⟨x0, x1, x2, x3, x4, zx⟩ := XA.at5
  obtain ⟨y0, y1, y2, y3, y4, zy⟩ := XB.at5
  go_wp2_with fail
  refine (eqHomeS_any _ _ _ _ d.nh d.h p.hp p'.hp _ ha.h hb.h).mono ?_
  rintro e w2 ⟨rfl, b1⟩
  replace XA := XA.below b1
  replace XB := XB.below b1
  replace ha := ha.below b1
  replace hb := hb.below b1
  replace B := bel_trans B b1
  clear b1 x0 x1 x2 x3 x4 zx y0 y1 y2 y3 y4 zy
  obtain ⟨x0, x1, x2, x3, x4, zx⟩ := XA.at5
  obtain ⟨y0, y1, y2, y3, y4, zy⟩ := XB.at5
  go_wp2_with fail
  refine (eqSenderS_any _ _ _ _ d.no d.b d.y p.op p'.op p.ms p'.ms _ ha.o hb.o).mono ?_
  rintro e w3 ⟨rfl, b1⟩
  replace XA := XA.below b1
  replace XB := XB.below b1
  replace ha := ha.below b1
  replace hb := hb.below b1
  replace B := bel_trans B b1
  clear b1 x0 x1 x2 x3 x4 zx y0 y1 y2 y3 y4 zy
  obtain ⟨x0, x1, x2, x3, x4, zx⟩ := XA.at5
  obtain ⟨y0, y1, y2, y3, y4, zy⟩ := XB.at5
  go_wp2_with fail
  refine (eqReceiverS_any _ _ _ _ d.ni d.g _ ha.i hb.i).mono ?_
  rintro e w4 ⟨rfl, b1⟩
  replace B := bel_trans B b1
  clear b1 x0 x1 x2 x3 x4 zx y0 y1 y2 y3 y4 zy XA XB ha hb
  go_wp2
  go_ret
  exact ⟨rfl, B⟩
end Go.Proofs.YtiaiomjoapbalaaGreat

/- What the law's heldHomeS does at a row of marked homes; what markNode and heldNode do at a new node. -/
namespace Go.Proofs.YtiaiomjoapbalaaGreat
open Go.RowKit
set_option linter.unusedVariables false


/-- A node whose frames have no words, whose homes nobody waits at and whose lines queue nothing, owned. -/
structure NO (w : World) (lo : Nat) (d : ND) (p : NP) (L R : Nat) : Prop where
  f : w.ownsRow lo 108 3 (.slice p.f.1 d.nf p.f.2) d.nf (chunks d.nf fun i => f0 (d.f i).s (d.f i).q)
  fe : ∀ i, i < d.nf → (d.f i).xs = [] ∧ p.fp i = (none, 0)
  h : HO w lo p.h.1 p.h.2 d.nh d.h p.hp
  ha : HApart d.nh p.hp
  he : ∀ i, i < d.nh → (d.h i).xs.length = L ∧ (d.h i).bs.length = R ∧ (d.h i).ws = [] ∧ (p.hp i).q = (none, 0)
  o : w.ownsRow lo 87 2 (.slice p.o.1 d.no p.o.2) d.no (chunks d.no fun i => s0 (d.b i))
  oe : ∀ i, i < d.no → d.y i = [] ∧ p.op i = (none, 0) ∧ p.ms i = []
  i : w.ownsRow lo 89 1 (.slice p.i.1 d.ni p.i.2) d.ni (chunks d.ni fun i => gcells (d.g i))
  n : d.nf ≤ 100 ∧ d.nh ≤ 100 ∧ d.no ≤ 100 ∧ d.ni ≤ 100 ∧ L ≤ 5 ∧ R ≤ 5

theorem NO.below {w w' : World} {lo : Nat} {d : ND} {p : NP} {L R : Nat} (h : NO w lo d p L R) (b : Below w.heap.size w w') : NO w' lo d p L R :=
  ⟨owns_below h.f b, h.fe, h.h.below b, h.ha, h.he, owns_below h.o b, h.oe, owns_below h.i b, h.n⟩
theorem NO.base {w : World} {lo lo' : Nat} {d : ND} {p : NP} {L R : Nat} (h : NO w lo d p L R) (b : lo' ≤ lo) : NO w lo' d p L R :=
  ⟨owns_base h.f b, h.fe, h.h.base b, h.ha, h.he, owns_base h.o b, h.oe, owns_base h.i b, h.n⟩

theorem HO.hr {w : World} {lo : Nat} {a : Option Addr} {c n : Nat} {d : Nat → HD} {p : Nat → HP} (h : HO w lo a c n d p) (hn : n ≤ 100) (hl : ∀ i, i < n → (d i).xs.length ≤ 100 ∧ (d i).bs.length ≤ 100 ∧ (d i).ws = []) : HR2 w a n d p := by
  refine ⟨by omega, owns_vrow' h.row (by rw [chunks_length (s := 8) n (fun i _ => rfl)]; omega), fun i hi => ⟨owns_row' (h.l i hi) (by have := hl i hi; omega), owns_vrow' (h.r i hi) (by rw [bv_length]; have := hl i hi; omega), ?_⟩⟩
  rw [(hl i hi).2.2]
  exact ⟨by simp [wv], fun j v hv => by simp [wv] at hv⟩

/-- What a reader is told of it. -/
theorem NO.nr {w : World} {lo : Nat} {d : ND} {p : NP} {L R : Nat} (h : NO w lo d p L R) : NR w d p := by
  obtain ⟨n1, n2, n3, n4, n5, n6⟩ := h.n
  refine ⟨⟨by omega, ?_, fun i hi => ?_⟩, h.h.hr n2 (fun i hi => ?_), ⟨by omega, ?_, fun i hi => ?_⟩, by omega, ?_⟩
  · have e := chunks_congr (n := d.nf) (f := fun i => f0 (d.f i).s (d.f i).q) (g := fun i => fcells (d.f i) (p.fp i)) (fun i hi => by simp [f0, fcells, h.fe i hi])
    rw [← e]
    exact owns_vrow' h.f (by rw [chunks_length (s := 3) d.nf (fun i _ => rfl)]; omega)
  · rw [(h.fe i hi).1]
    exact ⟨by simp, fun j hj => by simp at hj⟩
  · obtain ⟨e1, e2, e3, e4⟩ := h.he i hi
    exact ⟨by omega, by omega, e3⟩
  · have e := chunks_congr (n := d.no) (f := fun i => s0 (d.b i)) (g := fun i => scells (d.b i) (p.op i) (d.y i).length) (fun i hi => by simp [s0, scells, h.oe i hi])
    rw [← e]
    exact owns_vrow' h.o (by rw [chunks_length (s := 2) d.no (fun i _ => rfl)]; omega)
  · obtain ⟨e1, e2, e3⟩ := h.oe i hi
    rw [e1, e3]
    exact ⟨⟨by simp, fun j m hm => by simp at hm⟩, rfl⟩
  · exact owns_vrow' h.i (by rw [chunks_length (s := 1) d.ni (fun i _ => rfl)]; omega)

/-- The node, marked, counted on from k. -/
def mN (k : Int) (d : ND) (L R : Nat) : ND :=
  let k1 := k + 2 * (d.nf : Int)
  let k2 := kk k1 (L + R + 5) d.nh
  ⟨d.id, d.nf, fun i => ⟨k + 2 * (i : Int), [], (k + 2 * (i : Int) + 1) % 3 == 0⟩, d.nh, fun i => mH (kk k1 (L + R + 5) i) L R, d.no, fun i => k2 + i, fun _ => [], d.ni, fun i => k2 + d.no + i⟩
def mEnd (k : Int) (d : ND) (L R : Nat) : Int := kk (k + 2 * (d.nf : Int)) (L + R + 5) d.nh + d.no + d.ni

/-- All its blocks lie below hi. -/
def NLt (d : ND) (p : NP) (hi : Nat) : Prop := (∀ j, blk p.f = some j → j < hi) ∧ (∀ j, blk p.h = some j → j < hi) ∧ (∀ i, i < d.nh → ∀ j, (blk (p.hp i).l = some j ∨ blk (p.hp i).r = some j) → j < hi) ∧ (∀ j, blk p.o = some j → j < hi) ∧ ∀ j, blk p.i = some j → j < hi
theorem own_blk {a : Option Addr} {c j n : Nat} (h : blk (a, c) = some j) : (Value.slice a n c).ownBlock = some j := by
  cases a with
  | none => simp [blk] at h
  | some x => simpa [blk, Value.ownBlock] using h
theorem NO.lt {w : World} {lo : Nat} {d : ND} {p : NP} {L R : Nat} (h : NO w lo d p L R) : NLt d p w.heap.size :=
  ⟨fun j hj => (h.f.lt j (own_blk hj)).2, fun j hj => (h.h.row.lt j (own_blk hj)).2, fun i hi j hj => hj.elim (fun hj => ((h.h.l i hi).lt j (own_blk hj)).2) (fun hj => ((h.h.r i hi).lt j (own_blk hj)).2), fun j hj => (h.o.lt j (own_blk hj)).2, fun j hj => (h.i.lt j (own_blk hj)).2⟩
theorem NO.lo {w : World} {lo : Nat} {d : ND} {p : NP} {L R : Nat} (h : NO w lo d p L R) : (∀ j, blk p.f = some j → lo ≤ j) ∧ (∀ j, blk p.o = some j → lo ≤ j) ∧ ∀ j, blk p.i = some j → lo ≤ j :=
  ⟨fun j hj => (h.f.lt j (own_blk hj)).1, fun j hj => (h.o.lt j (own_blk hj)).1, fun j hj => (h.i.lt j (own_blk hj)).1⟩

/-- A row stays where another row of another element type is turned. -/
theorem owns_other {w w' : World} {lo e s n : Nat} {v : Value} {xs : List Value} (h : w.ownsRow lo e s v n xs) {e2 s2 n2 lo2 : Nat} {v2 : Value} {xs2 : List Value} (g : w.grownBy w' v2.ownBlock) (h2 : w.ownsRow lo2 e2 s2 v2 n2 xs2) (he : e2 ≠ e) : w'.ownsRow lo e s v n xs :=
  owns_ne h g (fun j hj hk => owns_kinds h2 h he hk hj)
theorem HO.other {w w' : World} {lo : Nat} {a : Option Addr} {c n : Nat} {d : Nat → HD} {p : Nat → HP} (h : HO w lo a c n d p) {e2 s2 n2 lo2 : Nat} {v2 : Value} {xs2 : List Value} (g : w.grownBy w' v2.ownBlock) (h2 : w.ownsRow lo2 e2 s2 v2 n2 xs2) (h3 : e2 ≠ 106 ∧ e2 ≠ 3 ∧ e2 ≠ 4) : HO w' lo a c n d p :=
  ⟨owns_other h.row g h2 h3.1, fun i hi => owns_other (h.l i hi) g h2 h3.2.1, fun i hi => owns_other (h.r i hi) g h2 h3.2.2⟩

/-- Two boxes of blocks: what Kept leaves. -/
theorem HO.kinds {w : World} {lo : Nat} {a : Option Addr} {c n : Nat} {d : Nat → HD} {p : Nat → HP} (h : HO w lo a c n d p) {e s m lo2 : Nat} {v : Value} {xs : List Value} (h2 : w.ownsRow lo2 e s v m xs) (h3 : e ≠ 106 ∧ e ≠ 3 ∧ e ≠ 4) {j : Nat} (hj : v.ownBlock = some j) :
    blk (a, c) ≠ some j ∧ ∀ i, i < n → blk (p i).l ≠ some j ∧ blk (p i).r ≠ some j :=
  ⟨fun e => owns_kinds h2 h.row h3.1 hj (own_blk e), fun i hi => ⟨fun e => owns_kinds h2 (h.l i hi) h3.2.1 hj (own_blk e), fun e => owns_kinds h2 (h.r i hi) h3.2.2 hj (own_blk e)⟩⟩

/-- The blocks of a node. -/
def NB (d : ND) (p : NP) (j : Nat) : Prop := blk p.f = some j ∨ blk p.h = some j ∨ (∃ i, i < d.nh ∧ (blk (p.hp i).l = some j ∨ blk (p.hp i).r = some j)) ∨ blk p.o = some j ∨ blk p.i = some j
def HBk (p : NP) (n : Nat) (j : Nat) : Prop := blk p.h = some j ∨ ∃ i, i < n ∧ (blk (p.hp i).l = some j ∨ blk (p.hp i).r = some j)
theorem NO.nb {w : World} {lo : Nat} {d : ND} {p : NP} {L R : Nat} (h : NO w lo d p L R) {j : Nat} (hj : NB d p j) : lo ≤ j ∧ j < w.heap.size := by
  rcases hj with h1 | h1 | ⟨i, hi, h1 | h1⟩ | h1 | h1
  · exact h.f.lt j (own_blk h1)
  · exact h.h.row.lt j (own_blk h1)
  · exact (h.h.l i hi).lt j (own_blk h1)
  · exact (h.h.r i hi).lt j (own_blk h1)
  · exact h.o.lt j (own_blk h1)
  · exact h.i.lt j (own_blk h1)


end Go.Proofs.YtiaiomjoapbalaaGreat

/- Rows of nodes and of packets, and a world: what a reader is told of them; what the law's eqWorld does. -/
namespace Go.Proofs.YtiaiomjoapbalaaGreat
open Go.RowKit
set_option linter.unusedVariables false

/-- What a packet says. -/
structure PkD where
  f : Int
  t : Int
  a : Bool
  n : Int
  k : Int
  p : Int
  o : Bool
  xs : List Int
def pkcells (d : PkD) (q : Pl) : List Value := [.int .i64 d.f, .int .i64 d.t, .bool d.a, .int .i64 d.n, .int .i64 d.k, .int .i64 d.p, .bool d.o, .slice q.1 d.xs.length q.2]
def nlist (d : ND) (p : NP) : List Value := [.int .i64 d.id, .slice p.f.1 d.nf p.f.2, .slice p.h.1 d.nh p.h.2, .slice p.o.1 d.no p.o.2, .slice p.i.1 d.ni p.i.2]

def PkR (w : World) (a : Option Addr) (n : Nat) (d : Nat → PkD) (q : Nat → Pl) : Prop := n ≤ 1048577 ∧ VRow w a (chunks n fun i => pkcells (d i) (q i)) ∧ ∀ i, i < n → Row .i64 w (q i).1 (d i).xs
def NsR (w : World) (a : Option Addr) (n : Nat) (d : Nat → ND) (p : Nat → NP) : Prop := n ≤ 1048577 ∧ VRow w a (chunks n fun i => nlist (d i) (p i)) ∧ ∀ i, i < n → NR w (d i) (p i)
theorem PkR.below {w w' : World} {a : Option Addr} {n : Nat} {d : Nat → PkD} {q : Nat → Pl} (h : PkR w a n d q) (hb : Below w.heap.size w w') : PkR w' a n d q := ⟨h.1, h.2.1.below hb, fun i hi => (h.2.2 i hi).below hb⟩
theorem NsR.below {w w' : World} {a : Option Addr} {n : Nat} {d : Nat → ND} {p : Nat → NP} (h : NsR w a n d p) (hb : Below w.heap.size w w') : NsR w' a n d p := ⟨h.1, h.2.1.below hb, fun i hi => (h.2.2 i hi).below hb⟩

theorem PkR.at {w : World} {a : Option Addr} {n : Nat} {d : Nat → PkD} {q : Nat → Pl} (h : PkR w a n d q) {i : Nat} (hi : i < n) :
    ∃ b off, a = some ⟨b, off, none⟩ ∧ w.cell? ⟨b, off + i * 8, none⟩ = some (.int .i64 (d i).f) ∧ w.cell? ⟨b, off + i * 8 + 1, none⟩ = some (.int .i64 (d i).t) ∧ w.cell? ⟨b, off + i * 8 + 2, none⟩ = some (.bool (d i).a) ∧ w.cell? ⟨b, off + i * 8 + 3, none⟩ = some (.int .i64 (d i).n) ∧
      w.cell? ⟨b, off + i * 8 + 4, none⟩ = some (.int .i64 (d i).k) ∧ w.cell? ⟨b, off + i * 8 + 5, none⟩ = some (.int .i64 (d i).p) ∧ w.cell? ⟨b, off + i * 8 + 6, none⟩ = some (.bool (d i).o) ∧ w.cell? ⟨b, off + i * 8 + 7, none⟩ = some (.slice (q i).1 (d i).xs.length (q i).2) := by
  obtain ⟨b, off, rfl, hc⟩ := h.2.1.chunk (s := 8) (fun i _ => rfl) (by decide) hi
  exact ⟨b, off, rfl, hc 0 _ rfl, hc 1 _ rfl, hc 2 _ rfl, hc 3 _ rfl, hc 4 _ rfl, hc 5 _ rfl, hc 6 _ rfl, hc 7 _ rfl⟩
theorem NsR.at {w : World} {a : Option Addr} {n : Nat} {d : Nat → ND} {p : Nat → NP} (h : NsR w a n d p) {i : Nat} (hi : i < n) :
    ∃ b off, a = some ⟨b, off, none⟩ ∧ w.cell? ⟨b, off + i * 5, none⟩ = some (.int .i64 (d i).id) ∧ w.cell? ⟨b, off + i * 5 + 1, none⟩ = some (.slice (p i).f.1 (d i).nf (p i).f.2) ∧ w.cell? ⟨b, off + i * 5 + 2, none⟩ = some (.slice (p i).h.1 (d i).nh (p i).h.2) ∧
      w.cell? ⟨b, off + i * 5 + 3, none⟩ = some (.slice (p i).o.1 (d i).no (p i).o.2) ∧ w.cell? ⟨b, off + i * 5 + 4, none⟩ = some (.slice (p i).i.1 (d i).ni (p i).i.2) := by
  obtain ⟨b, off, rfl, hc⟩ := h.2.1.chunk (s := 5) (fun i _ => rfl) (by decide) hi
  exact ⟨b, off, rfl, hc 0 _ rfl, hc 1 _ rfl, hc 2 _ rfl, hc 3 _ rfl, hc 4 _ rfl⟩

/-- What a world says, and where it lies. -/
structure WoD where
  size : Int
  nn : Nat
  d : Nat → ND
  nk : Nat
  k : Nat → PkD
structure WoP where
  n : Pl
  np : Nat → NP
  k : Pl
  kp : Nat → Pl
abbrev wcells (d : WoD) (p : WoP) : Array Value := #[.int .i64 d.size, .slice p.n.1 d.nn p.n.2, .slice p.k.1 d.nk p.k.2]
structure WoR (w : World) (d : WoD) (p : WoP) : Prop where
  n : NsR w p.n.1 d.nn d.d p.np
  k : PkR w p.k.1 d.nk d.k p.kp
theorem WoR.below {w w' : World} {d : WoD} {p : WoP} (h : WoR w d p) (b : Below w.heap.size w w') : WoR w' d p := ⟨h.n.below b, h.k.below b⟩

set_option maxRecDepth 100000 in
set_option maxHeartbeats 1000000 in
theorem eqPacketS_any (a b : Option Addr) (ca cb n : Nat) (d : Nat → PkD) (p p' : Nat → Pl) (w : World) (ha : PkR w a n d p) (hb : PkR w b n d p') :
    Calls Tryz.prog 33 #[.slice a n ca, .slice b n cb] w fun e w' => e = .returned (.bool true) ∧ Below w.heap.size w w' := by
  have hl : n ≤ 1048577 := ha.1
  go_enter Tryz.func33, Tryz.ntmps33
  go_wp2
  go_loopw [5] (fun i wr => ∃ k : Nat, k ≤ n ∧ i = .int .i64 k ∧ PkR wr a n d p ∧ PkR wr b n d p' ∧ Below w.heap.size w wr) (fun i _ => n - (intOf i).toNat)
  case atStart => exact ⟨0, Nat.zero_le _, rfl, ha, hb, Below.refl _ _⟩
  case round =>
    obtain ⟨k, hk, rfl, hma, hmb, hB⟩ := hrel
    by_cases hlt : k < n
    · have hi : (k : Int) < (n : Int) := by omega
      obtain ⟨ba, oa, rfl, y0, y1, y2, y3, y4, y5, y6, y7⟩ := hma.at hlt
      obtain ⟨bb, ob, rfl, z0, z1, z2, z3, z4, z5, z6, z7⟩ := hmb.at hlt
      have ra := hma.2.2 k hlt
      have rb := hmb.2.2 k hlt
      clear ha hb
      go_wp2_with fail
      go_region_with (go_at_call 54; refine (eqPacket_any _ _ _ _ _ _ _ _ _ _ _ (d k).xs _ (row_drew ra) (row_drew rb)).mono ?_; rintro e w1 ⟨rfl, b1⟩)
      all_goals
        have hma1 := hma.below (bel_undrew b1)
        have hmb1 := hmb.below (bel_undrew b1)
        have hB1 := bel_trans hB (bel_undrew b1)
        clear hma hmb hB b1 y0 y1 y2 y3 y4 y5 y6 y7 z0 z1 z2 z3 z4 z5 z6 z7 ra rb
        go_wp2
        go_roundw
        case rel => exact ⟨k + 1, by omega, by go_num, hma1, hmb1, hB1⟩
        case measure => simp [intOf]; omega
    · clear ha hb hma hmb
      go_wp2
      go_ret
      exact ⟨rfl, hB⟩

theorem nr_dr {w : World} {d : ND} {p : NP} (h : NR w d p) : NR w.drew d p := h.below (below_drewN (Below.refl _ _) 1)

set_option maxRecDepth 100000 in
set_option maxHeartbeats 1000000 in
theorem eqNodeS_any (a b : Option Addr) (ca cb n : Nat) (d : Nat → ND) (p p' : Nat → NP) (w : World) (ha : NsR w a n d p) (hb : NsR w b n d p') :
    Calls Tryz.prog 32 #[.slice a n ca, .slice b n cb] w fun e w' => e = .returned (.bool true) ∧ Below w.heap.size w w' := by
  have hl : n ≤ 1048577 := ha.1
  go_enter Tryz.func32, Tryz.ntmps32
  go_wp2
  go_loopw [5] (fun i wr => ∃ k : Nat, k ≤ n ∧ i = .int .i64 k ∧ NsR wr a n d p ∧ NsR wr b n d p' ∧ Below w.heap.size w wr) (fun i _ => n - (intOf i).toNat)
  case atStart => exact ⟨0, Nat.zero_le _, rfl, ha, hb, Below.refl _ _⟩
  case round =>
    obtain ⟨k, hk, rfl, hma, hmb, hB⟩ := hrel
    by_cases hlt : k < n
    · have hi : (k : Int) < (n : Int) := by omega
      obtain ⟨ba, oa, rfl, y0, y1, y2, y3, y4⟩ := hma.at hlt
      obtain ⟨bb, ob, rfl, z0, z1, z2, z3, z4⟩ := hmb.at hlt
      have ra := hma.2.2 k hlt
      have rb := hmb.2.2 k hlt
      clear ha hb
      go_wp2_with fail
      go_region_with (go_at_call 53; refine (eqNode_any (d k) (p k) (p' k) _ (nr_dr ra) (nr_dr rb)).mono ?_; rintro e w1 ⟨rfl, b1⟩)
      all_goals
        have hma1 := hma.below (bel_undrew b1)
        have hmb1 := hmb.below (bel_undrew b1)
        have hB1 := bel_trans hB (bel_undrew b1)
        clear hma hmb hB b1 y0 y1 y2 y3 y4 z0 z1 z2 z3 z4 ra rb
        go_wp2
        go_roundw
        case rel => exact ⟨k + 1, by omega, by go_num, hma1, hmb1, hB1⟩
        case measure => simp [intOf]; omega
    · clear ha hb hma hmb
      go_wp2
      go_ret
      exact ⟨rfl, hB⟩

set_option maxRecDepth 100000 in
set_option maxHeartbeats 1000000 in
theorem eqWorld_any (d : WoD) (p p' : WoP) (w : World) (ha : WoR w d p) (hb : WoR w d p') :
    Calls Tryz.prog 10 #[.agg (wcells d p), .agg (wcells d p')] w fun e w' => e = .returned (.bool true) ∧ Below w.heap.size w w' := by
  have B := bel_alloc (bel_alloc (Below.refl w.heap.size w) (.cells (wcells d p) 32)) (.cells (wcells d p') 32)
  obtain ⟨XA, XB⟩ := Box.two w (wcells d p) (wcells d p') 32 32
  replace ha := ha.below B
  replace hb := hb.below B
  go_enter Tryz.func10, Tryz.ntmps10
  go_wp2_with fail
  refine (eqNodeS_any _ _ _ _ d.nn d.d p.np p'.np _ ha.n hb.n).mono ?_
  rintro e w1 ⟨rfl, b1⟩
  replace ha := ha.below b1
  replace hb := hb.below b1
  replace XA := XA.below b1
  replace XB := XB.below b1
  replace B := bel_trans B b1
  clear b1
  obtain ⟨x0, x1, x2, xz⟩ := XA.at3
  obtain ⟨y0, y1, y2, yz⟩ := XB.at3
  clear XA XB
  go_wp2_with fail
  refine (eqPacketS_any _ _ _ _ d.nk d.k p.kp p'.kp _ ha.k hb.k).mono ?_
  rintro e w2 ⟨rfl, b2⟩
  replace B := bel_trans B b2
  go_wp2
  go_ret
  exact ⟨rfl, B⟩
end Go.Proofs.YtiaiomjoapbalaaGreat
