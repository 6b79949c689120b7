/- Nd and NdE and WoR: see the heads of the parts. -/
import Derived.Test.YtpfppeifppdmbaaGreatRwC
import Derived.Test.YtpfppeifppdmbaaGreatHomM
import Derived.Test.YtpfppeifppdmbaaGreatFrm
import Derived.Test.YtpfppeifppdmbaaGreatFmR
import Derived.Test.YtpfppeifppdmbaaGreatSndTo
import Derived.Test.YtpfppeifppdmbaaGreatPacket2
/- Rows by their elements; what a reader is told of a node; what the law's eqNode does. -/
namespace Go.Proofs.YtpfppeifppdmbaaGreat
open Go.RowKit
set_option linter.unusedVariables false

structure HD where
  xs : List Int
  ow : Int
  bs : List Bool
  bz : Bool
  wh : Int
  wo : Bool
  ak : Int
  ws : List (Int × Bool)
structure HP where
  l : Pl
  r : Pl
  q : Pl
def hcells (d : HD) (p : HP) : List Value := [.slice p.l.1 d.xs.length p.l.2, .int .i64 d.ow, .slice p.r.1 d.bs.length p.r.2, .bool d.bz, .int .i64 d.wh, .bool d.wo, .int .i64 d.ak, .slice p.q.1 d.ws.length p.q.2]
def scells (b : Int) (p : Pl) (n : Nat) : List Value := [.int .i64 b, .slice p.1 n p.2]
def gcells (g : Int) : List Value := [.int .i64 g]

def HR2 (w : World) (a : Option Addr) (n : Nat) (d : Nat → HD) (p : Nat → HP) : Prop := n ≤ 1048577 ∧ VRow w a (chunks n fun i => hcells (d i) (p i)) ∧
  ∀ i, i < n → Row .i64 w (p i).l.1 (d i).xs ∧ VRow w (p i).r.1 (bv (d i).bs) ∧ VRow w (p i).q.1 (wv (d i).ws)
def SR (w : World) (a : Option Addr) (n : Nat) (b : Nat → Int) (y : Nat → List Say) (p : Nat → Pl) (ms : Nat → List M) : Prop := n ≤ 1048577 ∧ VRow w a (chunks n fun i => scells (b i) (p i) (y i).length) ∧
  ∀ i, i < n → MRow w (p i).1 (ms i) ∧ (ms i).map M.say = y i
def GR (w : World) (a : Option Addr) (n : Nat) (g : Nat → Int) : Prop := n ≤ 1048577 ∧ VRow w a (chunks n fun i => gcells (g i))

theorem HR2.below {w w' : World} {a : Option Addr} {n : Nat} {d : Nat → HD} {p : Nat → HP} (h : HR2 w a n d p) (hb : Below w.heap.size w w') : HR2 w' a n d p :=
  ⟨h.1, h.2.1.below hb, fun i hi => ⟨(h.2.2 i hi).1.below hb, (h.2.2 i hi).2.1.below hb, (h.2.2 i hi).2.2.below hb⟩⟩
theorem SR.below {w w' : World} {a : Option Addr} {n : Nat} {b : Nat → Int} {y : Nat → List Say} {p : Nat → Pl} {ms : Nat → List M} (h : SR w a n b y p ms) (hb : Below w.heap.size w w') : SR w' a n b y p ms :=
  ⟨h.1, h.2.1.below hb, fun i hi => ⟨(h.2.2 i hi).1.below hb, (h.2.2 i hi).2⟩⟩
theorem GR.below {w w' : World} {a : Option Addr} {n : Nat} {g : Nat → Int} (h : GR w a n g) (hb : Below w.heap.size w w') : GR w' a n g := ⟨h.1, h.2.below hb⟩

theorem HR2.at {w : World} {a : Option Addr} {n : Nat} {d : Nat → HD} {p : Nat → HP} (h : HR2 w a n d p) {i : Nat} (hi : i < n) :
    ∃ b off, a = some ⟨b, off, none⟩ ∧ w.cell? ⟨b, off + i * 8, none⟩ = some (.slice (p i).l.1 (d i).xs.length (p i).l.2) ∧ w.cell? ⟨b, off + i * 8 + 1, none⟩ = some (.int .i64 (d i).ow) ∧
      w.cell? ⟨b, off + i * 8 + 2, none⟩ = some (.slice (p i).r.1 (d i).bs.length (p i).r.2) ∧ w.cell? ⟨b, off + i * 8 + 3, none⟩ = some (.bool (d i).bz) ∧ w.cell? ⟨b, off + i * 8 + 4, none⟩ = some (.int .i64 (d i).wh) ∧
      w.cell? ⟨b, off + i * 8 + 5, none⟩ = some (.bool (d i).wo) ∧ w.cell? ⟨b, off + i * 8 + 6, none⟩ = some (.int .i64 (d i).ak) ∧ w.cell? ⟨b, off + i * 8 + 7, none⟩ = some (.slice (p i).q.1 (d i).ws.length (p i).q.2) := by
  obtain ⟨b, off, rfl, hc⟩ := h.2.1.chunk (s := 8) (fun i _ => rfl) (by decide) hi
  exact ⟨b, off, rfl, hc 0 _ rfl, hc 1 _ rfl, hc 2 _ rfl, hc 3 _ rfl, hc 4 _ rfl, hc 5 _ rfl, hc 6 _ rfl, hc 7 _ rfl⟩
theorem SR.at {w : World} {a : Option Addr} {n : Nat} {b : Nat → Int} {y : Nat → List Say} {p : Nat → Pl} {ms : Nat → List M} (h : SR w a n b y p ms) {i : Nat} (hi : i < n) :
    ∃ m off, a = some ⟨m, off, none⟩ ∧ w.cell? ⟨m, off + i * 2, none⟩ = some (.int .i64 (b i)) ∧ w.cell? ⟨m, off + i * 2 + 1, none⟩ = some (.slice (p i).1 (y i).length (p i).2) := by
  obtain ⟨b, off, rfl, hc⟩ := h.2.1.chunk (s := 2) (fun i _ => rfl) (by decide) hi
  exact ⟨b, off, rfl, hc 0 _ rfl, hc 1 _ rfl⟩
theorem GR.at {w : World} {a : Option Addr} {n : Nat} {g : Nat → Int} (h : GR w a n g) {i : Nat} (hi : i < n) :
    ∃ m off, a = some ⟨m, off, none⟩ ∧ w.cell? ⟨m, off + i, none⟩ = some (.int .i64 (g i)) := by
  obtain ⟨b, off, rfl, hc⟩ := h.2.chunk (s := 1) (fun i _ => rfl) (by decide) hi
  have := hc 0 _ rfl
  rw [Nat.mul_one, Nat.add_zero] at this
  exact ⟨b, off, rfl, this⟩
end Go.Proofs.YtpfppeifppdmbaaGreat

/- What the law's eqFrameS, eqHomeS, eqSenderS, eqReceiverS and eqNode do at two nodes that say the same. -/
namespace Go.Proofs.YtpfppeifppdmbaaGreat
open Go.RowKit
set_option linter.unusedVariables false

theorem mrow_drew {w : World} {a : Option Addr} {xs : List M} (h : MRow w a xs) : MRow w.drew a xs := h


set_option maxRecDepth 100000 in
set_option maxHeartbeats 1000000 in
theorem eqHomeS_any (a b : Option Addr) (ca cb n : Nat) (d : Nat → HD) (p p' : Nat → HP) (w : World) (ha : HR2 w a n d p) (hb : HR2 w b n d p') :
    Calls Tryz.prog 61 #[.slice a n ca, .slice b n cb] w fun e w' => e = .returned (.bool true) ∧ Below w.heap.size w w' := by
  have hl : n ≤ 1048577 := ha.1
  go_enter Tryz.func61, Tryz.ntmps61
  go_wp2
  go_loopw [5] (fun i wr => ∃ k : Nat, k ≤ n ∧ i = .int .i64 k ∧ HR2 wr a n d p ∧ HR2 wr b n d p' ∧ Below w.heap.size w wr) (fun i _ => n - (intOf i).toNat)
  case atStart => exact ⟨0, Nat.zero_le _, rfl, ha, hb, Below.refl _ _⟩
  case round =>
    obtain ⟨k, hk, rfl, hma, hmb, hB⟩ := hrel
    by_cases hlt : k < n
    · have hi : (k : Int) < (n : Int) := by omega
      obtain ⟨ba, oa, rfl, y0, y1, y2, y3, y4, y5, y6, y7⟩ := hma.at hlt
      obtain ⟨bb, ob, rfl, z0, z1, z2, z3, z4, z5, z6, z7⟩ := hmb.at hlt
      obtain ⟨ra, sa, ta⟩ := hma.2.2 k hlt
      obtain ⟨rb, sb, tb⟩ := hmb.2.2 k hlt
      clear ha hb
      go_wp2_with fail
      go_region_with (go_at_call 97; refine (eqHome_any _ _ _ _ _ _ _ _ _ _ _ _ _ _ _ _ _ (d k).xs (d k).bs (d k).ws _ (row_drew ra) (row_drew rb) (vrow_drew sa) (vrow_drew sb) (vrow_drew ta) (vrow_drew tb)).mono ?_; rintro e w1 ⟨rfl, b1⟩)
      all_goals
        have hma1 := hma.below (bel_undrew b1)
        have hmb1 := hmb.below (bel_undrew b1)
        have hB1 := bel_trans hB (bel_undrew b1)
        clear hma hmb hB b1 y0 y1 y2 y3 y4 y5 y6 y7 z0 z1 z2 z3 z4 z5 z6 z7 ra rb sa sb ta tb
        go_wp2
        go_roundw
        case rel => exact ⟨k + 1, by omega, by go_num, hma1, hmb1, hB1⟩
        case measure => simp [intOf]; omega
    · clear ha hb hma hmb
      go_wp2
      go_ret
      exact ⟨rfl, hB⟩

set_option maxRecDepth 100000 in
set_option maxHeartbeats 1000000 in
theorem eqSenderS_any (a b : Option Addr) (ca cb n : Nat) (bs : Nat → Int) (y : Nat → List Say) (p p' : Nat → Pl) (ms ds : Nat → List M) (w : World) (ha : SR w a n bs y p ms) (hb : SR w b n bs y p' ds) :
    Calls Tryz.prog 62 #[.slice a n ca, .slice b n cb] w fun e w' => e = .returned (.bool true) ∧ Below w.heap.size w w' := by
  have hl : n ≤ 1048577 := ha.1
  go_enter Tryz.func62, Tryz.ntmps62
  go_wp2
  go_loopw [5] (fun i wr => ∃ k : Nat, k ≤ n ∧ i = .int .i64 k ∧ SR wr a n bs y p ms ∧ SR wr b n bs y p' ds ∧ Below w.heap.size w wr) (fun i _ => n - (intOf i).toNat)
  case atStart => exact ⟨0, Nat.zero_le _, rfl, ha, hb, Below.refl _ _⟩
  case round =>
    obtain ⟨k, hk, rfl, hma, hmb, hB⟩ := hrel
    by_cases hlt : k < n
    · have hi : (k : Int) < (n : Int) := by omega
      obtain ⟨ba, oa, rfl, y0, y1⟩ := hma.at hlt
      obtain ⟨bb, ob, rfl, z0, z1⟩ := hmb.at hlt
      have ra := hma.2.2 k hlt
      have rb := hmb.2.2 k hlt
      have HE : Hid ((ds k).map M.say = (ms k).map M.say) := rb.2.trans ra.2.symm
      have HL : Hid ((ms k).length = (y k).length) := (by have := congrArg List.length ra.2; simpa using this : (ms k).length = (y k).length)
      clear ha hb
      go_wp2_with fail
      go_region_with (go_at_call 98; refine (eqSender_any _ _ _ _ _ (ms k) (ds k) _ _ HL.out HE.out (mrow_drew ra.1) (mrow_drew rb.1)).mono ?_; rintro e w1 ⟨rfl, b1⟩)
      all_goals
        have hma1 := hma.below (bel_undrew b1)
        have hmb1 := hmb.below (bel_undrew b1)
        have hB1 := bel_trans hB (bel_undrew b1)
        clear hma hmb hB b1 y0 y1 z0 z1 ra rb HE HL
        go_wp2
        go_roundw
        case rel => exact ⟨k + 1, by omega, by go_num, hma1, hmb1, hB1⟩
        case measure => simp [intOf]; omega
    · clear ha hb hma hmb
      go_wp2
      go_ret
      exact ⟨rfl, hB⟩

set_option maxHeartbeats 400000 in
theorem eqReceiver_any (g : Int) (w : World) :
    Calls Tryz.prog 99 #[.agg #[.int .i64 g], .agg #[.int .i64 g]] w fun e w' => e = .returned (.bool true) ∧ Below w.heap.size w w' := by
  have bA := bel_alloc (bel_alloc (Below.refl w.heap.size w) (.cells #[.int .i64 g] 118)) (.cells #[.int .i64 g] 118)
  go_enter Tryz.func99, Tryz.ntmps99
  go_wp2
  go_ret
  exact ⟨rfl, bA⟩

set_option maxRecDepth 100000 in
set_option maxHeartbeats 1000000 in
theorem eqReceiverS_any (a b : Option Addr) (ca cb n : Nat) (g : Nat → Int) (w : World) (ha : GR w a n g) (hb : GR w b n g) :
    Calls Tryz.prog 63 #[.slice a n ca, .slice b n cb] w fun e w' => e = .returned (.bool true) ∧ Below w.heap.size w w' := by
  have hl : n ≤ 1048577 := ha.1
  go_enter Tryz.func63, Tryz.ntmps63
  go_wp2
  go_loopw [5] (fun i wr => ∃ k : Nat, k ≤ n ∧ i = .int .i64 k ∧ GR wr a n g ∧ GR wr b n g ∧ Below w.heap.size w wr) (fun i _ => n - (intOf i).toNat)
  case atStart => exact ⟨0, Nat.zero_le _, rfl, ha, hb, Below.refl _ _⟩
  case round =>
    obtain ⟨k, hk, rfl, hma, hmb, hB⟩ := hrel
    by_cases hlt : k < n
    · have hi : (k : Int) < (n : Int) := by omega
      obtain ⟨ba, oa, rfl, y0⟩ := hma.at hlt
      obtain ⟨bb, ob, rfl, z0⟩ := hmb.at hlt
      clear ha hb
      go_wp2_with fail
      go_region_with (go_at_call 99; refine (eqReceiver_any _ _).mono ?_; rintro e w1 ⟨rfl, b1⟩)
      all_goals
        have hma1 := hma.below (bel_undrew b1)
        have hmb1 := hmb.below (bel_undrew b1)
        have hB1 := bel_trans hB (bel_undrew b1)
        clear hma hmb hB b1 y0 z0
        go_wp2
        go_roundw
        case rel => exact ⟨k + 1, by omega, by go_num, hma1, hmb1, hB1⟩
        case measure => simp [intOf]; omega
    · clear ha hb hma hmb
      go_wp2
      go_ret
      exact ⟨rfl, hB⟩

/-- What a node says, and where it lies. -/
structure ND where
  id : Int
  nf : Nat
  f : Nat → FD
  nh : Nat
  h : Nat → HD
  no : Nat
  b : Nat → Int
  y : Nat → List Say
  ni : Nat
  g : Nat → Int
structure NP where
  f : Pl
  fp : Nat → Pl
  h : Pl
  hp : Nat → HP
  o : Pl
  op : Nat → Pl
  ms : Nat → List M
  i : Pl
abbrev ncells (d : ND) (p : NP) : Array Value := #[.int .i64 d.id, .slice p.f.1 d.nf p.f.2, .slice p.h.1 d.nh p.h.2, .slice p.o.1 d.no p.o.2, .slice p.i.1 d.ni p.i.2]
structure NR (w : World) (d : ND) (p : NP) : Prop where
  f : FR w p.f.1 d.nf d.f p.fp
  h : HR2 w p.h.1 d.nh d.h p.hp
  o : SR w p.o.1 d.no d.b d.y p.op p.ms
  i : GR w p.i.1 d.ni d.g
theorem NR.below {w w' : World} {d : ND} {p : NP} (h : NR w d p) (b : Below w.heap.size w w') : NR w' d p := ⟨h.f.below b, h.h.below b, h.o.below b, h.i.below b⟩

theorem Box.at5 {w : World} {m : Nat} {c0 c1 c2 c3 c4 : Value} {t : TypeId} (h : Box w m #[c0, c1, c2, c3, c4] t) :
    w.cell? ⟨m, 0, none⟩ = some c0 ∧ w.cell? ⟨m, 1, none⟩ = some c1 ∧ w.cell? ⟨m, 2, none⟩ = some c2 ∧ w.cell? ⟨m, 3, none⟩ = some c3 ∧ w.cell? ⟨m, 4, none⟩ = some c4 ∧ m < w.heap.size :=
  ⟨by rw [h.cell]; rfl, by rw [h.cell]; rfl, by rw [h.cell]; rfl, by rw [h.cell]; rfl, by rw [h.cell]; rfl, h.lt⟩

set_option maxRecDepth 100000 in
set_option maxHeartbeats 1000000 in
theorem eqNode_any (d : ND) (p p' : NP) (w : World) (ha : NR w d p) (hb : NR w d p') :
    Calls Tryz.prog 34 #[.agg (ncells d p), .agg (ncells d p')] w fun e w' => e = .returned (.bool true) ∧ Below w.heap.size w w' := by
  have bA := bel_alloc (bel_alloc (Below.refl w.heap.size w) (.cells (ncells d p) 67)) (.cells (ncells d p') 67)
  obtain ⟨XA, XB⟩ := Box.two w (ncells d p) (ncells d p') 67 67
  replace ha := ha.below bA
  replace hb := hb.below bA
  go_enter Tryz.func34, Tryz.ntmps34
  go_wp2_with fail
  refine (eqFrameS_any _ _ _ _ d.nf d.f p.fp p'.fp _ ha.f hb.f).mono ?_
  rintro e w1 ⟨rfl, b1⟩
  replace XA := XA.below b1
  replace XB := XB.below b1
  replace ha := ha.below b1
  replace hb := hb.below b1
  have B := bel_trans bA b1
  clear bA b1
  obtain ⟨x0, x1, x2, x3, x4, zx⟩ := XA.at5
  obtain ⟨y0, y1, y2, y3, y4, zy⟩ := XB.at5
  go_wp2_with fail
  refine (eqHomeS_any _ _ _ _ d.nh d.h p.hp p'.hp _ ha.h hb.h).mono ?_
  rintro e w2 ⟨rfl, b1⟩
  replace XA := XA.below b1
  replace XB := XB.below b1
  replace ha := ha.below b1
  replace hb := hb.below b1
  replace B := bel_trans B b1
  clear b1 x0 x1 x2 x3 x4 zx y0 y1 y2 y3 y4 zy
  obtain ⟨x0, x1, x2, x3, x4, zx⟩ := XA.at5
  obtain ⟨y0, y1, y2, y3, y4, zy⟩ := XB.at5
  go_wp2_with fail
  refine (eqSenderS_any _ _ _ _ d.no d.b d.y p.op p'.op p.ms p'.ms _ ha.o hb.o).mono ?_
  rintro e w3 ⟨rfl, b1⟩
  replace XA := XA.below b1
  replace XB := XB.below b1
  replace ha := ha.below b1
  replace hb := hb.below b1
  replace B := bel_trans B b1
  clear b1 x0 x1 x2 x3 x4 zx y0 y1 y2 y3 y4 zy
  obtain ⟨x0, x1, x2, x3, x4, zx⟩ := XA.at5
  obtain ⟨y0, y1, y2, y3, y4, zy⟩ := XB.at5
  go_wp2_with fail
  refine (eqReceiverS_any _ _ _ _ d.ni d.g _ ha.i hb.i).mono ?_
  rintro e w4 ⟨rfl, b1⟩
  replace B := bel_trans B b1
  clear b1 x0 x1 x2 x3 x4 zx y0 y1 y2 y3 y4 zy XA XB ha hb
  go_wp2
  go_ret
  exact ⟨rfl, B⟩
end Go.Proofs.YtpfppeifppdmbaaGreat

/- Rows of nodes and of packets, and a world: what a reader is told of them; what the law's eqWorld does. -/
namespace Go.Proofs.YtpfppeifppdmbaaGreat
open Go.RowKit
set_option linter.unusedVariables false

/-- What a packet says. -/
structure PkD where
  f : Int
  t : Int
  a : Bool
  n : Int
  k : Int
  p : Int
  o : Bool
  xs : List Int
def pkcells (d : PkD) (q : Pl) : List Value := [.int .i64 d.f, .int .i64 d.t, .bool d.a, .int .i64 d.n, .int .i64 d.k, .int .i64 d.p, .bool d.o, .slice q.1 d.xs.length q.2]
def nlist (d : ND) (p : NP) : List Value := [.int .i64 d.id, .slice p.f.1 d.nf p.f.2, .slice p.h.1 d.nh p.h.2, .slice p.o.1 d.no p.o.2, .slice p.i.1 d.ni p.i.2]

def PkR (w : World) (a : Option Addr) (n : Nat) (d : Nat → PkD) (q : Nat → Pl) : Prop := n ≤ 1048577 ∧ VRow w a (chunks n fun i => pkcells (d i) (q i)) ∧ ∀ i, i < n → Row .i64 w (q i).1 (d i).xs
def NsR (w : World) (a : Option Addr) (n : Nat) (d : Nat → ND) (p : Nat → NP) : Prop := n ≤ 1048577 ∧ VRow w a (chunks n fun i => nlist (d i) (p i)) ∧ ∀ i, i < n → NR w (d i) (p i)
theorem PkR.below {w w' : World} {a : Option Addr} {n : Nat} {d : Nat → PkD} {q : Nat → Pl} (h : PkR w a n d q) (hb : Below w.heap.size w w') : PkR w' a n d q := ⟨h.1, h.2.1.below hb, fun i hi => (h.2.2 i hi).below hb⟩
theorem NsR.below {w w' : World} {a : Option Addr} {n : Nat} {d : Nat → ND} {p : Nat → NP} (h : NsR w a n d p) (hb : Below w.heap.size w w') : NsR w' a n d p := ⟨h.1, h.2.1.below hb, fun i hi => (h.2.2 i hi).below hb⟩

theorem PkR.at {w : World} {a : Option Addr} {n : Nat} {d : Nat → PkD} {q : Nat → Pl} (h : PkR w a n d q) {i : Nat} (hi : i < n) :
    ∃ b off, a = some ⟨b, off, none⟩ ∧ w.cell? ⟨b, off + i * 8, none⟩ = some (.int .i64 (d i).f) ∧ w.cell? ⟨b, off + i * 8 + 1, none⟩ = some (.int .i64 (d i).t) ∧ w.cell? ⟨b, off + i * 8 + 2, none⟩ = some (.bool (d i).a) ∧ w.cell? ⟨b, off + i * 8 + 3, none⟩ = some (.int .i64 (d i).n) ∧
      w.cell? ⟨b, off + i * 8 + 4, none⟩ = some (.int .i64 (d i).k) ∧ w.cell? ⟨b, off + i * 8 + 5, none⟩ = some (.int .i64 (d i).p) ∧ w.cell? ⟨b, off + i * 8 + 6, none⟩ = some (.bool (d i).o) ∧ w.cell? ⟨b, off + i * 8 + 7, none⟩ = some (.slice (q i).1 (d i).xs.length (q i).2) := by
  obtain ⟨b, off, rfl, hc⟩ := h.2.1.chunk (s := 8) (fun i _ => rfl) (by decide) hi
  exact ⟨b, off, rfl, hc 0 _ rfl, hc 1 _ rfl, hc 2 _ rfl, hc 3 _ rfl, hc 4 _ rfl, hc 5 _ rfl, hc 6 _ rfl, hc 7 _ rfl⟩
theorem NsR.at {w : World} {a : Option Addr} {n : Nat} {d : Nat → ND} {p : Nat → NP} (h : NsR w a n d p) {i : Nat} (hi : i < n) :
    ∃ b off, a = some ⟨b, off, none⟩ ∧ w.cell? ⟨b, off + i * 5, none⟩ = some (.int .i64 (d i).id) ∧ w.cell? ⟨b, off + i * 5 + 1, none⟩ = some (.slice (p i).f.1 (d i).nf (p i).f.2) ∧ w.cell? ⟨b, off + i * 5 + 2, none⟩ = some (.slice (p i).h.1 (d i).nh (p i).h.2) ∧
      w.cell? ⟨b, off + i * 5 + 3, none⟩ = some (.slice (p i).o.1 (d i).no (p i).o.2) ∧ w.cell? ⟨b, off + i * 5 + 4, none⟩ = some (.slice (p i).i.1 (d i).ni (p i).i.2) := by
  obtain ⟨b, off, rfl, hc⟩ := h.2.1.chunk (s := 5) (fun i _ => rfl) (by decide) hi
  exact ⟨b, off, rfl, hc 0 _ rfl, hc 1 _ rfl, hc 2 _ rfl, hc 3 _ rfl, hc 4 _ rfl⟩

/-- What a world says, and where it lies. -/
structure WoD where
  size : Int
  nn : Nat
  d : Nat → ND
  nk : Nat
  k : Nat → PkD
structure WoP where
  n : Pl
  np : Nat → NP
  k : Pl
  kp : Nat → Pl
abbrev wcells (d : WoD) (p : WoP) : Array Value := #[.int .i64 d.size, .slice p.n.1 d.nn p.n.2, .slice p.k.1 d.nk p.k.2]
structure WoR (w : World) (d : WoD) (p : WoP) : Prop where
  n : NsR w p.n.1 d.nn d.d p.np
  k : PkR w p.k.1 d.nk d.k p.kp
theorem WoR.below {w w' : World} {d : WoD} {p : WoP} (h : WoR w d p) (b : Below w.heap.size w w') : WoR w' d p := ⟨h.n.below b, h.k.below b⟩

set_option maxRecDepth 100000 in
set_option maxHeartbeats 1000000 in
theorem eqPacketS_any (a b : Option Addr) (ca cb n : Nat) (d : Nat → PkD) (p p' : Nat → Pl) (w : World) (ha : PkR w a n d p) (hb : PkR w b n d p') :
    Calls Tryz.prog 20 #[.slice a n ca, .slice b n cb] w fun e w' => e = .returned (.bool true) ∧ Below w.heap.size w w' := by
  have hl : n ≤ 1048577 := ha.1
  go_enter Tryz.func20, Tryz.ntmps20
  go_wp2
  go_loopw [5] (fun i wr => ∃ k : Nat, k ≤ n ∧ i = .int .i64 k ∧ PkR wr a n d p ∧ PkR wr b n d p' ∧ Below w.heap.size w wr) (fun i _ => n - (intOf i).toNat)
  case atStart => exact ⟨0, Nat.zero_le _, rfl, ha, hb, Below.refl _ _⟩
  case round =>
    obtain ⟨k, hk, rfl, hma, hmb, hB⟩ := hrel
    by_cases hlt : k < n
    · have hi : (k : Int) < (n : Int) := by omega
      obtain ⟨ba, oa, rfl, y0, y1, y2, y3, y4, y5, y6, y7⟩ := hma.at hlt
      obtain ⟨bb, ob, rfl, z0, z1, z2, z3, z4, z5, z6, z7⟩ := hmb.at hlt
      have ra := hma.2.2 k hlt
      have rb := hmb.2.2 k hlt
      clear ha hb
      go_wp2_with fail
      go_region_with (go_at_call 35; refine (eqPacket_any _ _ _ _ _ _ _ _ _ _ _ (d k).xs _ (row_drew ra) (row_drew rb)).mono ?_; rintro e w1 ⟨rfl, b1⟩)
      all_goals
        have hma1 := hma.below (bel_undrew b1)
        have hmb1 := hmb.below (bel_undrew b1)
        have hB1 := bel_trans hB (bel_undrew b1)
        clear hma hmb hB b1 y0 y1 y2 y3 y4 y5 y6 y7 z0 z1 z2 z3 z4 z5 z6 z7 ra rb
        go_wp2
        go_roundw
        case rel => exact ⟨k + 1, by omega, by go_num, hma1, hmb1, hB1⟩
        case measure => simp [intOf]; omega
    · clear ha hb hma hmb
      go_wp2
      go_ret
      exact ⟨rfl, hB⟩

theorem nr_dr {w : World} {d : ND} {p : NP} (h : NR w d p) : NR w.drew d p := h.below (below_drewN (Below.refl _ _) 1)

set_option maxRecDepth 100000 in
set_option maxHeartbeats 1000000 in
theorem eqNodeS_any (a b : Option Addr) (ca cb n : Nat) (d : Nat → ND) (p p' : Nat → NP) (w : World) (ha : NsR w a n d p) (hb : NsR w b n d p') :
    Calls Tryz.prog 19 #[.slice a n ca, .slice b n cb] w fun e w' => e = .returned (.bool true) ∧ Below w.heap.size w w' := by
  have hl : n ≤ 1048577 := ha.1
  go_enter Tryz.func19, Tryz.ntmps19
  go_wp2
  go_loopw [5] (fun i wr => ∃ k : Nat, k ≤ n ∧ i = .int .i64 k ∧ NsR wr a n d p ∧ NsR wr b n d p' ∧ Below w.heap.size w wr) (fun i _ => n - (intOf i).toNat)
  case atStart => exact ⟨0, Nat.zero_le _, rfl, ha, hb, Below.refl _ _⟩
  case round =>
    obtain ⟨k, hk, rfl, hma, hmb, hB⟩ := hrel
    by_cases hlt : k < n
    · have hi : (k : Int) < (n : Int) := by omega
      obtain ⟨ba, oa, rfl, y0, y1, y2, y3, y4⟩ := hma.at hlt
      obtain ⟨bb, ob, rfl, z0, z1, z2, z3, z4⟩ := hmb.at hlt
      have ra := hma.2.2 k hlt
      have rb := hmb.2.2 k hlt
      clear ha hb
      go_wp2_with fail
      go_region_with (go_at_call 34; refine (eqNode_any (d k) (p k) (p' k) _ (nr_dr ra) (nr_dr rb)).mono ?_; rintro e w1 ⟨rfl, b1⟩)
      all_goals
        have hma1 := hma.below (bel_undrew b1)
        have hmb1 := hmb.below (bel_undrew b1)
        have hB1 := bel_trans hB (bel_undrew b1)
        clear hma hmb hB b1 y0 y1 y2 y3 y4 z0 z1 z2 z3 z4 ra rb
        go_wp2
        go_roundw
        case rel => exact ⟨k + 1, by omega, by go_num, hma1, hmb1, hB1⟩
        case measure => simp [intOf]; omega
    · clear ha hb hma hmb
      go_wp2
      go_ret
      exact ⟨rfl, hB⟩

set_option maxRecDepth 100000 in
set_option maxHeartbeats 1000000 in
theorem eqWorld_any (d : WoD) (p p' : WoP) (w : World) (ha : WoR w d p) (hb : WoR w d p') :
    Calls Tryz.prog 9 #[.agg (wcells d p), .agg (wcells d p')] w fun e w' => e = .returned (.bool true) ∧ Below w.heap.size w w' := by
  have B := bel_alloc (bel_alloc (Below.refl w.heap.size w) (.cells (wcells d p) 32)) (.cells (wcells d p') 32)
  obtain ⟨XA, XB⟩ := Box.two w (wcells d p) (wcells d p') 32 32
  replace ha := ha.below B
  replace hb := hb.below B
  go_enter Tryz.func9, Tryz.ntmps9
  go_wp2_with fail
  refine (eqNodeS_any _ _ _ _ d.nn d.d p.np p'.np _ ha.n hb.n).mono ?_
  rintro e w1 ⟨rfl, b1⟩
  replace ha := ha.below b1
  replace hb := hb.below b1
  replace XA := XA.below b1
  replace XB := XB.below b1
  replace B := bel_trans B b1
  clear b1
  obtain ⟨x0, x1, x2, xz⟩ := XA.at3
  obtain ⟨y0, y1, y2, yz⟩ := XB.at3
  clear XA XB
  go_wp2_with fail
  refine (eqPacketS_any _ _ _ _ d.nk d.k p.kp p'.kp _ ha.k hb.k).mono ?_
  rintro e w2 ⟨rfl, b2⟩
  replace B := bel_trans B b2
  go_wp2
  go_ret
  exact ⟨rfl, B⟩
end Go.Proofs.YtpfppeifppdmbaaGreat
