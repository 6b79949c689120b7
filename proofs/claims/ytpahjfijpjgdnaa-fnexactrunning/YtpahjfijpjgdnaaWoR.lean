/- Rows of nodes and of packets, and a world: what a reader is told of them; what the law's eqWorld does. -/
import Derived.Test.YtpahjfijpjgdnaaNdE
import Derived.Test.YtpahjfijpjgdnaaPacket
namespace Go.Proofs.Ytpahjfijpjgdnaa
open Go.RowKit
set_option linter.unusedVariables false

/-- What a packet says. -/
structure PkD where
  f : Int
  t : Int
  a : Bool
  n : Int
  k : Int
  p : Int
  o : Bool
  xs : List Int
def pkcells (d : PkD) (q : Pl) : List Value := [.int .i64 d.f, .int .i64 d.t, .bool d.a, .int .i64 d.n, .int .i64 d.k, .int .i64 d.p, .bool d.o, .slice q.1 d.xs.length q.2]
def nlist (d : ND) (p : NP) : List Value := [.int .i64 d.id, .slice p.f.1 d.nf p.f.2, .slice p.h.1 d.nh p.h.2, .slice p.o.1 d.no p.o.2, .slice p.i.1 d.ni p.i.2]

def PkR (w : World) (a : Option Addr) (n : Nat) (d : Nat → PkD) (q : Nat → Pl) : Prop := n ≤ 1048577 ∧ VRow w a (chunks n fun i => pkcells (d i) (q i)) ∧ ∀ i, i < n → Row .i64 w (q i).1 (d i).xs
def NsR (w : World) (a : Option Addr) (n : Nat) (d : Nat → ND) (p : Nat → NP) : Prop := n ≤ 1048577 ∧ VRow w a (chunks n fun i => nlist (d i) (p i)) ∧ ∀ i, i < n → NR w (d i) (p i)
theorem PkR.below {w w' : World} {a : Option Addr} {n : Nat} {d : Nat → PkD} {q : Nat → Pl} (h : PkR w a n d q) (hb : Below w.heap.size w w') : PkR w' a n d q := ⟨h.1, h.2.1.below hb, fun i hi => (h.2.2 i hi).below hb⟩
theorem NsR.below {w w' : World} {a : Option Addr} {n : Nat} {d : Nat → ND} {p : Nat → NP} (h : NsR w a n d p) (hb : Below w.heap.size w w') : NsR w' a n d p := ⟨h.1, h.2.1.below hb, fun i hi => (h.2.2 i hi).below hb⟩

theorem PkR.at {w : World} {a : Option Addr} {n : Nat} {d : Nat → PkD} {q : Nat → Pl} (h : PkR w a n d q) {i : Nat} (hi : i < n) :
    ∃ b off, a = some ⟨b, off, none⟩ ∧ w.cell? ⟨b, off + i * 8, none⟩ = some (.int .i64 (d i).f) ∧ w.cell? ⟨b, off + i * 8 + 1, none⟩ = some (.int .i64 (d i).t) ∧ w.cell? ⟨b, off + i * 8 + 2, none⟩ = some (.bool (d i).a) ∧ w.cell? ⟨b, off + i * 8 + 3, none⟩ = some (.int .i64 (d i).n) ∧
      w.cell? ⟨b, off + i * 8 + 4, none⟩ = some (.int .i64 (d i).k) ∧ w.cell? ⟨b, off + i * 8 + 5, none⟩ = some (.int .i64 (d i).p) ∧ w.cell? ⟨b, off + i * 8 + 6, none⟩ = some (.bool (d i).o) ∧ w.cell? ⟨b, off + i * 8 + 7, none⟩ = some (.slice (q i).1 (d i).xs.length (q i).2) := by
  obtain ⟨b, off, rfl, hc⟩ := h.2.1.chunk (s := 8) (fun i _ => rfl) (by decide) hi
  exact ⟨b, off, rfl, hc 0 _ rfl, hc 1 _ rfl, hc 2 _ rfl, hc 3 _ rfl, hc 4 _ rfl, hc 5 _ rfl, hc 6 _ rfl, hc 7 _ rfl⟩
theorem NsR.at {w : World} {a : Option Addr} {n : Nat} {d : Nat → ND} {p : Nat → NP} (h : NsR w a n d p) {i : Nat} (hi : i < n) :
    ∃ b off, a = some ⟨b, off, none⟩ ∧ w.cell? ⟨b, off + i * 5, none⟩ = some (.int .i64 (d i).id) ∧ w.cell? ⟨b, off + i * 5 + 1, none⟩ = some (.slice (p i).f.1 (d i).nf (p i).f.2) ∧ w.cell? ⟨b, off + i * 5 + 2, none⟩ = some (.slice (p i).h.1 (d i).nh (p i).h.2) ∧
      w.cell? ⟨b, off + i * 5 + 3, none⟩ = some (.slice (p i).o.1 (d i).no (p i).o.2) ∧ w.cell? ⟨b, off + i * 5 + 4, none⟩ = some (.slice (p i).i.1 (d i).ni (p i).i.2) := by
  obtain ⟨b, off, rfl, hc⟩ := h.2.1.chunk (s := 5) (fun i _ => rfl) (by decide) hi
  exact ⟨b, off, rfl, hc 0 _ rfl, hc 1 _ rfl, hc 2 _ rfl, hc 3 _ rfl, hc 4 _ rfl⟩

/-- What a world says, and where it lies. -/
structure WoD where
  size : Int
  nn : Nat
  d : Nat → ND
  nk : Nat
  k : Nat → PkD
structure WoP where
  n : Pl
  np : Nat → NP
  k : Pl
  kp : Nat → Pl
abbrev wcells (d : WoD) (p : WoP) : Array Value := #[.int .i64 d.size, .slice p.n.1 d.nn p.n.2, .slice p.k.1 d.nk p.k.2]
structure WoR (w : World) (d : WoD) (p : WoP) : Prop where
  n : NsR w p.n.1 d.nn d.d p.np
  k : PkR w p.k.1 d.nk d.k p.kp
theorem WoR.below {w w' : World} {d : WoD} {p : WoP} (h : WoR w d p) (b : Below w.heap.size w w') : WoR w' d p := ⟨h.n.below b, h.k.below b⟩

set_option maxRecDepth 100000 in
set_option maxHeartbeats 1000000 in
theorem eqPacketS_any (a b : Option Addr) (ca cb n : Nat) (d : Nat → PkD) (p p' : Nat → Pl) (w : World) (ha : PkR w a n d p) (hb : PkR w b n d p') :
    Calls Try.prog 23 #[.slice a n ca, .slice b n cb] w fun e w' => e = .returned (.bool true) ∧ Below w.heap.size w w' := by
  have hl : n ≤ 1048577 := ha.1
  go_enter Try.func23, Try.ntmps23
  go_wp2
  go_loopw [5] (fun i wr => ∃ k : Nat, k ≤ n ∧ i = .int .i64 k ∧ PkR wr a n d p ∧ PkR wr b n d p' ∧ Below w.heap.size w wr) (fun i _ => n - (intOf i).toNat)
  case atStart => exact ⟨0, Nat.zero_le _, rfl, ha, hb, Below.refl _ _⟩
  case round =>
    obtain ⟨k, hk, rfl, hma, hmb, hB⟩ := hrel
    by_cases hlt : k < n
    · have hi : (k : Int) < (n : Int) := by omega
      obtain ⟨ba, oa, rfl, y0, y1, y2, y3, y4, y5, y6, y7⟩ := hma.at hlt
      obtain ⟨bb, ob, rfl, z0, z1, z2, z3, z4, z5, z6, z7⟩ := hmb.at hlt
      have ra := hma.2.2 k hlt
      have rb := hmb.2.2 k hlt
      clear ha hb
      go_wp2_with fail
      go_region_with (go_at_call 34; refine (eqPacket_any _ _ _ _ _ _ _ _ _ _ _ (d k).xs _ (row_drew ra) (row_drew rb)).mono ?_; rintro e w1 ⟨rfl, b1⟩)
      all_goals
        have hma1 := hma.below (bel_undrew b1)
        have hmb1 := hmb.below (bel_undrew b1)
        have hB1 := bel_trans hB (bel_undrew b1)
        clear hma hmb hB b1 y0 y1 y2 y3 y4 y5 y6 y7 z0 z1 z2 z3 z4 z5 z6 z7 ra rb
        go_wp2
        go_roundw
        case rel => exact ⟨k + 1, by omega, by go_num, hma1, hmb1, hB1⟩
        case measure => simp [intOf]; omega
    · clear ha hb hma hmb
      go_wp2
      go_ret
      exact ⟨rfl, hB⟩

theorem nr_dr {w : World} {d : ND} {p : NP} (h : NR w d p) : NR w.drew d p := h.below (below_drewN (Below.refl _ _) 1)

set_option maxRecDepth 100000 in
set_option maxHeartbeats 1000000 in
theorem eqNodeS_any (a b : Option Addr) (ca cb n : Nat) (d : Nat → ND) (p p' : Nat → NP) (w : World) (ha : NsR w a n d p) (hb : NsR w b n d p') :
    Calls Try.prog 22 #[.slice a n ca, .slice b n cb] w fun e w' => e = .returned (.bool true) ∧ Below w.heap.size w w' := by
  have hl : n ≤ 1048577 := ha.1
  go_enter Try.func22, Try.ntmps22
  go_wp2
  go_loopw [5] (fun i wr => ∃ k : Nat, k ≤ n ∧ i = .int .i64 k ∧ NsR wr a n d p ∧ NsR wr b n d p' ∧ Below w.heap.size w wr) (fun i _ => n - (intOf i).toNat)
  case atStart => exact ⟨0, Nat.zero_le _, rfl, ha, hb, Below.refl _ _⟩
  case round =>
    obtain ⟨k, hk, rfl, hma, hmb, hB⟩ := hrel
    by_cases hlt : k < n
    · have hi : (k : Int) < (n : Int) := by omega
      obtain ⟨ba, oa, rfl, y0, y1, y2, y3, y4⟩ := hma.at hlt
      obtain ⟨bb, ob, rfl, z0, z1, z2, z3, z4⟩ := hmb.at hlt
      have ra := hma.2.2 k hlt
      have rb := hmb.2.2 k hlt
      clear ha hb
      go_wp2_with fail
      go_region_with (go_at_call 33; refine (eqNode_any (d k) (p k) (p' k) _ (nr_dr ra) (nr_dr rb)).mono ?_; rintro e w1 ⟨rfl, b1⟩)
      all_goals
        have hma1 := hma.below (bel_undrew b1)
        have hmb1 := hmb.below (bel_undrew b1)
        have hB1 := bel_trans hB (bel_undrew b1)
        clear hma hmb hB b1 y0 y1 y2 y3 y4 z0 z1 z2 z3 z4 ra rb
        go_wp2
        go_roundw
        case rel => exact ⟨k + 1, by omega, by go_num, hma1, hmb1, hB1⟩
        case measure => simp [intOf]; omega
    · clear ha hb hma hmb
      go_wp2
      go_ret
      exact ⟨rfl, hB⟩

set_option maxRecDepth 100000 in
set_option maxHeartbeats 1000000 in
theorem eqWorld_any (d : WoD) (p p' : WoP) (w : World) (ha : WoR w d p) (hb : WoR w d p') :
    Calls Try.prog 14 #[.agg (wcells d p), .agg (wcells d p')] w fun e w' => e = .returned (.bool true) ∧ Below w.heap.size w w' := by
  have B := bel_alloc (bel_alloc (Below.refl w.heap.size w) (.cells (wcells d p) 34)) (.cells (wcells d p') 34)
  obtain ⟨XA, XB⟩ := Box.two w (wcells d p) (wcells d p') 34 34
  replace ha := ha.below B
  replace hb := hb.below B
  go_enter Try.func14, Try.ntmps14
  go_wp2_with fail
  refine (eqNodeS_any _ _ _ _ d.nn d.d p.np p'.np _ ha.n hb.n).mono ?_
  rintro e w1 ⟨rfl, b1⟩
  replace ha := ha.below b1
  replace hb := hb.below b1
  replace XA := XA.below b1
  replace XB := XB.below b1
  replace B := bel_trans B b1
  clear b1
  obtain ⟨x0, x1, x2, xz⟩ := XA.at3
  obtain ⟨y0, y1, y2, yz⟩ := XB.at3
  clear XA XB
  go_wp2_with fail
  refine (eqPacketS_any _ _ _ _ d.nk d.k p.kp p'.kp _ ha.k hb.k).mono ?_
  rintro e w2 ⟨rfl, b2⟩
  replace B := bel_trans B b2
  go_wp2
  go_ret
  exact ⟨rfl, B⟩
end Go.Proofs.Ytpahjfijpjgdnaa
