/- What the law's eqFrameS, eqHomeS, eqSenderS, eqReceiverS and eqNode do at two nodes that say the same. -/
import Derived.Test.YtpahjfijpjgdnaaNdM
namespace Go.Proofs.Ytpahjfijpjgdnaa
open Go.RowKit
set_option linter.unusedVariables false

theorem mrow_drew {w : World} {a : Option Addr} {xs : List M} (h : MRow w a xs) : MRow w.drew a xs := h


set_option maxRecDepth 100000 in
set_option maxHeartbeats 1000000 in
theorem eqHomeS_any (a b : Option Addr) (ca cb n : Nat) (d : Nat → HD) (p p' : Nat → HP) (w : World) (ha : HR2 w a n d p) (hb : HR2 w b n d p') :
    Calls Try.prog 52 #[.slice a n ca, .slice b n cb] w fun e w' => e = .returned (.bool true) ∧ Below w.heap.size w w' := by
  have hl : n ≤ 1048577 := ha.1
  go_enter Try.func52, Try.ntmps52
  go_wp2
  go_loopw [5] (fun i wr => ∃ k : Nat, k ≤ n ∧ i = .int .i64 k ∧ HR2 wr a n d p ∧ HR2 wr b n d p' ∧ Below w.heap.size w wr) (fun i _ => n - (intOf i).toNat)
  case atStart => exact ⟨0, Nat.zero_le _, rfl, ha, hb, Below.refl _ _⟩
  case round =>
    obtain ⟨k, hk, rfl, hma, hmb, hB⟩ := hrel
    by_cases hlt : k < n
    · have hi : (k : Int) < (n : Int) := by omega
      obtain ⟨ba, oa, rfl, y0, y1, y2, y3, y4, y5, y6, y7⟩ := hma.at hlt
      obtain ⟨bb, ob, rfl, z0, z1, z2, z3, z4, z5, z6, z7⟩ := hmb.at hlt
      obtain ⟨ra, sa, ta⟩ := hma.2.2 k hlt
      obtain ⟨rb, sb, tb⟩ := hmb.2.2 k hlt
      clear ha hb
      go_wp2_with fail
      go_region_with (go_at_call 68; refine (eqHome_any _ _ _ _ _ _ _ _ _ _ _ _ _ _ _ _ _ (d k).xs (d k).bs (d k).ws _ (row_drew ra) (row_drew rb) (vrow_drew sa) (vrow_drew sb) (vrow_drew ta) (vrow_drew tb)).mono ?_; rintro e w1 ⟨rfl, b1⟩)
      all_goals
        have hma1 := hma.below (bel_undrew b1)
        have hmb1 := hmb.below (bel_undrew b1)
        have hB1 := bel_trans hB (bel_undrew b1)
        clear hma hmb hB b1 y0 y1 y2 y3 y4 y5 y6 y7 z0 z1 z2 z3 z4 z5 z6 z7 ra rb sa sb ta tb
        go_wp2
        go_roundw
        case rel => exact ⟨k + 1, by omega, by go_num, hma1, hmb1, hB1⟩
        case measure => simp [intOf]; omega
    · clear ha hb hma hmb
      go_wp2
      go_ret
      exact ⟨rfl, hB⟩

set_option maxRecDepth 100000 in
set_option maxHeartbeats 1000000 in
theorem eqSenderS_any (a b : Option Addr) (ca cb n : Nat) (bs : Nat → Int) (y : Nat → List Say) (p p' : Nat → Pl) (ms ds : Nat → List M) (w : World) (ha : SR w a n bs y p ms) (hb : SR w b n bs y p' ds) :
    Calls Try.prog 53 #[.slice a n ca, .slice b n cb] w fun e w' => e = .returned (.bool true) ∧ Below w.heap.size w w' := by
  have hl : n ≤ 1048577 := ha.1
  go_enter Try.func53, Try.ntmps53
  go_wp2
  go_loopw [5] (fun i wr => ∃ k : Nat, k ≤ n ∧ i = .int .i64 k ∧ SR wr a n bs y p ms ∧ SR wr b n bs y p' ds ∧ Below w.heap.size w wr) (fun i _ => n - (intOf i).toNat)
  case atStart => exact ⟨0, Nat.zero_le _, rfl, ha, hb, Below.refl _ _⟩
  case round =>
    obtain ⟨k, hk, rfl, hma, hmb, hB⟩ := hrel
    by_cases hlt : k < n
    · have hi : (k : Int) < (n : Int) := by omega
      obtain ⟨ba, oa, rfl, y0, y1⟩ := hma.at hlt
      obtain ⟨bb, ob, rfl, z0, z1⟩ := hmb.at hlt
      have ra := hma.2.2 k hlt
      have rb := hmb.2.2 k hlt
      have HE : Hid ((ds k).map M.say = (ms k).map M.say) := rb.2.trans ra.2.symm
      have HL : Hid ((ms k).length = (y k).length) := (by have := congrArg List.length ra.2; simpa using this : (ms k).length = (y k).length)
      clear ha hb
      go_wp2_with fail
      go_region_with (go_at_call 69; refine (eqSender_any _ _ _ _ _ (ms k) (ds k) _ _ HL.out HE.out (mrow_drew ra.1) (mrow_drew rb.1)).mono ?_; rintro e w1 ⟨rfl, b1⟩)
      all_goals
        have hma1 := hma.below (bel_undrew b1)
        have hmb1 := hmb.below (bel_undrew b1)
        have hB1 := bel_trans hB (bel_undrew b1)
        clear hma hmb hB b1 y0 y1 z0 z1 ra rb HE HL
        go_wp2
        go_roundw
        case rel => exact ⟨k + 1, by omega, by go_num, hma1, hmb1, hB1⟩
        case measure => simp [intOf]; omega
    · clear ha hb hma hmb
      go_wp2
      go_ret
      exact ⟨rfl, hB⟩

set_option maxHeartbeats 400000 in
theorem eqReceiver_any (g : Int) (w : World) :
    Calls Try.prog 70 #[.agg #[.int .i64 g], .agg #[.int .i64 g]] w fun e w' => e = .returned (.bool true) ∧ Below w.heap.size w w' := by
  have bA := bel_alloc (bel_alloc (Below.refl w.heap.size w) (.cells #[.int .i64 g] 152)) (.cells #[.int .i64 g] 152)
  go_enter Try.func70, Try.ntmps70
  go_wp2
  go_ret
  exact ⟨rfl, bA⟩

set_option maxRecDepth 100000 in
set_option maxHeartbeats 1000000 in
theorem eqReceiverS_any (a b : Option Addr) (ca cb n : Nat) (g : Nat → Int) (w : World) (ha : GR w a n g) (hb : GR w b n g) :
    Calls Try.prog 54 #[.slice a n ca, .slice b n cb] w fun e w' => e = .returned (.bool true) ∧ Below w.heap.size w w' := by
  have hl : n ≤ 1048577 := ha.1
  go_enter Try.func54, Try.ntmps54
  go_wp2
  go_loopw [5] (fun i wr => ∃ k : Nat, k ≤ n ∧ i = .int .i64 k ∧ GR wr a n g ∧ GR wr b n g ∧ Below w.heap.size w wr) (fun i _ => n - (intOf i).toNat)
  case atStart => exact ⟨0, Nat.zero_le _, rfl, ha, hb, Below.refl _ _⟩
  case round =>
    obtain ⟨k, hk, rfl, hma, hmb, hB⟩ := hrel
    by_cases hlt : k < n
    · have hi : (k : Int) < (n : Int) := by omega
      obtain ⟨ba, oa, rfl, y0⟩ := hma.at hlt
      obtain ⟨bb, ob, rfl, z0⟩ := hmb.at hlt
      clear ha hb
      go_wp2_with fail
      go_region_with (go_at_call 70; refine (eqReceiver_any _ _).mono ?_; rintro e w1 ⟨rfl, b1⟩)
      all_goals
        have hma1 := hma.below (bel_undrew b1)
        have hmb1 := hmb.below (bel_undrew b1)
        have hB1 := bel_trans hB (bel_undrew b1)
        clear hma hmb hB b1 y0 z0
        go_wp2
        go_roundw
        case rel => exact ⟨k + 1, by omega, by go_num, hma1, hmb1, hB1⟩
        case measure => simp [intOf]; omega
    · clear ha hb hma hmb
      go_wp2
      go_ret
      exact ⟨rfl, hB⟩

/-- What a node says, and where it lies. -/
structure ND where
  id : Int
  nf : Nat
  f : Nat → FD
  nh : Nat
  h : Nat → HD
  no : Nat
  b : Nat → Int
  y : Nat → List Say
  ni : Nat
  g : Nat → Int
structure NP where
  f : Pl
  fp : Nat → Pl
  h : Pl
  hp : Nat → HP
  o : Pl
  op : Nat → Pl
  ms : Nat → List M
  i : Pl
abbrev ncells (d : ND) (p : NP) : Array Value := #[.int .i64 d.id, .slice p.f.1 d.nf p.f.2, .slice p.h.1 d.nh p.h.2, .slice p.o.1 d.no p.o.2, .slice p.i.1 d.ni p.i.2]
structure NR (w : World) (d : ND) (p : NP) : Prop where
  f : FR w p.f.1 d.nf d.f p.fp
  h : HR2 w p.h.1 d.nh d.h p.hp
  o : SR w p.o.1 d.no d.b d.y p.op p.ms
  i : GR w p.i.1 d.ni d.g
theorem NR.below {w w' : World} {d : ND} {p : NP} (h : NR w d p) (b : Below w.heap.size w w') : NR w' d p := ⟨h.f.below b, h.h.below b, h.o.below b, h.i.below b⟩

theorem Box.at5 {w : World} {m : Nat} {c0 c1 c2 c3 c4 : Value} {t : TypeId} (h : Box w m #[c0, c1, c2, c3, c4] t) :
    w.cell? ⟨m, 0, none⟩ = some c0 ∧ w.cell? ⟨m, 1, none⟩ = some c1 ∧ w.cell? ⟨m, 2, none⟩ = some c2 ∧ w.cell? ⟨m, 3, none⟩ = some c3 ∧ w.cell? ⟨m, 4, none⟩ = some c4 ∧ m < w.heap.size :=
  ⟨by rw [h.cell]; rfl, by rw [h.cell]; rfl, by rw [h.cell]; rfl, by rw [h.cell]; rfl, by rw [h.cell]; rfl, h.lt⟩

set_option maxRecDepth 100000 in
set_option maxHeartbeats 1000000 in
theorem eqNode_any (d : ND) (p p' : NP) (w : World) (ha : NR w d p) (hb : NR w d p') :
    Calls Try.prog 33 #[.agg (ncells d p), .agg (ncells d p')] w fun e w' => e = .returned (.bool true) ∧ Below w.heap.size w w' := by
  have bA := bel_alloc (bel_alloc (Below.refl w.heap.size w) (.cells (ncells d p) 86)) (.cells (ncells d p') 86)
  obtain ⟨XA, XB⟩ := Box.two w (ncells d p) (ncells d p') 86 86
  replace ha := ha.below bA
  replace hb := hb.below bA
  go_enter Try.func33, Try.ntmps33
  go_wp2_with fail
  refine (eqFrameS_any _ _ _ _ d.nf d.f p.fp p'.fp _ ha.f hb.f).mono ?_
  rintro e w1 ⟨rfl, b1⟩
  replace XA := XA.below b1
  replace XB := XB.below b1
  replace ha := ha.below b1
  replace hb := hb.below b1
  have B := bel_trans bA b1
  clear bA b1
  obtain ⟨x0, x1, x2, x3, x4, zx⟩ := XA.at5
  obtain ⟨y0, y1, y2, y3, y4, zy⟩ := XB.at5
  go_wp2_with fail
  refine (eqHomeS_any _ _ _ _ d.nh d.h p.hp p'.hp _ ha.h hb.h).mono ?_
  rintro e w2 ⟨rfl, b1⟩
  replace XA := XA.below b1
  replace XB := XB.below b1
  replace ha := ha.below b1
  replace hb := hb.below b1
  replace B := bel_trans B b1
  clear b1 x0 x1 x2 x3 x4 zx y0 y1 y2 y3 y4 zy
  obtain ⟨x0, x1, x2, x3, x4, zx⟩ := XA.at5
  obtain ⟨y0, y1, y2, y3, y4, zy⟩ := XB.at5
  go_wp2_with fail
  refine (eqSenderS_any _ _ _ _ d.no d.b d.y p.op p'.op p.ms p'.ms _ ha.o hb.o).mono ?_
  rintro e w3 ⟨rfl, b1⟩
  replace XA := XA.below b1
  replace XB := XB.below b1
  replace ha := ha.below b1
  replace hb := hb.below b1
  replace B := bel_trans B b1
  clear b1 x0 x1 x2 x3 x4 zx y0 y1 y2 y3 y4 zy
  obtain ⟨x0, x1, x2, x3, x4, zx⟩ := XA.at5
  obtain ⟨y0, y1, y2, y3, y4, zy⟩ := XB.at5
  go_wp2_with fail
  refine (eqReceiverS_any _ _ _ _ d.ni d.g _ ha.i hb.i).mono ?_
  rintro e w4 ⟨rfl, b1⟩
  replace B := bel_trans B b1
  clear b1 x0 x1 x2 x3 x4 zx y0 y1 y2 y3 y4 zy XA XB ha hb
  go_wp2
  go_ret
  exact ⟨rfl, B⟩
end Go.Proofs.Ytpahjfijpjgdnaa
