/- WoZ and OpenN and OpenW and WtT and WtT2 and WoT and WzT and Fk1: see the heads of the parts. -/
import Derived.Test.YtfeabhknkoifeaaWoR
import Derived.Test.YtfeabhknkoifeaaWtR
import Derived.Test.YtfeabhknkoifeaaOpenH
import Derived.Test.YtfeabhknkoifeaaWoO0
import Derived.Test.YtfeabhknkoifeaaCs1
/- How great a world is: what the law's szNodeS, szPacketS and szWorld tell of one that came in. -/
namespace Go.Proofs.Ytfeabhknkoifeaa
open Go.RowKit
set_option linter.unusedVariables false

/-- Rows of packets and of nodes, and a world, that came in. -/
def PkC (w : World) (a : Option Addr) (n : Nat) (d : Nat → PkD) (q : Nat → Pl) : Prop := n ≤ maxLen ∧ VCame w a (chunks n fun i => pkcells (d i) (q i)) ∧ ∀ i, i < n → Came .i64 w (q i).1 (q i).2 (d i).xs
def NsC (w : World) (a : Option Addr) (n : Nat) (d : Nat → ND) (p : Nat → NP) : Prop := n ≤ maxLen ∧ VCame w a (chunks n fun i => nlist (d i) (p i)) ∧ ∀ i, i < n → NC w (d i) (p i)
theorem PkC.below {w w' : World} {a : Option Addr} {n : Nat} {d : Nat → PkD} {q : Nat → Pl} (h : PkC w a n d q) (hb : Below w.heap.size w w') : PkC w' a n d q := ⟨h.1, h.2.1.below hb, fun i hi => (h.2.2 i hi).below hb⟩
theorem NsC.below {w w' : World} {a : Option Addr} {n : Nat} {d : Nat → ND} {p : Nat → NP} (h : NsC w a n d p) (hb : Below w.heap.size w w') : NsC w' a n d p := ⟨h.1, h.2.1.below hb, fun i hi => (h.2.2 i hi).below hb⟩
theorem PkC.pr {w : World} {a : Option Addr} {n : Nat} {d : Nat → PkD} {q : Nat → Pl} (h : PkC w a n d q) (hn : n ≤ 1048576) (hx : ∀ i, i < n → (d i).xs.length ≤ 1048576) : PkR w a n d q :=
  ⟨by omega, h.2.1.vrow (by rw [chunks_length (s := 8) n (fun i _ => rfl)]; omega), fun i hi => (h.2.2 i hi).row (by have := hx i hi; omega)⟩
theorem NsC.nr {w : World} {a : Option Addr} {n : Nat} {d : Nat → ND} {p : Nat → NP} (h : NsC w a n d p) (hn : n ≤ 1048576) (hx : ∀ i, i < n → Nsm (d i)) : NsR w a n d p :=
  ⟨by omega, h.2.1.vrow (by rw [chunks_length (s := 5) n (fun i _ => rfl)]; omega), fun i hi => (h.2.2 i hi).nr (hx i hi)⟩
structure WoC (w : World) (d : WoD) (p : WoP) : Prop where
  n : NsC w p.n.1 d.nn d.d p.np
  k : PkC w p.k.1 d.nk d.k p.kp
theorem WoC.below {w w' : World} {d : WoD} {p : WoP} (h : WoC w d p) (b : Below w.heap.size w w') : WoC w' d p := ⟨h.n.below b, h.k.below b⟩
/-- How great a world may be. -/
structure Wsm (d : WoD) : Prop where
  n : d.nn ≤ 1048576 ∧ ∀ i, i < d.nn → Nsm (d.d i)
  k : d.nk ≤ 1048576 ∧ ∀ i, i < d.nk → (d.k i).xs.length ≤ 1048576
theorem WoC.wr {w : World} {d : WoD} {p : WoP} (h : WoC w d p) (s : Wsm d) : WoR w d p := ⟨h.n.nr s.n.1 s.n.2, h.k.pr s.k.1 s.k.2⟩




end Go.Proofs.Ytfeabhknkoifeaa

/- A node as the row hands it over (written by mkon.py). -/
namespace Go.Proofs.Ytfeabhknkoifeaa
open Go.ChangeShapes Go.WideShapes Go.ChangeAt Go.RowKit
set_option linter.unusedVariables false






end Go.Proofs.Ytfeabhknkoifeaa

/- A world as the row hands it over. -/
namespace Go.Proofs.Ytfeabhknkoifeaa
open Go.ChangeShapes Go.WideShapes Go.ChangeAt Go.RowKit
set_option linter.unusedVariables false





end Go.Proofs.Ytfeabhknkoifeaa

/- What the law's toFrameS, toHomeS, toSenderS, toReceiverS lay: rows that are owned. -/
namespace Go.Proofs.Ytfeabhknkoifeaa
open Go.RowKit
set_option linter.unusedVariables false




end Go.Proofs.Ytfeabhknkoifeaa

/- What the law's toNode lays: a node that is owned. -/
namespace Go.Proofs.Ytfeabhknkoifeaa
open Go.RowKit
set_option linter.unusedVariables false

end Go.Proofs.Ytfeabhknkoifeaa

/- Owned rows of nodes and of packets, and an owned world; what the law's toNodeS, toPacketS and toWorld lay. -/
namespace Go.Proofs.Ytfeabhknkoifeaa
open Go.RowKit
set_option linter.unusedVariables false

theorem WoO.wr {w : World} {d : WoD} {p : WoP} (h : WoO w d p) (s : Wsm d) : WoR w d p := ⟨NsO.nr h.n s.n.1 s.n.2, PkO.pr h.k s.k.1 s.k.2⟩



end Go.Proofs.Ytfeabhknkoifeaa

/- How great a world is, to the number: what the law's szWorld tells of one that came in (written by mkwz.py). -/
namespace Go.Proofs.Ytfeabhknkoifeaa
open Go.RowKit
set_option linter.unusedVariables false

def ySum (y : List Say) : Nat := (y.map (fun s => s.2.2.2.length)).sum
theorem ySum_append (a b : List Say) : ySum (a ++ b) = ySum a + ySum b := by simp [ySum]
theorem ySum_mem {y : List Say} {s : Say} (h : s ∈ y) : s.2.2.2.length ≤ ySum y := by
  induction y with
  | nil => simp at h
  | cons x xs ih =>
    simp only [ySum, List.map_cons, List.sum_cons] at ih ⊢
    rcases List.mem_cons.1 h with rfl | h
    · omega
    · have := ih h
      omega
def hZ (d : HD) : Nat := d.xs.length + d.bs.length + d.ws.length
def sZ (y : List Say) : Nat := y.length + ySum y
def nZ (d : ND) : Nat := (d.nf + sumN (fun i => fZ (d.f i)) d.nf) + (d.nh + sumN (fun i => hZ (d.h i)) d.nh) + (d.no + sumN (fun i => sZ (d.y i)) d.no) + d.ni
def kZ (d : PkD) : Nat := d.xs.length
/-- How great a world is. -/
def wZ (d : WoD) : Nat := (d.nn + sumN (fun i => nZ (d.d i)) d.nn) + (d.nk + sumN (fun i => kZ (d.k i)) d.nk)
theorem nZ_sm {d : ND} (h : nZ d ≤ 1048576) : Nsm d := by
  unfold nZ at h
  refine ⟨⟨by omega, fun i hi => ?_⟩, ⟨by omega, fun i hi => ?_⟩, ⟨by omega, fun i hi => ?_⟩, by omega⟩
  · have := le_sumN (c := fun i => fZ (d.f i)) hi
    simp only [fZ] at this h
    omega
  · have := le_sumN (c := fun i => hZ (d.h i)) hi
    simp only [hZ] at this h
    omega
  · have h1 := le_sumN (c := fun i => sZ (d.y i)) hi
    simp only [sZ] at h1 h
    refine ⟨by omega, fun s hs => ?_⟩
    have := ySum_mem hs
    omega
theorem wZ_sm {d : WoD} (h : wZ d ≤ 1048576) : Wsm d := by
  unfold wZ at h
  refine ⟨⟨by omega, fun i hi => nZ_sm ?_⟩, ⟨by omega, fun i hi => ?_⟩⟩
  · have := le_sumN (c := fun i => nZ (d.d i)) hi
    omega
  · have := le_sumN (c := fun i => kZ (d.k i)) hi
    simp only [kZ] at this h
    omega














end Go.Proofs.Ytfeabhknkoifeaa

/- A flock: its world and its cores; what the law's szFlock, toFlock, eqFlock do; a flock as the row hands it over. -/
namespace Go.Proofs.Ytfeabhknkoifeaa
open Go.ChangeShapes Go.WideShapes Go.ChangeAt Go.RowKit
set_option linter.unusedVariables false

/-- What a flock says: its world, how many cores, and these. -/
structure FkD where
  w : WoD
  n : Nat
  c : Nat → CoD
/-- Where it lies. -/
structure FkP where
  w : WoP
  c : Pl
  q : Nat → CoP
abbrev fkcells (d : FkD) (p : FkP) : Array Value := #[.int .i64 d.w.size, .slice p.w.n.1 d.w.nn p.w.n.2, .slice p.w.k.1 d.w.nk p.w.k.2, .slice p.c.1 d.n p.c.2]
structure FkR (w : World) (d : FkD) (p : FkP) : Prop where
  o : WoR w d.w p.w
  c : CsR w p.c.1 d.n d.c p.q
theorem FkR.below {w w' : World} {d : FkD} {p : FkP} (h : FkR w d p) (b : Below w.heap.size w w') : FkR w' d p := ⟨h.o.below b, h.c.below b⟩
structure FkC (w : World) (d : FkD) (p : FkP) : Prop where
  o : WoC w d.w p.w
  c : CsC w p.c.1 d.n d.c p.q
theorem FkC.below {w w' : World} {d : FkD} {p : FkP} (h : FkC w d p) (b : Below w.heap.size w w') : FkC w' d p := ⟨h.o.below b, h.c.below b⟩
/-- How great it is. -/
def fkZ (d : FkD) : Nat := wZ d.w + (d.n + sumN (fun i => cZ (d.c i)) d.n)
structure FkS (d : FkD) : Prop where
  w : Wsm d.w
  n : d.n ≤ 1048576
  c : ∀ i, i < d.n → CoS (d.c i)
theorem fkZ_sm {d : FkD} (h : fkZ d ≤ 1048576) : FkS d := by
  unfold fkZ at h
  exact ⟨wZ_sm (by omega), by omega, fun i hi => cZ_sm (by have := le_sumN (c := fun i => cZ (d.c i)) hi; omega)⟩
theorem FkC.fr {w : World} {d : FkD} {p : FkP} (h : FkC w d p) (s : FkS d) : FkR w d p := ⟨h.o.wr s.w, h.c.cr s.n s.c⟩
/-- A flock that is owned, and its blocks. -/
structure FkO (w : World) (d : FkD) (p : FkP) : Prop where
  o : WoO w d.w p.w
  c : CsO w p.c.1 p.c.2 d.n d.c p.q
  ap : ∀ b, WBs d.w p.w b → ¬ RS p.c.1 p.c.2 d.n (fun i => QCo (d.c i) (p.q i)) b
def FkB (d : FkD) (p : FkP) (b : Nat) : Prop := WBs d.w p.w b ∨ RS p.c.1 p.c.2 d.n (fun i => QCo (d.c i) (p.q i)) b
theorem FkO.sm {w w' : World} {d : FkD} {p : FkP} (h : FkO w d p) (k : Sm (FkB d p) w w') : FkO w' d p := ⟨h.o.sm (k.mono (fun b hb => .inl hb)), Rw.sm h.c (k.mono (fun b hb => .inr hb)), h.ap⟩
theorem FkO.below {w w' : World} {d : FkD} {p : FkP} (h : FkO w d p) (b : Below w.heap.size w w') : FkO w' d p := h.sm (sm_bel b)
theorem FkO.lt {w : World} {d : FkD} {p : FkP} (h : FkO w d p) {b : Nat} (hb : FkB d p b) : b < w.heap.size := by
  rcases hb with hb | hb
  · exact h.o.lt hb
  · exact Rw.slt h.c hb
theorem FkO.fr {w : World} {d : FkD} {p : FkP} (h : FkO w d p) (s : FkS d) : FkR w d p := ⟨h.o.wr s.w, CsO.cr h.c s.n s.c⟩
/-- What answers a flock of its own. -/
def FkAns (d : FkD) (w : World) (e : Ending) (w' : World) : Prop := ∃ p, e = .returned (.agg (fkcells d p)) ∧ FkO w' d p ∧ (∀ b, FkB d p b → w.heap.size ≤ b) ∧ Below w.heap.size w w'


set_option maxRecDepth 100000 in
set_option maxHeartbeats 1000000 in
theorem eqFlock_any (d : FkD) (p p' : FkP) (w : World) (ha : FkR w d p) (hb : FkR w d p') :
    Calls Try.prog 7 #[.agg (fkcells d p), .agg (fkcells d p')] w fun e w' => e = .returned (.bool true) ∧ Below w.heap.size w w' := by
  have bA := bel_alloc (bel_alloc (Below.refl w.heap.size w) (.cells (fkcells d p) 29)) (.cells (fkcells d p') 29)
  obtain ⟨XA, XB⟩ := Box.two w (fkcells d p) (fkcells d p') 29 29
  replace ha := ha.below bA
  replace hb := hb.below bA
  obtain ⟨x0, x1, x2, x3, xz⟩ := XA.at4
  obtain ⟨y0, y1, y2, y3, yz⟩ := XB.at4
  go_enter Try.func7, Try.ntmps7
  go_wp2_with fail
  refine (eqWorld_any d.w p.w p'.w _ ha.o hb.o).mono ?_
  rintro e w1 ⟨rfl, b1⟩
  replace XA := XA.below b1
  replace XB := XB.below b1
  have B := bel_trans bA b1
  replace ha := ha.below b1
  replace hb := hb.below b1
  clear x0 x1 x2 x3 xz y0 y1 y2 y3 yz b1 bA
  obtain ⟨x0, x1, x2, x3, xz⟩ := XA.at4
  obtain ⟨y0, y1, y2, y3, yz⟩ := XB.at4
  go_wp2_with fail
  refine (eqCoreS_any p.c.1 p'.c.1 p.c.2 p'.c.2 d.n d.c p.q p'.q _ ha.c hb.c).mono ?_
  rintro e w2 ⟨rfl, b2⟩
  have B2 := bel_trans B b2
  clear x0 x1 x2 x3 xz y0 y1 y2 y3 yz b2 B ha hb XA XB
  go_wp2
  go_ret
  exact ⟨rfl, B2⟩


end Go.Proofs.Ytfeabhknkoifeaa
