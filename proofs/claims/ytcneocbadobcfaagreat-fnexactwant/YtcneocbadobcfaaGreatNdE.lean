/- Nd and NdE: see the heads of the parts. -/
import Derived.Test.YtcneocbadobcfaaGreatHomM
import Derived.Test.YtcneocbadobcfaaGreatFrm
import Derived.Test.YtcneocbadobcfaaGreatSndTo
/- Rows by their elements; what a reader is told of a node; what the law's eqNode does. -/
namespace Go.Proofs.YtcneocbadobcfaaGreat
open Go.RowKit
set_option linter.unusedVariables false

/-- A row's cells, element by element. -/
def chunks (n : Nat) (f : Nat → List Value) : List Value := (List.range n).flatMap f

theorem chunks_succ (n : Nat) (f : Nat → List Value) : chunks (n + 1) f = chunks n f ++ f n := by simp [chunks, List.range_succ]
theorem chunks_zero (f : Nat → List Value) : chunks 0 f = [] := rfl
theorem chunks_length {s : Nat} (n : Nat) {f : Nat → List Value} (hf : ∀ i, i < n → (f i).length = s) : (chunks n f).length = n * s := by
  induction n with
  | zero => simp [chunks]
  | succ n ih => rw [chunks_succ, List.length_append, ih (fun i hi => hf i (by omega)), hf n (by omega), Nat.succ_mul]
theorem chunks_get {s n : Nat} {f : Nat → List Value} (hf : ∀ i, i < n → (f i).length = s) {i j : Nat} (hi : i < n) (hj : j < s) : (chunks n f)[i * s + j]? = (f i)[j]? := by
  induction n with
  | zero => omega
  | succ n ih =>
    have hl := chunks_length n (f := f) (s := s) (fun i hi => hf i (by omega))
    rw [chunks_succ]
    by_cases h : i < n
    · have h2 : (i + 1) * s ≤ n * s := Nat.mul_le_mul_right s h
      rw [Nat.succ_mul] at h2
      rw [List.getElem?_append_left (by omega)]
      exact ih (fun i hi => hf i (by omega)) h
    · obtain rfl : i = n := by omega
      rw [List.getElem?_append_right (by omega), hl]
      congr 1
      omega
theorem chunks_congr {n : Nat} {f g : Nat → List Value} (h : ∀ i, i < n → f i = g i) : chunks n f = chunks n g := by
  induction n with
  | zero => rfl
  | succ n ih => rw [chunks_succ, chunks_succ, ih (fun i hi => h i (by omega)), h n (by omega)]
theorem chunks_set {s n : Nat} {f : Nat → List Value} (hf : ∀ i, i < n → (f i).length = s) {i j : Nat} (hi : i < n) (hj : j < s) (u : Value) :
    (chunks n f).set (i * s + j) u = chunks n (fun x => if x = i then (f x).set j u else f x) := by
  induction n with
  | zero => omega
  | succ n ih =>
    have hl := chunks_length n (f := f) (s := s) (fun i hi => hf i (by omega))
    rw [chunks_succ, chunks_succ]
    by_cases h : i < n
    · have h2 : (i + 1) * s ≤ n * s := Nat.mul_le_mul_right s h
      rw [Nat.succ_mul] at h2
      rw [List.set_append_left _ _ (by omega), ih (fun i hi => hf i (by omega)) h, if_neg (by omega)]
    · obtain rfl : i = n := by omega
      rw [List.set_append_right _ _ (by omega), hl, if_pos rfl]
      congr 1
      · exact chunks_congr (fun x hx => by rw [if_neg (by omega)])
      · congr 1
        omega

theorem VRow.chunk {w : World} {a : Option Addr} {s n : Nat} {f : Nat → List Value} (h : VRow w a (chunks n f)) (hf : ∀ i, i < n → (f i).length = s) (hs : 0 < s) {i : Nat} (hi : i < n) :
    ∃ b off, a = some ⟨b, off, none⟩ ∧ ∀ j v, (f i)[j]? = some v → w.cell? ⟨b, off + i * s + j, none⟩ = some v := by
  have hl := hf i hi
  obtain ⟨b, off, rfl, _⟩ := h.2 (i * s + 0) _ ((chunks_get hf hi hs).trans (List.getElem?_eq_getElem (by omega)))
  refine ⟨b, off, rfl, fun j v hv => ?_⟩
  have hj : j < s := by have := (List.getElem?_eq_some_iff.1 hv).1; omega
  obtain ⟨b', off', e, hc⟩ := h.2 (i * s + j) v ((chunks_get hf hi hj).trans hv)
  simp only [Option.some.injEq, Addr.mk.injEq, and_true] at e
  obtain ⟨rfl, rfl⟩ := e
  rw [Nat.add_assoc]
  exact hc

/-- What a frame, a home, a node say. -/
structure FD where
  s : Int
  xs : List Int
  q : Bool
structure HD where
  xs : List Int
  ow : Int
  bs : List Bool
  bz : Bool
  wh : Int
  wo : Bool
  ak : Int
  ws : List (Int × Bool)
abbrev Pl := Option Addr × Nat
structure HP where
  l : Pl
  r : Pl
  q : Pl
def fcells (d : FD) (p : Pl) : List Value := [.int .i64 d.s, .slice p.1 d.xs.length p.2, .bool d.q]
def hcells (d : HD) (p : HP) : List Value := [.slice p.l.1 d.xs.length p.l.2, .int .i64 d.ow, .slice p.r.1 d.bs.length p.r.2, .bool d.bz, .int .i64 d.wh, .bool d.wo, .int .i64 d.ak, .slice p.q.1 d.ws.length p.q.2]
def scells (b : Int) (p : Pl) (n : Nat) : List Value := [.int .i64 b, .slice p.1 n p.2]
def gcells (g : Int) : List Value := [.int .i64 g]

def FR (w : World) (a : Option Addr) (n : Nat) (d : Nat → FD) (p : Nat → Pl) : Prop := n ≤ 1048577 ∧ VRow w a (chunks n fun i => fcells (d i) (p i)) ∧ ∀ i, i < n → Row .i64 w (p i).1 (d i).xs
def HR2 (w : World) (a : Option Addr) (n : Nat) (d : Nat → HD) (p : Nat → HP) : Prop := n ≤ 1048577 ∧ VRow w a (chunks n fun i => hcells (d i) (p i)) ∧
  ∀ i, i < n → Row .i64 w (p i).l.1 (d i).xs ∧ VRow w (p i).r.1 (bv (d i).bs) ∧ VRow w (p i).q.1 (wv (d i).ws)
def SR (w : World) (a : Option Addr) (n : Nat) (b : Nat → Int) (y : Nat → List Say) (p : Nat → Pl) (ms : Nat → List M) : Prop := n ≤ 1048577 ∧ VRow w a (chunks n fun i => scells (b i) (p i) (y i).length) ∧
  ∀ i, i < n → MRow w (p i).1 (ms i) ∧ (ms i).map M.say = y i
def GR (w : World) (a : Option Addr) (n : Nat) (g : Nat → Int) : Prop := n ≤ 1048577 ∧ VRow w a (chunks n fun i => gcells (g i))

theorem FR.below {w w' : World} {a : Option Addr} {n : Nat} {d : Nat → FD} {p : Nat → Pl} (h : FR w a n d p) (hb : Below w.heap.size w w') : FR w' a n d p := ⟨h.1, h.2.1.below hb, fun i hi => (h.2.2 i hi).below hb⟩
theorem HR2.below {w w' : World} {a : Option Addr} {n : Nat} {d : Nat → HD} {p : Nat → HP} (h : HR2 w a n d p) (hb : Below w.heap.size w w') : HR2 w' a n d p :=
  ⟨h.1, h.2.1.below hb, fun i hi => ⟨(h.2.2 i hi).1.below hb, (h.2.2 i hi).2.1.below hb, (h.2.2 i hi).2.2.below hb⟩⟩
theorem SR.below {w w' : World} {a : Option Addr} {n : Nat} {b : Nat → Int} {y : Nat → List Say} {p : Nat → Pl} {ms : Nat → List M} (h : SR w a n b y p ms) (hb : Below w.heap.size w w') : SR w' a n b y p ms :=
  ⟨h.1, h.2.1.below hb, fun i hi => ⟨(h.2.2 i hi).1.below hb, (h.2.2 i hi).2⟩⟩
theorem GR.below {w w' : World} {a : Option Addr} {n : Nat} {g : Nat → Int} (h : GR w a n g) (hb : Below w.heap.size w w') : GR w' a n g := ⟨h.1, h.2.below hb⟩

theorem FR.at {w : World} {a : Option Addr} {n : Nat} {d : Nat → FD} {p : Nat → Pl} (h : FR w a n d p) {i : Nat} (hi : i < n) :
    ∃ b off, a = some ⟨b, off, none⟩ ∧ w.cell? ⟨b, off + i * 3, none⟩ = some (.int .i64 (d i).s) ∧ w.cell? ⟨b, off + i * 3 + 1, none⟩ = some (.slice (p i).1 (d i).xs.length (p i).2) ∧ w.cell? ⟨b, off + i * 3 + 2, none⟩ = some (.bool (d i).q) := by
  obtain ⟨b, off, rfl, hc⟩ := h.2.1.chunk (s := 3) (fun i _ => rfl) (by decide) hi
  exact ⟨b, off, rfl, hc 0 _ rfl, hc 1 _ rfl, hc 2 _ rfl⟩
theorem HR2.at {w : World} {a : Option Addr} {n : Nat} {d : Nat → HD} {p : Nat → HP} (h : HR2 w a n d p) {i : Nat} (hi : i < n) :
    ∃ b off, a = some ⟨b, off, none⟩ ∧ w.cell? ⟨b, off + i * 8, none⟩ = some (.slice (p i).l.1 (d i).xs.length (p i).l.2) ∧ w.cell? ⟨b, off + i * 8 + 1, none⟩ = some (.int .i64 (d i).ow) ∧
      w.cell? ⟨b, off + i * 8 + 2, none⟩ = some (.slice (p i).r.1 (d i).bs.length (p i).r.2) ∧ w.cell? ⟨b, off + i * 8 + 3, none⟩ = some (.bool (d i).bz) ∧ w.cell? ⟨b, off + i * 8 + 4, none⟩ = some (.int .i64 (d i).wh) ∧
      w.cell? ⟨b, off + i * 8 + 5, none⟩ = some (.bool (d i).wo) ∧ w.cell? ⟨b, off + i * 8 + 6, none⟩ = some (.int .i64 (d i).ak) ∧ w.cell? ⟨b, off + i * 8 + 7, none⟩ = some (.slice (p i).q.1 (d i).ws.length (p i).q.2) := by
  obtain ⟨b, off, rfl, hc⟩ := h.2.1.chunk (s := 8) (fun i _ => rfl) (by decide) hi
  exact ⟨b, off, rfl, hc 0 _ rfl, hc 1 _ rfl, hc 2 _ rfl, hc 3 _ rfl, hc 4 _ rfl, hc 5 _ rfl, hc 6 _ rfl, hc 7 _ rfl⟩
theorem SR.at {w : World} {a : Option Addr} {n : Nat} {b : Nat → Int} {y : Nat → List Say} {p : Nat → Pl} {ms : Nat → List M} (h : SR w a n b y p ms) {i : Nat} (hi : i < n) :
    ∃ m off, a = some ⟨m, off, none⟩ ∧ w.cell? ⟨m, off + i * 2, none⟩ = some (.int .i64 (b i)) ∧ w.cell? ⟨m, off + i * 2 + 1, none⟩ = some (.slice (p i).1 (y i).length (p i).2) := by
  obtain ⟨b, off, rfl, hc⟩ := h.2.1.chunk (s := 2) (fun i _ => rfl) (by decide) hi
  exact ⟨b, off, rfl, hc 0 _ rfl, hc 1 _ rfl⟩
theorem GR.at {w : World} {a : Option Addr} {n : Nat} {g : Nat → Int} (h : GR w a n g) {i : Nat} (hi : i < n) :
    ∃ m off, a = some ⟨m, off, none⟩ ∧ w.cell? ⟨m, off + i, none⟩ = some (.int .i64 (g i)) := by
  obtain ⟨b, off, rfl, hc⟩ := h.2.chunk (s := 1) (fun i _ => rfl) (by decide) hi
  have := hc 0 _ rfl
  rw [Nat.mul_one, Nat.add_zero] at this
  exact ⟨b, off, rfl, this⟩
end Go.Proofs.YtcneocbadobcfaaGreat

/- What the law's eqFrameS, eqHomeS, eqSenderS, eqReceiverS and eqNode do at two nodes that say the same. -/
namespace Go.Proofs.YtcneocbadobcfaaGreat
open Go.RowKit
set_option linter.unusedVariables false

theorem row_drew {k : IntKind} {w : World} {a : Option Addr} {xs : List Int} (h : Row k w a xs) : Row k w.drew a xs := h
theorem vrow_drew {w : World} {a : Option Addr} {xs : List Value} (h : VRow w a xs) : VRow w.drew a xs := h
theorem mrow_drew {w : World} {a : Option Addr} {xs : List M} (h : MRow w a xs) : MRow w.drew a xs := h

set_option maxRecDepth 100000 in
set_option maxHeartbeats 1000000 in
theorem eqFrameS_any (a b : Option Addr) (ca cb n : Nat) (d : Nat → FD) (p p' : Nat → Pl) (w : World) (ha : FR w a n d p) (hb : FR w b n d p') :
    Calls Tryz.prog 31 #[.slice a n ca, .slice b n cb] w fun e w' => e = .returned (.bool true) ∧ Below w.heap.size w w' := by
  have hl : n ≤ 1048577 := ha.1
  go_enter Tryz.func31, Tryz.ntmps31
  go_wp2
  go_loopw [5] (fun i wr => ∃ k : Nat, k ≤ n ∧ i = .int .i64 k ∧ FR wr a n d p ∧ FR wr b n d p' ∧ Below w.heap.size w wr) (fun i _ => n - (intOf i).toNat)
  case atStart => exact ⟨0, Nat.zero_le _, rfl, ha, hb, Below.refl _ _⟩
  case round =>
    obtain ⟨k, hk, rfl, hma, hmb, hB⟩ := hrel
    by_cases hlt : k < n
    · have hi : (k : Int) < (n : Int) := by omega
      obtain ⟨ba, oa, rfl, y0, y1, y2⟩ := hma.at hlt
      obtain ⟨bb, ob, rfl, z0, z1, z2⟩ := hmb.at hlt
      have ra := hma.2.2 k hlt
      have rb := hmb.2.2 k hlt
      clear ha hb
      go_wp2_with fail
      go_region_with (go_at_call 81; refine (eqFrame_any _ _ _ _ _ _ (d k).xs _ (row_drew ra) (row_drew rb)).mono ?_; rintro e w1 ⟨rfl, b1⟩)
      all_goals
        have hma1 := hma.below (bel_undrew b1)
        have hmb1 := hmb.below (bel_undrew b1)
        have hB1 := bel_trans hB (bel_undrew b1)
        clear hma hmb hB b1 y0 y1 y2 z0 z1 z2 ra rb
        go_wp2
        go_roundw
        case rel => exact ⟨k + 1, by omega, by go_num, hma1, hmb1, hB1⟩
        case measure => simp [intOf]; omega
    · clear ha hb hma hmb
      go_wp2
      go_ret
      exact ⟨rfl, hB⟩

set_option maxRecDepth 100000 in
set_option maxHeartbeats 1000000 in
theorem eqHomeS_any (a b : Option Addr) (ca cb n : Nat) (d : Nat → HD) (p p' : Nat → HP) (w : World) (ha : HR2 w a n d p) (hb : HR2 w b n d p') :
    Calls Tryz.prog 32 #[.slice a n ca, .slice b n cb] w fun e w' => e = .returned (.bool true) ∧ Below w.heap.size w w' := by
  have hl : n ≤ 1048577 := ha.1
  go_enter Tryz.func32, Tryz.ntmps32
  go_wp2
  go_loopw [5] (fun i wr => ∃ k : Nat, k ≤ n ∧ i = .int .i64 k ∧ HR2 wr a n d p ∧ HR2 wr b n d p' ∧ Below w.heap.size w wr) (fun i _ => n - (intOf i).toNat)
  case atStart => exact ⟨0, Nat.zero_le _, rfl, ha, hb, Below.refl _ _⟩
  case round =>
    obtain ⟨k, hk, rfl, hma, hmb, hB⟩ := hrel
    by_cases hlt : k < n
    · have hi : (k : Int) < (n : Int) := by omega
      obtain ⟨ba, oa, rfl, y0, y1, y2, y3, y4, y5, y6, y7⟩ := hma.at hlt
      obtain ⟨bb, ob, rfl, z0, z1, z2, z3, z4, z5, z6, z7⟩ := hmb.at hlt
      obtain ⟨ra, sa, ta⟩ := hma.2.2 k hlt
      obtain ⟨rb, sb, tb⟩ := hmb.2.2 k hlt
      clear ha hb
      go_wp2_with fail
      go_region_with (go_at_call 82; refine (eqHome_any _ _ _ _ _ _ _ _ _ _ _ _ _ _ _ _ _ (d k).xs (d k).bs (d k).ws _ (row_drew ra) (row_drew rb) (vrow_drew sa) (vrow_drew sb) (vrow_drew ta) (vrow_drew tb)).mono ?_; rintro e w1 ⟨rfl, b1⟩)
      all_goals
        have hma1 := hma.below (bel_undrew b1)
        have hmb1 := hmb.below (bel_undrew b1)
        have hB1 := bel_trans hB (bel_undrew b1)
        clear hma hmb hB b1 y0 y1 y2 y3 y4 y5 y6 y7 z0 z1 z2 z3 z4 z5 z6 z7 ra rb sa sb ta tb
        go_wp2
        go_roundw
        case rel => exact ⟨k + 1, by omega, by go_num, hma1, hmb1, hB1⟩
        case measure => simp [intOf]; omega
    · clear ha hb hma hmb
      go_wp2
      go_ret
      exact ⟨rfl, hB⟩

set_option maxRecDepth 100000 in
set_option maxHeartbeats 1000000 in
theorem eqSenderS_any (a b : Option Addr) (ca cb n : Nat) (bs : Nat → Int) (y : Nat → List Say) (p p' : Nat → Pl) (ms ds : Nat → List M) (w : World) (ha : SR w a n bs y p ms) (hb : SR w b n bs y p' ds) :
    Calls Tryz.prog 33 #[.slice a n ca, .slice b n cb] w fun e w' => e = .returned (.bool true) ∧ Below w.heap.size w w' := by
  have hl : n ≤ 1048577 := ha.1
  go_enter Tryz.func33, Tryz.ntmps33
  go_wp2
  go_loopw [5] (fun i wr => ∃ k : Nat, k ≤ n ∧ i = .int .i64 k ∧ SR wr a n bs y p ms ∧ SR wr b n bs y p' ds ∧ Below w.heap.size w wr) (fun i _ => n - (intOf i).toNat)
  case atStart => exact ⟨0, Nat.zero_le _, rfl, ha, hb, Below.refl _ _⟩
  case round =>
    obtain ⟨k, hk, rfl, hma, hmb, hB⟩ := hrel
    by_cases hlt : k < n
    · have hi : (k : Int) < (n : Int) := by omega
      obtain ⟨ba, oa, rfl, y0, y1⟩ := hma.at hlt
      obtain ⟨bb, ob, rfl, z0, z1⟩ := hmb.at hlt
      have ra := hma.2.2 k hlt
      have rb := hmb.2.2 k hlt
      have HE : Hid ((ds k).map M.say = (ms k).map M.say) := rb.2.trans ra.2.symm
      have HL : Hid ((ms k).length = (y k).length) := (by have := congrArg List.length ra.2; simpa using this : (ms k).length = (y k).length)
      clear ha hb
      go_wp2_with fail
      go_region_with (go_at_call 83; refine (eqSender_any _ _ _ _ _ (ms k) (ds k) _ _ HL.out HE.out (mrow_drew ra.1) (mrow_drew rb.1)).mono ?_; rintro e w1 ⟨rfl, b1⟩)
      all_goals
        have hma1 := hma.below (bel_undrew b1)
        have hmb1 := hmb.below (bel_undrew b1)
        have hB1 := bel_trans hB (bel_undrew b1)
        clear hma hmb hB b1 y0 y1 z0 z1 ra rb HE HL
        go_wp2
        go_roundw
        case rel => exact ⟨k + 1, by omega, by go_num, hma1, hmb1, hB1⟩
        case measure => simp [intOf]; omega
    · clear ha hb hma hmb
      go_wp2
      go_ret
      exact ⟨rfl, hB⟩

set_option maxHeartbeats 400000 in
theorem eqReceiver_any (g : Int) (w : World) :
    Calls Tryz.prog 84 #[.agg #[.int .i64 g], .agg #[.int .i64 g]] w fun e w' => e = .returned (.bool true) ∧ Below w.heap.size w w' := by
  have bA := bel_alloc (bel_alloc (Below.refl w.heap.size w) (.cells #[.int .i64 g] 100)) (.cells #[.int .i64 g] 100)
  go_enter Tryz.func84, Tryz.ntmps84
  go_wp2
  go_ret
  exact ⟨rfl, bA⟩

set_option maxRecDepth 100000 in
set_option maxHeartbeats 1000000 in
theorem eqReceiverS_any (a b : Option Addr) (ca cb n : Nat) (g : Nat → Int) (w : World) (ha : GR w a n g) (hb : GR w b n g) :
    Calls Tryz.prog 34 #[.slice a n ca, .slice b n cb] w fun e w' => e = .returned (.bool true) ∧ Below w.heap.size w w' := by
  have hl : n ≤ 1048577 := ha.1
  go_enter Tryz.func34, Tryz.ntmps34
  go_wp2
  go_loopw [5] (fun i wr => ∃ k : Nat, k ≤ n ∧ i = .int .i64 k ∧ GR wr a n g ∧ GR wr b n g ∧ Below w.heap.size w wr) (fun i _ => n - (intOf i).toNat)
  case atStart => exact ⟨0, Nat.zero_le _, rfl, ha, hb, Below.refl _ _⟩
  case round =>
    obtain ⟨k, hk, rfl, hma, hmb, hB⟩ := hrel
    by_cases hlt : k < n
    · have hi : (k : Int) < (n : Int) := by omega
      obtain ⟨ba, oa, rfl, y0⟩ := hma.at hlt
      obtain ⟨bb, ob, rfl, z0⟩ := hmb.at hlt
      clear ha hb
      go_wp2_with fail
      go_region_with (go_at_call 84; refine (eqReceiver_any _ _).mono ?_; rintro e w1 ⟨rfl, b1⟩)
      all_goals
        have hma1 := hma.below (bel_undrew b1)
        have hmb1 := hmb.below (bel_undrew b1)
        have hB1 := bel_trans hB (bel_undrew b1)
        clear hma hmb hB b1 y0 z0
        go_wp2
        go_roundw
        case rel => exact ⟨k + 1, by omega, by go_num, hma1, hmb1, hB1⟩
        case measure => simp [intOf]; omega
    · clear ha hb hma hmb
      go_wp2
      go_ret
      exact ⟨rfl, hB⟩

/-- What a node says, and where it lies. -/
structure ND where
  id : Int
  nf : Nat
  f : Nat → FD
  nh : Nat
  h : Nat → HD
  no : Nat
  b : Nat → Int
  y : Nat → List Say
  ni : Nat
  g : Nat → Int
structure NP where
  f : Pl
  fp : Nat → Pl
  h : Pl
  hp : Nat → HP
  o : Pl
  op : Nat → Pl
  ms : Nat → List M
  i : Pl
abbrev ncells (d : ND) (p : NP) : Array Value := #[.int .i64 d.id, .slice p.f.1 d.nf p.f.2, .slice p.h.1 d.nh p.h.2, .slice p.o.1 d.no p.o.2, .slice p.i.1 d.ni p.i.2]
structure NR (w : World) (d : ND) (p : NP) : Prop where
  f : FR w p.f.1 d.nf d.f p.fp
  h : HR2 w p.h.1 d.nh d.h p.hp
  o : SR w p.o.1 d.no d.b d.y p.op p.ms
  i : GR w p.i.1 d.ni d.g
theorem NR.below {w w' : World} {d : ND} {p : NP} (h : NR w d p) (b : Below w.heap.size w w') : NR w' d p := ⟨h.f.below b, h.h.below b, h.o.below b, h.i.below b⟩

theorem Box.at5 {w : World} {m : Nat} {c0 c1 c2 c3 c4 : Value} {t : TypeId} (h : Box w m #[c0, c1, c2, c3, c4] t) :
    w.cell? ⟨m, 0, none⟩ = some c0 ∧ w.cell? ⟨m, 1, none⟩ = some c1 ∧ w.cell? ⟨m, 2, none⟩ = some c2 ∧ w.cell? ⟨m, 3, none⟩ = some c3 ∧ w.cell? ⟨m, 4, none⟩ = some c4 ∧ m < w.heap.size :=
  ⟨by rw [h.cell]; rfl, by rw [h.cell]; rfl, by rw [h.cell]; rfl, by rw [h.cell]; rfl, by rw [h.cell]; rfl, h.lt⟩

set_option maxRecDepth 100000 in
set_option maxHeartbeats 1000000 in
theorem eqNode_any (d : ND) (p p' : NP) (w : World) (ha : NR w d p) (hb : NR w d p') :
    Calls Tryz.prog 8 #[.agg (ncells d p), .agg (ncells d p')] w fun e w' => e = .returned (.bool true) ∧ Below w.heap.size w w' := by
  have bA := bel_alloc (bel_alloc (Below.refl w.heap.size w) (.cells (ncells d p) 34)) (.cells (ncells d p') 34)
  obtain ⟨XA, XB⟩ := Box.two w (ncells d p) (ncells d p') 34 34
  replace ha := ha.below bA
  replace hb := hb.below bA
  go_enter Tryz.func8, Tryz.ntmps8
  go_wp2_with fail
  refine (eqFrameS_any _ _ _ _ d.nf d.f p.fp p'.fp _ ha.f hb.f).mono ?_
  rintro e w1 ⟨rfl, b1⟩
  replace XA := XA.below b1
  replace XB := XB.below b1
  replace ha := ha.below b1
  replace hb := hb.below b1
  have B := bel_trans bA b1
  clear bA b1
  obtain ⟨x0, x1, x2, x3, x4, zx⟩ := XA.at5
  obtain ⟨y0, y1, y2, y3, y4, zy⟩ := XB.at5
  go_wp2_with fail
  refine (eqHomeS_any _ _ _ _ d.nh d.h p.hp p'.hp _ ha.h hb.h).mono ?_
  rintro e w2 ⟨rfl, b1⟩
  replace XA := XA.below b1
  replace XB := XB.below b1
  replace ha := ha.below b1
  replace hb := hb.below b1
  replace B := bel_trans B b1
  clear b1 x0 x1 x2 x3 x4 zx y0 y1 y2 y3 y4 zy
  obtain ⟨x0, x1, x2, x3, x4, zx⟩ := XA.at5
  obtain ⟨y0, y1, y2, y3, y4, zy⟩ := XB.at5
  go_wp2_with fail
  refine (eqSenderS_any _ _ _ _ d.no d.b d.y p.op p'.op p.ms p'.ms _ ha.o hb.o).mono ?_
  rintro e w3 ⟨rfl, b1⟩
  replace XA := XA.below b1
  replace XB := XB.below b1
  replace ha := ha.below b1
  replace hb := hb.below b1
  replace B := bel_trans B b1
  clear b1 x0 x1 x2 x3 x4 zx y0 y1 y2 y3 y4 zy
  obtain ⟨x0, x1, x2, x3, x4, zx⟩ := XA.at5
  obtain ⟨y0, y1, y2, y3, y4, zy⟩ := XB.at5
  go_wp2_with fail
  refine (eqReceiverS_any _ _ _ _ d.ni d.g _ ha.i hb.i).mono ?_
  rintro e w4 ⟨rfl, b1⟩
  replace B := bel_trans B b1
  clear b1 x0 x1 x2 x3 x4 zx y0 y1 y2 y3 y4 zy XA XB ha hb
  go_wp2
  go_ret
  exact ⟨rfl, B⟩
end Go.Proofs.YtcneocbadobcfaaGreat
