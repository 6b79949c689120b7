/- FmR and Nd: see the heads of the parts. -/
import Derived.Test.YtfeabhknkoifeaaOpenH
import Derived.Test.YtfeabhknkoifeaaPacket
import Derived.Test.YtfeabhknkoifeaaRwC
import Derived.Test.YtfeabhknkoifeaaHomM
import Derived.Test.YtfeabhknkoifeaaSndTo
/- Rows of frames: what a reader is told, what is owned, what came in (cut out of elder texts by mkfm.py). -/
namespace Go.Proofs.Ytfeabhknkoifeaa
open Go.ChangeShapes Go.WideShapes Go.ChangeAt Go.RowKit
set_option linter.unusedVariables false

/-- What a frame, a home, a node say. -/
structure FD where
  s : Int
  xs : List Int
  q : Bool

def fcells (d : FD) (p : Pl) : List Value := [.int .i64 d.s, .slice p.1 d.xs.length p.2, .bool d.q]

def FR (w : World) (a : Option Addr) (n : Nat) (d : Nat → FD) (p : Nat → Pl) : Prop := n ≤ 1048577 ∧ VRow w a (chunks n fun i => fcells (d i) (p i)) ∧ ∀ i, i < n → Row .i64 w (p i).1 (d i).xs

theorem FR.below {w w' : World} {a : Option Addr} {n : Nat} {d : Nat → FD} {p : Nat → Pl} (h : FR w a n d p) (hb : Below w.heap.size w w') : FR w' a n d p := ⟨h.1, h.2.1.below hb, fun i hi => (h.2.2 i hi).below hb⟩

theorem FR.at {w : World} {a : Option Addr} {n : Nat} {d : Nat → FD} {p : Nat → Pl} (h : FR w a n d p) {i : Nat} (hi : i < n) :
    ∃ b off, a = some ⟨b, off, none⟩ ∧ w.cell? ⟨b, off + i * 3, none⟩ = some (.int .i64 (d i).s) ∧ w.cell? ⟨b, off + i * 3 + 1, none⟩ = some (.slice (p i).1 (d i).xs.length (p i).2) ∧ w.cell? ⟨b, off + i * 3 + 2, none⟩ = some (.bool (d i).q) := by
  obtain ⟨b, off, rfl, hc⟩ := h.2.1.chunk (s := 3) (fun i _ => rfl) (by decide) hi
  exact ⟨b, off, rfl, hc 0 _ rfl, hc 1 _ rfl, hc 2 _ rfl⟩

set_option maxRecDepth 100000 in
set_option maxHeartbeats 1000000 in
theorem eqFrameS_any (a b : Option Addr) (ca cb n : Nat) (d : Nat → FD) (p p' : Nat → Pl) (w : World) (ha : FR w a n d p) (hb : FR w b n d p') :
    Calls Try.prog 59 #[.slice a n ca, .slice b n cb] w fun e w' => e = .returned (.bool true) ∧ Below w.heap.size w w' := by
  have hl : n ≤ 1048577 := ha.1
  go_enter Try.func59, Try.ntmps59
  go_wp2
  go_loopw [5] (fun i wr => ∃ k : Nat, k ≤ n ∧ i = .int .i64 k ∧ FR wr a n d p ∧ FR wr b n d p' ∧ Below w.heap.size w wr) (fun i _ => n - (intOf i).toNat)
  case atStart => exact ⟨0, Nat.zero_le _, rfl, ha, hb, Below.refl _ _⟩
  case round =>
    obtain ⟨k, hk, rfl, hma, hmb, hB⟩ := hrel
    by_cases hlt : k < n
    · have hi : (k : Int) < (n : Int) := by omega
      obtain ⟨ba, oa, rfl, y0, y1, y2⟩ := hma.at hlt
      obtain ⟨bb, ob, rfl, z0, z1, z2⟩ := hmb.at hlt
      have ra := hma.2.2 k hlt
      have rb := hmb.2.2 k hlt
      clear ha hb
      go_wp2_with fail
      go_region_with (go_at_call 71; refine (eqFrame_any _ _ _ _ _ _ (d k).xs _ (row_drew ra) (row_drew rb)).mono ?_; rintro e w1 ⟨rfl, b1⟩)
      all_goals
        have hma1 := hma.below (bel_undrew b1)
        have hmb1 := hmb.below (bel_undrew b1)
        have hB1 := bel_trans hB (bel_undrew b1)
        clear hma hmb hB b1 y0 y1 y2 z0 z1 z2 ra rb
        go_wp2
        go_roundw
        case rel => exact ⟨k + 1, by omega, by go_num, hma1, hmb1, hB1⟩
        case measure => simp [intOf]; omega
    · clear ha hb hma hmb
      go_wp2
      go_ret
      exact ⟨rfl, hB⟩

/-- A frame without words; a sender that queues nothing. -/
def f0 (s : Int) (q : Bool) : List Value := [.int .i64 s, .slice none 0 0, .bool q]

theorem info_frame2 : (Try.prog.info? 101).map (fun i => (i.zero, i.size, i.bytes)) = some (some (.agg #[.int .i64 0, .slice none 0 0, .bool false]), 3, 40) := by kernel_rfl

/-- Frames, homes, senders, receivers that are owned with all that they say. -/
def EF (d : FD) (p : Pl) (w : World) : Prop := w.ownsRow 0 3 1 (.slice p.1 d.xs.length p.2) d.xs.length (d.xs.map (Value.int .i64))

def QF (p : Pl) (b : Nat) : Prop := blk p = some b

theorem fix_f (d : FD) (p : Pl) : Fix (QF p) (EF d p) := fun w w' k h => owns_sm h k (fun j hj => blk_eq hj)

def FO (w : World) (a : Option Addr) (c n : Nat) (d : Nat → FD) (p : Nat → Pl) : Prop := Rw w 101 3 a c n n (fun i => fcells (d i) (p i)) (fun i => QF (p i)) (fun i => EF (d i) (p i))

theorem FO.fr {w : World} {a : Option Addr} {c n : Nat} {d : Nat → FD} {p : Nat → Pl} (h : FO w a c n d p) (hn : n ≤ 1048576) (hx : ∀ i, i < n → (d i).xs.length ≤ 1048576) : FR w a n d p :=
  ⟨by omega, owns_vrow' h.row (by rw [chunks_length (s := 3) n (fun i _ => rfl)]; omega), fun i hi => owns_row' (h.el i hi) (by have := hx i hi; omega)⟩

abbrev FTw (w : World) (lo : Nat) (a : Option Addr) (c n k : Nat) (d : Nat → FD) (p : Nat → Pl) (z : Nat → List Value) : Prop := Tw w lo 101 3 a c n k (fun i => fcells (d i) (p i)) z (fun i => QF (p i)) (fun i => EF (d i) (p i))

theorem frame_put {w w2 : World} {lo g c n k : Nat} {d : Nat → FD} {p : Nat → Pl} {z : Nat → List Value} (h : FTw w lo (some ⟨g, 0, none⟩) c n k d p z) (hz : ∀ i, i < n → (z i).length = 3) (hk : k < n) (b : Below w.heap.size w w2) (hlo : lo ≤ w.heap.size) {a2 : Option Addr} {c2 : Nat} (o2 : w2.ownsRow w.heap.size 3 1 (.slice a2 (d k).xs.length c2) (d k).xs.length ((d k).xs.map (Value.int .i64))) :
    FTw (((w2.setCell ⟨g, k * 3, none⟩ (.int .i64 (d k).s)).setCell ⟨g, k * 3 + 1, none⟩ (.slice a2 (d k).xs.length c2)).setCell ⟨g, k * 3 + 2, none⟩ (.bool (d k).q)) lo (some ⟨g, 0, none⟩) c n (k + 1) d (fun i => if i = k then (a2, c2) else p i) z := by
  have hr := owns_below h.r.row b
  have hf : ∀ i, i < n → ((fun i => if i < k then fcells (d i) (p i) else z i) i).length = 3 := fun i hi => by dsimp only; split; rfl; exact hz i hi
  have hs := store3 hr hf hk (.int .i64 (d k).s) (.slice a2 (d k).xs.length c2) (.bool (d k).q)
  have on : Only w2 (((w2.setCell ⟨g, k * 3, none⟩ (.int .i64 (d k).s)).setCell ⟨g, k * 3 + 1, none⟩ (.slice a2 (d k).xs.length c2)).setCell ⟨g, k * 3 + 2, none⟩ (.bool (d k).q)) (fun b => b = g) := (((Only.refl w2 (fun b => b = g)).setCell ⟨g, k * 3, none⟩ _ rfl).setCell ⟨g, k * 3 + 1, none⟩ _ rfl).setCell ⟨g, k * 3 + 2, none⟩ _ rfl
  refine (h.step b hlo on hs (E' := EF (d k) (a2, c2)) (owns_base o2 (Nat.zero_le _)) (fix_f _ _) (fun x hx => o2.lt x (blk_own hx))).congr (fun i hi => ?_) (fun i hi => ?_) (fun i hi => ?_)
  all_goals
    by_cases e : i = k
    · subst e; simp [fcells]
    · simp [e]


/-- Rows that came in. -/
def FC (w : World) (a : Option Addr) (n : Nat) (d : Nat → FD) (p : Nat → Pl) : Prop := n ≤ maxLen ∧ VCame w a (chunks n fun i => fcells (d i) (p i)) ∧ ∀ i, i < n → Came .i64 w (p i).1 (p i).2 (d i).xs

theorem FC.below {w w' : World} {a : Option Addr} {n : Nat} {d : Nat → FD} {p : Nat → Pl} (h : FC w a n d p) (hb : Below w.heap.size w w') : FC w' a n d p := ⟨h.1, h.2.1.below hb, fun i hi => (h.2.2 i hi).below hb⟩

theorem FC.fr {w : World} {a : Option Addr} {n : Nat} {d : Nat → FD} {p : Nat → Pl} (h : FC w a n d p) (hn : n ≤ 1048576) (hx : ∀ i, i < n → (d i).xs.length ≤ 1048576) : FR w a n d p :=
  ⟨by omega, h.2.1.vrow (by rw [chunks_length (s := 3) n (fun i _ => rfl)]; omega), fun i hi => (h.2.2 i hi).row (by have := hx i hi; omega)⟩

def fZ (d : FD) : Nat := d.xs.length







end Go.Proofs.Ytfeabhknkoifeaa

/- Rows by their elements; what a reader is told of a node; what the law's eqNode does. -/
namespace Go.Proofs.Ytfeabhknkoifeaa
open Go.RowKit
set_option linter.unusedVariables false

structure HD where
  xs : List Int
  ow : Int
  bs : List Bool
  bz : Bool
  wh : Int
  wo : Bool
  ak : Int
  ws : List (Int × Bool)
structure HP where
  l : Pl
  r : Pl
  q : Pl
def hcells (d : HD) (p : HP) : List Value := [.slice p.l.1 d.xs.length p.l.2, .int .i64 d.ow, .slice p.r.1 d.bs.length p.r.2, .bool d.bz, .int .i64 d.wh, .bool d.wo, .int .i64 d.ak, .slice p.q.1 d.ws.length p.q.2]
def scells (b : Int) (p : Pl) (n : Nat) : List Value := [.int .i64 b, .slice p.1 n p.2]
def gcells (g : Int) : List Value := [.int .i64 g]

def HR2 (w : World) (a : Option Addr) (n : Nat) (d : Nat → HD) (p : Nat → HP) : Prop := n ≤ 1048577 ∧ VRow w a (chunks n fun i => hcells (d i) (p i)) ∧
  ∀ i, i < n → Row .i64 w (p i).l.1 (d i).xs ∧ VRow w (p i).r.1 (bv (d i).bs) ∧ VRow w (p i).q.1 (wv (d i).ws)
def SR (w : World) (a : Option Addr) (n : Nat) (b : Nat → Int) (y : Nat → List Say) (p : Nat → Pl) (ms : Nat → List M) : Prop := n ≤ 1048577 ∧ VRow w a (chunks n fun i => scells (b i) (p i) (y i).length) ∧
  ∀ i, i < n → MRow w (p i).1 (ms i) ∧ (ms i).map M.say = y i
def GR (w : World) (a : Option Addr) (n : Nat) (g : Nat → Int) : Prop := n ≤ 1048577 ∧ VRow w a (chunks n fun i => gcells (g i))

theorem HR2.below {w w' : World} {a : Option Addr} {n : Nat} {d : Nat → HD} {p : Nat → HP} (h : HR2 w a n d p) (hb : Below w.heap.size w w') : HR2 w' a n d p :=
  ⟨h.1, h.2.1.below hb, fun i hi => ⟨(h.2.2 i hi).1.below hb, (h.2.2 i hi).2.1.below hb, (h.2.2 i hi).2.2.below hb⟩⟩
theorem SR.below {w w' : World} {a : Option Addr} {n : Nat} {b : Nat → Int} {y : Nat → List Say} {p : Nat → Pl} {ms : Nat → List M} (h : SR w a n b y p ms) (hb : Below w.heap.size w w') : SR w' a n b y p ms :=
  ⟨h.1, h.2.1.below hb, fun i hi => ⟨(h.2.2 i hi).1.below hb, (h.2.2 i hi).2⟩⟩
theorem GR.below {w w' : World} {a : Option Addr} {n : Nat} {g : Nat → Int} (h : GR w a n g) (hb : Below w.heap.size w w') : GR w' a n g := ⟨h.1, h.2.below hb⟩

theorem HR2.at {w : World} {a : Option Addr} {n : Nat} {d : Nat → HD} {p : Nat → HP} (h : HR2 w a n d p) {i : Nat} (hi : i < n) :
    ∃ b off, a = some ⟨b, off, none⟩ ∧ w.cell? ⟨b, off + i * 8, none⟩ = some (.slice (p i).l.1 (d i).xs.length (p i).l.2) ∧ w.cell? ⟨b, off + i * 8 + 1, none⟩ = some (.int .i64 (d i).ow) ∧
      w.cell? ⟨b, off + i * 8 + 2, none⟩ = some (.slice (p i).r.1 (d i).bs.length (p i).r.2) ∧ w.cell? ⟨b, off + i * 8 + 3, none⟩ = some (.bool (d i).bz) ∧ w.cell? ⟨b, off + i * 8 + 4, none⟩ = some (.int .i64 (d i).wh) ∧
      w.cell? ⟨b, off + i * 8 + 5, none⟩ = some (.bool (d i).wo) ∧ w.cell? ⟨b, off + i * 8 + 6, none⟩ = some (.int .i64 (d i).ak) ∧ w.cell? ⟨b, off + i * 8 + 7, none⟩ = some (.slice (p i).q.1 (d i).ws.length (p i).q.2) := by
  obtain ⟨b, off, rfl, hc⟩ := h.2.1.chunk (s := 8) (fun i _ => rfl) (by decide) hi
  exact ⟨b, off, rfl, hc 0 _ rfl, hc 1 _ rfl, hc 2 _ rfl, hc 3 _ rfl, hc 4 _ rfl, hc 5 _ rfl, hc 6 _ rfl, hc 7 _ rfl⟩
theorem SR.at {w : World} {a : Option Addr} {n : Nat} {b : Nat → Int} {y : Nat → List Say} {p : Nat → Pl} {ms : Nat → List M} (h : SR w a n b y p ms) {i : Nat} (hi : i < n) :
    ∃ m off, a = some ⟨m, off, none⟩ ∧ w.cell? ⟨m, off + i * 2, none⟩ = some (.int .i64 (b i)) ∧ w.cell? ⟨m, off + i * 2 + 1, none⟩ = some (.slice (p i).1 (y i).length (p i).2) := by
  obtain ⟨b, off, rfl, hc⟩ := h.2.1.chunk (s := 2) (fun i _ => rfl) (by decide) hi
  exact ⟨b, off, rfl, hc 0 _ rfl, hc 1 _ rfl⟩
theorem GR.at {w : World} {a : Option Addr} {n : Nat} {g : Nat → Int} (h : GR w a n g) {i : Nat} (hi : i < n) :
    ∃ m off, a = some ⟨m, off, none⟩ ∧ w.cell? ⟨m, off + i, none⟩ = some (.int .i64 (g i)) := by
  obtain ⟨b, off, rfl, hc⟩ := h.2.chunk (s := 1) (fun i _ => rfl) (by decide) hi
  have := hc 0 _ rfl
  rw [Nat.mul_one, Nat.add_zero] at this
  exact ⟨b, off, rfl, this⟩
end Go.Proofs.Ytfeabhknkoifeaa
