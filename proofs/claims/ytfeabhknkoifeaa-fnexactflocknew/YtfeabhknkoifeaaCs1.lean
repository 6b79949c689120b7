/- BkZ and Co1 and OpenCo and Cs1: see the heads of the parts. -/
import Derived.Test.YtfeabhknkoifeaaOpenH
import Derived.Test.YtfeabhknkoifeaaBkM
import Derived.Test.YtfeabhknkoifeaaPacket
/- How great a row of blocks is that came in; a row of blocks as the row hands it over. -/
namespace Go.Proofs.Ytfeabhknkoifeaa
open Go.ChangeShapes Go.WideShapes Go.ChangeAt Go.RowKit
set_option linter.unusedVariables false

theorem IC.below {w w' : World} {a : Option Addr} {n : Nat} {d : Nat → XD} (h : IC w a n d) (hb : Below w.heap.size w w') : IC w' a n d := ⟨h.1, h.2.below hb⟩
/-- A row of blocks that came in. -/
def KC (w : World) (a : Option Addr) (n : Nat) (d : Nat → KD) (p : Nat → Pl) : Prop := n ≤ maxLen ∧ VCame w a (chunks n fun i => bkcells (d i) (p i)) ∧ ∀ i, i < n → IC w (p i).1 (d i).n (d i).x
theorem KC.below {w w' : World} {a : Option Addr} {n : Nat} {d : Nat → KD} {p : Nat → Pl} (h : KC w a n d p) (hb : Below w.heap.size w w') : KC w' a n d p := ⟨h.1, h.2.1.below hb, fun i hi => (h.2.2 i hi).below hb⟩
theorem KC.kr {w : World} {a : Option Addr} {n : Nat} {d : Nat → KD} {p : Nat → Pl} (h : KC w a n d p) (hn : n ≤ 1048577) (hx : ∀ i, i < n → (d i).n ≤ 1048577) : KR w a n d p :=
  ⟨by omega, h.2.1.vrow (by rw [chunks_length (s := 2) n (fun i _ => rfl)]; omega), fun i hi => (h.2.2 i hi).ir (hx i hi)⟩
def bkZ (d : KD) : Nat := d.n
theorem bkZ_le {n : Nat} {d : Nat → KD} {Z : Nat} (h : n + sumN (fun i => bkZ (d i)) n ≤ Z) : n ≤ Z ∧ ∀ i, i < n → (d i).n ≤ Z := ⟨by omega, fun i hi => by
  have := le_sumN (c := fun i => bkZ (d i)) hi
  simp only [bkZ] at this h
  omega⟩




end Go.Proofs.Ytfeabhknkoifeaa

/- A core: its hart and what is kept; what the law's szCore, toCore, eqCore, markCore, heldCore do. -/
namespace Go.Proofs.Ytfeabhknkoifeaa
open Go.RowKit
set_option linter.unusedVariables false

/-- What a core says: its hart, how many blocks are kept, and these. -/
structure CoD where
  h : TD
  n : Nat
  k : Nat → KD
/-- Where a core's rows lie. -/
structure CoP where
  r : Pl
  c : Pl
  q : Nat → Pl
@[reducible] def ccells (d : CoD) (p : CoP) : Array Value := #[.slice p.r.1 d.h.xs.length p.r.2, .int .i64 d.h.pc, .int .i64 d.h.st, .slice p.c.1 d.n p.c.2]
/-- A core that is read. -/
structure CoR (w : World) (d : CoD) (p : CoP) : Prop where
  r : Row .i64 w p.r.1 d.h.xs
  l : d.h.xs.length ≤ 1048577
  k : KR w p.c.1 d.n d.k p.q
theorem CoR.below {w w' : World} {d : CoD} {p : CoP} (h : CoR w d p) (b : Below w.heap.size w w') : CoR w' d p := ⟨h.r.below b, h.l, h.k.below b⟩
/-- A core that came in. -/
structure CoC (w : World) (d : CoD) (p : CoP) : Prop where
  r : Came .i64 w p.r.1 p.r.2 d.h.xs
  k : KC w p.c.1 d.n d.k p.q
theorem CoC.below {w w' : World} {d : CoD} {p : CoP} (h : CoC w d p) (b : Below w.heap.size w w') : CoC w' d p := ⟨h.r.below b, h.k.below b⟩
/-- How great a core is. -/
def cZ (d : CoD) : Nat := d.h.xs.length + (d.n + sumN (fun i => bkZ (d.k i)) d.n)
/-- It is not great. -/
structure CoS (d : CoD) : Prop where
  x : d.h.xs.length ≤ 1048576
  n : d.n ≤ 1048576
  k : ∀ i, i < d.n → (d.k i).n ≤ 1048576
theorem cZ_sm {d : CoD} (h : cZ d ≤ 1048576) : CoS d := by
  unfold cZ at h
  obtain ⟨hn, hx⟩ := bkZ_le (n := d.n) (d := d.k) (Z := 1048576) (by omega)
  exact ⟨by omega, hn, hx⟩
theorem CoC.cr {w : World} {d : CoD} {p : CoP} (h : CoC w d p) (s : CoS d) : CoR w d p := ⟨h.r.row (by have := s.x; omega), by have := s.x; omega, h.k.kr (by have := s.n; omega) (fun i hi => by have := s.k i hi; omega)⟩

/-- A core that is owned, in the blocks of QCo. -/
structure ECo (d : CoD) (p : CoP) (w : World) : Prop where
  r : w.ownsRow 0 3 1 (.slice p.r.1 d.h.xs.length p.r.2) d.h.xs.length (d.h.xs.map (Value.int .i64))
  k : KO w p.c.1 p.c.2 d.n d.k p.q
  ap : ∀ b, blk p.r = some b → ¬ RS p.c.1 p.c.2 d.n (fun i => QK (p.q i)) b
def QCo (d : CoD) (p : CoP) (b : Nat) : Prop := blk p.r = some b ∨ RS p.c.1 p.c.2 d.n (fun i => QK (p.q i)) b
theorem fix_co (d : CoD) (p : CoP) : Fix (QCo d p) (ECo d p) := fun w w' k h => ⟨owns_sm h.r k (fun j hj => .inl (blk_eq hj)), Rw.sm h.k (k.mono (fun b hb => .inr hb)), h.ap⟩
theorem ECo.sm {d : CoD} {p : CoP} {w w' : World} (h : ECo d p w) (k : Sm (QCo d p) w w') : ECo d p w' := fix_co d p w w' k h
theorem ECo.below {d : CoD} {p : CoP} {w w' : World} (h : ECo d p w) (b : Below w.heap.size w w') : ECo d p w' := h.sm (sm_bel b)
theorem ECo.lt {d : CoD} {p : CoP} {w : World} (h : ECo d p w) {b : Nat} (hb : QCo d p b) : b < w.heap.size := by
  rcases hb with hb | hb
  · exact (World.ownsRow.lt h.r b (blk_own hb)).2
  · exact Rw.slt h.k hb
theorem ECo.cr {d : CoD} {p : CoP} {w : World} (h : ECo d p w) (s : CoS d) : CoR w d p :=
  ⟨owns_row' h.r (by have := s.x; omega), by have := s.x; omega, h.k.kr (by have := s.n; omega) (fun i hi => by have := s.k i hi; omega)⟩
/-- What answers a core of its own. -/
def CoreP (d : CoD) (w : World) (e : Ending) (w' : World) : Prop := ∃ p, e = .returned (.agg (ccells d p)) ∧ ECo d p w' ∧ (∀ b, QCo d p b → w.heap.size ≤ b) ∧ Below w.heap.size w w'


set_option maxRecDepth 100000 in
set_option maxHeartbeats 1000000 in
theorem eqCore_any (d : CoD) (p p' : CoP) (w : World) (ha : CoR w d p) (hb : CoR w d p') :
    Calls Try.prog 34 #[.agg (ccells d p), .agg (ccells d p')] w fun e w' => e = .returned (.bool true) ∧ Below w.heap.size w w' := by
  have bA := bel_alloc (bel_alloc (Below.refl w.heap.size w) (.cells (ccells d p) 58)) (.cells (ccells d p') 58)
  obtain ⟨XA, XB⟩ := Box.two w (ccells d p) (ccells d p') 58 58
  replace ha := ha.below bA
  replace hb := hb.below bA
  obtain ⟨x0, x1, x2, x3, xz⟩ := XA.at4
  obtain ⟨y0, y1, y2, y3, yz⟩ := XB.at4
  go_enter Try.func34, Try.ntmps34
  go_wp2_with fail
  refine (eqHart_any d.h.pc d.h.st p.r.1 p'.r.1 p.r.2 p'.r.2 d.h.xs _ ha.r hb.r).mono ?_
  rintro e w1 ⟨rfl, b1⟩
  replace XA := XA.below b1
  replace XB := XB.below b1
  have B := bel_trans bA b1
  replace ha := ha.below b1
  replace hb := hb.below b1
  clear x0 x1 x2 x3 xz y0 y1 y2 y3 yz b1 bA
  obtain ⟨x0, x1, x2, x3, xz⟩ := XA.at4
  obtain ⟨y0, y1, y2, y3, yz⟩ := XB.at4
  go_wp2_with fail
  refine (eqBlockS_any p.c.1 p'.c.1 p.c.2 p'.c.2 d.n d.k p.q p'.q _ ha.k hb.k).mono ?_
  rintro e w2 ⟨rfl, b2⟩
  have B2 := bel_trans B b2
  clear x0 x1 x2 x3 xz y0 y1 y2 y3 yz b2 B ha hb XA XB
  go_wp2
  go_ret
  exact ⟨rfl, B2⟩


/-- A core that is marked. -/
def mCo (k : Int) (d : CoD) : CoD := ⟨⟨mki k d.h.xs.length, d.h.pc, d.h.st⟩, d.n, fun i => mK (kt (k + d.h.xs.length) (fun i => cK (d.k i)) i) (d.k i)⟩
/-- The number behind. -/
def kCo (k : Int) (d : CoD) : Int := kt (k + d.h.xs.length) (fun i => cK (d.k i)) d.n
theorem qco_mark (k : Int) (d : CoD) (p : CoP) : QCo (mCo k d) p = QCo d p := rfl


theorem kCo_le {d : CoD} (hs : CoS d) (k : Int) (hk : 0 ≤ k) : k ≤ kCo k d ∧ kCo k d ≤ k + 1048576 + 1048576 * 5242881 := by
  have h1 := kt_le (k0 := k + d.h.xs.length) (c := fun i => cK (d.k i)) (C := 5242881) (Nat.le_refl d.n) (fun i hi => by have := hs.k i hi; unfold cK; omega)
  have h2 := hs.x
  have h3 := hs.n
  have h4 : d.n * 5242881 ≤ 1048576 * 5242881 := Nat.mul_le_mul_right _ h3
  unfold kCo
  omega

end Go.Proofs.Ytfeabhknkoifeaa

/- A core as the row hands it over. -/
namespace Go.Proofs.Ytfeabhknkoifeaa
open Go.ChangeShapes Go.WideShapes Go.ChangeAt Go.RowKit
set_option linter.unusedVariables false

end Go.Proofs.Ytfeabhknkoifeaa

/- Rows of cores: what a reader is told; what the law's eqCoreS, toCoreS, szCoreS do; a row of cores as it came in. -/
namespace Go.Proofs.Ytfeabhknkoifeaa
open Go.ChangeShapes Go.WideShapes Go.ChangeAt Go.RowKit
set_option linter.unusedVariables false

theorem store4 {w : World} {lo e n g c k : Nat} {f : Nat → List Value} (h : w.ownsRow lo e 4 (.slice (some ⟨g, 0, none⟩) n c) n (chunks n f)) (hf : ∀ i, i < n → (f i).length = 4) (hk : k < n) (c0 c1 c2 c3 : Value) :
    ((((w.setCell ⟨g, k * 4, none⟩ c0).setCell ⟨g, k * 4 + 1, none⟩ c1).setCell ⟨g, k * 4 + 2, none⟩ c2).setCell ⟨g, k * 4 + 3, none⟩ c3).ownsRow lo e 4 (.slice (some ⟨g, 0, none⟩) n c) n (chunks n fun i => if i = k then [c0, c1, c2, c3] else f i) := by
  have h1 := owns_stored h hf hk (j := 0) (by decide) c0
  have h2 := owns_stored h1 (set_len hf _ _ _) hk (j := 1) (by decide) c1
  have h3 := owns_stored h2 (set_len (set_len hf _ _ _) _ _ _) hk (j := 2) (by decide) c2
  have h4 := owns_stored h3 (set_len (set_len (set_len hf _ _ _) _ _ _) _ _ _) hk (j := 3) (by decide) c3
  refine owns_congr h4 (fun i hi => ?_)
  have hl := hf i hi
  by_cases e : i = k
  · simp only [if_pos e]
    match hq : f i, hl with
    | [x, y, z, u], _ => rfl
  · simp only [if_neg e]

def clist (d : CoD) (p : CoP) : List Value := [.slice p.r.1 d.h.xs.length p.r.2, .int .i64 d.h.pc, .int .i64 d.h.st, .slice p.c.1 d.n p.c.2]
def CsR (w : World) (a : Option Addr) (n : Nat) (d : Nat → CoD) (p : Nat → CoP) : Prop := n ≤ 1048577 ∧ VRow w a (chunks n fun i => clist (d i) (p i)) ∧ ∀ i, i < n → CoR w (d i) (p i)
theorem CsR.below {w w' : World} {a : Option Addr} {n : Nat} {d : Nat → CoD} {p : Nat → CoP} (h : CsR w a n d p) (hb : Below w.heap.size w w') : CsR w' a n d p := ⟨h.1, h.2.1.below hb, fun i hi => (h.2.2 i hi).below hb⟩
theorem CsR.at {w : World} {a : Option Addr} {n : Nat} {d : Nat → CoD} {p : Nat → CoP} (h : CsR w a n d p) {i : Nat} (hi : i < n) :
    ∃ b off, a = some ⟨b, off, none⟩ ∧ w.cell? ⟨b, off + i * 4, none⟩ = some (.slice (p i).r.1 (d i).h.xs.length (p i).r.2) ∧ w.cell? ⟨b, off + i * 4 + 1, none⟩ = some (.int .i64 (d i).h.pc) ∧ w.cell? ⟨b, off + i * 4 + 2, none⟩ = some (.int .i64 (d i).h.st) ∧ w.cell? ⟨b, off + i * 4 + 3, none⟩ = some (.slice (p i).c.1 (d i).n (p i).c.2) := by
  obtain ⟨b, off, rfl, hc⟩ := h.2.1.chunk (s := 4) (fun i _ => rfl) (by decide) hi
  exact ⟨b, off, rfl, hc 0 _ rfl, hc 1 _ rfl, hc 2 _ rfl, hc 3 _ rfl⟩
/-- A row of cores that came in. -/
def CsC (w : World) (a : Option Addr) (n : Nat) (d : Nat → CoD) (p : Nat → CoP) : Prop := n ≤ maxLen ∧ VCame w a (chunks n fun i => clist (d i) (p i)) ∧ ∀ i, i < n → CoC w (d i) (p i)
theorem CsC.below {w w' : World} {a : Option Addr} {n : Nat} {d : Nat → CoD} {p : Nat → CoP} (h : CsC w a n d p) (hb : Below w.heap.size w w') : CsC w' a n d p := ⟨h.1, h.2.1.below hb, fun i hi => (h.2.2 i hi).below hb⟩
theorem CsC.cr {w : World} {a : Option Addr} {n : Nat} {d : Nat → CoD} {p : Nat → CoP} (h : CsC w a n d p) (hn : n ≤ 1048576) (hx : ∀ i, i < n → CoS (d i)) : CsR w a n d p :=
  ⟨by omega, h.2.1.vrow (by rw [chunks_length (s := 4) n (fun i _ => rfl)]; omega), fun i hi => (h.2.2 i hi).cr (hx i hi)⟩
/-- A row of cores that is owned, each with its own. -/
def CsO (w : World) (a : Option Addr) (c n : Nat) (d : Nat → CoD) (p : Nat → CoP) : Prop := Rw w 58 4 a c n n (fun i => clist (d i) (p i)) (fun i => QCo (d i) (p i)) (fun i => ECo (d i) (p i))
theorem CsO.cr {w : World} {a : Option Addr} {c n : Nat} {d : Nat → CoD} {p : Nat → CoP} (h : CsO w a c n d p) (hn : n ≤ 1048576) (hx : ∀ i, i < n → CoS (d i)) : CsR w a n d p :=
  ⟨by omega, owns_vrow' h.row (by rw [chunks_length (s := 4) n (fun i _ => rfl)]; omega), fun i hi => (h.el i hi).cr (hx i hi)⟩
abbrev CTw (w : World) (lo : Nat) (a : Option Addr) (c n k : Nat) (d : Nat → CoD) (p : Nat → CoP) (z : Nat → List Value) : Prop := Tw w lo 58 4 a c n k (fun i => clist (d i) (p i)) z (fun i => QCo (d i) (p i)) (fun i => ECo (d i) (p i))
theorem core_put {w w2 : World} {lo g c n k : Nat} {d : Nat → CoD} {p : Nat → CoP} {z : Nat → List Value} (h : CTw w lo (some ⟨g, 0, none⟩) c n k d p z) (hz : ∀ i, i < n → (z i).length = 4) (hk : k < n) (b : Below w.heap.size w w2) (hlo : lo ≤ w.heap.size) {p2 : CoP} (o2 : ECo (d k) p2 w2) (l2 : ∀ b, QCo (d k) p2 b → w.heap.size ≤ b) :
    CTw ((((w2.setCell ⟨g, k * 4, none⟩ (.slice p2.r.1 (d k).h.xs.length p2.r.2)).setCell ⟨g, k * 4 + 1, none⟩ (.int .i64 (d k).h.pc)).setCell ⟨g, k * 4 + 2, none⟩ (.int .i64 (d k).h.st)).setCell ⟨g, k * 4 + 3, none⟩ (.slice p2.c.1 (d k).n p2.c.2)) lo (some ⟨g, 0, none⟩) c n (k + 1) d (fun i => if i = k then p2 else p i) z := by
  have hr := owns_below h.r.row b
  have hf : ∀ i, i < n → ((fun i => if i < k then clist (d i) (p i) else z i) i).length = 4 := fun i hi => by dsimp only; split; rfl; exact hz i hi
  have hs := store4 hr hf hk (.slice p2.r.1 (d k).h.xs.length p2.r.2) (.int .i64 (d k).h.pc) (.int .i64 (d k).h.st) (.slice p2.c.1 (d k).n p2.c.2)
  have on : Only w2 ((((w2.setCell ⟨g, k * 4, none⟩ (.slice p2.r.1 (d k).h.xs.length p2.r.2)).setCell ⟨g, k * 4 + 1, none⟩ (.int .i64 (d k).h.pc)).setCell ⟨g, k * 4 + 2, none⟩ (.int .i64 (d k).h.st)).setCell ⟨g, k * 4 + 3, none⟩ (.slice p2.c.1 (d k).n p2.c.2)) (fun b => b = g) := ((((Only.refl w2 (fun b => b = g)).setCell ⟨g, k * 4, none⟩ _ rfl).setCell ⟨g, k * 4 + 1, none⟩ _ rfl).setCell ⟨g, k * 4 + 2, none⟩ _ rfl).setCell ⟨g, k * 4 + 3, none⟩ _ rfl
  refine (h.step b hlo on hs (E' := ECo (d k) p2) o2 (fix_co _ _) (fun x hx => ⟨l2 x hx, o2.lt hx⟩)).congr (fun i hi => ?_) (fun i hi => ?_) (fun i hi => ?_)
  all_goals
    by_cases e : i = k
    · subst e; simp [clist]
    · simp [e]
theorem cr_dr {w : World} {d : CoD} {p : CoP} (h : CoR w d p) : CoR w.drew d p := h.below (below_drewN (Below.refl _ _) 1)

set_option maxRecDepth 100000 in
set_option maxHeartbeats 1000000 in
theorem eqCoreS_any (a b : Option Addr) (ca cb n : Nat) (d : Nat → CoD) (p p' : Nat → CoP) (w : World) (ha : CsR w a n d p) (hb : CsR w b n d p') :
    Calls Try.prog 19 #[.slice a n ca, .slice b n cb] w fun e w' => e = .returned (.bool true) ∧ Below w.heap.size w w' := by
  have hl : n ≤ 1048577 := ha.1
  go_enter Try.func19, Try.ntmps19
  go_wp2
  go_loopw [5] (fun i wr => ∃ k : Nat, k ≤ n ∧ i = .int .i64 k ∧ CsR wr a n d p ∧ CsR wr b n d p' ∧ Below w.heap.size w wr) (fun i _ => n - (intOf i).toNat)
  case atStart => exact ⟨0, Nat.zero_le _, rfl, ha, hb, Below.refl _ _⟩
  case round =>
    obtain ⟨k, hk, rfl, hma, hmb, hB⟩ := hrel
    by_cases hlt : k < n
    · have hi : (k : Int) < (n : Int) := by omega
      obtain ⟨ba, oa, rfl, y0, y1, y2, y3⟩ := hma.at hlt
      obtain ⟨bb, ob, rfl, z0, z1, z2, z3⟩ := hmb.at hlt
      have ra := hma.2.2 k hlt
      have rb := hmb.2.2 k hlt
      clear ha hb
      go_wp2_with fail
      go_region_with (go_at_call 34; refine (eqCore_any (d k) (p k) (p' k) _ (cr_dr ra) (cr_dr rb)).mono ?_; rintro e w1 ⟨rfl, b1⟩)
      all_goals
        have hma1 := hma.below (bel_undrew b1)
        have hmb1 := hmb.below (bel_undrew b1)
        have hB1 := bel_trans hB (bel_undrew b1)
        clear hma hmb hB b1 y0 y1 y2 y3 z0 z1 z2 z3 ra rb
        go_wp2
        go_roundw
        case rel => exact ⟨k + 1, by omega, by go_num, hma1, hmb1, hB1⟩
        case measure => simp [intOf]; omega
    · clear ha hb hma hmb
      go_wp2
      go_ret
      exact ⟨rfl, hB⟩

theorem info_core : (Try.prog.info? 58).map (fun i => (i.zero, i.size, i.bytes)) = some (some (.agg #[.slice none 0 0, .int .i64 0, .int .i64 0, .slice none 0 0]), 4, 64) := by kernel_rfl



end Go.Proofs.Ytfeabhknkoifeaa
