/- A core: its hart and what is kept; what the law's szCore, toCore, eqCore, markCore, heldCore do. -/
import Derived.Test.YtpahjfijpjgdnaaHtZ
import Derived.Test.YtpahjfijpjgdnaaBkZ
import Derived.Test.YtpahjfijpjgdnaaBkM
import Derived.Test.YtpahjfijpjgdnaaHr9
namespace Go.Proofs.Ytpahjfijpjgdnaa
open Go.RowKit
set_option linter.unusedVariables false

/-- What a core says: its hart, how many blocks are kept, and these. -/
structure CoD where
  h : TD
  n : Nat
  k : Nat → KD
/-- Where a core's rows lie. -/
structure CoP where
  r : Pl
  c : Pl
  q : Nat → Pl
@[reducible] def ccells (d : CoD) (p : CoP) : Array Value := #[.slice p.r.1 d.h.xs.length p.r.2, .int .i64 d.h.pc, .int .i64 d.h.st, .slice p.c.1 d.n p.c.2]
/-- A core that is read. -/
structure CoR (w : World) (d : CoD) (p : CoP) : Prop where
  r : Row .i64 w p.r.1 d.h.xs
  l : d.h.xs.length ≤ 1048577
  k : KR w p.c.1 d.n d.k p.q
theorem CoR.below {w w' : World} {d : CoD} {p : CoP} (h : CoR w d p) (b : Below w.heap.size w w') : CoR w' d p := ⟨h.r.below b, h.l, h.k.below b⟩
/-- A core that came in. -/
structure CoC (w : World) (d : CoD) (p : CoP) : Prop where
  r : Came .i64 w p.r.1 p.r.2 d.h.xs
  k : KC w p.c.1 d.n d.k p.q
theorem CoC.below {w w' : World} {d : CoD} {p : CoP} (h : CoC w d p) (b : Below w.heap.size w w') : CoC w' d p := ⟨h.r.below b, h.k.below b⟩
/-- How great a core is. -/
def cZ (d : CoD) : Nat := d.h.xs.length + (d.n + sumN (fun i => bkZ (d.k i)) d.n)
/-- It is not great. -/
structure CoS (d : CoD) : Prop where
  x : d.h.xs.length ≤ 1048576
  n : d.n ≤ 1048576
  k : ∀ i, i < d.n → (d.k i).n ≤ 1048576
theorem cZ_sm {d : CoD} (h : cZ d ≤ 1048576) : CoS d := by
  unfold cZ at h
  obtain ⟨hn, hx⟩ := bkZ_le (n := d.n) (d := d.k) (Z := 1048576) (by omega)
  exact ⟨by omega, hn, hx⟩
theorem CoC.cr {w : World} {d : CoD} {p : CoP} (h : CoC w d p) (s : CoS d) : CoR w d p := ⟨h.r.row (by have := s.x; omega), by have := s.x; omega, h.k.kr (by have := s.n; omega) (fun i hi => by have := s.k i hi; omega)⟩

/-- A core that is owned, in the blocks of QCo. -/
structure ECo (d : CoD) (p : CoP) (w : World) : Prop where
  r : w.ownsRow 0 3 1 (.slice p.r.1 d.h.xs.length p.r.2) d.h.xs.length (d.h.xs.map (Value.int .i64))
  k : KO w p.c.1 p.c.2 d.n d.k p.q
  ap : ∀ b, blk p.r = some b → ¬ RS p.c.1 p.c.2 d.n (fun i => QK (p.q i)) b
def QCo (d : CoD) (p : CoP) (b : Nat) : Prop := blk p.r = some b ∨ RS p.c.1 p.c.2 d.n (fun i => QK (p.q i)) b
theorem fix_co (d : CoD) (p : CoP) : Fix (QCo d p) (ECo d p) := fun w w' k h => ⟨owns_sm h.r k (fun j hj => .inl (blk_eq hj)), Rw.sm h.k (k.mono (fun b hb => .inr hb)), h.ap⟩
theorem ECo.sm {d : CoD} {p : CoP} {w w' : World} (h : ECo d p w) (k : Sm (QCo d p) w w') : ECo d p w' := fix_co d p w w' k h
theorem ECo.below {d : CoD} {p : CoP} {w w' : World} (h : ECo d p w) (b : Below w.heap.size w w') : ECo d p w' := h.sm (sm_bel b)
theorem ECo.lt {d : CoD} {p : CoP} {w : World} (h : ECo d p w) {b : Nat} (hb : QCo d p b) : b < w.heap.size := by
  rcases hb with hb | hb
  · exact (World.ownsRow.lt h.r b (blk_own hb)).2
  · exact Rw.slt h.k hb
theorem ECo.cr {d : CoD} {p : CoP} {w : World} (h : ECo d p w) (s : CoS d) : CoR w d p :=
  ⟨owns_row' h.r (by have := s.x; omega), by have := s.x; omega, h.k.kr (by have := s.n; omega) (fun i hi => by have := s.k i hi; omega)⟩
/-- What answers a core of its own. -/
def CoreP (d : CoD) (w : World) (e : Ending) (w' : World) : Prop := ∃ p, e = .returned (.agg (ccells d p)) ∧ ECo d p w' ∧ (∀ b, QCo d p b → w.heap.size ≤ b) ∧ Below w.heap.size w w'

set_option maxRecDepth 100000 in
set_option maxHeartbeats 1000000 in
theorem szCore_tot (d : CoD) (p : CoP) (L : Int) (w : World) (h0 : 0 ≤ L) (h1 : L ≤ 1048576) (hC : CoC w d p) :
    Calls Try.prog 18 #[.agg (ccells d p), .int .i64 L] w fun e w' => ∃ r, e = .returned (.int .i64 r) ∧ (r = -1 ∨ (0 ≤ r ∧ r + (cZ d : Nat) = L)) ∧ Below w.heap.size w w' := by
  have bA := bel_alloc (Below.refl w.heap.size w) (.cells (ccells d p) 60)
  have XA := Box.new w (ccells d p) 60
  have hnm : d.h.xs.length ≤ maxLen := Nat.le_trans hC.r.1 hC.r.2.1
  have hk := hC.k
  clear hC
  obtain ⟨x0, x1, x2, x3, xz⟩ := XA.at4
  go_enter Try.func18, Try.ntmps18
  go_wp2_with fail
  refine (szHart_tot d.h.pc d.h.st p.r.1 d.h.xs.length p.r.2 L _ h0 h1 hnm).mono ?_
  rintro e w1 ⟨r, rfl, hr0, b1⟩
  replace XA := XA.below b1
  have B := bel_trans bA b1
  clear x0 x1 x2 x3 xz b1 bA
  rcases hr0 with rfl | ⟨r0, r1⟩
  · clear hk XA
    go_wp2
    go_ret
    exact ⟨-1, rfl, .inl rfl, B⟩
  have hd : ¬ (r < 0) := by omega
  have hr1 : r ≤ 1048576 := by omega
  have R1 : Hid (r + (d.h.xs.length : Int) = L) := r1
  clear r1
  obtain ⟨x0, x1, x2, x3, xz⟩ := XA.at4
  go_wp2_with fail
  refine (szBlockS_tot p.c.1 p.c.2 d.n d.k p.q r _ r0 hr1 (hk.below B)).mono ?_
  rintro e w2 ⟨q, rfl, hq0, b2⟩
  have B2 := bel_trans B b2
  clear x0 x1 x2 x3 xz b2 B hk XA
  rcases hq0 with rfl | ⟨q0, q1⟩
  · go_wp2
    go_ret
    exact ⟨-1, rfl, .inl rfl, B2⟩
  have hd2 : ¬ (q < 0) := by omega
  have Q1 : Hid (q + (d.n + sumN (fun i => bkZ (d.k i)) d.n : Nat) = r) := q1
  clear q1
  go_wp2
  go_ret
  exact ⟨q, rfl, .inr ⟨q0, by have := R1.out; have := Q1.out; unfold cZ; omega⟩, B2⟩

set_option maxRecDepth 100000 in
set_option maxHeartbeats 1000000 in
theorem eqCore_any (d : CoD) (p p' : CoP) (w : World) (ha : CoR w d p) (hb : CoR w d p') :
    Calls Try.prog 24 #[.agg (ccells d p), .agg (ccells d p')] w fun e w' => e = .returned (.bool true) ∧ Below w.heap.size w w' := by
  have bA := bel_alloc (bel_alloc (Below.refl w.heap.size w) (.cells (ccells d p) 49)) (.cells (ccells d p') 49)
  obtain ⟨XA, XB⟩ := Box.two w (ccells d p) (ccells d p') 49 49
  replace ha := ha.below bA
  replace hb := hb.below bA
  obtain ⟨x0, x1, x2, x3, xz⟩ := XA.at4
  obtain ⟨y0, y1, y2, y3, yz⟩ := XB.at4
  go_enter Try.func24, Try.ntmps24
  go_wp2_with fail
  refine (eqHart_any d.h.pc d.h.st p.r.1 p'.r.1 p.r.2 p'.r.2 d.h.xs _ ha.r hb.r).mono ?_
  rintro e w1 ⟨rfl, b1⟩
  replace XA := XA.below b1
  replace XB := XB.below b1
  have B := bel_trans bA b1
  replace ha := ha.below b1
  replace hb := hb.below b1
  clear x0 x1 x2 x3 xz y0 y1 y2 y3 yz b1 bA
  obtain ⟨x0, x1, x2, x3, xz⟩ := XA.at4
  obtain ⟨y0, y1, y2, y3, yz⟩ := XB.at4
  go_wp2_with fail
  refine (eqBlockS_any p.c.1 p'.c.1 p.c.2 p'.c.2 d.n d.k p.q p'.q _ ha.k hb.k).mono ?_
  rintro e w2 ⟨rfl, b2⟩
  have B2 := bel_trans B b2
  clear x0 x1 x2 x3 xz y0 y1 y2 y3 yz b2 B ha hb XA XB
  go_wp2
  go_ret
  exact ⟨rfl, B2⟩

set_option maxRecDepth 100000 in
set_option maxHeartbeats 2000000 in
theorem toCore_own (d : CoD) (p : CoP) (w : World) (hs : CoS d) (ha : CoR w d p) :
    Calls Try.prog 21 #[.agg (ccells d p)] w (CoreP d w) := by
  have bA := bel_alloc (bel_alloc (bel_alloc (Below.refl w.heap.size w) (.cells (ccells d p) 60)) (.cells #[.slice none 0 0, .int .i64 0, .int .i64 0, .slice none 0 0] 49)) (.cells #[.slice none 0 0, .int .i64 0, .int .i64 0, .slice none 0 0] 49)
  obtain ⟨XA, XR⟩ := Box.two w (ccells d p) #[.slice none 0 0, .int .i64 0, .int .i64 0, .slice none 0 0] 60 49
  replace XA := XA.below (bel_alloc (Below.refl _ _) (.cells #[.slice none 0 0, .int .i64 0, .int .i64 0, .slice none 0 0] 49))
  replace XR := XR.below (bel_alloc (Below.refl _ _) (.cells #[.slice none 0 0, .int .i64 0, .int .i64 0, .slice none 0 0] 49))
  have XO := Box.new ((w.alloc (.cells (ccells d p) 60)).alloc (.cells #[.slice none 0 0, .int .i64 0, .int .i64 0, .slice none 0 0] 49)) #[.slice none 0 0, .int .i64 0, .int .i64 0, .slice none 0 0] 49
  simp only [World.size_alloc] at XO
  have HA : Hid (CoR w d p) := ha
  replace ha := ha.below bA
  have HS : Hid (CoS d) := hs
  have hx1 := hs.x
  clear hs
  obtain ⟨x0, x1, x2, x3, xz⟩ := XA.at4
  go_enter Try.func21, Try.ntmps21
  go_wp2_with fail
  refine (toHart_any d.h.pc d.h.st p.r.1 p.r.2 d.h.xs _ hx1 ha.r).mono ?_
  rintro e w1 ⟨v1, rfl, o1, b1⟩
  obtain ⟨a1, c1, rfl⟩ := owns_slice o1
  have hz1 : w.heap.size + 3 ≤ w1.heap.size := by have := b1.size; simp at this; omega
  have L1 : Hid (∀ j, (Value.slice a1 d.h.xs.length c1).ownBlock = some j → w.heap.size + 3 ≤ j ∧ j < w1.heap.size) := fun j h => by have := o1.lt j h; simp at this; omega
  replace XA := XA.below b1
  replace XR := XR.below b1
  replace XO := XO.below b1
  replace ha := ha.below b1
  replace bA := bel_trans bA b1
  have O1 : Hid (w1.ownsRow 0 3 1 (.slice a1 d.h.xs.length c1) d.h.xs.length (d.h.xs.map (Value.int .i64))) := owns_base o1 (Nat.zero_le _)
  clear x0 x1 x2 x3 xz b1 o1
  obtain ⟨x0, x1, x2, x3, xz⟩ := XA.at4
  obtain ⟨y0, y1, y2, y3, yz⟩ := XO.at4
  have fy0 := XO.frozen 0
  have fy1 := XO.frozen 1
  have fy2 := XO.frozen 2
  go_wp2_with fail
  obtain ⟨V, hV⟩ : ∃ V, ((w1.setCell ⟨w.heap.size + 1 + 1, 0, none⟩ (.slice a1 d.h.xs.length c1)).setCell ⟨w.heap.size + 1 + 1, 1, none⟩ (.int .i64 d.h.pc)).setCell ⟨w.heap.size + 1 + 1, 2, none⟩ (.int .i64 d.h.st) = V := ⟨_, rfl⟩
  rw [hV]
  have K1 : Only w1 V (fun b => b = w.heap.size + 1 + 1) := by
    rw [← hV]
    exact (((Only.refl w1 (fun b => b = w.heap.size + 1 + 1)).setCell _ _ rfl).setCell _ _ rfl).setCell _ _ rfl
  have XO2 : Box V (w.heap.size + 1 + 1) #[.slice a1 d.h.xs.length c1, .int .i64 d.h.pc, .int .i64 d.h.st, .slice none 0 0] 49 := by
    rw [← hV]
    exact heap_setCell_same _ _ 2 _ _ _ (heap_setCell_same _ _ 1 _ _ _ (heap_setCell_same _ _ 0 _ _ _ XO))
  have OV : Hid (V.ownsRow 0 3 1 (.slice a1 d.h.xs.length c1) d.h.xs.length (d.h.xs.map (Value.int .i64))) := owns_only O1.out K1 (fun j hj e => by have := L1.out j hj; omega)
  replace XA := XA.only K1 (by omega)
  replace XR := XR.only K1 (by omega)
  have BV : Below w.heap.size w V := K1.bel bA (fun i hi => by omega)
  have hzV : w1.heap.size ≤ V.heap.size := K1.size
  have kR : KR V p.c.1 d.n d.k p.q := HA.out.k.below BV
  clear x0 x1 x2 x3 xz y0 y1 y2 y3 yz fy0 fy1 fy2 XO hV K1 O1 bA ha
  obtain ⟨x0, x1, x2, x3, xz⟩ := XA.at4
  go_wp2_with fail
  refine (toBlockS_own p.c.1 p.c.2 d.n d.k p.q _ HS.out.n HS.out.k kR).mono ?_
  rintro e w3 ⟨a3, c3, p3, rfl, O3, l3, b3⟩
  have hz3 : V.heap.size ≤ w3.heap.size := b3.size
  have OR : Hid (w3.ownsRow 0 3 1 (.slice a1 d.h.xs.length c1) d.h.xs.length (d.h.xs.map (Value.int .i64))) := owns_below OV.out b3
  have OK : Hid (KO w3 a3 c3 d.n d.k p3) := O3
  have LK : Hid (∀ b, RS a3 c3 d.n (fun i => QK (p3 i)) b → V.heap.size ≤ b) := l3
  replace XR := XR.below b3
  replace XO2 := XO2.below b3
  have B3 := bel_trans BV b3
  clear x0 x1 x2 x3 xz b3 OV O3 l3 kR BV XA
  obtain ⟨y0, y1, y2, y3, yz⟩ := XO2.at4
  obtain ⟨m0, m1, m2, m3, mz⟩ := XR.at4
  have fy3 := XO2.frozen 3
  have fm0 := XR.frozen 0
  have fm1 := XR.frozen 1
  have fm2 := XR.frozen 2
  have fm3 := XR.frozen 3
  clear XR XO2
  go_wp2
  have EC : ∀ W, Only w3 W (fun b => b = w.heap.size + 1 + 1 ∨ b = w.heap.size + 1) → ECo d ⟨(a1, c1), (a3, c3), p3⟩ W ∧ Below w.heap.size w W := fun W k =>
    ⟨⟨owns_only OR.out k (fun j hj e => by have := L1.out j hj; omega), Rw.sm OK.out (k.sm (fun b hb e => by have := LK.out b hb; omega)), fun b hb hr => by have := L1.out b (blk_own (p := (a1, c1)) hb); have := LK.out b hr; omega⟩, k.bel B3 (fun i hi => by omega)⟩
  refine bodyPost_ret (v := .agg #[.slice a1 d.h.xs.length c1, .int .i64 d.h.pc, .int .i64 d.h.st, .slice a3 d.n c3]) (by simp [results, Try.results21, go_sem, m0, m1, m2, m3]) rfl ⟨⟨(a1, c1), (a3, c3), p3⟩, rfl, ?_⟩
  have hq : ∀ b, QCo d ⟨(a1, c1), (a3, c3), p3⟩ b → w.heap.size ≤ b := fun b hb => by
    rcases hb with hb | hb
    · have := L1.out b (blk_own (p := (a1, c1)) hb); omega
    · have := LK.out b hb; omega
  refine (fun (h : _ ∧ _) => ⟨h.1, hq, h.2⟩) (EC _ ?_)
  repeat refine Only.setCell ?_ _ _ (by simp)
  exact Only.refl _ _

/-- A core that is marked. -/
def mCo (k : Int) (d : CoD) : CoD := ⟨⟨mki k d.h.xs.length, d.h.pc, d.h.st⟩, d.n, fun i => mK (kt (k + d.h.xs.length) (fun i => cK (d.k i)) i) (d.k i)⟩
/-- The number behind. -/
def kCo (k : Int) (d : CoD) : Int := kt (k + d.h.xs.length) (fun i => cK (d.k i)) d.n
theorem qco_mark (k : Int) (d : CoD) (p : CoP) : QCo (mCo k d) p = QCo d p := rfl


theorem kCo_le {d : CoD} (hs : CoS d) (k : Int) (hk : 0 ≤ k) : k ≤ kCo k d ∧ kCo k d ≤ k + 1048576 + 1048576 * 5242881 := by
  have h1 := kt_le (k0 := k + d.h.xs.length) (c := fun i => cK (d.k i)) (C := 5242881) (Nat.le_refl d.n) (fun i hi => by have := hs.k i hi; unfold cK; omega)
  have h2 := hs.x
  have h3 := hs.n
  have h4 : d.n * 5242881 ≤ 1048576 * 5242881 := Nat.mul_le_mul_right _ h3
  unfold kCo
  omega

end Go.Proofs.Ytpahjfijpjgdnaa
