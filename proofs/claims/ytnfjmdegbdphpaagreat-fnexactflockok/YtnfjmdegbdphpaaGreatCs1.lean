/- Co1 and OpenCo and Cs1: see the heads of the parts. -/
import Derived.Test.YtnfjmdegbdphpaaGreatOpenH
import Derived.Test.YtnfjmdegbdphpaaGreatBkZ
import Derived.Test.YtnfjmdegbdphpaaGreatHr9
/- A core: its hart and what is kept; what the law's szCore, toCore, eqCore, markCore, heldCore do. -/
namespace Go.Proofs.YtnfjmdegbdphpaaGreat
open Go.RowKit
set_option linter.unusedVariables false

/-- What a core says: its hart, how many blocks are kept, and these. -/
structure CoD where
  h : TD
  n : Nat
  k : Nat → KD
/-- Where a core's rows lie. -/
structure CoP where
  r : Pl
  c : Pl
  q : Nat → Pl
@[reducible] def ccells (d : CoD) (p : CoP) : Array Value := #[.slice p.r.1 d.h.xs.length p.r.2, .int .i64 d.h.pc, .int .i64 d.h.st, .slice p.c.1 d.n p.c.2]
/-- A core that is read. -/
structure CoR (w : World) (d : CoD) (p : CoP) : Prop where
  r : Row .i64 w p.r.1 d.h.xs
  l : d.h.xs.length ≤ 1048577
  k : KR w p.c.1 d.n d.k p.q
theorem CoR.below {w w' : World} {d : CoD} {p : CoP} (h : CoR w d p) (b : Below w.heap.size w w') : CoR w' d p := ⟨h.r.below b, h.l, h.k.below b⟩
/-- A core that came in. -/
structure CoC (w : World) (d : CoD) (p : CoP) : Prop where
  r : Came .i64 w p.r.1 p.r.2 d.h.xs
  k : KC w p.c.1 d.n d.k p.q
theorem CoC.below {w w' : World} {d : CoD} {p : CoP} (h : CoC w d p) (b : Below w.heap.size w w') : CoC w' d p := ⟨h.r.below b, h.k.below b⟩
/-- How great a core is. -/
def cZ (d : CoD) : Nat := d.h.xs.length + (d.n + sumN (fun i => bkZ (d.k i)) d.n)
/-- It is not great. -/
structure CoS (d : CoD) : Prop where
  x : d.h.xs.length ≤ 1048576
  n : d.n ≤ 1048576
  k : ∀ i, i < d.n → (d.k i).n ≤ 1048576
theorem cZ_sm {d : CoD} (h : cZ d ≤ 1048576) : CoS d := by
  unfold cZ at h
  obtain ⟨hn, hx⟩ := bkZ_le (n := d.n) (d := d.k) (Z := 1048576) (by omega)
  exact ⟨by omega, hn, hx⟩
theorem CoC.cr {w : World} {d : CoD} {p : CoP} (h : CoC w d p) (s : CoS d) : CoR w d p := ⟨h.r.row (by have := s.x; omega), by have := s.x; omega, h.k.kr (by have := s.n; omega) (fun i hi => by have := s.k i hi; omega)⟩

/-- A core that is owned, in the blocks of QCo. -/
structure ECo (d : CoD) (p : CoP) (w : World) : Prop where
  r : w.ownsRow 0 3 1 (.slice p.r.1 d.h.xs.length p.r.2) d.h.xs.length (d.h.xs.map (Value.int .i64))
  k : KO w p.c.1 p.c.2 d.n d.k p.q
  ap : ∀ b, blk p.r = some b → ¬ RS p.c.1 p.c.2 d.n (fun i => QK (p.q i)) b
def QCo (d : CoD) (p : CoP) (b : Nat) : Prop := blk p.r = some b ∨ RS p.c.1 p.c.2 d.n (fun i => QK (p.q i)) b
theorem fix_co (d : CoD) (p : CoP) : Fix (QCo d p) (ECo d p) := fun w w' k h => ⟨owns_sm h.r k (fun j hj => .inl (blk_eq hj)), Rw.sm h.k (k.mono (fun b hb => .inr hb)), h.ap⟩
theorem ECo.sm {d : CoD} {p : CoP} {w w' : World} (h : ECo d p w) (k : Sm (QCo d p) w w') : ECo d p w' := fix_co d p w w' k h
theorem ECo.below {d : CoD} {p : CoP} {w w' : World} (h : ECo d p w) (b : Below w.heap.size w w') : ECo d p w' := h.sm (sm_bel b)
theorem ECo.lt {d : CoD} {p : CoP} {w : World} (h : ECo d p w) {b : Nat} (hb : QCo d p b) : b < w.heap.size := by
  rcases hb with hb | hb
  · exact (World.ownsRow.lt h.r b (blk_own hb)).2
  · exact Rw.slt h.k hb
theorem ECo.cr {d : CoD} {p : CoP} {w : World} (h : ECo d p w) (s : CoS d) : CoR w d p :=
  ⟨owns_row' h.r (by have := s.x; omega), by have := s.x; omega, h.k.kr (by have := s.n; omega) (fun i hi => by have := s.k i hi; omega)⟩
/-- What answers a core of its own. -/
def CoreP (d : CoD) (w : World) (e : Ending) (w' : World) : Prop := ∃ p, e = .returned (.agg (ccells d p)) ∧ ECo d p w' ∧ (∀ b, QCo d p b → w.heap.size ≤ b) ∧ Below w.heap.size w w'

set_option maxRecDepth 100000 in
set_option maxHeartbeats 1000000 in
theorem szCore_tot (d : CoD) (p : CoP) (L : Int) (w : World) (h0 : 0 ≤ L) (h1 : L ≤ 1048576) (hC : CoC w d p) :
    Calls Tryz.prog 21 #[.agg (ccells d p), .int .i64 L] w fun e w' => ∃ r, e = .returned (.int .i64 r) ∧ (r = -1 ∨ (0 ≤ r ∧ r + (cZ d : Nat) = L)) ∧ Below w.heap.size w w' := by
  have bA := bel_alloc (Below.refl w.heap.size w) (.cells (ccells d p) 67)
  have XA := Box.new w (ccells d p) 67
  have hnm : d.h.xs.length ≤ maxLen := Nat.le_trans hC.r.1 hC.r.2.1
  have hk := hC.k
  clear hC
  obtain ⟨x0, x1, x2, x3, xz⟩ := XA.at4
  go_enter Tryz.func21, Tryz.ntmps21
  go_wp2_with fail
  refine (szHart_tot d.h.pc d.h.st p.r.1 d.h.xs.length p.r.2 L _ h0 h1 hnm).mono ?_
  rintro e w1 ⟨r, rfl, hr0, b1⟩
  replace XA := XA.below b1
  have B := bel_trans bA b1
  clear x0 x1 x2 x3 xz b1 bA
  rcases hr0 with rfl | ⟨r0, r1⟩
  · clear hk XA
    go_wp2
    go_ret
    exact ⟨-1, rfl, .inl rfl, B⟩
  have hd : ¬ (r < 0) := by omega
  have hr1 : r ≤ 1048576 := by omega
  have R1 : Hid (r + (d.h.xs.length : Int) = L) := r1
  clear r1
  obtain ⟨x0, x1, x2, x3, xz⟩ := XA.at4
  go_wp2_with fail
  refine (szBlockS_tot p.c.1 p.c.2 d.n d.k p.q r _ r0 hr1 (hk.below B)).mono ?_
  rintro e w2 ⟨q, rfl, hq0, b2⟩
  have B2 := bel_trans B b2
  clear x0 x1 x2 x3 xz b2 B hk XA
  rcases hq0 with rfl | ⟨q0, q1⟩
  · go_wp2
    go_ret
    exact ⟨-1, rfl, .inl rfl, B2⟩
  have hd2 : ¬ (q < 0) := by omega
  have Q1 : Hid (q + (d.n + sumN (fun i => bkZ (d.k i)) d.n : Nat) = r) := q1
  clear q1
  go_wp2
  go_ret
  exact ⟨q, rfl, .inr ⟨q0, by have := R1.out; have := Q1.out; unfold cZ; omega⟩, B2⟩

set_option maxRecDepth 100000 in
set_option maxHeartbeats 1000000 in
theorem eqCore_any (d : CoD) (p p' : CoP) (w : World) (ha : CoR w d p) (hb : CoR w d p') :
    Calls Tryz.prog 39 #[.agg (ccells d p), .agg (ccells d p')] w fun e w' => e = .returned (.bool true) ∧ Below w.heap.size w w' := by
  have bA := bel_alloc (bel_alloc (Below.refl w.heap.size w) (.cells (ccells d p) 50)) (.cells (ccells d p') 50)
  obtain ⟨XA, XB⟩ := Box.two w (ccells d p) (ccells d p') 50 50
  replace ha := ha.below bA
  replace hb := hb.below bA
  obtain ⟨x0, x1, x2, x3, xz⟩ := XA.at4
  obtain ⟨y0, y1, y2, y3, yz⟩ := XB.at4
  go_enter Tryz.func39, Tryz.ntmps39
  go_wp2_with fail
  refine (eqHart_any d.h.pc d.h.st p.r.1 p'.r.1 p.r.2 p'.r.2 d.h.xs _ ha.r hb.r).mono ?_
  rintro e w1 ⟨rfl, b1⟩
  replace XA := XA.below b1
  replace XB := XB.below b1
  have B := bel_trans bA b1
  replace ha := ha.below b1
  replace hb := hb.below b1
  clear x0 x1 x2 x3 xz y0 y1 y2 y3 yz b1 bA
  obtain ⟨x0, x1, x2, x3, xz⟩ := XA.at4
  obtain ⟨y0, y1, y2, y3, yz⟩ := XB.at4
  go_wp2_with fail
  refine (eqBlockS_any p.c.1 p'.c.1 p.c.2 p'.c.2 d.n d.k p.q p'.q _ ha.k hb.k).mono ?_
  rintro e w2 ⟨rfl, b2⟩
  have B2 := bel_trans B b2
  clear x0 x1 x2 x3 xz y0 y1 y2 y3 yz b2 B ha hb XA XB
  go_wp2
  go_ret
  exact ⟨rfl, B2⟩

set_option maxRecDepth 100000 in
set_option maxHeartbeats 2000000 in
theorem toCore_own (d : CoD) (p : CoP) (w : World) (hs : CoS d) (ha : CoR w d p) :
    Calls Tryz.prog 29 #[.agg (ccells d p)] w (CoreP d w) := by
  have bA := bel_alloc (bel_alloc (bel_alloc (Below.refl w.heap.size w) (.cells (ccells d p) 67)) (.cells #[.slice none 0 0, .int .i64 0, .int .i64 0, .slice none 0 0] 50)) (.cells #[.slice none 0 0, .int .i64 0, .int .i64 0, .slice none 0 0] 50)
  obtain ⟨XA, XR⟩ := Box.two w (ccells d p) #[.slice none 0 0, .int .i64 0, .int .i64 0, .slice none 0 0] 67 50
  replace XA := XA.below (bel_alloc (Below.refl _ _) (.cells #[.slice none 0 0, .int .i64 0, .int .i64 0, .slice none 0 0] 50))
  replace XR := XR.below (bel_alloc (Below.refl _ _) (.cells #[.slice none 0 0, .int .i64 0, .int .i64 0, .slice none 0 0] 50))
  have XO := Box.new ((w.alloc (.cells (ccells d p) 67)).alloc (.cells #[.slice none 0 0, .int .i64 0, .int .i64 0, .slice none 0 0] 50)) #[.slice none 0 0, .int .i64 0, .int .i64 0, .slice none 0 0] 50
  simp only [World.size_alloc] at XO
  have HA : Hid (CoR w d p) := ha
  replace ha := ha.below bA
  have HS : Hid (CoS d) := hs
  have hx1 := hs.x
  clear hs
  obtain ⟨x0, x1, x2, x3, xz⟩ := XA.at4
  go_enter Tryz.func29, Tryz.ntmps29
  go_wp2_with fail
  refine (toHart_any d.h.pc d.h.st p.r.1 p.r.2 d.h.xs _ hx1 ha.r).mono ?_
  rintro e w1 ⟨v1, rfl, o1, b1⟩
  obtain ⟨a1, c1, rfl⟩ := owns_slice o1
  have hz1 : w.heap.size + 3 ≤ w1.heap.size := by have := b1.size; simp at this; omega
  have L1 : Hid (∀ j, (Value.slice a1 d.h.xs.length c1).ownBlock = some j → w.heap.size + 3 ≤ j ∧ j < w1.heap.size) := fun j h => by have := o1.lt j h; simp at this; omega
  replace XA := XA.below b1
  replace XR := XR.below b1
  replace XO := XO.below b1
  replace ha := ha.below b1
  replace bA := bel_trans bA b1
  have O1 : Hid (w1.ownsRow 0 3 1 (.slice a1 d.h.xs.length c1) d.h.xs.length (d.h.xs.map (Value.int .i64))) := owns_base o1 (Nat.zero_le _)
  clear x0 x1 x2 x3 xz b1 o1
  obtain ⟨x0, x1, x2, x3, xz⟩ := XA.at4
  obtain ⟨y0, y1, y2, y3, yz⟩ := XO.at4
  have fy0 := XO.frozen 0
  have fy1 := XO.frozen 1
  have fy2 := XO.frozen 2
  go_wp2_with fail
  obtain ⟨V, hV⟩ : ∃ V, ((w1.setCell ⟨w.heap.size + 1 + 1, 0, none⟩ (.slice a1 d.h.xs.length c1)).setCell ⟨w.heap.size + 1 + 1, 1, none⟩ (.int .i64 d.h.pc)).setCell ⟨w.heap.size + 1 + 1, 2, none⟩ (.int .i64 d.h.st) = V := ⟨_, rfl⟩
  rw [hV]
  have K1 : Only w1 V (fun b => b = w.heap.size + 1 + 1) := by
    rw [← hV]
    exact (((Only.refl w1 (fun b => b = w.heap.size + 1 + 1)).setCell _ _ rfl).setCell _ _ rfl).setCell _ _ rfl
  have XO2 : Box V (w.heap.size + 1 + 1) #[.slice a1 d.h.xs.length c1, .int .i64 d.h.pc, .int .i64 d.h.st, .slice none 0 0] 50 := by
    rw [← hV]
    exact heap_setCell_same _ _ 2 _ _ _ (heap_setCell_same _ _ 1 _ _ _ (heap_setCell_same _ _ 0 _ _ _ XO))
  have OV : Hid (V.ownsRow 0 3 1 (.slice a1 d.h.xs.length c1) d.h.xs.length (d.h.xs.map (Value.int .i64))) := owns_only O1.out K1 (fun j hj e => by have := L1.out j hj; omega)
  replace XA := XA.only K1 (by omega)
  replace XR := XR.only K1 (by omega)
  have BV : Below w.heap.size w V := K1.bel bA (fun i hi => by omega)
  have hzV : w1.heap.size ≤ V.heap.size := K1.size
  have kR : KR V p.c.1 d.n d.k p.q := HA.out.k.below BV
  clear x0 x1 x2 x3 xz y0 y1 y2 y3 yz fy0 fy1 fy2 XO hV K1 O1 bA ha
  obtain ⟨x0, x1, x2, x3, xz⟩ := XA.at4
  go_wp2_with fail
  refine (toBlockS_own p.c.1 p.c.2 d.n d.k p.q _ HS.out.n HS.out.k kR).mono ?_
  rintro e w3 ⟨a3, c3, p3, rfl, O3, l3, b3⟩
  have hz3 : V.heap.size ≤ w3.heap.size := b3.size
  have OR : Hid (w3.ownsRow 0 3 1 (.slice a1 d.h.xs.length c1) d.h.xs.length (d.h.xs.map (Value.int .i64))) := owns_below OV.out b3
  have OK : Hid (KO w3 a3 c3 d.n d.k p3) := O3
  have LK : Hid (∀ b, RS a3 c3 d.n (fun i => QK (p3 i)) b → V.heap.size ≤ b) := l3
  replace XR := XR.below b3
  replace XO2 := XO2.below b3
  have B3 := bel_trans BV b3
  clear x0 x1 x2 x3 xz b3 OV O3 l3 kR BV XA
  obtain ⟨y0, y1, y2, y3, yz⟩ := XO2.at4
  obtain ⟨m0, m1, m2, m3, mz⟩ := XR.at4
  have fy3 := XO2.frozen 3
  have fm0 := XR.frozen 0
  have fm1 := XR.frozen 1
  have fm2 := XR.frozen 2
  have fm3 := XR.frozen 3
  clear XR XO2
  go_wp2
  have EC : ∀ W, Only w3 W (fun b => b = w.heap.size + 1 + 1 ∨ b = w.heap.size + 1) → ECo d ⟨(a1, c1), (a3, c3), p3⟩ W ∧ Below w.heap.size w W := fun W k =>
    ⟨⟨owns_only OR.out k (fun j hj e => by have := L1.out j hj; omega), Rw.sm OK.out (k.sm (fun b hb e => by have := LK.out b hb; omega)), fun b hb hr => by have := L1.out b (blk_own (p := (a1, c1)) hb); have := LK.out b hr; omega⟩, k.bel B3 (fun i hi => by omega)⟩
  refine bodyPost_ret (v := .agg #[.slice a1 d.h.xs.length c1, .int .i64 d.h.pc, .int .i64 d.h.st, .slice a3 d.n c3]) (by simp [results, Tryz.results29, go_sem, m0, m1, m2, m3]) rfl ⟨⟨(a1, c1), (a3, c3), p3⟩, rfl, ?_⟩
  have hq : ∀ b, QCo d ⟨(a1, c1), (a3, c3), p3⟩ b → w.heap.size ≤ b := fun b hb => by
    rcases hb with hb | hb
    · have := L1.out b (blk_own (p := (a1, c1)) hb); omega
    · have := LK.out b hb; omega
  refine (fun (h : _ ∧ _) => ⟨h.1, hq, h.2⟩) (EC _ ?_)
  repeat refine Only.setCell ?_ _ _ (by simp)
  exact Only.refl _ _

/-- A core that is marked. -/
def mCo (k : Int) (d : CoD) : CoD := ⟨⟨mki k d.h.xs.length, d.h.pc, d.h.st⟩, d.n, fun i => mK (kt (k + d.h.xs.length) (fun i => cK (d.k i)) i) (d.k i)⟩
/-- The number behind. -/
def kCo (k : Int) (d : CoD) : Int := kt (k + d.h.xs.length) (fun i => cK (d.k i)) d.n
theorem qco_mark (k : Int) (d : CoD) (p : CoP) : QCo (mCo k d) p = QCo d p := rfl


theorem kCo_le {d : CoD} (hs : CoS d) (k : Int) (hk : 0 ≤ k) : k ≤ kCo k d ∧ kCo k d ≤ k + 1048576 + 1048576 * 5242881 := by
  have h1 := kt_le (k0 := k + d.h.xs.length) (c := fun i => cK (d.k i)) (C := 5242881) (Nat.le_refl d.n) (fun i hi => by have := hs.k i hi; unfold cK; omega)
  have h2 := hs.x
  have h3 := hs.n
  have h4 : d.n * 5242881 ≤ 1048576 * 5242881 := Nat.mul_le_mul_right _ h3
  unfold kCo
  omega

end Go.Proofs.YtnfjmdegbdphpaaGreat

/- A core as the row hands it over. -/
namespace Go.Proofs.YtnfjmdegbdphpaaGreat
open Go.ChangeShapes Go.WideShapes Go.ChangeAt Go.RowKit
set_option linter.unusedVariables false

theorem cells_core' : Tryz.prog.cellsOf 67 = 4 := by kernel_rfl
theorem cells_hart3 : Tryz.prog.cellsOf 64 = 3 := by kernel_rfl
theorem cells_blocks1 : Tryz.prog.cellsOf 65 = 1 := by kernel_rfl
set_option maxRecDepth 100000 in
theorem core_cells {H : Type} {enc : TypeId × Value → H} {W : World} {base : Nat} {held : Bool} {fuel : Nat} {cs : List Value} {x : DataW H × List MemPlace} (h : DataW.trod enc Tryz.prog W base (fun _ => true) held fuel 67 cs = some x) :
    ∃ (d : CoD) (p : CoP), cs = (ccells d p).toList ∧ CoC W d p := by
  obtain ⟨ys, n, _, _, hl, hyl, hf⟩ := DataW.trod_struct Tryz.underlying67 h
  rw [cells_core'] at hl
  match cs, hl, ys, hyl with
  | [c0, c1, c2, c3], _, [y0, y1], _ =>
    have g0 := hf 0 _ rfl
    have g1 := hf 1 _ rfl
    simp [cells_hart3, cells_blocks1] at g0 g1
    obtain ⟨d, p, e, hc⟩ := hart_cells g0
    obtain ⟨a, c, m, k, q, e1, hk⟩ := open_blocks0 g1
    subst e1
    simp only [htcells, List.cons.injEq, and_true] at e
    obtain ⟨rfl, rfl, rfl⟩ := e
    exact ⟨⟨d, m, k⟩, ⟨p, (a, c), q⟩, rfl, hc, hk⟩
set_option maxRecDepth 100000 in
theorem open_core {H : Type} {enc : TypeId × Value → H} {W : World} {base : Nat} {held : Bool} {r : Reach} {b0 : Nat} {v : Value} {d : DataW H} {q : List MemPlace}
    (hv : Value.okWide Tryz.prog W r b0 67 v) (h : DataW.Trod enc Tryz.prog W base (fun _ => true) held 67 v d q) :
    ∃ (D : CoD) (p : CoP), v = .agg (ccells D p) ∧ CoC W D p := by
  obtain ⟨cs, rfl, hsz⟩ := okWide_struct Tryz.underlying67 hv
  obtain ⟨fuel, hf⟩ := h
  obtain ⟨cs⟩ := cs
  obtain ⟨D, p, e, hc⟩ := core_cells (cs := cs) (by simpa [Value.cells] using hf)
  subst e
  exact ⟨D, p, rfl, hc⟩
end Go.Proofs.YtnfjmdegbdphpaaGreat

/- Rows of cores: what a reader is told; what the law's eqCoreS, toCoreS, szCoreS do; a row of cores as it came in. -/
namespace Go.Proofs.YtnfjmdegbdphpaaGreat
open Go.ChangeShapes Go.WideShapes Go.ChangeAt Go.RowKit
set_option linter.unusedVariables false

theorem store4 {w : World} {lo e n g c k : Nat} {f : Nat → List Value} (h : w.ownsRow lo e 4 (.slice (some ⟨g, 0, none⟩) n c) n (chunks n f)) (hf : ∀ i, i < n → (f i).length = 4) (hk : k < n) (c0 c1 c2 c3 : Value) :
    ((((w.setCell ⟨g, k * 4, none⟩ c0).setCell ⟨g, k * 4 + 1, none⟩ c1).setCell ⟨g, k * 4 + 2, none⟩ c2).setCell ⟨g, k * 4 + 3, none⟩ c3).ownsRow lo e 4 (.slice (some ⟨g, 0, none⟩) n c) n (chunks n fun i => if i = k then [c0, c1, c2, c3] else f i) := by
  have h1 := owns_stored h hf hk (j := 0) (by decide) c0
  have h2 := owns_stored h1 (set_len hf _ _ _) hk (j := 1) (by decide) c1
  have h3 := owns_stored h2 (set_len (set_len hf _ _ _) _ _ _) hk (j := 2) (by decide) c2
  have h4 := owns_stored h3 (set_len (set_len (set_len hf _ _ _) _ _ _) _ _ _) hk (j := 3) (by decide) c3
  refine owns_congr h4 (fun i hi => ?_)
  have hl := hf i hi
  by_cases e : i = k
  · simp only [if_pos e]
    match hq : f i, hl with
    | [x, y, z, u], _ => rfl
  · simp only [if_neg e]

def clist (d : CoD) (p : CoP) : List Value := [.slice p.r.1 d.h.xs.length p.r.2, .int .i64 d.h.pc, .int .i64 d.h.st, .slice p.c.1 d.n p.c.2]
def CsR (w : World) (a : Option Addr) (n : Nat) (d : Nat → CoD) (p : Nat → CoP) : Prop := n ≤ 1048577 ∧ VRow w a (chunks n fun i => clist (d i) (p i)) ∧ ∀ i, i < n → CoR w (d i) (p i)
theorem CsR.below {w w' : World} {a : Option Addr} {n : Nat} {d : Nat → CoD} {p : Nat → CoP} (h : CsR w a n d p) (hb : Below w.heap.size w w') : CsR w' a n d p := ⟨h.1, h.2.1.below hb, fun i hi => (h.2.2 i hi).below hb⟩
theorem CsR.at {w : World} {a : Option Addr} {n : Nat} {d : Nat → CoD} {p : Nat → CoP} (h : CsR w a n d p) {i : Nat} (hi : i < n) :
    ∃ b off, a = some ⟨b, off, none⟩ ∧ w.cell? ⟨b, off + i * 4, none⟩ = some (.slice (p i).r.1 (d i).h.xs.length (p i).r.2) ∧ w.cell? ⟨b, off + i * 4 + 1, none⟩ = some (.int .i64 (d i).h.pc) ∧ w.cell? ⟨b, off + i * 4 + 2, none⟩ = some (.int .i64 (d i).h.st) ∧ w.cell? ⟨b, off + i * 4 + 3, none⟩ = some (.slice (p i).c.1 (d i).n (p i).c.2) := by
  obtain ⟨b, off, rfl, hc⟩ := h.2.1.chunk (s := 4) (fun i _ => rfl) (by decide) hi
  exact ⟨b, off, rfl, hc 0 _ rfl, hc 1 _ rfl, hc 2 _ rfl, hc 3 _ rfl⟩
/-- A row of cores that came in. -/
def CsC (w : World) (a : Option Addr) (n : Nat) (d : Nat → CoD) (p : Nat → CoP) : Prop := n ≤ maxLen ∧ VCame w a (chunks n fun i => clist (d i) (p i)) ∧ ∀ i, i < n → CoC w (d i) (p i)
theorem CsC.below {w w' : World} {a : Option Addr} {n : Nat} {d : Nat → CoD} {p : Nat → CoP} (h : CsC w a n d p) (hb : Below w.heap.size w w') : CsC w' a n d p := ⟨h.1, h.2.1.below hb, fun i hi => (h.2.2 i hi).below hb⟩
theorem CsC.cr {w : World} {a : Option Addr} {n : Nat} {d : Nat → CoD} {p : Nat → CoP} (h : CsC w a n d p) (hn : n ≤ 1048576) (hx : ∀ i, i < n → CoS (d i)) : CsR w a n d p :=
  ⟨by omega, h.2.1.vrow (by rw [chunks_length (s := 4) n (fun i _ => rfl)]; omega), fun i hi => (h.2.2 i hi).cr (hx i hi)⟩
/-- A row of cores that is owned, each with its own. -/
def CsO (w : World) (a : Option Addr) (c n : Nat) (d : Nat → CoD) (p : Nat → CoP) : Prop := Rw w 50 4 a c n n (fun i => clist (d i) (p i)) (fun i => QCo (d i) (p i)) (fun i => ECo (d i) (p i))
theorem CsO.cr {w : World} {a : Option Addr} {c n : Nat} {d : Nat → CoD} {p : Nat → CoP} (h : CsO w a c n d p) (hn : n ≤ 1048576) (hx : ∀ i, i < n → CoS (d i)) : CsR w a n d p :=
  ⟨by omega, owns_vrow' h.row (by rw [chunks_length (s := 4) n (fun i _ => rfl)]; omega), fun i hi => (h.el i hi).cr (hx i hi)⟩
abbrev CTw (w : World) (lo : Nat) (a : Option Addr) (c n k : Nat) (d : Nat → CoD) (p : Nat → CoP) (z : Nat → List Value) : Prop := Tw w lo 50 4 a c n k (fun i => clist (d i) (p i)) z (fun i => QCo (d i) (p i)) (fun i => ECo (d i) (p i))
theorem core_put {w w2 : World} {lo g c n k : Nat} {d : Nat → CoD} {p : Nat → CoP} {z : Nat → List Value} (h : CTw w lo (some ⟨g, 0, none⟩) c n k d p z) (hz : ∀ i, i < n → (z i).length = 4) (hk : k < n) (b : Below w.heap.size w w2) (hlo : lo ≤ w.heap.size) {p2 : CoP} (o2 : ECo (d k) p2 w2) (l2 : ∀ b, QCo (d k) p2 b → w.heap.size ≤ b) :
    CTw ((((w2.setCell ⟨g, k * 4, none⟩ (.slice p2.r.1 (d k).h.xs.length p2.r.2)).setCell ⟨g, k * 4 + 1, none⟩ (.int .i64 (d k).h.pc)).setCell ⟨g, k * 4 + 2, none⟩ (.int .i64 (d k).h.st)).setCell ⟨g, k * 4 + 3, none⟩ (.slice p2.c.1 (d k).n p2.c.2)) lo (some ⟨g, 0, none⟩) c n (k + 1) d (fun i => if i = k then p2 else p i) z := by
  have hr := owns_below h.r.row b
  have hf : ∀ i, i < n → ((fun i => if i < k then clist (d i) (p i) else z i) i).length = 4 := fun i hi => by dsimp only; split; rfl; exact hz i hi
  have hs := store4 hr hf hk (.slice p2.r.1 (d k).h.xs.length p2.r.2) (.int .i64 (d k).h.pc) (.int .i64 (d k).h.st) (.slice p2.c.1 (d k).n p2.c.2)
  have on : Only w2 ((((w2.setCell ⟨g, k * 4, none⟩ (.slice p2.r.1 (d k).h.xs.length p2.r.2)).setCell ⟨g, k * 4 + 1, none⟩ (.int .i64 (d k).h.pc)).setCell ⟨g, k * 4 + 2, none⟩ (.int .i64 (d k).h.st)).setCell ⟨g, k * 4 + 3, none⟩ (.slice p2.c.1 (d k).n p2.c.2)) (fun b => b = g) := ((((Only.refl w2 (fun b => b = g)).setCell ⟨g, k * 4, none⟩ _ rfl).setCell ⟨g, k * 4 + 1, none⟩ _ rfl).setCell ⟨g, k * 4 + 2, none⟩ _ rfl).setCell ⟨g, k * 4 + 3, none⟩ _ rfl
  refine (h.step b hlo on hs (E' := ECo (d k) p2) o2 (fix_co _ _) (fun x hx => ⟨l2 x hx, o2.lt hx⟩)).congr (fun i hi => ?_) (fun i hi => ?_) (fun i hi => ?_)
  all_goals
    by_cases e : i = k
    · subst e; simp [clist]
    · simp [e]
theorem cr_dr {w : World} {d : CoD} {p : CoP} (h : CoR w d p) : CoR w.drew d p := h.below (below_drewN (Below.refl _ _) 1)

set_option maxRecDepth 100000 in
set_option maxHeartbeats 1000000 in
theorem eqCoreS_any (a b : Option Addr) (ca cb n : Nat) (d : Nat → CoD) (p p' : Nat → CoP) (w : World) (ha : CsR w a n d p) (hb : CsR w b n d p') :
    Calls Tryz.prog 18 #[.slice a n ca, .slice b n cb] w fun e w' => e = .returned (.bool true) ∧ Below w.heap.size w w' := by
  have hl : n ≤ 1048577 := ha.1
  go_enter Tryz.func18, Tryz.ntmps18
  go_wp2
  go_loopw [5] (fun i wr => ∃ k : Nat, k ≤ n ∧ i = .int .i64 k ∧ CsR wr a n d p ∧ CsR wr b n d p' ∧ Below w.heap.size w wr) (fun i _ => n - (intOf i).toNat)
  case atStart => exact ⟨0, Nat.zero_le _, rfl, ha, hb, Below.refl _ _⟩
  case round =>
    obtain ⟨k, hk, rfl, hma, hmb, hB⟩ := hrel
    by_cases hlt : k < n
    · have hi : (k : Int) < (n : Int) := by omega
      obtain ⟨ba, oa, rfl, y0, y1, y2, y3⟩ := hma.at hlt
      obtain ⟨bb, ob, rfl, z0, z1, z2, z3⟩ := hmb.at hlt
      have ra := hma.2.2 k hlt
      have rb := hmb.2.2 k hlt
      clear ha hb
      go_wp2_with fail
      go_region_with (go_at_call 39; refine (eqCore_any (d k) (p k) (p' k) _ (cr_dr ra) (cr_dr rb)).mono ?_; rintro e w1 ⟨rfl, b1⟩)
      all_goals
        have hma1 := hma.below (bel_undrew b1)
        have hmb1 := hmb.below (bel_undrew b1)
        have hB1 := bel_trans hB (bel_undrew b1)
        clear hma hmb hB b1 y0 y1 y2 y3 z0 z1 z2 z3 ra rb
        go_wp2
        go_roundw
        case rel => exact ⟨k + 1, by omega, by go_num, hma1, hmb1, hB1⟩
        case measure => simp [intOf]; omega
    · clear ha hb hma hmb
      go_wp2
      go_ret
      exact ⟨rfl, hB⟩

theorem info_core : (Tryz.prog.info? 50).map (fun i => (i.zero, i.size, i.bytes)) = some (some (.agg #[.slice none 0 0, .int .i64 0, .int .i64 0, .slice none 0 0]), 4, 64) := by kernel_rfl

set_option maxRecDepth 100000 in
set_option maxHeartbeats 2000000 in
theorem toCoreS_own (a : Option Addr) (ca n : Nat) (d : Nat → CoD) (p : Nat → CoP) (w : World) (hn : n ≤ 1048576) (hx : ∀ i, i < n → CoS (d i)) (ha : CsR w a n d p) :
    Calls Tryz.prog 14 #[.slice a n ca] w fun e w' => ∃ a' c' p', e = .returned (.slice a' n c') ∧ CsO w' a' c' n d p' ∧ (∀ b, RS a' c' n (fun i => QCo (d i) (p' i)) b → w.heap.size ≤ b) ∧ Below w.heap.size w w' := by
  obtain ⟨i0, hi, hz0, hz1, hz2⟩ := info_parts info_core
  have HX : Hid (∀ i, i < n → CoS (d i)) := hx
  clear hx
  go_enter Tryz.func14, Tryz.ntmps14
  go_wp2_with (at_make; refine wpList_make_full _ rfl (.tmp 6) (.tmp 6) 35 rfl w.heap.size 50 i0 (.agg #[.slice none 0 0, .int .i64 0, .int .i64 0, .slice none 0 0]) 4 Tryz.underlying35 hi hz0 hz1 .i64 .i64 _ _ n rfl rfl rfl rfl (by rw [hz2]; omega) (by unfold maxLen; omega) (Nat.le_refl _) ?_)
  intro w1 ho hg
  have hb1 : Below w.heap.size w w1 := (Below.refl _ _).grown hg (Nat.le_refl _) (fun k hk => by cases hk)
  rw [made_chunks _ 4 n rfl (by decide)] at ho
  have F0 : CTw w1 w.heap.size (some ⟨w.heap.size, 0, none⟩) n n 0 d (fun _ => ⟨(none, 0), (none, 0), fun _ => (none, 0)⟩) (fun _ => [.slice none 0 0, .int .i64 0, .int .i64 0, .slice none 0 0]) := Tw.start (owns_base ho (Nat.zero_le _))
  clear hg ho
  go_wp2
  go_loopw [4] (fun i wr => ∃ k : Nat, k ≤ n ∧ i = .int .i64 k ∧ ∃ p', CTw wr w.heap.size (some ⟨w.heap.size, 0, none⟩) n n k d p' (fun _ => [.slice none 0 0, .int .i64 0, .int .i64 0, .slice none 0 0]) ∧ Below w.heap.size w wr) (fun i _ => n - (intOf i).toNat)
  case atStart => exact ⟨0, Nat.zero_le _, rfl, _, F0, hb1⟩
  case round =>
    obtain ⟨k, hk, rfl, p', hF, hbr⟩ := hrel
    clear F0 hb1
    by_cases hkn : k < n
    · have hi' : (k : Int) < (n : Int) := by omega
      have har := ha.below hbr
      obtain ⟨b, off, rfl, y0, y1, y2, y3⟩ := har.at hkn
      have hrow := har.2.2 k hkn
      go_wp2_with fail
      refine (toCore_own (d k) (p k) _ (HX.out k hkn) hrow).mono ?_
      rintro e w2 ⟨p2, rfl, o2, l2, b2⟩
      have R : Hid _ := core_put hF (fun i _ => rfl) hkn b2 hbr.size o2 l2
      have hr2 := owns_below hF.r.row b2
      have B : Hid _ := bel_setCell (bel_setCell (bel_setCell (bel_setCell ((bel_trans hbr b2)) ⟨w.heap.size, k * 4, none⟩ (.slice p2.r.1 (d k).h.xs.length p2.r.2) (Nat.le_refl _)) ⟨w.heap.size, k * 4 + 1, none⟩ (.int .i64 (d k).h.pc) (Nat.le_refl _)) ⟨w.heap.size, k * 4 + 2, none⟩ (.int .i64 (d k).h.st) (Nat.le_refl _)) ⟨w.heap.size, k * 4 + 3, none⟩ (.slice p2.c.1 (d k).n p2.c.2) (Nat.le_refl _)
      have q0 := hr2.frozenAt (k * 4)
      have q1 := hr2.frozenAt (k * 4 + 1)
      have q2 := hr2.frozenAt (k * 4 + 2)
      have q3 := hr2.frozenAt (k * 4 + 3)
      obtain ⟨u0, g0⟩ := cellN hr2 hkn (t := 0) (by decide)
      obtain ⟨u1, g1⟩ := cellN hr2 hkn (t := 1) (by decide)
      obtain ⟨u2, g2⟩ := cellN hr2 hkn (t := 2) (by decide)
      obtain ⟨u3, g3⟩ := cellN hr2 hkn (t := 3) (by decide)
      rw [Nat.add_zero] at g0
      clear hF har y0 y1 y2 y3 hrow hr2 o2 b2 hbr ha
      go_wp2
      go_roundw
      case rel => exact ⟨k + 1, by omega, by go_num, _, R.out, B.out⟩
      case measure => simp [intOf]; omega
    · have : k = n := by omega
      subst this
      have R : Hid (CsO wr (some ⟨w.heap.size, 0, none⟩) k k d p' ∧ ∀ b, RS (some ⟨w.heap.size, 0, none⟩) k k (fun i => QCo (d i) (p' i)) b → w.heap.size ≤ b) := ⟨hF.all, hF.low (fun g hg => by simp [blk] at hg; omega)⟩
      clear hF ha
      go_wp2
      go_ret
      exact ⟨_, _, p', rfl, R.out.1, R.out.2, hbr⟩

set_option maxRecDepth 100000 in
set_option maxHeartbeats 2000000 in
theorem szCoreS_tot (a : Option Addr) (ca n : Nat) (d : Nat → CoD) (p : Nat → CoP) (L0 : Int) (w : World) (l0 : 0 ≤ L0) (l1 : L0 ≤ 1048576) (ha : CsC w a n d p) :
    Calls Tryz.prog 10 #[.slice a n ca, .int .i64 L0] w fun e w' => ∃ r, e = .returned (.int .i64 r) ∧ (r = -1 ∨ (0 ≤ r ∧ r + (n + sumN (fun i => cZ (d i)) n : Nat) = L0)) ∧ Below w.heap.size w w' := by
  have hl : n ≤ 9223372036854775807 := by have h1 := ha.1; unfold maxLen at h1; omega
  by_cases hb : L0 < (n : Int)
  · clear ha
    go_enter Tryz.func10, Tryz.ntmps10
    go_wp2
    go_ret
    exact ⟨_, rfl, .inl rfl, Below.refl _ _⟩
  · have hb' : (n : Int) ≤ L0 := by omega
    go_enter Tryz.func10, Tryz.ntmps10
    go_wp2
    go_loopw [1, 5] (fun q i wr => ∃ (k : Nat) (L : Int), k ≤ n ∧ i = .int .i64 k ∧ q = .int .i64 L ∧ 0 ≤ L ∧ L + (n + sumN (fun i => cZ (d i)) k : Nat) = L0 ∧ CsC wr a n d p ∧ Below w.heap.size w wr) (fun _ i _ => n - (intOf i).toNat)
    case atStart => exact ⟨0, _, Nat.zero_le _, rfl, rfl, by omega, by simp [sumN], ha, Below.refl _ _⟩
    case round =>
      obtain ⟨k, L, hk, rfl, rfl, hL0, hL, hm, hB⟩ := hrel
      have HL : Hid (L + (n + sumN (fun i => cZ (d i)) k : Nat) = L0) := hL
      have hL1 : L ≤ 1048576 := by omega
      clear hL
      by_cases hlt : k < n
      · have hi : (k : Int) < (n : Int) := by omega
        obtain ⟨bl, off, rfl, hc⟩ := hm.2.1.chunk (s := 4) (fun i _ => rfl) (by decide) hlt
        have y0 := hc 0 _ rfl
        have y1 := hc 1 _ rfl
        have y2 := hc 2 _ rfl
        have y3 := hc 3 _ rfl
        rw [Nat.add_zero] at y0
        have hml := hm.2.2 k hlt
        clear hc ha
        go_wp2_with fail
        refine (szCore_tot (d k) (p k) L _ hL0 hL1 hml).mono ?_
        rintro e w1 ⟨r, rfl, hsz, b1⟩
        have hm1 := hm.below b1
        have hB1 := bel_trans hB b1
        clear hm hB b1 y0 y1 y2 y3 hml
        rcases hsz with rfl | ⟨hr0, hr2⟩
        · clear hm1
          go_wp2
          go_ret
          exact ⟨_, rfl, .inl rfl, hB1⟩
        · have HX : Hid (r + (n + sumN (fun i => cZ (d i)) (k + 1) : Nat) = L0) := by
            show _ = _
            have h1 := HL.out
            simp only [sumN] at h1 ⊢
            omega
          clear hr2
          go_wp2
          go_roundw
          case rel => exact ⟨k + 1, r, by omega, by go_num, rfl, hr0, HX.out, hm1, hB1⟩
          case measure => simp [intOf]; omega
      · clear ha hm
        have hkn : k = n := by omega
        rw [hkn] at HL
        go_wp2
        go_ret
        exact ⟨_, rfl, .inr ⟨hL0, HL.out⟩, hB⟩

set_option maxRecDepth 100000 in
theorem open_cores {H : Type} {enc : TypeId × Value → H} {W : World} {base : Nat} {held : Bool} {fuel : Nat} {v : Value} {x : DataW H × List MemPlace} (h : DataW.trod enc Tryz.prog W base (fun _ => true) held fuel 26 [v] = some x) :
    ∃ (a : Pl) (n : Nat) (d : Nat → CoD) (p : Nat → CoP), v = .slice a.1 n a.2 ∧ CsC W a.1 n d p := by
  obtain ⟨a, c, n, F, rfl, hn, hv, hF⟩ := open_rows 26 67 4 Tryz.underlying26 cells_core' (by decide) h
  obtain ⟨g, hg⟩ := fun_of (α := CoD × CoP) (⟨⟨[], 0, 0⟩, 0, fun _ => ⟨0, 0, fun _ => ⟨0, 0, 0, 0, 0⟩⟩⟩, ⟨(none, 0), (none, 0), fun _ => (none, 0)⟩) (P := fun i x => F i = clist x.1 x.2 ∧ CoC W x.1 x.2) n (fun i hi => by
    obtain ⟨_, fl, y, hy⟩ := hF i hi
    obtain ⟨d, p, h1, h2⟩ := core_cells hy
    exact ⟨(d, p), h1, h2⟩)
  exact ⟨(a, c), n, fun i => (g i).1, fun i => (g i).2, rfl, hn, hv.congr (fun i hi => (hg i hi).1), fun i hi => (hg i hi).2⟩
end Go.Proofs.YtnfjmdegbdphpaaGreat
