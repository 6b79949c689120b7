/- What DrawCacheOk, DrawCacheFind, DrawPurge, DrawCacheAdd draw. -/
import Derived.Test.YtkamhinklhcbaaaDrawR
namespace Go.Proofs.Ytkamhinklhcbaaa
open Go.RowKit
set_option linter.unusedVariables false

def Ks (L : List KD) : Prop := L.length ≤ 7 ∧ ∀ y ∈ L, y.n ≤ 5

set_option maxRecDepth 100000 in
set_option maxHeartbeats 1000000 in
theorem dDrawCacheOk_any (a : Option Addr) (ca : Nat) (bs : List Int) (w : World) (ha : Row .u8 w a bs) :
    Calls Try.prog 13 #[.slice a bs.length ca] w fun e w' => ∃ (L : List KD) (al : Option Addr) (cl : Nat) (pl : Nat → Pl) (af : Option Addr) (cf nf : Nat) (F : Nat → FD) (pf : Nat → Pl), e = .returned (.tuple #[.slice al L.length cl, .slice af nf cf]) ∧ Ks L ∧ KR w' al L.length (kd L) pl ∧ FR w' af nf F pf ∧ Below w.heap.size w w' := by
  have hlt := ha.far
  go_enter Try.func13, Try.ntmps13
  go_wp2_with fail
  refine (l1New_any a ca bs _ ha).mono ?_
  rintro e w1 ⟨rfl, c1, b1⟩
  have z1 := c1.lt
  have HNE : Hid (0 < bs.length → ∀ x, a = some x → x.block ≠ w.heap.size) := fun h0 x hx => by have := hlt h0 x hx; omega
  have HA : Hid (Row .u8 w1 a bs) := ha.below b1
  clear ha hlt
  go_wp2_with fail
  refine (l11Draw_any w.heap.size a ca bs _ c1 HA.out HNE.out).mono ?_
  rintro e w2 ⟨L, al, cl, pl, af, cf, nf, F, pf, rfl, ⟨hl, hcl⟩, hK, hKR, hFR, c2, g2⟩
  have B2 : Below w.heap.size w w2 := b1.grown g2 b1.size (fun j hj => by simp at hj; omega)
  have HP : Hid (Ks L ∧ KR w2 al L.length (kd L) pl ∧ FR w2 af nf F pf) := ⟨⟨hl, hK⟩, hKR w2 (Only.refl _ _), hFR⟩
  clear c1 b1 HA g2 hKR hFR c2 hK hl
  go_wp2
  refine bodyPost_ret (v := .tuple #[.slice al L.length cl, .slice af nf cf]) (by simp [results, Try.results13, go_sem]) rfl ⟨L, al, cl, pl, af, cf, nf, F, pf, rfl, HP.out.1, HP.out.2.1, HP.out.2.2, B2⟩

set_option maxRecDepth 100000 in
set_option maxHeartbeats 1000000 in
theorem dDrawCacheFind_any (a : Option Addr) (ca : Nat) (bs : List Int) (w : World) (ha : Row .u8 w a bs) :
    Calls Try.prog 14 #[.slice a bs.length ca] w fun e w' => ∃ (L : List KD) (al : Option Addr) (cl : Nat) (pl : Nat → Pl) (x : Nat), e = .returned (.tuple #[.slice al L.length cl, .int .i64 ((x : Int) - 1)]) ∧ x < 26 ∧ Ks L ∧ KR w' al L.length (kd L) pl ∧ Below w.heap.size w w' := by
  have hlt := ha.far
  go_enter Try.func14, Try.ntmps14
  go_wp2_with fail
  refine (l1New_any a ca bs _ ha).mono ?_
  rintro e w1 ⟨rfl, c1, b1⟩
  have z1 := c1.lt
  have HNE : Hid (0 < bs.length → ∀ x, a = some x → x.block ≠ w.heap.size) := fun h0 x hx => by have := hlt h0 x hx; omega
  have HA : Hid (Row .u8 w1 a bs) := ha.below b1
  clear ha hlt
  go_wp2_with fail
  refine (l11Draw_any w.heap.size a ca bs _ c1 HA.out HNE.out).mono ?_
  rintro e w2 ⟨L, al, cl, pl, af, cf, nf, F, pf, rfl, ⟨hl, hcl⟩, hK, hKR, hFR, c2, g2⟩
  have B2 : Below w.heap.size w w2 := b1.grown g2 b1.size (fun j hj => by simp at hj; omega)
  have HA2 : Hid (Row .u8 w2 a bs) := row_g HA.out g2 HNE.out
  have HKR : Hid (∀ W, w2.grownBy W (some w.heap.size) → KR W al L.length (kd L) pl) := fun W g => hKR W ((Only.refl _ _).grown g (fun j hj => by simp at hj; omega))
  have HKs : Hid (Ks L) := ⟨hl, hK⟩
  clear c1 b1 HA g2 hFR hKR hl hK
  go_wp2_with fail
  refine (l1Below_any w.heap.size a ca bs 26 _ (by omega) (by omega) c2 HA2.out HNE.out).mono ?_
  rintro e w3 ⟨x, rfl, hx, c3, g3⟩
  have B3 : Below w.heap.size w w3 := B2.grown g3 B2.size (fun j hj => by simp at hj; omega)
  have hk3 := HKR.out w3 g3
  clear c2 c3 g3 B2 HA2
  go_wp2
  refine bodyPost_ret (v := .tuple #[.slice al L.length cl, .int .i64 ((x : Int) - 1)]) (by simp [results, Try.results14, go_sem]) rfl ⟨L, al, cl, pl, x, rfl, hx, HKs.out, hk3, B3⟩

set_option maxRecDepth 100000 in
set_option maxHeartbeats 1000000 in
theorem dDrawPurge_any (a : Option Addr) (ca : Nat) (bs : List Int) (w : World) (ha : Row .u8 w a bs) :
    Calls Try.prog 17 #[.slice a bs.length ca] w fun e w' => ∃ (L : List KD) (al : Option Addr) (cl : Nat) (pl : Nat → Pl) (x : Nat), e = .returned (.tuple #[.slice al L.length cl, .int .i64 ((x : Int) - 1)]) ∧ x < 8 ∧ Ks L ∧ KR w' al L.length (kd L) pl ∧ Below w.heap.size w w' := by
  have hlt := ha.far
  go_enter Try.func17, Try.ntmps17
  go_wp2_with fail
  refine (l1New_any a ca bs _ ha).mono ?_
  rintro e w1 ⟨rfl, c1, b1⟩
  have z1 := c1.lt
  have HNE : Hid (0 < bs.length → ∀ x, a = some x → x.block ≠ w.heap.size) := fun h0 x hx => by have := hlt h0 x hx; omega
  have HA : Hid (Row .u8 w1 a bs) := ha.below b1
  clear ha hlt
  go_wp2_with fail
  refine (l11Draw_any w.heap.size a ca bs _ c1 HA.out HNE.out).mono ?_
  rintro e w2 ⟨L, al, cl, pl, af, cf, nf, F, pf, rfl, ⟨hl, hcl⟩, hK, hKR, hFR, c2, g2⟩
  have B2 : Below w.heap.size w w2 := b1.grown g2 b1.size (fun j hj => by simp at hj; omega)
  have HA2 : Hid (Row .u8 w2 a bs) := row_g HA.out g2 HNE.out
  have HKR : Hid (∀ W, w2.grownBy W (some w.heap.size) → KR W al L.length (kd L) pl) := fun W g => hKR W ((Only.refl _ _).grown g (fun j hj => by simp at hj; omega))
  have HKs : Hid (Ks L) := ⟨hl, hK⟩
  clear c1 b1 HA g2 hFR hKR hl hK
  go_wp2_with fail
  refine (l1Below_any w.heap.size a ca bs 8 _ (by omega) (by omega) c2 HA2.out HNE.out).mono ?_
  rintro e w3 ⟨x, rfl, hx, c3, g3⟩
  have B3 : Below w.heap.size w w3 := B2.grown g3 B2.size (fun j hj => by simp at hj; omega)
  have hk3 := HKR.out w3 g3
  clear c2 c3 g3 B2 HA2
  go_wp2
  refine bodyPost_ret (v := .tuple #[.slice al L.length cl, .int .i64 ((x : Int) - 1)]) (by simp [results, Try.results17, go_sem]) rfl ⟨L, al, cl, pl, x, rfl, hx, HKs.out, hk3, B3⟩

set_option maxRecDepth 100000 in
set_option maxHeartbeats 1000000 in
theorem dDrawCacheAdd_any (a : Option Addr) (ca : Nat) (bs : List Int) (w : World) (ha : Row .u8 w a bs) :
    Calls Try.prog 9 #[.slice a bs.length ca] w fun e w' => ∃ (L : List KD) (al : Option Addr) (cl : Nat) (pl : Nat → Pl) (y : KD) (ay : Option Addr) (cy : Nat), e = .returned (.tuple #[.slice al L.length cl, .agg #[.int .i64 y.st, .slice ay y.n cy]]) ∧ Ks L ∧ L.length ≤ cl ∧ y.n ≤ 5 ∧ KR w' al L.length (kd L) pl ∧ IR w' ay y.n y.x ∧ Below w.heap.size w w' := by
  have hlt := ha.far
  have b0 := bel_alloc (Below.refl w.heap.size w) (.cells #[.int .i64 0, .slice none 0 0] 27)
  have Z := Box.new w #[.int .i64 0, .slice none 0 0] 27
  go_enter Try.func9, Try.ntmps9
  go_wp2_with fail
  refine (l1New_any a ca bs _ (ha.below b0)).mono ?_
  rintro e w1 ⟨rfl, c1, b1⟩
  have e1 : (w.alloc (.cells #[.int .i64 0, .slice none 0 0] 27)).heap.size = w.heap.size + 1 := by simp
  rw [e1] at c1
  have z1 := c1.lt
  have HNE : Hid (0 < bs.length → ∀ x, a = some x → x.block ≠ w.heap.size + 1) := fun h0 x hx => by have := hlt h0 x hx; omega
  have HA : Hid (Row .u8 w1 a bs) := (ha.below b0).below b1
  have B1 : Hid (Below w.heap.size w w1) := bel_trans b0 b1
  have Z1 := Z.below b1
  clear ha hlt b0 b1 Z e1
  go_wp2_with fail
  refine (l11Draw_any (w.heap.size + 1) a ca bs _ c1 HA.out HNE.out).mono ?_
  rintro e w2 ⟨L, al, cl, pl, af, cf, nf, F, pf, rfl, ⟨hl, hcl⟩, hK, hKR, hFR, c2, g2⟩
  have B2 : Hid (Below w.heap.size w w2) := B1.out.grown g2 B1.out.size (fun j hj => by simp at hj; omega)
  have HA2 : Hid (Row .u8 w2 a bs) := row_g HA.out g2 HNE.out
  have HKR : Hid (∀ W, Only w2 W (fun b => b < w1.heap.size) → KR W al L.length (kd L) pl) := hKR
  have HKs : Hid (Ks L) := ⟨hl, hK⟩
  have Z2 := Z1.kept g2 (fun j hj => by simp at hj; omega)
  have z2 := g2.size
  clear c1 HA g2 hFR hKR hl hK Z1 B1
  go_wp2_with fail
  refine (l10Draw_any (w.heap.size + 1) a ca bs _ c2 HA2.out HNE.out).mono ?_
  rintro e w3 ⟨st, ab, cb, nb, d, rfl, D3⟩
  have Z3 := Z2.kept D3.gr (fun j hj => by simp at hj; omega)
  have HP : Hid (Only w2 w3 (fun b => b < w1.heap.size) ∧ IOw w3 w2.heap.size ab cb nb d ∧ nb ≤ 5 ∧ Below w.heap.size w w3) := ⟨(Only.refl _ _).grown D3.gr (fun j hj => by simp at hj; omega), D3.o, D3.l, B2.out.grown D3.gr B2.out.size (fun j hj => by simp at hj; omega)⟩
  obtain ⟨y0, y1, yz⟩ := Z3.at2
  have f0 := Z3.frozen 0
  have f1 := Z3.frozen 1
  have HZ : Hid (Box w3 w.heap.size #[.int .i64 0, .slice none 0 0] 27) := Z3
  clear c2 HA2 D3 Z2 Z3
  go_wp2
  refine bodyPost_ret (v := .tuple #[.slice al L.length cl, .agg #[.int .i64 st, .slice ab nb cb]]) (by simp [results, Try.results9, go_sem, y0, y1]) rfl ⟨L, al, cl, pl, ⟨st, nb, d⟩, ab, cb, rfl, HKs.out, hcl, HP.out.2.2.1, ?_, ?_, ?_⟩
  · exact HKR.out _ ((HP.out.1.setCell _ _ (by simp; omega)).setCell _ _ (by simp; omega))
  · have hz : ∀ j, (Value.slice ab nb cb).ownBlock = some j → w.heap.size ≠ j := fun j hj => by have := (World.ownsRow.lt HP.out.2.1 j hj).1; omega
    exact IOw.ir (owns_setCell (owns_setCell HP.out.2.1 hz _) hz _) (by have := HP.out.2.2.1; show nb ≤ _; omega)
  · exact bel_setCell (bel_setCell HP.out.2.2.2 _ _ (by simp)) _ _ (by simp)
end Go.Proofs.Ytkamhinklhcbaaa
