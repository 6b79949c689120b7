/- How great a row of blocks is that came in; a row of blocks as the row hands it over. -/
import Derived.Test.YtpahjfijpjgdnaaHtZ
import Derived.Test.YtpahjfijpjgdnaaBkM
import Derived.Test.YtpahjfijpjgdnaaOpenB
namespace Go.Proofs.Ytpahjfijpjgdnaa
open Go.ChangeShapes Go.WideShapes Go.ChangeAt Go.RowKit
set_option linter.unusedVariables false

theorem IC.below {w w' : World} {a : Option Addr} {n : Nat} {d : Nat → XD} (h : IC w a n d) (hb : Below w.heap.size w w') : IC w' a n d := ⟨h.1, h.2.below hb⟩
/-- A row of blocks that came in. -/
def KC (w : World) (a : Option Addr) (n : Nat) (d : Nat → KD) (p : Nat → Pl) : Prop := n ≤ maxLen ∧ VCame w a (chunks n fun i => bkcells (d i) (p i)) ∧ ∀ i, i < n → IC w (p i).1 (d i).n (d i).x
theorem KC.below {w w' : World} {a : Option Addr} {n : Nat} {d : Nat → KD} {p : Nat → Pl} (h : KC w a n d p) (hb : Below w.heap.size w w') : KC w' a n d p := ⟨h.1, h.2.1.below hb, fun i hi => (h.2.2 i hi).below hb⟩
theorem KC.kr {w : World} {a : Option Addr} {n : Nat} {d : Nat → KD} {p : Nat → Pl} (h : KC w a n d p) (hn : n ≤ 1048577) (hx : ∀ i, i < n → (d i).n ≤ 1048577) : KR w a n d p :=
  ⟨by omega, h.2.1.vrow (by rw [chunks_length (s := 2) n (fun i _ => rfl)]; omega), fun i hi => (h.2.2 i hi).ir (hx i hi)⟩
def bkZ (d : KD) : Nat := d.n
theorem bkZ_le {n : Nat} {d : Nat → KD} {Z : Nat} (h : n + sumN (fun i => bkZ (d i)) n ≤ Z) : n ≤ Z ∧ ∀ i, i < n → (d i).n ≤ Z := ⟨by omega, fun i hi => by
  have := le_sumN (c := fun i => bkZ (d i)) hi
  simp only [bkZ] at this h
  omega⟩

set_option maxRecDepth 100000 in
set_option maxHeartbeats 1000000 in
theorem szInsS_tot (a : Option Addr) (n c : Nat) (L : Int) (w : World) (h0 : 0 ≤ L) (h1 : L ≤ 1048576) (hn : n ≤ maxLen) :
    Calls Try.prog 61 #[.slice a n c, .int .i64 L] w fun e w' => ∃ r, e = .returned (.int .i64 r) ∧ (r = -1 ∨ (0 ≤ r ∧ r + n = L)) ∧ w' = w := by
  unfold maxLen at hn
  by_cases h : (n : Int) ≤ L
  · have hd : ¬ (L - (n : Int) < 0) := by omega
    go_enter Try.func61, Try.ntmps61
    go_wp2
    go_ret
    exact ⟨_, rfl, .inr ⟨by omega, by omega⟩, rfl⟩
  · have hd : L - (n : Int) < 0 := by omega
    go_enter Try.func61, Try.ntmps61
    go_wp2
    go_ret
    exact ⟨_, rfl, .inl rfl, rfl⟩

set_option maxRecDepth 100000 in
set_option maxHeartbeats 1000000 in
theorem szBlock_tot (st : Int) (a : Option Addr) (n c : Nat) (L : Int) (w : World) (h0 : 0 ≤ L) (h1 : L ≤ 1048576) (hn : n ≤ maxLen) :
    Calls Try.prog 43 #[.agg #[.int .i64 st, .slice a n c], .int .i64 L] w fun e w' => ∃ r, e = .returned (.int .i64 r) ∧ (r = -1 ∨ (0 ≤ r ∧ r + n = L)) ∧ Below w.heap.size w w' := by
  have bA := bel_alloc (Below.refl w.heap.size w) (.cells #[.int .i64 st, .slice a n c] 107)
  go_enter Try.func43, Try.ntmps43
  go_wp2_with fail
  refine (szInsS_tot a n c L _ h0 h1 hn).mono ?_
  rintro e w1 ⟨r, rfl, hr, h⟩
  subst h
  rcases hr with rfl | ⟨r0, r1⟩
  · go_wp2
    go_ret
    exact ⟨_, rfl, .inl rfl, bA⟩
  · have hd : ¬ (r < 0) := by omega
    go_wp2
    go_ret
    exact ⟨_, rfl, .inr ⟨r0, r1⟩, bA⟩

set_option maxRecDepth 100000 in
set_option maxHeartbeats 2000000 in
theorem szBlockS_tot (a : Option Addr) (ca n : Nat) (d : Nat → KD) (p : Nat → Pl) (L0 : Int) (w : World) (l0 : 0 ≤ L0) (l1 : L0 ≤ 1048576) (ha : KC w a n d p) :
    Calls Try.prog 28 #[.slice a n ca, .int .i64 L0] w fun e w' => ∃ r, e = .returned (.int .i64 r) ∧ (r = -1 ∨ (0 ≤ r ∧ r + (n + sumN (fun i => bkZ (d i)) n : Nat) = L0)) ∧ Below w.heap.size w w' := by
  have hl : n ≤ 9223372036854775807 := by have h1 := ha.1; unfold maxLen at h1; omega
  by_cases hb : L0 < (n : Int)
  · clear ha
    go_enter Try.func28, Try.ntmps28
    go_wp2
    go_ret
    exact ⟨_, rfl, .inl rfl, Below.refl _ _⟩
  · have hb' : (n : Int) ≤ L0 := by omega
    go_enter Try.func28, Try.ntmps28
    go_wp2
    go_loopw [1, 5] (fun q i wr => ∃ (k : Nat) (L : Int), k ≤ n ∧ i = .int .i64 k ∧ q = .int .i64 L ∧ 0 ≤ L ∧ L + (n + sumN (fun i => bkZ (d i)) k : Nat) = L0 ∧ KC wr a n d p ∧ Below w.heap.size w wr) (fun _ i _ => n - (intOf i).toNat)
    case atStart => exact ⟨0, _, Nat.zero_le _, rfl, rfl, by omega, by simp [sumN], ha, Below.refl _ _⟩
    case round =>
      obtain ⟨k, L, hk, rfl, rfl, hL0, hL, hm, hB⟩ := hrel
      have HL : Hid (L + (n + sumN (fun i => bkZ (d i)) k : Nat) = L0) := hL
      have hL1 : L ≤ 1048576 := by omega
      clear hL
      by_cases hlt : k < n
      · have hi : (k : Int) < (n : Int) := by omega
        obtain ⟨bl, off, rfl, hc⟩ := hm.2.1.chunk (s := 2) (fun i _ => rfl) (by decide) hlt
        have y0 := hc 0 _ rfl
        have y1 := hc 1 _ rfl
        rw [Nat.add_zero] at y0
        have hml : (d k).n ≤ maxLen := (hm.2.2 k hlt).1
        clear hc ha
        go_wp2_with fail
        refine (szBlock_tot (d k).st (p k).1 (d k).n (p k).2 L _ hL0 hL1 hml).mono ?_
        rintro e w1 ⟨r, rfl, hsz, b1⟩
        have hm1 := hm.below b1
        have hB1 := bel_trans hB b1
        clear hm hB b1 y0 y1 hml
        rcases hsz with rfl | ⟨hr0, hr2⟩
        · clear hm1
          go_wp2
          go_ret
          exact ⟨_, rfl, .inl rfl, hB1⟩
        · have HX : Hid (r + (n + sumN (fun i => bkZ (d i)) (k + 1) : Nat) = L0) := by
            show _ = _
            have h1 := HL.out
            simp only [sumN] at h1 ⊢
            simp only [bkZ] at h1 ⊢
            omega
          clear hr2
          go_wp2
          go_roundw
          case rel => exact ⟨k + 1, r, by omega, by go_num, rfl, hr0, HX.out, hm1, hB1⟩
          case measure => simp [intOf]; omega
      · clear ha hm
        have hkn : k = n := by omega
        rw [hkn] at HL
        go_wp2
        go_ret
        exact ⟨_, rfl, .inr ⟨hL0, HL.out⟩, hB⟩

theorem cells_block' : Try.prog.cellsOf 107 = 2 := by kernel_rfl
set_option maxRecDepth 100000 in
theorem block_cells {H : Type} {enc : TypeId × Value → H} {W : World} {base : Nat} {held : Bool} {fuel : Nat} {cs : List Value} {x : DataW H × List MemPlace} (h : DataW.trod enc Try.prog W base (fun _ => true) held fuel 107 cs = some x) :
    ∃ (d : KD) (p : Pl), cs = bkcells d p ∧ IC W p.1 d.n d.x := by
  obtain ⟨ys, n, _, _, hl, hyl, hf⟩ := DataW.trod_struct Try.underlying107 h
  have hp : Try.prog.cellsOf 105 = 1 := by kernel_rfl
  rw [cells_block'] at hl
  match cs, hl, ys, hyl with
  | [c0, c1], _, [y0, y1], _ =>
    have g0 := hf 0 _ rfl
    have g1 := hf 1 _ rfl
    simp [cells_int', hp] at g0 g1
    obtain ⟨m0, e0, _, _⟩ := DataW.trod_int Try.underlying3 g0
    simp only [List.cons.injEq, and_true] at e0
    subst e0
    obtain ⟨a, c, n, d', rfl, hI⟩ := open_places g1
    exact ⟨⟨m0, n, d'⟩, (a, c), rfl, hI⟩
set_option maxRecDepth 100000 in
theorem open_blocks0 {H : Type} {enc : TypeId × Value → H} {W : World} {base : Nat} {held : Bool} {fuel : Nat} {v : Value} {x : DataW H × List MemPlace} (h : DataW.trod enc Try.prog W base (fun _ => true) held fuel 58 [v] = some x) :
    ∃ (a : Option Addr) (c n : Nat) (d : Nat → KD) (p : Nat → Pl), v = .slice a n c ∧ KC W a n d p := by
  obtain ⟨a, c, n, F, rfl, hn, hv, hF⟩ := open_rows 58 107 2 Try.underlying58 cells_block' (by decide) h
  obtain ⟨g, hg⟩ := fun_of (α := KD × Pl) (⟨0, 0, fun _ => ⟨0, 0, 0, 0, 0⟩⟩, (none, 0)) (P := fun i x => F i = bkcells x.1 x.2 ∧ IC W x.2.1 x.1.n x.1.x) n (fun i hi => by
    obtain ⟨_, fl, y, hy⟩ := hF i hi
    obtain ⟨d, p, h1, h2⟩ := block_cells hy
    exact ⟨(d, p), h1, h2⟩)
  exact ⟨a, c, n, fun i => (g i).1, fun i => (g i).2, rfl, hn, hv.congr (fun i hi => (hg i hi).1), fun i hi => (hg i hi).2⟩
set_option maxRecDepth 100000 in
theorem open_blocks {H : Type} {enc : TypeId × Value → H} {W : World} {base : Nat} {held : Bool} {r : Reach} {b0 : Nat} {v : Value} {d : DataW H} {q : List MemPlace}
    (hv : Value.okWide Try.prog W r b0 58 v) (h : DataW.Trod enc Try.prog W base (fun _ => true) held 58 v d q) :
    ∃ (a : Option Addr) (c n : Nat) (d' : Nat → KD) (p : Nat → Pl), v = .slice a n c ∧ KC W a n d' p := by
  obtain ⟨a, len, cap, rfl⟩ := okWide_slice Try.underlying58 hv
  obtain ⟨fuel, hf⟩ := h
  exact open_blocks0 (by simpa [Value.cells] using hf)
end Go.Proofs.Ytpahjfijpjgdnaa
