/- Rows of cores: what a reader is told; what the law's eqCoreS, toCoreS, szCoreS do; a row of cores as it came in. -/
import Derived.Test.YtpahjfijpjgdnaaOpenCo
namespace Go.Proofs.Ytpahjfijpjgdnaa
open Go.ChangeShapes Go.WideShapes Go.ChangeAt Go.RowKit
set_option linter.unusedVariables false

theorem store4 {w : World} {lo e n g c k : Nat} {f : Nat → List Value} (h : w.ownsRow lo e 4 (.slice (some ⟨g, 0, none⟩) n c) n (chunks n f)) (hf : ∀ i, i < n → (f i).length = 4) (hk : k < n) (c0 c1 c2 c3 : Value) :
    ((((w.setCell ⟨g, k * 4, none⟩ c0).setCell ⟨g, k * 4 + 1, none⟩ c1).setCell ⟨g, k * 4 + 2, none⟩ c2).setCell ⟨g, k * 4 + 3, none⟩ c3).ownsRow lo e 4 (.slice (some ⟨g, 0, none⟩) n c) n (chunks n fun i => if i = k then [c0, c1, c2, c3] else f i) := by
  have h1 := owns_stored h hf hk (j := 0) (by decide) c0
  have h2 := owns_stored h1 (set_len hf _ _ _) hk (j := 1) (by decide) c1
  have h3 := owns_stored h2 (set_len (set_len hf _ _ _) _ _ _) hk (j := 2) (by decide) c2
  have h4 := owns_stored h3 (set_len (set_len (set_len hf _ _ _) _ _ _) _ _ _) hk (j := 3) (by decide) c3
  refine owns_congr h4 (fun i hi => ?_)
  have hl := hf i hi
  by_cases e : i = k
  · simp only [if_pos e]
    match hq : f i, hl with
    | [x, y, z, u], _ => rfl
  · simp only [if_neg e]

def clist (d : CoD) (p : CoP) : List Value := [.slice p.r.1 d.h.xs.length p.r.2, .int .i64 d.h.pc, .int .i64 d.h.st, .slice p.c.1 d.n p.c.2]
def CsR (w : World) (a : Option Addr) (n : Nat) (d : Nat → CoD) (p : Nat → CoP) : Prop := n ≤ 1048577 ∧ VRow w a (chunks n fun i => clist (d i) (p i)) ∧ ∀ i, i < n → CoR w (d i) (p i)
theorem CsR.below {w w' : World} {a : Option Addr} {n : Nat} {d : Nat → CoD} {p : Nat → CoP} (h : CsR w a n d p) (hb : Below w.heap.size w w') : CsR w' a n d p := ⟨h.1, h.2.1.below hb, fun i hi => (h.2.2 i hi).below hb⟩
theorem CsR.at {w : World} {a : Option Addr} {n : Nat} {d : Nat → CoD} {p : Nat → CoP} (h : CsR w a n d p) {i : Nat} (hi : i < n) :
    ∃ b off, a = some ⟨b, off, none⟩ ∧ w.cell? ⟨b, off + i * 4, none⟩ = some (.slice (p i).r.1 (d i).h.xs.length (p i).r.2) ∧ w.cell? ⟨b, off + i * 4 + 1, none⟩ = some (.int .i64 (d i).h.pc) ∧ w.cell? ⟨b, off + i * 4 + 2, none⟩ = some (.int .i64 (d i).h.st) ∧ w.cell? ⟨b, off + i * 4 + 3, none⟩ = some (.slice (p i).c.1 (d i).n (p i).c.2) := by
  obtain ⟨b, off, rfl, hc⟩ := h.2.1.chunk (s := 4) (fun i _ => rfl) (by decide) hi
  exact ⟨b, off, rfl, hc 0 _ rfl, hc 1 _ rfl, hc 2 _ rfl, hc 3 _ rfl⟩
/-- A row of cores that came in. -/
def CsC (w : World) (a : Option Addr) (n : Nat) (d : Nat → CoD) (p : Nat → CoP) : Prop := n ≤ maxLen ∧ VCame w a (chunks n fun i => clist (d i) (p i)) ∧ ∀ i, i < n → CoC w (d i) (p i)
theorem CsC.below {w w' : World} {a : Option Addr} {n : Nat} {d : Nat → CoD} {p : Nat → CoP} (h : CsC w a n d p) (hb : Below w.heap.size w w') : CsC w' a n d p := ⟨h.1, h.2.1.below hb, fun i hi => (h.2.2 i hi).below hb⟩
theorem CsC.cr {w : World} {a : Option Addr} {n : Nat} {d : Nat → CoD} {p : Nat → CoP} (h : CsC w a n d p) (hn : n ≤ 1048576) (hx : ∀ i, i < n → CoS (d i)) : CsR w a n d p :=
  ⟨by omega, h.2.1.vrow (by rw [chunks_length (s := 4) n (fun i _ => rfl)]; omega), fun i hi => (h.2.2 i hi).cr (hx i hi)⟩
/-- A row of cores that is owned, each with its own. -/
def CsO (w : World) (a : Option Addr) (c n : Nat) (d : Nat → CoD) (p : Nat → CoP) : Prop := Rw w 49 4 a c n n (fun i => clist (d i) (p i)) (fun i => QCo (d i) (p i)) (fun i => ECo (d i) (p i))
theorem CsO.cr {w : World} {a : Option Addr} {c n : Nat} {d : Nat → CoD} {p : Nat → CoP} (h : CsO w a c n d p) (hn : n ≤ 1048576) (hx : ∀ i, i < n → CoS (d i)) : CsR w a n d p :=
  ⟨by omega, owns_vrow' h.row (by rw [chunks_length (s := 4) n (fun i _ => rfl)]; omega), fun i hi => (h.el i hi).cr (hx i hi)⟩
abbrev CTw (w : World) (lo : Nat) (a : Option Addr) (c n k : Nat) (d : Nat → CoD) (p : Nat → CoP) (z : Nat → List Value) : Prop := Tw w lo 49 4 a c n k (fun i => clist (d i) (p i)) z (fun i => QCo (d i) (p i)) (fun i => ECo (d i) (p i))
theorem core_put {w w2 : World} {lo g c n k : Nat} {d : Nat → CoD} {p : Nat → CoP} {z : Nat → List Value} (h : CTw w lo (some ⟨g, 0, none⟩) c n k d p z) (hz : ∀ i, i < n → (z i).length = 4) (hk : k < n) (b : Below w.heap.size w w2) (hlo : lo ≤ w.heap.size) {p2 : CoP} (o2 : ECo (d k) p2 w2) (l2 : ∀ b, QCo (d k) p2 b → w.heap.size ≤ b) :
    CTw ((((w2.setCell ⟨g, k * 4, none⟩ (.slice p2.r.1 (d k).h.xs.length p2.r.2)).setCell ⟨g, k * 4 + 1, none⟩ (.int .i64 (d k).h.pc)).setCell ⟨g, k * 4 + 2, none⟩ (.int .i64 (d k).h.st)).setCell ⟨g, k * 4 + 3, none⟩ (.slice p2.c.1 (d k).n p2.c.2)) lo (some ⟨g, 0, none⟩) c n (k + 1) d (fun i => if i = k then p2 else p i) z := by
  have hr := owns_below h.r.row b
  have hf : ∀ i, i < n → ((fun i => if i < k then clist (d i) (p i) else z i) i).length = 4 := fun i hi => by dsimp only; split; rfl; exact hz i hi
  have hs := store4 hr hf hk (.slice p2.r.1 (d k).h.xs.length p2.r.2) (.int .i64 (d k).h.pc) (.int .i64 (d k).h.st) (.slice p2.c.1 (d k).n p2.c.2)
  have on : Only w2 ((((w2.setCell ⟨g, k * 4, none⟩ (.slice p2.r.1 (d k).h.xs.length p2.r.2)).setCell ⟨g, k * 4 + 1, none⟩ (.int .i64 (d k).h.pc)).setCell ⟨g, k * 4 + 2, none⟩ (.int .i64 (d k).h.st)).setCell ⟨g, k * 4 + 3, none⟩ (.slice p2.c.1 (d k).n p2.c.2)) (fun b => b = g) := ((((Only.refl w2 (fun b => b = g)).setCell ⟨g, k * 4, none⟩ _ rfl).setCell ⟨g, k * 4 + 1, none⟩ _ rfl).setCell ⟨g, k * 4 + 2, none⟩ _ rfl).setCell ⟨g, k * 4 + 3, none⟩ _ rfl
  refine (h.step b hlo on hs (E' := ECo (d k) p2) o2 (fix_co _ _) (fun x hx => ⟨l2 x hx, o2.lt hx⟩)).congr (fun i hi => ?_) (fun i hi => ?_) (fun i hi => ?_)
  all_goals
    by_cases e : i = k
    · subst e; simp [clist]
    · simp [e]
theorem cr_dr {w : World} {d : CoD} {p : CoP} (h : CoR w d p) : CoR w.drew d p := h.below (below_drewN (Below.refl _ _) 1)

set_option maxRecDepth 100000 in
set_option maxHeartbeats 1000000 in
theorem eqCoreS_any (a b : Option Addr) (ca cb n : Nat) (d : Nat → CoD) (p p' : Nat → CoP) (w : World) (ha : CsR w a n d p) (hb : CsR w b n d p') :
    Calls Try.prog 15 #[.slice a n ca, .slice b n cb] w fun e w' => e = .returned (.bool true) ∧ Below w.heap.size w w' := by
  have hl : n ≤ 1048577 := ha.1
  go_enter Try.func15, Try.ntmps15
  go_wp2
  go_loopw [5] (fun i wr => ∃ k : Nat, k ≤ n ∧ i = .int .i64 k ∧ CsR wr a n d p ∧ CsR wr b n d p' ∧ Below w.heap.size w wr) (fun i _ => n - (intOf i).toNat)
  case atStart => exact ⟨0, Nat.zero_le _, rfl, ha, hb, Below.refl _ _⟩
  case round =>
    obtain ⟨k, hk, rfl, hma, hmb, hB⟩ := hrel
    by_cases hlt : k < n
    · have hi : (k : Int) < (n : Int) := by omega
      obtain ⟨ba, oa, rfl, y0, y1, y2, y3⟩ := hma.at hlt
      obtain ⟨bb, ob, rfl, z0, z1, z2, z3⟩ := hmb.at hlt
      have ra := hma.2.2 k hlt
      have rb := hmb.2.2 k hlt
      clear ha hb
      go_wp2_with fail
      go_region_with (go_at_call 24; refine (eqCore_any (d k) (p k) (p' k) _ (cr_dr ra) (cr_dr rb)).mono ?_; rintro e w1 ⟨rfl, b1⟩)
      all_goals
        have hma1 := hma.below (bel_undrew b1)
        have hmb1 := hmb.below (bel_undrew b1)
        have hB1 := bel_trans hB (bel_undrew b1)
        clear hma hmb hB b1 y0 y1 y2 y3 z0 z1 z2 z3 ra rb
        go_wp2
        go_roundw
        case rel => exact ⟨k + 1, by omega, by go_num, hma1, hmb1, hB1⟩
        case measure => simp [intOf]; omega
    · clear ha hb hma hmb
      go_wp2
      go_ret
      exact ⟨rfl, hB⟩

theorem info_core : (Try.prog.info? 49).map (fun i => (i.zero, i.size, i.bytes)) = some (some (.agg #[.slice none 0 0, .int .i64 0, .int .i64 0, .slice none 0 0]), 4, 64) := by kernel_rfl

set_option maxRecDepth 100000 in
set_option maxHeartbeats 2000000 in
theorem toCoreS_own (a : Option Addr) (ca n : Nat) (d : Nat → CoD) (p : Nat → CoP) (w : World) (hn : n ≤ 1048576) (hx : ∀ i, i < n → CoS (d i)) (ha : CsR w a n d p) :
    Calls Try.prog 13 #[.slice a n ca] w fun e w' => ∃ a' c' p', e = .returned (.slice a' n c') ∧ CsO w' a' c' n d p' ∧ (∀ b, RS a' c' n (fun i => QCo (d i) (p' i)) b → w.heap.size ≤ b) ∧ Below w.heap.size w w' := by
  obtain ⟨i0, hi, hz0, hz1, hz2⟩ := info_parts info_core
  have HX : Hid (∀ i, i < n → CoS (d i)) := hx
  clear hx
  go_enter Try.func13, Try.ntmps13
  go_wp2_with (at_make; refine wpList_make_full _ rfl (.tmp 6) (.tmp 6) 35 rfl w.heap.size 49 i0 (.agg #[.slice none 0 0, .int .i64 0, .int .i64 0, .slice none 0 0]) 4 Try.underlying35 hi hz0 hz1 .i64 .i64 _ _ n rfl rfl rfl rfl (by rw [hz2]; omega) (by unfold maxLen; omega) (Nat.le_refl _) ?_)
  intro w1 ho hg
  have hb1 : Below w.heap.size w w1 := (Below.refl _ _).grown hg (Nat.le_refl _) (fun k hk => by cases hk)
  rw [made_chunks _ 4 n rfl (by decide)] at ho
  have F0 : CTw w1 w.heap.size (some ⟨w.heap.size, 0, none⟩) n n 0 d (fun _ => ⟨(none, 0), (none, 0), fun _ => (none, 0)⟩) (fun _ => [.slice none 0 0, .int .i64 0, .int .i64 0, .slice none 0 0]) := Tw.start (owns_base ho (Nat.zero_le _))
  clear hg ho
  go_wp2
  go_loopw [4] (fun i wr => ∃ k : Nat, k ≤ n ∧ i = .int .i64 k ∧ ∃ p', CTw wr w.heap.size (some ⟨w.heap.size, 0, none⟩) n n k d p' (fun _ => [.slice none 0 0, .int .i64 0, .int .i64 0, .slice none 0 0]) ∧ Below w.heap.size w wr) (fun i _ => n - (intOf i).toNat)
  case atStart => exact ⟨0, Nat.zero_le _, rfl, _, F0, hb1⟩
  case round =>
    obtain ⟨k, hk, rfl, p', hF, hbr⟩ := hrel
    clear F0 hb1
    by_cases hkn : k < n
    · have hi' : (k : Int) < (n : Int) := by omega
      have har := ha.below hbr
      obtain ⟨b, off, rfl, y0, y1, y2, y3⟩ := har.at hkn
      have hrow := har.2.2 k hkn
      go_wp2_with fail
      refine (toCore_own (d k) (p k) _ (HX.out k hkn) hrow).mono ?_
      rintro e w2 ⟨p2, rfl, o2, l2, b2⟩
      have R : Hid _ := core_put hF (fun i _ => rfl) hkn b2 hbr.size o2 l2
      have hr2 := owns_below hF.r.row b2
      have B : Hid _ := bel_setCell (bel_setCell (bel_setCell (bel_setCell ((bel_trans hbr b2)) ⟨w.heap.size, k * 4, none⟩ (.slice p2.r.1 (d k).h.xs.length p2.r.2) (Nat.le_refl _)) ⟨w.heap.size, k * 4 + 1, none⟩ (.int .i64 (d k).h.pc) (Nat.le_refl _)) ⟨w.heap.size, k * 4 + 2, none⟩ (.int .i64 (d k).h.st) (Nat.le_refl _)) ⟨w.heap.size, k * 4 + 3, none⟩ (.slice p2.c.1 (d k).n p2.c.2) (Nat.le_refl _)
      have q0 := hr2.frozenAt (k * 4)
      have q1 := hr2.frozenAt (k * 4 + 1)
      have q2 := hr2.frozenAt (k * 4 + 2)
      have q3 := hr2.frozenAt (k * 4 + 3)
      obtain ⟨u0, g0⟩ := cellN hr2 hkn (t := 0) (by decide)
      obtain ⟨u1, g1⟩ := cellN hr2 hkn (t := 1) (by decide)
      obtain ⟨u2, g2⟩ := cellN hr2 hkn (t := 2) (by decide)
      obtain ⟨u3, g3⟩ := cellN hr2 hkn (t := 3) (by decide)
      rw [Nat.add_zero] at g0
      clear hF har y0 y1 y2 y3 hrow hr2 o2 b2 hbr ha
      go_wp2
      go_roundw
      case rel => exact ⟨k + 1, by omega, by go_num, _, R.out, B.out⟩
      case measure => simp [intOf]; omega
    · have : k = n := by omega
      subst this
      have R : Hid (CsO wr (some ⟨w.heap.size, 0, none⟩) k k d p' ∧ ∀ b, RS (some ⟨w.heap.size, 0, none⟩) k k (fun i => QCo (d i) (p' i)) b → w.heap.size ≤ b) := ⟨hF.all, hF.low (fun g hg => by simp [blk] at hg; omega)⟩
      clear hF ha
      go_wp2
      go_ret
      exact ⟨_, _, p', rfl, R.out.1, R.out.2, hbr⟩

set_option maxRecDepth 100000 in
set_option maxHeartbeats 2000000 in
theorem szCoreS_tot (a : Option Addr) (ca n : Nat) (d : Nat → CoD) (p : Nat → CoP) (L0 : Int) (w : World) (l0 : 0 ≤ L0) (l1 : L0 ≤ 1048576) (ha : CsC w a n d p) :
    Calls Try.prog 10 #[.slice a n ca, .int .i64 L0] w fun e w' => ∃ r, e = .returned (.int .i64 r) ∧ (r = -1 ∨ (0 ≤ r ∧ r + (n + sumN (fun i => cZ (d i)) n : Nat) = L0)) ∧ Below w.heap.size w w' := by
  have hl : n ≤ 9223372036854775807 := by have h1 := ha.1; unfold maxLen at h1; omega
  by_cases hb : L0 < (n : Int)
  · clear ha
    go_enter Try.func10, Try.ntmps10
    go_wp2
    go_ret
    exact ⟨_, rfl, .inl rfl, Below.refl _ _⟩
  · have hb' : (n : Int) ≤ L0 := by omega
    go_enter Try.func10, Try.ntmps10
    go_wp2
    go_loopw [1, 5] (fun q i wr => ∃ (k : Nat) (L : Int), k ≤ n ∧ i = .int .i64 k ∧ q = .int .i64 L ∧ 0 ≤ L ∧ L + (n + sumN (fun i => cZ (d i)) k : Nat) = L0 ∧ CsC wr a n d p ∧ Below w.heap.size w wr) (fun _ i _ => n - (intOf i).toNat)
    case atStart => exact ⟨0, _, Nat.zero_le _, rfl, rfl, by omega, by simp [sumN], ha, Below.refl _ _⟩
    case round =>
      obtain ⟨k, L, hk, rfl, rfl, hL0, hL, hm, hB⟩ := hrel
      have HL : Hid (L + (n + sumN (fun i => cZ (d i)) k : Nat) = L0) := hL
      have hL1 : L ≤ 1048576 := by omega
      clear hL
      by_cases hlt : k < n
      · have hi : (k : Int) < (n : Int) := by omega
        obtain ⟨bl, off, rfl, hc⟩ := hm.2.1.chunk (s := 4) (fun i _ => rfl) (by decide) hlt
        have y0 := hc 0 _ rfl
        have y1 := hc 1 _ rfl
        have y2 := hc 2 _ rfl
        have y3 := hc 3 _ rfl
        rw [Nat.add_zero] at y0
        have hml := hm.2.2 k hlt
        clear hc ha
        go_wp2_with fail
        refine (szCore_tot (d k) (p k) L _ hL0 hL1 hml).mono ?_
        rintro e w1 ⟨r, rfl, hsz, b1⟩
        have hm1 := hm.below b1
        have hB1 := bel_trans hB b1
        clear hm hB b1 y0 y1 y2 y3 hml
        rcases hsz with rfl | ⟨hr0, hr2⟩
        · clear hm1
          go_wp2
          go_ret
          exact ⟨_, rfl, .inl rfl, hB1⟩
        · have HX : Hid (r + (n + sumN (fun i => cZ (d i)) (k + 1) : Nat) = L0) := by
            show _ = _
            have h1 := HL.out
            simp only [sumN] at h1 ⊢
            omega
          clear hr2
          go_wp2
          go_roundw
          case rel => exact ⟨k + 1, r, by omega, by go_num, rfl, hr0, HX.out, hm1, hB1⟩
          case measure => simp [intOf]; omega
      · clear ha hm
        have hkn : k = n := by omega
        rw [hkn] at HL
        go_wp2
        go_ret
        exact ⟨_, rfl, .inr ⟨hL0, HL.out⟩, hB⟩

set_option maxRecDepth 100000 in
theorem open_cores {H : Type} {enc : TypeId × Value → H} {W : World} {base : Nat} {held : Bool} {fuel : Nat} {v : Value} {x : DataW H × List MemPlace} (h : DataW.trod enc Try.prog W base (fun _ => true) held fuel 26 [v] = some x) :
    ∃ (a : Pl) (n : Nat) (d : Nat → CoD) (p : Nat → CoP), v = .slice a.1 n a.2 ∧ CsC W a.1 n d p := by
  obtain ⟨a, c, n, F, rfl, hn, hv, hF⟩ := open_rows 26 60 4 Try.underlying26 cells_core' (by decide) h
  obtain ⟨g, hg⟩ := fun_of (α := CoD × CoP) (⟨⟨[], 0, 0⟩, 0, fun _ => ⟨0, 0, fun _ => ⟨0, 0, 0, 0, 0⟩⟩⟩, ⟨(none, 0), (none, 0), fun _ => (none, 0)⟩) (P := fun i x => F i = clist x.1 x.2 ∧ CoC W x.1 x.2) n (fun i hi => by
    obtain ⟨_, fl, y, hy⟩ := hF i hi
    obtain ⟨d, p, h1, h2⟩ := core_cells hy
    exact ⟨(d, p), h1, h2⟩)
  exact ⟨(a, c), n, fun i => (g i).1, fun i => (g i).2, rfl, hn, hv.congr (fun i hi => (hg i hi).1), fun i hi => (hg i hi).2⟩
end Go.Proofs.Ytpahjfijpjgdnaa
