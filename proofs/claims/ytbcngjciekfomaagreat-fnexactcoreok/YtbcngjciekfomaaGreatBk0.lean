/- In8L and Bk0: see the heads of the parts. -/
import Derived.Test.YtbcngjciekfomaaGreatIn8d
import Derived.Test.YtbcngjciekfomaaGreatHomT
import Derived.Test.YtbcngjciekfomaaGreatRwC
/- The laws of chapter 8 over any impl that answers as it should; the law's toIns, eqIns. -/
namespace Go.Proofs.YtbcngjciekfomaaGreat
open Go.RowKit
set_option linter.unusedVariables false

set_option maxRecDepth 100000 in
set_option maxHeartbeats 2000000 in
theorem toIns_any (op r a b n : Int) (w : World) : Calls Tryz.prog 112 #[.agg (icells op r a b n)] w fun e w' => e = .returned (.agg (icells op r a b n)) ∧ Below w.heap.size w w' := by
  go_enter Tryz.func112, Tryz.ntmps112
  go_wp2
  refine bodyPost_ret (v := .agg (icells op r a b n)) (by simp [results, Tryz.results112, go_sem]) rfl ⟨rfl, ?_⟩
  exact bel_alloc (bel_alloc (bel_alloc (Below.refl _ _) _) _) _

set_option maxRecDepth 100000 in
set_option maxHeartbeats 2000000 in
theorem eqIns_any (op r a b n : Int) (w : World) : Calls Tryz.prog 122 #[.agg (icells op r a b n), .agg (icells op r a b n)] w fun e w' => e = .returned (.bool true) ∧ Below w.heap.size w w' := by
  have B := bel_alloc (bel_alloc (Below.refl w.heap.size w) (.cells (icells op r a b n) 144)) (.cells (icells op r a b n) 144)
  go_enter Tryz.func122, Tryz.ntmps122
  go_wp2
  go_ret
  exact ⟨rfl, B⟩




theorem decV_cells (v : Int) : ∃ op r a b n, decV v = icells op r a b n := by
  unfold decV
  split
  · exact ⟨_, _, _, _, _, rfl⟩
  · exact ⟨_, _, _, _, _, rfl⟩

end Go.Proofs.YtbcngjciekfomaaGreat

/- Rows of places of programs: what a reader is told; what the law's eqInsS, toInsS, markInsS, heldInsS do. -/
namespace Go.Proofs.YtbcngjciekfomaaGreat
open Go.RowKit
set_option linter.unusedVariables false

/-- What a place says. -/
structure XD where
  op : Int
  r : Int
  a : Int
  b : Int
  n : Int
def ic (d : XD) : List Value := [.int .i64 d.op, .int .i64 d.r, .int .i64 d.a, .int .i64 d.b, .int .i64 d.n]
def IR (w : World) (a : Option Addr) (n : Nat) (d : Nat → XD) : Prop := n ≤ 1048577 ∧ VRow w a (chunks n fun i => ic (d i))
theorem IR.below {w w' : World} {a : Option Addr} {n : Nat} {d : Nat → XD} (h : IR w a n d) (hb : Below w.heap.size w w') : IR w' a n d := ⟨h.1, h.2.below hb⟩
theorem IR.at {w : World} {a : Option Addr} {n : Nat} {d : Nat → XD} (h : IR w a n d) {i : Nat} (hi : i < n) :
    ∃ b off, a = some ⟨b, off, none⟩ ∧ w.cell? ⟨b, off + i * 5, none⟩ = some (.int .i64 (d i).op) ∧ w.cell? ⟨b, off + i * 5 + 1, none⟩ = some (.int .i64 (d i).r) ∧ w.cell? ⟨b, off + i * 5 + 2, none⟩ = some (.int .i64 (d i).a) ∧ w.cell? ⟨b, off + i * 5 + 3, none⟩ = some (.int .i64 (d i).b) ∧ w.cell? ⟨b, off + i * 5 + 4, none⟩ = some (.int .i64 (d i).n) := by
  obtain ⟨b, off, rfl, hc⟩ := h.2.chunk (s := 5) (fun i _ => rfl) (by decide) hi
  exact ⟨b, off, rfl, hc 0 _ rfl, hc 1 _ rfl, hc 2 _ rfl, hc 3 _ rfl, hc 4 _ rfl⟩
/-- A row of places that is owned from block lo on. -/
def IOw (w : World) (lo : Nat) (a : Option Addr) (c n : Nat) (d : Nat → XD) : Prop := w.ownsRow lo 144 5 (.slice a n c) n (chunks n fun i => ic (d i))
theorem IOw.ir {w : World} {lo : Nat} {a : Option Addr} {c n : Nat} {d : Nat → XD} (h : IOw w lo a c n d) (hn : n ≤ 1048577) : IR w a n d := ⟨hn, owns_vrow' h (by rw [chunks_length (s := 5) n (fun i _ => rfl)]; omega)⟩
theorem IOw.below {w w' : World} {lo : Nat} {a : Option Addr} {c n : Nat} {d : Nat → XD} (h : IOw w lo a c n d) (hb : Below w.heap.size w w') : IOw w' lo a c n d := owns_below h hb

theorem store5i {w : World} {lo e n g c k : Nat} {f : Nat → List Value} (h : w.ownsRow lo e 5 (.slice (some ⟨g, 0, none⟩) n c) n (chunks n f)) (hf : ∀ i, i < n → (f i).length = 5) (hk : k < n) (c0 c1 c2 c3 c4 : Value) :
    (((((w.setCell ⟨g, k * 5, none⟩ c0).setCell ⟨g, k * 5 + 1, none⟩ c1).setCell ⟨g, k * 5 + 2, none⟩ c2).setCell ⟨g, k * 5 + 3, none⟩ c3).setCell ⟨g, k * 5 + 4, none⟩ c4).ownsRow lo e 5 (.slice (some ⟨g, 0, none⟩) n c) n (chunks n fun i => if i = k then [c0, c1, c2, c3, c4] else f i) := by
  have h1 := owns_stored h hf hk (j := 0) (by decide) c0
  have h2 := owns_stored h1 (set_len hf _ _ _) hk (j := 1) (by decide) c1
  have h3 := owns_stored h2 (set_len (set_len hf _ _ _) _ _ _) hk (j := 2) (by decide) c2
  have h4 := owns_stored h3 (set_len (set_len (set_len hf _ _ _) _ _ _) _ _ _) hk (j := 3) (by decide) c3
  have h5 := owns_stored h4 (set_len (set_len (set_len (set_len hf _ _ _) _ _ _) _ _ _) _ _ _) hk (j := 4) (by decide) c4
  refine owns_congr h5 (fun i hi => ?_)
  have hl := hf i hi
  by_cases e : i = k
  · simp only [if_pos e]
    match hq : f i, hl with
    | [x, y, z, u, v], _ => rfl
  · simp only [if_neg e]
theorem only5 {w : World} {g t : Nat} (c0 c1 c2 c3 c4 : Value) : Only w (((((w.setCell ⟨g, t, none⟩ c0).setCell ⟨g, t + 1, none⟩ c1).setCell ⟨g, t + 2, none⟩ c2).setCell ⟨g, t + 3, none⟩ c3).setCell ⟨g, t + 4, none⟩ c4) (fun b => b = g) :=
  (((((Only.refl w (fun b => b = g)).setCell _ _ rfl).setCell _ _ rfl).setCell _ _ rfl).setCell _ _ rfl).setCell _ _ rfl

set_option maxRecDepth 100000 in
set_option maxHeartbeats 1000000 in
theorem eqInsS_any (a b : Option Addr) (ca cb n : Nat) (d : Nat → XD) (w : World) (ha : IR w a n d) (hb : IR w b n d) :
    Calls Tryz.prog 104 #[.slice a n ca, .slice b n cb] w fun e w' => e = .returned (.bool true) ∧ Below w.heap.size w w' := by
  have hl : n ≤ 1048577 := ha.1
  go_enter Tryz.func104, Tryz.ntmps104
  go_wp2
  go_loopw [5] (fun i wr => ∃ k : Nat, k ≤ n ∧ i = .int .i64 k ∧ IR wr a n d ∧ IR wr b n d ∧ Below w.heap.size w wr) (fun i _ => n - (intOf i).toNat)
  case atStart => exact ⟨0, Nat.zero_le _, rfl, ha, hb, Below.refl _ _⟩
  case round =>
    obtain ⟨k, hk, rfl, hma, hmb, hB⟩ := hrel
    by_cases hlt : k < n
    · have hi : (k : Int) < (n : Int) := by omega
      obtain ⟨ba, oa, rfl, y0, y1, y2, y3, y4⟩ := hma.at hlt
      obtain ⟨bb, ob, rfl, z0, z1, z2, z3, z4⟩ := hmb.at hlt
      clear ha hb
      go_wp2_with fail
      go_region_with (go_at_call 122; refine (eqIns_any (d k).op (d k).r (d k).a (d k).b (d k).n _).mono ?_; rintro e w1 ⟨rfl, b1⟩)
      all_goals
        have hma1 := hma.below (bel_undrew b1)
        have hmb1 := hmb.below (bel_undrew b1)
        have hB1 := bel_trans hB (bel_undrew b1)
        clear hma hmb hB b1 y0 y1 y2 y3 y4 z0 z1 z2 z3 z4
        go_wp2
        go_roundw
        case rel => exact ⟨k + 1, by omega, by go_num, hma1, hmb1, hB1⟩
        case measure => simp [intOf]; omega
    · clear ha hb hma hmb
      go_wp2
      go_ret
      exact ⟨rfl, hB⟩

theorem info_ins2 : (Tryz.prog.info? 144).map (fun i => (i.zero, i.size, i.bytes)) = some (some (.agg #[.int .i64 0, .int .i64 0, .int .i64 0, .int .i64 0, .int .i64 0]), 5, 40) := by kernel_rfl

set_option maxRecDepth 100000 in
set_option maxHeartbeats 1000000 in
theorem toInsS_any (a : Option Addr) (ca n : Nat) (d : Nat → XD) (w : World) (hn : n ≤ 1048576) (ha : IR w a n d) :
    Calls Tryz.prog 89 #[.slice a n ca] w fun e w' => ∃ a' c', e = .returned (.slice a' n c') ∧ IOw w' w.heap.size a' c' n d ∧ Below w.heap.size w w' := by
  obtain ⟨i0, hi, hz0, hz1, hz2⟩ := info_parts info_ins2
  go_enter Tryz.func89, Tryz.ntmps89
  go_wp2_with (at_make; refine wpList_make_full _ rfl (.tmp 6) (.tmp 6) 107 rfl w.heap.size 144 i0 (.agg #[.int .i64 0, .int .i64 0, .int .i64 0, .int .i64 0, .int .i64 0]) 5 Tryz.underlying107 hi hz0 hz1 .i64 .i64 _ _ n rfl rfl rfl rfl (by rw [hz2]; omega) (by unfold maxLen; omega) (Nat.le_refl _) ?_)
  intro w1 ho hg
  have hb1 : Below w.heap.size w w1 := (Below.refl _ _).grown hg (Nat.le_refl _) (fun k hk => by cases hk)
  rw [made_chunks _ 5 n rfl (by decide)] at ho
  have F0 : w1.ownsRow w.heap.size 144 5 (.slice (some ⟨w.heap.size, 0, none⟩) n n) n (chunks n fun i => if i < 0 then ic (d i) else ic ⟨0, 0, 0, 0, 0⟩) := owns_congr ho (fun i hi => by rw [if_neg (Nat.not_lt_zero i)]; rfl)
  clear hg ho
  go_wp2
  go_loopw [4] (fun i wr => ∃ k : Nat, k ≤ n ∧ i = .int .i64 k ∧ wr.ownsRow w.heap.size 144 5 (.slice (some ⟨w.heap.size, 0, none⟩) n n) n (chunks n fun i => if i < k then ic (d i) else ic ⟨0, 0, 0, 0, 0⟩) ∧ Below w.heap.size w wr) (fun i _ => n - (intOf i).toNat)
  case atStart => exact ⟨0, Nat.zero_le _, rfl, F0, hb1⟩
  case round =>
    obtain ⟨k, hk, rfl, hF, hbr⟩ := hrel
    clear F0 hb1
    by_cases hkn : k < n
    · have hi' : (k : Int) < (n : Int) := by omega
      have har := ha.below hbr
      obtain ⟨b, off, rfl, y0, y1, y2, y3, y4⟩ := har.at hkn
      go_wp2_with fail
      refine (toIns_any (d k).op (d k).r (d k).a (d k).b (d k).n _).mono ?_
      rintro e w2 ⟨rfl, b2⟩
      have hr2 := owns_below hF b2
      have R : Hid _ := owns_congr (store5i hr2 (fun i _ => by split <;> rfl) hkn (.int .i64 (d k).op) (.int .i64 (d k).r) (.int .i64 (d k).a) (.int .i64 (d k).b) (.int .i64 (d k).n)) (g := fun i => if i < k + 1 then ic (d i) else ic ⟨0, 0, 0, 0, 0⟩) (upto_step (m := fun i => ic (d i)) (o := fun _ => ic ⟨0, 0, 0, 0, 0⟩) rfl)
      have B : Hid _ := (only5 (w := w2) (g := w.heap.size) (t := k * 5) (.int .i64 (d k).op) (.int .i64 (d k).r) (.int .i64 (d k).a) (.int .i64 (d k).b) (.int .i64 (d k).n)).bel (bel_trans hbr b2) (fun i hi => by omega)
      have z : ∀ t, w2.frozen? ⟨w.heap.size, t, none⟩ = false := fun t => hr2.frozenAt t
      obtain ⟨u0, g0⟩ := cellN hr2 hkn (t := 0) (by decide)
      obtain ⟨u1, g1⟩ := cellN hr2 hkn (t := 1) (by decide)
      obtain ⟨u2, g2⟩ := cellN hr2 hkn (t := 2) (by decide)
      obtain ⟨u3, g3⟩ := cellN hr2 hkn (t := 3) (by decide)
      obtain ⟨u4, g4⟩ := cellN hr2 hkn (t := 4) (by decide)
      rw [Nat.add_zero] at g0
      clear hF har y0 y1 y2 y3 y4 hr2 b2 hbr ha
      go_wp2
      go_roundw
      case rel => exact ⟨k + 1, by omega, by go_num, R.out, B.out⟩
      case measure => simp [intOf]; omega
    · have : k = n := by omega
      subst this
      have R : Hid (IOw wr w.heap.size (some ⟨w.heap.size, 0, none⟩) k k d) := owns_congr hF (fun i hi => by rw [if_pos hi])
      clear hF ha
      go_wp2
      go_ret
      exact ⟨_, _, rfl, R.out, hbr⟩

/-- A marked place. -/
def mI (k : Int) (i : Nat) : XD := ⟨k + 5 * (i : Int), k + 5 * (i : Int) + 1, k + 5 * (i : Int) + 1 + 1, k + 5 * (i : Int) + 1 + 1 + 1, k + 5 * (i : Int) + 1 + 1 + 1 + 1⟩


end Go.Proofs.YtbcngjciekfomaaGreat
