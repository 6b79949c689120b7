/- HomT and In8L and Bk0: see the heads of the parts. -/
import Derived.Test.YtfeabhknkoifeaaHomM
import Derived.Test.YtfeabhknkoifeaaIsA
import Derived.Test.YtfeabhknkoifeaaRwC
/- What the law's small functions over homes do: szHome, toHome and what they call. -/
namespace Go.Proofs.Ytfeabhknkoifeaa
open Go.RowKit
set_option linter.unusedVariables false

theorem info_bool' : (Try.prog.info? 4).map (fun i => (i.zero, i.size, i.bytes)) = some (some (.bool false), 1, 1) := by kernel_rfl
theorem info_wait : (Try.prog.info? 43).map (fun i => (i.zero, i.size, i.bytes)) = some (some (.agg #[.int .i64 0, .bool false]), 2, 16) := by kernel_rfl

theorem bv_take (bs : List Bool) (k : Nat) (h : k < bs.length) : bv (bs.take (k + 1)) = bv (bs.take k) ++ [.bool (bs.getD k false)] := by
  have e : bs.getD k false = bs[k] := by simp [h]
  rw [e, List.take_succ_eq_append_getElem h, bv, bv, List.map_append]
  rfl
theorem wv_take (ws : List (Int × Bool)) (k : Nat) (h : k < ws.length) : wv (ws.take (k + 1)) = wv (ws.take k) ++ [.int .i64 (ws.getD k (0, false)).1, .bool (ws.getD k (0, false)).2] := by
  have e : ws.getD k (0, false) = ws[k] := by simp [h]
  rw [e, List.take_succ_eq_append_getElem h, wv_append]
  rfl

theorem stored2 {w : World} {base e n g cap k : Nat} {A zs : List Value} (u0 u1 : Value) (hr : w.ownsRow base e 2 (.slice (some ⟨g, 0, none⟩) n cap) n (A ++ zs.drop (k * 2))) (hA : A.length = k * 2) (hz : zs.length = n * 2) (hk : k < n) :
    ((w.setCell ⟨g, k * 2, none⟩ u0).setCell ⟨g, k * 2 + 1, none⟩ u1).ownsRow base e 2 (.slice (some ⟨g, 0, none⟩) n cap) n (A ++ [u0, u1] ++ zs.drop ((k + 1) * 2)) := by
  have h0 := (hr.stored (k * 2) u0).1
  rw [set_marks _ _ _ _ hA (by omega)] at h0
  have h1 := (h0.stored (k * 2 + 1) u1).1
  rw [set_marks _ _ _ _ (by rw [List.length_append, hA]; simp) (by omega)] at h1
  have e : A ++ [u0, u1] ++ zs.drop ((k + 1) * 2) = A ++ [u0] ++ [u1] ++ zs.drop (k * 2 + 1 + 1) := by
    rw [show (k + 1) * 2 = k * 2 + 1 + 1 by omega]
    simp
  rw [e]
  exact h1

theorem cell_rowN {w : World} {base e n g cap k size : Nat} {zs : List Value} (hr : w.ownsRow base e size (.slice (some ⟨g, 0, none⟩) n cap) n zs) (hlt : k < n * size) : ∃ u, w.cell? ⟨g, k, none⟩ = some u := by
  rw [hr.cellAt k hlt]
  exact ⟨_, List.getElem?_eq_getElem (by have := hr.1; omega)⟩





theorem Box.tri (w : World) (c0 c1 c2 : Array Value) (t0 t1 t2 : TypeId) : Box (((w.alloc (.cells c0 t0)).alloc (.cells c1 t1)).alloc (.cells c2 t2)) w.heap.size c0 t0 ∧ Box (((w.alloc (.cells c0 t0)).alloc (.cells c1 t1)).alloc (.cells c2 t2)) (w.heap.size + 1) c1 t1 ∧ Box (((w.alloc (.cells c0 t0)).alloc (.cells c1 t1)).alloc (.cells c2 t2)) (w.heap.size + 1 + 1) c2 t2 := by
  obtain ⟨h0, h1⟩ := Box.two w c0 c1 t0 t1
  have h2 := Box.new ((w.alloc (.cells c0 t0)).alloc (.cells c1 t1)) c2 t2
  have e : ((w.alloc (.cells c0 t0)).alloc (.cells c1 t1)).heap.size = w.heap.size + 1 + 1 := by simp
  rw [e] at h2
  exact ⟨h0.below (bel_alloc (Below.refl _ _) _), h1.below (bel_alloc (Below.refl _ _) _), h2⟩

theorem at8' {w : World} {m : Nat} {t : TypeId} {c0 c1 c2 c3 c4 c5 c6 c7 : Value} (h : Box w m #[c0, c1, c2, c3, c4, c5, c6, c7] t) :
    w.cell? ⟨m, 0, none⟩ = some c0 ∧ w.cell? ⟨m, 1, none⟩ = some c1 ∧ w.cell? ⟨m, 2, none⟩ = some c2 ∧ w.cell? ⟨m, 3, none⟩ = some c3 ∧ w.cell? ⟨m, 4, none⟩ = some c4 ∧ w.cell? ⟨m, 5, none⟩ = some c5 ∧ w.cell? ⟨m, 6, none⟩ = some c6 ∧ w.cell? ⟨m, 7, none⟩ = some c7 ∧ m < w.heap.size :=
  ⟨by rw [h.cell]; rfl, by rw [h.cell]; rfl, by rw [h.cell]; rfl, by rw [h.cell]; rfl, by rw [h.cell]; rfl, by rw [h.cell]; rfl, by rw [h.cell]; rfl, by rw [h.cell]; rfl, h.lt⟩

end Go.Proofs.Ytfeabhknkoifeaa

/- The laws of chapter 8 over any impl that answers as it should; the law's toIns, eqIns. -/
namespace Go.Proofs.Ytfeabhknkoifeaa
open Go.RowKit
set_option linter.unusedVariables false


set_option maxRecDepth 100000 in
set_option maxHeartbeats 2000000 in
theorem eqIns_any (op r a b n : Int) (w : World) : Calls Try.prog 80 #[.agg (icells op r a b n), .agg (icells op r a b n)] w fun e w' => e = .returned (.bool true) ∧ Below w.heap.size w w' := by
  have B := bel_alloc (bel_alloc (Below.refl w.heap.size w) (.cells (icells op r a b n) 111)) (.cells (icells op r a b n) 111)
  go_enter Try.func80, Try.ntmps80
  go_wp2
  go_ret
  exact ⟨rfl, B⟩




theorem decV_cells (v : Int) : ∃ op r a b n, decV v = icells op r a b n := by
  unfold decV
  split
  · exact ⟨_, _, _, _, _, rfl⟩
  · exact ⟨_, _, _, _, _, rfl⟩

end Go.Proofs.Ytfeabhknkoifeaa

/- Rows of places of programs: what a reader is told; what the law's eqInsS, toInsS, markInsS, heldInsS do. -/
namespace Go.Proofs.Ytfeabhknkoifeaa
open Go.RowKit
set_option linter.unusedVariables false

/-- What a place says. -/
structure XD where
  op : Int
  r : Int
  a : Int
  b : Int
  n : Int
def ic (d : XD) : List Value := [.int .i64 d.op, .int .i64 d.r, .int .i64 d.a, .int .i64 d.b, .int .i64 d.n]
def IR (w : World) (a : Option Addr) (n : Nat) (d : Nat → XD) : Prop := n ≤ 1048577 ∧ VRow w a (chunks n fun i => ic (d i))
theorem IR.below {w w' : World} {a : Option Addr} {n : Nat} {d : Nat → XD} (h : IR w a n d) (hb : Below w.heap.size w w') : IR w' a n d := ⟨h.1, h.2.below hb⟩
theorem IR.at {w : World} {a : Option Addr} {n : Nat} {d : Nat → XD} (h : IR w a n d) {i : Nat} (hi : i < n) :
    ∃ b off, a = some ⟨b, off, none⟩ ∧ w.cell? ⟨b, off + i * 5, none⟩ = some (.int .i64 (d i).op) ∧ w.cell? ⟨b, off + i * 5 + 1, none⟩ = some (.int .i64 (d i).r) ∧ w.cell? ⟨b, off + i * 5 + 2, none⟩ = some (.int .i64 (d i).a) ∧ w.cell? ⟨b, off + i * 5 + 3, none⟩ = some (.int .i64 (d i).b) ∧ w.cell? ⟨b, off + i * 5 + 4, none⟩ = some (.int .i64 (d i).n) := by
  obtain ⟨b, off, rfl, hc⟩ := h.2.chunk (s := 5) (fun i _ => rfl) (by decide) hi
  exact ⟨b, off, rfl, hc 0 _ rfl, hc 1 _ rfl, hc 2 _ rfl, hc 3 _ rfl, hc 4 _ rfl⟩
/-- A row of places that is owned from block lo on. -/
def IOw (w : World) (lo : Nat) (a : Option Addr) (c n : Nat) (d : Nat → XD) : Prop := w.ownsRow lo 111 5 (.slice a n c) n (chunks n fun i => ic (d i))
theorem IOw.ir {w : World} {lo : Nat} {a : Option Addr} {c n : Nat} {d : Nat → XD} (h : IOw w lo a c n d) (hn : n ≤ 1048577) : IR w a n d := ⟨hn, owns_vrow' h (by rw [chunks_length (s := 5) n (fun i _ => rfl)]; omega)⟩
theorem IOw.below {w w' : World} {lo : Nat} {a : Option Addr} {c n : Nat} {d : Nat → XD} (h : IOw w lo a c n d) (hb : Below w.heap.size w w') : IOw w' lo a c n d := owns_below h hb

theorem store5i {w : World} {lo e n g c k : Nat} {f : Nat → List Value} (h : w.ownsRow lo e 5 (.slice (some ⟨g, 0, none⟩) n c) n (chunks n f)) (hf : ∀ i, i < n → (f i).length = 5) (hk : k < n) (c0 c1 c2 c3 c4 : Value) :
    (((((w.setCell ⟨g, k * 5, none⟩ c0).setCell ⟨g, k * 5 + 1, none⟩ c1).setCell ⟨g, k * 5 + 2, none⟩ c2).setCell ⟨g, k * 5 + 3, none⟩ c3).setCell ⟨g, k * 5 + 4, none⟩ c4).ownsRow lo e 5 (.slice (some ⟨g, 0, none⟩) n c) n (chunks n fun i => if i = k then [c0, c1, c2, c3, c4] else f i) := by
  have h1 := owns_stored h hf hk (j := 0) (by decide) c0
  have h2 := owns_stored h1 (set_len hf _ _ _) hk (j := 1) (by decide) c1
  have h3 := owns_stored h2 (set_len (set_len hf _ _ _) _ _ _) hk (j := 2) (by decide) c2
  have h4 := owns_stored h3 (set_len (set_len (set_len hf _ _ _) _ _ _) _ _ _) hk (j := 3) (by decide) c3
  have h5 := owns_stored h4 (set_len (set_len (set_len (set_len hf _ _ _) _ _ _) _ _ _) _ _ _) hk (j := 4) (by decide) c4
  refine owns_congr h5 (fun i hi => ?_)
  have hl := hf i hi
  by_cases e : i = k
  · simp only [if_pos e]
    match hq : f i, hl with
    | [x, y, z, u, v], _ => rfl
  · simp only [if_neg e]
theorem only5 {w : World} {g t : Nat} (c0 c1 c2 c3 c4 : Value) : Only w (((((w.setCell ⟨g, t, none⟩ c0).setCell ⟨g, t + 1, none⟩ c1).setCell ⟨g, t + 2, none⟩ c2).setCell ⟨g, t + 3, none⟩ c3).setCell ⟨g, t + 4, none⟩ c4) (fun b => b = g) :=
  (((((Only.refl w (fun b => b = g)).setCell _ _ rfl).setCell _ _ rfl).setCell _ _ rfl).setCell _ _ rfl).setCell _ _ rfl

set_option maxRecDepth 100000 in
set_option maxHeartbeats 1000000 in
theorem eqInsS_any (a b : Option Addr) (ca cb n : Nat) (d : Nat → XD) (w : World) (ha : IR w a n d) (hb : IR w b n d) :
    Calls Try.prog 75 #[.slice a n ca, .slice b n cb] w fun e w' => e = .returned (.bool true) ∧ Below w.heap.size w w' := by
  have hl : n ≤ 1048577 := ha.1
  go_enter Try.func75, Try.ntmps75
  go_wp2
  go_loopw [5] (fun i wr => ∃ k : Nat, k ≤ n ∧ i = .int .i64 k ∧ IR wr a n d ∧ IR wr b n d ∧ Below w.heap.size w wr) (fun i _ => n - (intOf i).toNat)
  case atStart => exact ⟨0, Nat.zero_le _, rfl, ha, hb, Below.refl _ _⟩
  case round =>
    obtain ⟨k, hk, rfl, hma, hmb, hB⟩ := hrel
    by_cases hlt : k < n
    · have hi : (k : Int) < (n : Int) := by omega
      obtain ⟨ba, oa, rfl, y0, y1, y2, y3, y4⟩ := hma.at hlt
      obtain ⟨bb, ob, rfl, z0, z1, z2, z3, z4⟩ := hmb.at hlt
      clear ha hb
      go_wp2_with fail
      go_region_with (go_at_call 80; refine (eqIns_any (d k).op (d k).r (d k).a (d k).b (d k).n _).mono ?_; rintro e w1 ⟨rfl, b1⟩)
      all_goals
        have hma1 := hma.below (bel_undrew b1)
        have hmb1 := hmb.below (bel_undrew b1)
        have hB1 := bel_trans hB (bel_undrew b1)
        clear hma hmb hB b1 y0 y1 y2 y3 y4 z0 z1 z2 z3 z4
        go_wp2
        go_roundw
        case rel => exact ⟨k + 1, by omega, by go_num, hma1, hmb1, hB1⟩
        case measure => simp [intOf]; omega
    · clear ha hb hma hmb
      go_wp2
      go_ret
      exact ⟨rfl, hB⟩

theorem info_ins2 : (Try.prog.info? 111).map (fun i => (i.zero, i.size, i.bytes)) = some (some (.agg #[.int .i64 0, .int .i64 0, .int .i64 0, .int .i64 0, .int .i64 0]), 5, 40) := by kernel_rfl


/-- A marked place. -/
def mI (k : Int) (i : Nat) : XD := ⟨k + 5 * (i : Int), k + 5 * (i : Int) + 1, k + 5 * (i : Int) + 1 + 1, k + 5 * (i : Int) + 1 + 1 + 1, k + 5 * (i : Int) + 1 + 1 + 1 + 1⟩

set_option maxRecDepth 100000 in
set_option maxHeartbeats 1000000 in
theorem markInsS_any (lo n : Nat) (a : Option Addr) (c : Nat) (d : Nat → XD) (k0 : Int) (w : World) (h0 : 0 ≤ k0) (h1 : k0 ≤ 4611686018427387904) (hn : n ≤ 1048577) (hown : IOw w lo a c n d) :
    Calls Try.prog 53 #[.slice a n c, .int .i64 k0] w fun e w' => e = .returned (.int .i64 (k0 + 5 * (n : Int))) ∧ IOw w' lo a c n (mI k0) ∧ Only w w' (fun b => blk (a, c) = some b) := by
  go_enter Try.func53, Try.ntmps53
  go_wp2
  go_loopw [1, 5] (fun q i wr => ∃ k : Nat, k ≤ n ∧ i = .int .i64 k ∧ q = .int .i64 (k0 + 5 * (k : Int)) ∧ IOw wr lo a c n (fun i => if i < k then mI k0 i else d i) ∧ Only w wr (fun b => blk (a, c) = some b)) (fun _ i _ => n - (intOf i).toNat)
  case atStart => exact ⟨0, Nat.zero_le _, rfl, by simp, by simpa using hown, Only.refl _ _⟩
  case round =>
    obtain ⟨k, hk, rfl, rfl, hr, hK⟩ := hrel
    by_cases hlt : k < n
    · obtain ⟨g, rfl⟩ := owns_addr hr (by omega)
      have R : Hid _ := owns_congr (store5i hr (fun i _ => rfl) hlt (.int .i64 (k0 + 5 * (k : Int))) (.int .i64 (k0 + 5 * (k : Int) + 1)) (.int .i64 (k0 + 5 * (k : Int) + 1 + 1)) (.int .i64 (k0 + 5 * (k : Int) + 1 + 1 + 1)) (.int .i64 (k0 + 5 * (k : Int) + 1 + 1 + 1 + 1))) (g := fun i => ic (if i < k + 1 then mI k0 i else d i)) (fun i hi => by
        by_cases e : i = k
        · subst e; simp [ic, mI]
        · by_cases e2 : i < k
          · simp [e, e2, show i < k + 1 by omega]
          · simp [e, e2, show ¬ i < k + 1 by omega])
      have K : Hid _ := hK.trans ((only5 (w := wr) (g := g) (t := k * 5) (.int .i64 (k0 + 5 * (k : Int))) (.int .i64 (k0 + 5 * (k : Int) + 1)) (.int .i64 (k0 + 5 * (k : Int) + 1 + 1)) (.int .i64 (k0 + 5 * (k : Int) + 1 + 1 + 1)) (.int .i64 (k0 + 5 * (k : Int) + 1 + 1 + 1 + 1))).more (T := fun b => blk (some ⟨g, 0, none⟩, c) = some b) (fun b hb => by subst hb; rfl))
      have z : ∀ t, wr.frozen? ⟨g, t, none⟩ = false := fun t => World.ownsRow.frozenAt hr t
      obtain ⟨u0, g0⟩ := cellN hr hlt (t := 0) (by decide)
      obtain ⟨u1, g1⟩ := cellN hr hlt (t := 1) (by decide)
      obtain ⟨u2, g2⟩ := cellN hr hlt (t := 2) (by decide)
      obtain ⟨u3, g3⟩ := cellN hr hlt (t := 3) (by decide)
      obtain ⟨u4, g4⟩ := cellN hr hlt (t := 4) (by decide)
      rw [Nat.add_zero] at g0
      have hi : (k : Int) < (n : Int) := by omega
      clear hr hK hown
      go_wp2
      go_roundw
      case rel => exact ⟨k + 1, by omega, by go_num, by go_num, R.out, K.out⟩
      case measure => simp [intOf]; omega
    · have : k = n := by omega
      subst this
      have R : Hid (IOw wr lo a c k (mI k0)) := owns_congr hr (fun i hi => by simp [hi])
      clear hr hown
      go_wp2
      go_ret
      exact ⟨rfl, R.out, hK⟩

set_option maxRecDepth 100000 in
set_option maxHeartbeats 1000000 in
theorem heldInsS_any (a : Option Addr) (ca n : Nat) (k0 : Int) (w : World) (h0 : 0 ≤ k0) (h1 : k0 ≤ 4611686018427387904) (ha : IR w a n (mI k0)) :
    Calls Try.prog 58 #[.slice a n ca, .int .i64 k0] w fun e w' => e = .returned (.int .i64 (k0 + 5 * (n : Int))) ∧ Below w.heap.size w w' := by
  have hl := ha.1
  go_enter Try.func58, Try.ntmps58
  go_wp2
  go_loopw [1, 5] (fun q i wr => ∃ k : Nat, k ≤ n ∧ i = .int .i64 k ∧ q = .int .i64 (k0 + 5 * (k : Int)) ∧ Below w.heap.size w wr) (fun _ i _ => n - (intOf i).toNat)
  case atStart => exact ⟨0, Nat.zero_le _, rfl, by simp, Below.refl _ _⟩
  case round =>
    obtain ⟨k, hk, rfl, rfl, hB⟩ := hrel
    by_cases hlt : k < n
    · obtain ⟨ba, oa, rfl, y0, y1, y2, y3, y4⟩ := (ha.below hB).at hlt
      simp only [mI] at y0 y1 y2 y3 y4
      have hi : (k : Int) < (n : Int) := by omega
      clear ha
      go_wp2
      go_roundw
      case rel => exact ⟨k + 1, by omega, by go_num, by go_num, hB⟩
      case measure => simp [intOf]; omega
    · clear ha
      go_wp2
      go_ret
      have : k = n := by omega
      exact ⟨ret_int (by rw [this]), hB⟩
end Go.Proofs.Ytfeabhknkoifeaa
