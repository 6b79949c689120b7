/- What copySender does: all of it new memory. -/
import Derived.Test.YtbofjbjnbagbnaaCopy
import Derived.Deep.RegionWith
import Derived.BigRegion
import Derived.Deep.RegionHeld3
namespace Go.Proofs.Ytbofjbjnbagbnaa
open Go.RowKit
set_option linter.unusedVariables false

theorem row_at4 {w : World} {base n g cap k : Nat} {ds ms : List M} {m : M} (hr : w.ownsRow base 33 4 (.slice (some ⟨g, 0, none⟩) n cap) n (flat ds ++ (flat ms).drop (k * 4))) (hd : ds.length = k) (hk : k < n) (hm : ms[k]? = some m) : At4 w g (k * 4) m := by
  have key : ∀ j, j < 4 → w.cell? ⟨g, k * 4 + j, none⟩ = m.cells[j]? := fun j hj => by
    rw [hr.cellAt (k * 4 + j) (by omega), List.getElem?_append_right (by rw [flat_length]; omega), flat_length, List.getElem?_drop, ← flat_get ms k m hm j hj]
    congr 1
    omega
  exact ⟨by simpa [M.cells] using key 0 (by omega), by simpa [M.cells] using key 1 (by omega), by simpa [M.cells] using key 2 (by omega), by simpa [M.cells] using key 3 (by omega)⟩

theorem lists_rows {w w' : World} {a : Option Addr} {ms : List M} (h : MRow w a ms) (hb : Below w.heap.size w w') {k : Nat} {m : M} (hm : ms[k]? = some m) : Row .i64 w' m.a m.xs := (h.2 k m hm).2.below hb

theorem slots4 {w : World} {base e n g cap k : Nat} {zs : List Value} (hr : w.ownsRow base e 4 (.slice (some ⟨g, 0, none⟩) n cap) n zs) (hk : k < n) :
    ∃ u0 u1 u2 u3, w.cell? ⟨g, k * 4, none⟩ = some u0 ∧ w.cell? ⟨g, k * 4 + 1, none⟩ = some u1 ∧ w.cell? ⟨g, k * 4 + 2, none⟩ = some u2 ∧ w.cell? ⟨g, k * 4 + 3, none⟩ = some u3 ∧ w.frozen? ⟨g, k * 4, none⟩ = false ∧ w.frozen? ⟨g, k * 4 + 1, none⟩ = false ∧ w.frozen? ⟨g, k * 4 + 2, none⟩ = false ∧ w.frozen? ⟨g, k * 4 + 3, none⟩ = false := by
  obtain ⟨u0, h0⟩ := cell_row4 hr (show k * 4 < n * 4 by omega)
  obtain ⟨u1, h1⟩ := cell_row4 hr (show k * 4 + 1 < n * 4 by omega)
  obtain ⟨u2, h2⟩ := cell_row4 hr (show k * 4 + 2 < n * 4 by omega)
  obtain ⟨u3, h3⟩ := cell_row4 hr (show k * 4 + 3 < n * 4 by omega)
  exact ⟨u0, u1, u2, u3, h0, h1, h2, h3, hr.frozenAt _, hr.frozenAt _, hr.frozenAt _, hr.frozenAt _⟩

/-- The four stores of one message into an owned row: all that the loop carries. -/
theorem put4 {w2 : World} {lo n g cap k : Nat} {ds ms : List M} {zs : List Value} {m : M} {a2 : Option Addr} {c2 base2 : Nat} (hr : w2.ownsRow lo 33 4 (.slice (some ⟨g, 0, none⟩) n cap) n (flat ds ++ zs.drop (k * 4))) (hd : ds.length = k) (hz : zs.length = n * 4) (hk : k < n)
    (hds : ds.map M.say = (ms.take k).map M.say) (hm : ms[k]? = some m) (hL : Lists w2 lo ds) (o2 : w2.ownsRow base2 3 1 (.slice a2 m.xs.length c2) m.xs.length (m.xs.map (Value.int .i64))) (hb : lo ≤ base2) (hlt : ∀ x ∈ ds, ∀ j, x.v.ownBlock = some j → j < base2) :
    ∃ ds' : List M, ds'.map M.say = (ms.take (k + 1)).map M.say ∧ ((((w2.setCell ⟨g, k * 4, none⟩ (.int .i64 m.k)).setCell ⟨g, k * 4 + 1, none⟩ (.int .i64 m.p)).setCell ⟨g, k * 4 + 2, none⟩ (.bool m.o)).setCell ⟨g, k * 4 + 3, none⟩ (.slice a2 m.xs.length c2)).ownsRow lo 33 4 (.slice (some ⟨g, 0, none⟩) n cap) n (flat ds' ++ zs.drop ((k + 1) * 4)) ∧ Lists ((((w2.setCell ⟨g, k * 4, none⟩ (.int .i64 m.k)).setCell ⟨g, k * 4 + 1, none⟩ (.int .i64 m.p)).setCell ⟨g, k * 4 + 2, none⟩ (.bool m.o)).setCell ⟨g, k * 4 + 3, none⟩ (.slice a2 m.xs.length c2)) lo ds' := by
  refine ⟨ds ++ [⟨m.k, m.p, m.o, a2, c2, m.xs⟩], ?_, stored4 ⟨m.k, m.p, m.o, a2, c2, m.xs⟩ hr hd hz hk, ?_⟩
  · have e : ms.take (k + 1) = ms.take k ++ [m] := by
      obtain ⟨hk', rfl⟩ := List.getElem?_eq_some_iff.1 hm
      rw [List.take_succ_eq_append_getElem hk']
    rw [e, List.map_append, List.map_append, hds]
    rfl
  · have hS : Lists w2 lo (ds ++ [⟨m.k, m.p, m.o, a2, c2, m.xs⟩]) := hL.snoc (owns_base o2 hb) (fun x hx j hj hk' => by
      have h1 := hlt x hx j hj
      have h2 := o2.lt j hk'
      omega)
    have hne : ∀ x ∈ ds ++ [⟨m.k, m.p, m.o, a2, c2, m.xs⟩], ∀ j, x.v.ownBlock = some j → g ≠ j := fun x hx j hj he => by
      subst he
      exact owns_types hr (hS.1 x hx) (by decide) rfl hj
    exact (((hS.far _ _ hne).far _ _ hne).far _ _ hne).far _ _ hne

set_option maxRecDepth 100000 in
set_option maxHeartbeats 1000000 in
theorem copySender_any (B : Int) (a : Option Addr) (ca : Nat) (ms : List M) (w : World) (ha : MRow w a ms) (hxs : ∀ m ∈ ms, m.xs.length ≤ 1048577) :
    Calls Try.prog 12 #[.agg #[.int .i64 B, .slice a ms.length ca]] w fun e w' => ∃ (a' : Option Addr) (c' : Nat) (ds : List M), e = .returned (.agg #[.int .i64 B, .slice a' ms.length c']) ∧ ds.map M.say = ms.map M.say ∧ Deep w' w.heap.size a' c' ds ∧ Below w.heap.size w w' := by
  have bA := bel_alloc (bel_alloc (Below.refl w.heap.size w) (.cells #[.int .i64 B, .slice a ms.length ca] 26)) (.cells #[.int .i64 0, .slice none 0 0] 26)
  go_enter Try.func12, Try.ntmps12
  go_wp2_with fail
  obtain ⟨X0, X1⟩ := Box.two w #[.int .i64 B, .slice a ms.length ca] #[.int .i64 0, .slice none 0 0] 26 26
  refine (copyMsgs_any a ca ms _ (ha.below bA)).mono ?_
  rintro e w1 ⟨a', c', rfl, o1, b1⟩
  have X0 := X0.below b1
  have X1 := X1.below b1
  obtain ⟨x0, x1, zx⟩ := X0.at2
  have f0 := X0.frozen 0
  have f1 := X0.frozen 1
  obtain ⟨n, hn⟩ : ∃ n, ms.length = n := ⟨_, rfl⟩
  have HN : Hid (ms.length = n) := hn
  have hsm : n ≤ 1048577 := by have := ha.1; omega
  have lr : ∀ j, (Value.slice a' n c').ownBlock = some j → w.heap.size + 2 ≤ j := fun j h => by have := (o1.lt j (by rw [hn]; exact h)).1; simp at this; exact this
  have B1 : Below w.heap.size w (w1.setCell ⟨w.heap.size, 1, none⟩ (.slice a' n c')) := bel_setCell (bel_trans bA b1) _ _ (Nat.le_refl _)
  rw [hn] at o1 X0 bA b1 x1
  rw [hn]
  have o1 : (w1.setCell ⟨w.heap.size, 1, none⟩ (.slice a' n c')).ownsRow w.heap.size 33 4 (.slice a' n c') n (flat ms) := owns_base (owns_setCell o1 (fun j h => by have := lr j h; simp; omega) _) (by simp; omega)
  have X0 : Box (w1.setCell ⟨w.heap.size, 1, none⟩ (.slice a' n c')) w.heap.size #[.int .i64 B, .slice a' n c'] 26 := heap_setCell_same _ _ 1 _ _ _ X0
  have X1 := X1.far ⟨w.heap.size, 1, none⟩ (.slice a' n c') (by simp)
  have LR : Hid (∀ j, (Value.slice a' n c').ownBlock = some j → w.heap.size + 2 ≤ j) := lr
  clear lr hn bA b1
  go_wp2
  clear x0 x1 zx f0 f1
  go_loopw [12] (fun i wr => ∃ k : Nat, k ≤ n ∧ i = .int .i64 k ∧ ∃ ds : List M, ds.map M.say = (ms.take k).map M.say ∧ wr.ownsRow w.heap.size 33 4 (.slice a' n c') n (flat ds ++ (flat ms).drop (k * 4)) ∧ Lists wr w.heap.size ds ∧ Box wr w.heap.size #[.int .i64 B, .slice a' n c'] 26 ∧ Box wr (w.heap.size + 1) #[.int .i64 0, .slice none 0 0] 26 ∧ Below w.heap.size w wr) (fun i _ => n - (intOf i).toNat)
  case atStart => exact ⟨0, Nat.zero_le _, rfl, [], by simp, by simpa [flat_nil] using o1, Lists.nil _ _, X0, X1, B1⟩
  case round =>
    obtain ⟨k, hk, rfl, ds, hds, hr, hL, hX, hY, hbr⟩ := hrel
    clear o1 X0 X1 B1
    have hlk : Hid (ds.length = k) := by have h := congrArg List.length hds; simp at h; have := HN.out; show _ = _; omega
    by_cases hkn : k < n
    · have hi' : (k : Int) < (n : Int) := by omega
      obtain ⟨m, hmk⟩ : ∃ m, ms[k]? = some m := ⟨_, List.getElem?_eq_getElem (by have := HN.out; omega)⟩
      have HM : Hid (ms[k]? = some m) := hmk
      have hlen : m.xs.length ≤ 1048577 := hxs m (List.mem_of_getElem? hmk)
      obtain ⟨g, rfl⟩ := owns_addr hr (by omega)
      obtain ⟨y0, y1, y2, y3⟩ := row_at4 hr hlk.out hkn hmk
      have hrow := lists_rows ha hbr hmk
      obtain ⟨x0, x1, zx⟩ := hX.at2
      clear hmk
      go_wp2_with fail
      have bx := bel_alloc (Below.refl wr.heap.size wr) (.cells #[.int .i64 m.k, .int .i64 m.p, .bool m.o, .slice m.a m.xs.length m.c] 33)
      have hrx := owns_below hr bx
      have hLx := hL.below bx
      have hXx := hX.below bx
      have hYx := hY.below bx
      have hbx := bel_trans hbr bx
      have hrowx := hrow.below bx
      have hlt : Hid (∀ x ∈ ds, ∀ j, x.v.ownBlock = some j → j < (wr.alloc (.cells #[.int .i64 m.k, .int .i64 m.p, .bool m.o, .slice m.a m.xs.length m.c] 33)).heap.size) := fun x hx j hj => (hLx.lt hx hj).2
      have hgl : Hid (w.heap.size + 2 ≤ g) := LR.out g rfl
      have hbz : Hid (w.heap.size ≤ (wr.alloc (.cells #[.int .i64 m.k, .int .i64 m.p, .bool m.o, .slice m.a m.xs.length m.c] 33)).heap.size) := hbx.size
      clear hr hL hX hY hbr hrow y0 y1 y2 y3 bx
      go_region_with (go_at_call 21; refine (copyMsg_any m.k m.p m.o m.a m.c m.xs _ hlen ?_).mono ?_; exact hrowx; rintro e w2 ⟨v2, rfl, o2, b2⟩; obtain ⟨a2, c2, rfl⟩ := owns_slice o2; have b2 := bel_undrew b2; obtain ⟨z0, z1, zz⟩ := (hXx.below b2).at2; obtain ⟨u0, u1, u2, u3, e0, e1, e2, e3, f0, f1, f2, f3⟩ := slots4 (owns_below hrx b2) hkn)
      all_goals
        have hr2 := owns_below hrx b2
        have R := put4 hr2 hlk.out (by rw [flat_length, HN.out]) hkn hds HM.out (hLx.below b2) o2 hbz.out hlt.out
        have RB : Hid (Below w.heap.size w ((((w2.setCell ⟨g, k * 4, none⟩ (.int .i64 m.k)).setCell ⟨g, k * 4 + 1, none⟩ (.int .i64 m.p)).setCell ⟨g, k * 4 + 2, none⟩ (.bool m.o)).setCell ⟨g, k * 4 + 3, none⟩ (.slice a2 m.xs.length c2))) := by
          have hg' := hgl.out
          exact bel_setCell (bel_setCell (bel_setCell (bel_setCell (bel_trans hbx b2) _ _ (by simp; omega)) _ _ (by simp; omega)) _ _ (by simp; omega)) _ _ (by simp; omega)
        have RX := ((((hXx.below b2).far ⟨g, k * 4, none⟩ (.int .i64 m.k) (by have := hgl.out; simp; omega)).far ⟨g, k * 4 + 1, none⟩ (.int .i64 m.p) (by have := hgl.out; simp; omega)).far ⟨g, k * 4 + 2, none⟩ (.bool m.o) (by have := hgl.out; simp; omega)).far ⟨g, k * 4 + 3, none⟩ (.slice a2 m.xs.length c2) (by have := hgl.out; simp; omega)
        have RY := ((((hYx.below b2).far ⟨g, k * 4, none⟩ (.int .i64 m.k) (by have := hgl.out; simp; omega)).far ⟨g, k * 4 + 1, none⟩ (.int .i64 m.p) (by have := hgl.out; simp; omega)).far ⟨g, k * 4 + 2, none⟩ (.bool m.o) (by have := hgl.out; simp; omega)).far ⟨g, k * 4 + 3, none⟩ (.slice a2 m.xs.length c2) (by have := hgl.out; simp; omega)
        obtain ⟨ds', r1, r2, r3⟩ := R
        clear hr2 hrx hLx hXx hYx hbx b2 o2 hrowx e0 e1 e2 e3 f0 f1 f2 f3 z0 z1 zz
        go_wp2
        go_roundw
        case rel => exact ⟨k + 1, by omega, by go_num, ds', r1, r2, r3, RX, RY, RB.out⟩
        case measure => simp [intOf]; omega
    · have : k = n := by omega
      subst this
      rw [List.take_of_length_le (by have := HN.out; omega)] at hds
      rw [List.drop_eq_nil_of_le (by rw [flat_length, HN.out]; omega), List.append_nil] at hr
      obtain ⟨x0, x1, zx⟩ := hX.at2
      obtain ⟨y0, y1, zy⟩ := hY.at2
      have g0 := hY.frozen 0
      have g1 := hY.frozen 1
      have HL : Hid (Lists wr w.heap.size ds) := hL
      have HR : Hid (wr.ownsRow w.heap.size 33 4 (.slice a' k c') k (flat ds)) := hr
      have hNE : Hid (∀ x ∈ ds, ∀ j, x.v.ownBlock = some j → w.heap.size + 1 ≠ j) := fun x hx j hj he => by
        subst he
        rcases (hL.1 x hx).2 with ⟨h1, _⟩ | ⟨g, cap, cur, h1, _, hg, _⟩
        · rw [h1] at hj; simp [Value.ownBlock] at hj
        · rw [h1] at hj
          simp [Value.ownBlock] at hj
          subst hj
          have := hY
          unfold Box at this
          rw [this] at hg
          simp at hg
      clear hX hY hL hr
      go_wp2
      refine bodyPost_ret (v := .agg #[.int .i64 B, .slice a' k c']) (by simp [results, Try.results12, go_sem, y0, y1]) rfl ⟨a', c', ds, by rw [HN.out], hds, ⟨?_, ?_⟩, ?_⟩
      · rw [show ds.length = k from hlk.out]
        repeat refine owns_setCell ?_ ?_ _
        · exact HR.out
        all_goals (intro j h; have := LR.out j h; simp; omega)
      · repeat refine Lists.far ?_ _ _ ?_
        · exact HL.out
        all_goals (intro m hm j h; exact hNE.out m hm j h)
      · repeat refine bel_setCell ?_ _ _ ?_
        · exact hbr
        all_goals (simp; try omega)
end Go.Proofs.Ytbofjbjnbagbnaa
