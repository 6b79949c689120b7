/- Deep and SndTo: see the heads of the parts. -/
import Derived.Test.YtfeabhknkoifeaaRwC
import Derived.Test.YtfeabhknkoifeaaPacket
import Derived.Test.YtfeabhknkoifeaaInfos
import Derived.Deep.RegionWith
import Derived.BigRegion
/- Rows of messages that are owned, with their words. -/
namespace Go.Proofs.Ytfeabhknkoifeaa
open Go.RowKit
set_option linter.unusedVariables false

abbrev M.v (m : M) : Value := .slice m.a m.xs.length m.c
def M.cells (m : M) : List Value := [.int .i64 m.k, .int .i64 m.p, .bool m.o, m.v]
def flat (ms : List M) : List Value := ms.flatMap M.cells

theorem flat_nil : flat [] = [] := rfl
theorem flat_cons (m : M) (ms : List M) : flat (m :: ms) = m.cells ++ flat ms := rfl
theorem flat_append (xs ys : List M) : flat (xs ++ ys) = flat xs ++ flat ys := by simp [flat]
theorem flat_length (ms : List M) : (flat ms).length = ms.length * 4 := by
  induction ms with
  | nil => rfl
  | cons m ms ih => rw [flat_cons, List.length_append, ih]; simp [M.cells]; omega
theorem flat_get (ms : List M) (i : Nat) (m : M) (h : ms[i]? = some m) (j : Nat) (hj : j < 4) : (flat ms)[i * 4 + j]? = m.cells[j]? := by
  induction ms generalizing i with
  | nil => simp at h
  | cons m' ms ih =>
    rw [flat_cons]
    cases i with
    | zero =>
      simp at h
      subst h
      rw [List.getElem?_append_left (by simp [M.cells]; omega)]
      simp
    | succ i =>
      simp at h
      rw [List.getElem?_append_right (by simp [M.cells]; omega)]
      have e : (i + 1) * 4 + j - m'.cells.length = i * 4 + j := by simp [M.cells]; omega
      rw [e]
      exact ih i h

/-- The words' rows of messages: each owned, no two in one block. -/
def Lists (w : World) (lo : Nat) (ms : List M) : Prop :=
  (∀ m ∈ ms, w.ownsRow lo 3 1 m.v m.xs.length (m.xs.map (Value.int .i64))) ∧ ms.Pairwise (fun m m' => ∀ j, m.v.ownBlock = some j → m'.v.ownBlock ≠ some j)

theorem Lists.nil (w : World) (lo : Nat) : Lists w lo [] := ⟨by simp, List.Pairwise.nil⟩
theorem Lists.below {w w' : World} {lo : Nat} {ms : List M} (h : Lists w lo ms) (hb : Below w.heap.size w w') : Lists w' lo ms := ⟨fun m hm => owns_below (h.1 m hm) hb, h.2⟩
theorem Lists.base {w : World} {lo lo' : Nat} {ms : List M} (h : Lists w lo ms) (hl : lo' ≤ lo) : Lists w lo' ms := ⟨fun m hm => owns_base (h.1 m hm) hl, h.2⟩
theorem Lists.dr {w w' : World} {lo d : Nat} {ms : List M} (h : Lists w lo ms) (e : w' = w.drewN d) : Lists w' lo ms := by subst e; exact h
theorem Lists.lt {w : World} {lo : Nat} {ms : List M} (h : Lists w lo ms) {m : M} (hm : m ∈ ms) {j : Nat} (hj : m.v.ownBlock = some j) : lo ≤ j ∧ j < w.heap.size := (h.1 m hm).lt j hj
theorem Lists.snoc {w : World} {lo : Nat} {ms : List M} {m : M} (h : Lists w lo ms) (hm : w.ownsRow lo 3 1 m.v m.xs.length (m.xs.map (Value.int .i64)))
    (hne : ∀ x ∈ ms, ∀ j, x.v.ownBlock = some j → m.v.ownBlock ≠ some j) : Lists w lo (ms ++ [m]) := by
  refine ⟨fun x hx => ?_, ?_⟩
  · rcases List.mem_append.1 hx with hx | hx
    · exact h.1 x hx
    · simp at hx; subst hx; exact hm
  · rw [List.pairwise_append]
    refine ⟨h.2, by simp, fun x hx y hy => ?_⟩
    simp at hy
    subst hy
    exact hne x hx
theorem Lists.far {w : World} {lo : Nat} {ms : List M} (h : Lists w lo ms) (a : Addr) (u : Value) (hne : ∀ m ∈ ms, ∀ j, m.v.ownBlock = some j → a.block ≠ j) : Lists (w.setCell a u) lo ms :=
  ⟨fun m hm => owns_setCell (h.1 m hm) (hne m hm) u, h.2⟩

/-- Two rows of elements of other types do not share a block. -/
theorem owns_types {w : World} {b1 b2 e1 e2 s1 s2 n1 n2 : Nat} {v1 v2 : Value} {x1 x2 : List Value} (h1 : w.ownsRow b1 e1 s1 v1 n1 x1) (h2 : w.ownsRow b2 e2 s2 v2 n2 x2) (he : e1 ≠ e2) {j : Nat} (hj : v1.ownBlock = some j) : v2.ownBlock ≠ some j := by
  intro hk
  rcases h1.2 with ⟨rfl, _⟩ | ⟨g, cap, cur, rfl, _, hg, _⟩
  · simp [Value.ownBlock] at hj
  · rcases h2.2 with ⟨rfl, _⟩ | ⟨g', cap', cur', rfl, _, hg', _⟩
    · simp [Value.ownBlock] at hk
    · simp [Value.ownBlock] at hj hk
      subst hj
      subst hk
      rw [hg] at hg'
      simp at hg'
      exact he hg'.2

/-- An owned row of messages with their words. -/
structure Deep (w : World) (lo : Nat) (a : Option Addr) (c : Nat) (ms : List M) : Prop where
  row : w.ownsRow lo 81 4 (.slice a ms.length c) ms.length (flat ms)
  lists : Lists w lo ms

theorem Deep.below {w w' : World} {lo : Nat} {a : Option Addr} {c : Nat} {ms : List M} (h : Deep w lo a c ms) (hb : Below w.heap.size w w') : Deep w' lo a c ms := ⟨owns_below h.row hb, h.lists.below hb⟩
theorem Deep.dr {w w' : World} {lo d : Nat} {a : Option Addr} {c : Nat} {ms : List M} (h : Deep w lo a c ms) (e : w' = w.drewN d) : Deep w' lo a c ms := by subst e; exact ⟨h.row, h.lists⟩

/-- What a reader is told of an owned row. -/
theorem Deep.mrow {w : World} {lo : Nat} {a : Option Addr} {c : Nat} {ms : List M} (h : Deep w lo a c ms) (hl : ms.length ≤ 1048577) (hx : ∀ m ∈ ms, m.xs.length ≤ 1048577) : MRow w a ms := by
  refine ⟨hl, fun i m hm => ⟨?_, owns_row' (h.lists.1 m (List.mem_of_getElem? hm)) (by have := hx m (List.mem_of_getElem? hm); omega)⟩⟩
  obtain ⟨hi, _⟩ := List.getElem?_eq_some_iff.1 hm
  obtain ⟨g, rfl⟩ := owns_addr h.row (by omega)
  refine ⟨g, 0, rfl, ?_⟩
  have key : ∀ j, j < 4 → w.cell? ⟨g, i * 4 + j, none⟩ = m.cells[j]? := fun j hj => by
    rw [h.row.cellAt (i * 4 + j) (by omega), flat_get ms i m hm j hj]
  rw [Nat.zero_add]
  exact ⟨by simpa [M.cells] using key 0 (by omega), by simpa [M.cells] using key 1 (by omega), by simpa [M.cells] using key 2 (by omega), by simpa [M.cells] using key 3 (by omega)⟩

theorem stored4 {w : World} {base n g cap k : Nat} {ds : List M} {zs : List Value} (m : M) (hr : w.ownsRow base 81 4 (.slice (some ⟨g, 0, none⟩) n cap) n (flat ds ++ zs.drop (k * 4))) (hd : ds.length = k) (hz : zs.length = n * 4) (hk : k < n) :
    ((((w.setCell ⟨g, k * 4, none⟩ (.int .i64 m.k)).setCell ⟨g, k * 4 + 1, none⟩ (.int .i64 m.p)).setCell ⟨g, k * 4 + 2, none⟩ (.bool m.o)).setCell ⟨g, k * 4 + 3, none⟩ (.slice m.a m.xs.length m.c)).ownsRow base 81 4 (.slice (some ⟨g, 0, none⟩) n cap) n (flat (ds ++ [m]) ++ zs.drop ((k + 1) * 4)) := by
  have h0 := (hr.stored (k * 4) (.int .i64 m.k)).1
  rw [set_marks _ _ _ _ (by rw [flat_length]; omega) (by omega)] at h0
  have h1 := (h0.stored (k * 4 + 1) (.int .i64 m.p)).1
  rw [set_marks _ _ _ _ (by rw [List.length_append, flat_length]; simp; omega) (by omega)] at h1
  have h2 := (h1.stored (k * 4 + 1 + 1) (.bool m.o)).1
  rw [set_marks _ _ _ _ (by simp only [List.length_append, flat_length]; simp; omega) (by omega)] at h2
  have h3 := (h2.stored (k * 4 + 1 + 1 + 1) (.slice m.a m.xs.length m.c)).1
  rw [set_marks _ _ _ _ (by simp only [List.length_append, flat_length]; simp; omega) (by omega)] at h3
  have e : flat (ds ++ [m]) ++ zs.drop ((k + 1) * 4) = flat ds ++ [.int .i64 m.k] ++ [.int .i64 m.p] ++ [.bool m.o] ++ [.slice m.a m.xs.length m.c] ++ zs.drop (k * 4 + 1 + 1 + 1 + 1) := by
    rw [flat_append, show (k + 1) * 4 = k * 4 + 1 + 1 + 1 + 1 by omega]
    simp [flat, M.cells]
  rw [e]
  exact h3
end Go.Proofs.Ytfeabhknkoifeaa

/- What the law's small functions over rows of messages and senders do. -/
namespace Go.Proofs.Ytfeabhknkoifeaa
open Go.RowKit
set_option linter.unusedVariables false



theorem say_len {ms ds : List M} (h : ds.map M.say = ms.map M.say) {L : Nat} (hx : ∀ m ∈ ms, m.xs.length ≤ L) : ∀ d ∈ ds, d.xs.length ≤ L + 1 := fun d hd => by
  have h1 : d.say ∈ ms.map M.say := by rw [← h]; exact List.mem_map_of_mem hd
  obtain ⟨m, hm, he⟩ := List.mem_map.1 h1
  have e : m.xs = d.xs := by simp [M.say] at he; exact he.2.2.2
  have := hx m hm
  rw [e] at this
  omega

theorem all_say {ms ds : List M} (h : ds.map M.say = ms.map M.say) : ds.all (fun m => okS m.say) = ms.all (fun m => okS m.say) := by
  have e : ∀ l : List M, l.all (fun m => okS m.say) = (l.map M.say).all okS := fun l => by rw [List.all_map]; rfl
  rw [e, e, h]

theorem senderB_say (B : Int) {ms ds : List M} (h : ds.map M.say = ms.map M.say) : senderB B ds = senderB B ms := by
  have hl : ds.length = ms.length := by have := congrArg List.length h; simpa using this
  unfold senderB
  rw [all_say h, hl]

theorem say_at {ms ds : List M} (h : ds.map M.say = ms.map M.say) {k : Nat} {m : M} (hm : ms[k]? = some m) : ∃ a c, ds[k]? = some ⟨m.k, m.p, m.o, a, c, m.xs⟩ := by
  have h1 : (ds.map M.say)[k]? = some m.say := by rw [h, List.getElem?_map, hm]; rfl
  rw [List.getElem?_map] at h1
  cases hd : ds[k]? with
  | none => rw [hd] at h1; simp at h1
  | some d =>
    rw [hd] at h1
    simp [M.say] at h1
    obtain ⟨k', p', o', a', c', x'⟩ := d
    simp at h1
    obtain ⟨rfl, rfl, rfl, rfl⟩ := h1
    exact ⟨a', c', rfl⟩

set_option maxRecDepth 100000 in
set_option maxHeartbeats 1000000 in
theorem eqMsgS_any (a b : Option Addr) (ca cb : Nat) (ms ds : List M) (n : Nat) (w : World) (hn : ms.length = n) (hs : ds.map M.say = ms.map M.say) (ha : MRow w a ms) (hb : MRow w b ds) :
    Calls Try.prog 79 #[.slice a n ca, .slice b n cb] w fun e w' => e = .returned (.bool true) ∧ Below w.heap.size w w' := by
  have hl : n ≤ 1048577 := by have := ha.1; omega
  have HN : Hid (ms.length = n) := hn
  have HS : Hid (ds.map M.say = ms.map M.say) := hs
  clear hn hs
  go_enter Try.func79, Try.ntmps79
  go_wp2
  go_loopw [5] (fun i wr => ∃ k : Nat, k ≤ n ∧ i = .int .i64 k ∧ MRow wr a ms ∧ MRow wr b ds ∧ Below w.heap.size w wr) (fun i _ => n - (intOf i).toNat)
  case atStart => exact ⟨0, Nat.zero_le _, rfl, ha, hb, Below.refl _ _⟩
  case round =>
    obtain ⟨k, hk, rfl, hma, hmb, hB⟩ := hrel
    by_cases hlt : k < n
    · have hi : (k : Int) < (n : Int) := by omega
      obtain ⟨m, hmk⟩ : ∃ m, ms[k]? = some m := ⟨_, List.getElem?_eq_getElem (by have := HN.out; omega)⟩
      obtain ⟨a', c', hdk⟩ := say_at HS.out hmk
      obtain ⟨⟨ba, oa, rfl, y0, y1, y2, y3⟩, hrowA⟩ := hma.2 k m hmk
      obtain ⟨⟨bb, ob, rfl, z0, z1, z2, z3⟩, hrowB⟩ := hmb.2 k _ hdk
      clear hmk hdk ha hb
      go_wp2_with fail
      go_region_with (go_at_call 63; refine (eqMsg_any m.k m.p m.o m.a a' m.c c' m.xs _ ?_ ?_).mono ?_; exact hrowA; exact hrowB; rintro e w1 ⟨rfl, b1⟩)
      all_goals
        have hma1 := hma.below (bel_undrew b1)
        have hmb1 := hmb.below (bel_undrew b1)
        have hB1 := bel_trans hB (bel_undrew b1)
        clear hma hmb hB b1 y0 y1 y2 y3 z0 z1 z2 z3 hrowA hrowB
        go_wp2
        go_roundw
        case rel => exact ⟨k + 1, by omega, by go_num, hma1, hmb1, hB1⟩
        case measure => simp [intOf]; omega
    · clear ha hb hma hmb
      go_wp2
      go_ret
      exact ⟨rfl, hB⟩

set_option maxRecDepth 100000 in
set_option maxHeartbeats 1000000 in
theorem eqSender_any (base : Int) (a b : Option Addr) (ca cb : Nat) (ms ds : List M) (n : Nat) (w : World) (hn : ms.length = n) (hs : ds.map M.say = ms.map M.say) (ha : MRow w a ms) (hb : MRow w b ds) :
    Calls Try.prog 73 #[.agg #[.int .i64 base, .slice a n ca], .agg #[.int .i64 base, .slice b n cb]] w fun e w' => e = .returned (.bool true) ∧ Below w.heap.size w w' := by
  have bA := bel_alloc (bel_alloc (Below.refl w.heap.size w) (.cells #[.int .i64 base, .slice a n ca] 106)) (.cells #[.int .i64 base, .slice b n cb] 106)
  go_enter Try.func73, Try.ntmps73
  go_wp2_with fail
  refine (eqMsgS_any a b ca cb ms ds n _ hn hs (ha.below bA) (hb.below bA)).mono ?_
  rintro e w1 ⟨rfl, b1⟩
  have B := bel_trans bA b1
  clear bA b1 ha hb
  go_wp2
  go_ret
  exact ⟨rfl, B⟩
end Go.Proofs.Ytfeabhknkoifeaa
