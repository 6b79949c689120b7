/- ImplQ2 and SpecQ and Mark: see the heads of the parts. -/
import Derived.Test.YtpfppeifppdmbaaGreatImplQ
import Derived.Deep.DeepCutAuto
import Derived.Test.YtpfppeifppdmbaaGreatKeep
/- What impl's Queue and Acked answer. -/
namespace Go.Proofs.YtpfppeifppdmbaaGreat
open Go.RowKit
set_option linter.unusedVariables false

theorem shallow {w : World} {lo : Nat} {a : Option Addr} {c n : Nat} {ms : List M} (h : w.ownsRow lo 69 4 (.slice a n c) n (flat ms)) (hn : ms.length = n) (hl : n ≤ 1048577) (hR : ∀ m ∈ ms, Row .i64 w m.a m.xs) : MRow w a ms := by
  refine ⟨by omega, fun i m hm => ⟨?_, hR m (List.mem_of_getElem? hm)⟩⟩
  obtain ⟨hi, _⟩ := List.getElem?_eq_some_iff.1 hm
  obtain ⟨g, rfl⟩ := owns_addr h (by omega)
  refine ⟨g, 0, rfl, ?_⟩
  have key : ∀ j, j < 4 → w.cell? ⟨g, i * 4 + j, none⟩ = m.cells[j]? := fun j hj => by
    rw [h.cellAt (i * 4 + j) (by omega), flat_get ms i m hm j hj]
  rw [Nat.zero_add]
  exact ⟨by simpa [M.cells] using key 0 (by omega), by simpa [M.cells] using key 1 (by omega), by simpa [M.cells] using key 2 (by omega), by simpa [M.cells] using key 3 (by omega)⟩

theorem MRow.row {w : World} {a : Option Addr} {ms : List M} (h : MRow w a ms) {m : M} (hm : m ∈ ms) : Row .i64 w m.a m.xs := by
  obtain ⟨i, hi, rfl⟩ := List.getElem_of_mem hm
  exact (h.2 i _ (List.getElem?_eq_getElem hi)).2

theorem Deep.far {w : World} {lo : Nat} {a : Option Addr} {c : Nat} {ms : List M} (h : Deep w lo a c ms) (x : Addr) (u : Value) (hx : x.block < lo) : Deep (w.setCell x u) lo a c ms :=
  ⟨owns_setCell h.row (fun j hj => by have := (h.row.lt j hj).1; omega) u, h.lists.far x u (fun m hm j hj => by have := (h.lists.lt hm hj).1; omega)⟩
theorem Deep.base {w : World} {lo lo' : Nat} {a : Option Addr} {c : Nat} {ms : List M} (h : Deep w lo a c ms) (hl : lo' ≤ lo) : Deep w lo' a c ms := ⟨owns_base h.row hl, h.lists.base hl⟩

/-- What Queue answers. -/
def QPost (B : Int) (ms : List M) (m : M) (w : World) (e : Ending) (w' : World) : Prop :=
  ∃ (a' : Option Addr) (c' : Nat) (ds : List M), e = .returned (.tuple #[.agg #[.int .i64 B, .slice a' ds.length c'], .bool (senderB B (ms ++ [m]))]) ∧ ds.map M.say = (if senderB B (ms ++ [m]) then ms ++ [m] else ms).map M.say ∧ Deep w' w.heap.size a' c' ds ∧ Below w.heap.size w w'

/-- The sender with one more message, in its box. -/
def NextP (W : World) (B : Int) (ms : List M) (m : M) (s : Value) (wx : World) : Prop :=
  ∃ (A : Nat) (a' : Option Addr) (c' : Nat), s = .pointer (some ⟨A, 0, none⟩) ∧ Box wx A #[.int .i64 B, .slice a' (ms.length + 1) c'] 115 ∧ wx.ownsRow W.heap.size 69 4 (.slice a' (ms.length + 1) c') (ms.length + 1) (flat (ms ++ [m])) ∧ Below W.heap.size W wx

theorem keep6 {W W' : World} (b : Below W.heap.size W W') {a0 a1 a2 a3 a4 a5 : Addr} {u0 u1 u2 u3 u4 u5 : Value}
    (h : W.cell? a0 = some u0 ∧ W.cell? a1 = some u1 ∧ W.cell? a2 = some u2 ∧ W.cell? a3 = some u3 ∧ W.cell? a4 = some u4 ∧ W.cell? a5 = some u5) :
    W'.cell? a0 = some u0 ∧ W'.cell? a1 = some u1 ∧ W'.cell? a2 = some u2 ∧ W'.cell? a3 = some u3 ∧ W'.cell? a4 = some u4 ∧ W'.cell? a5 = some u5 :=
  ⟨cell_later b h.1, cell_later b h.2.1, cell_later b h.2.2.1, cell_later b h.2.2.2.1, cell_later b h.2.2.2.2.1, cell_later b h.2.2.2.2.2⟩

theorem keep6f {W : World} {x : Addr} {u : Value} {a0 a1 a2 a3 a4 a5 : Addr} {u0 u1 u2 u3 u4 u5 : Value}
    (h : W.cell? a0 = some u0 ∧ W.cell? a1 = some u1 ∧ W.cell? a2 = some u2 ∧ W.cell? a3 = some u3 ∧ W.cell? a4 = some u4 ∧ W.cell? a5 = some u5) (hlt : a0.block < x.block ∧ a1.block < x.block ∧ a2.block < x.block ∧ a3.block < x.block ∧ a4.block < x.block ∧ a5.block < x.block) :
    (W.setCell x u).cell? a0 = some u0 ∧ (W.setCell x u).cell? a1 = some u1 ∧ (W.setCell x u).cell? a2 = some u2 ∧ (W.setCell x u).cell? a3 = some u3 ∧ (W.setCell x u).cell? a4 = some u4 ∧ (W.setCell x u).cell? a5 = some u5 := by
  have far : ∀ y : Addr, ∀ v, y.block < x.block → W.cell? y = some v → (W.setCell x u).cell? y = some v := fun y v hy hv => by
    rw [World.cell?_setCell_other _ _ _ _ (fun e => by subst e; omega)]
    exact hv
  exact ⟨far _ _ hlt.1 h.1, far _ _ hlt.2.1 h.2.1, far _ _ hlt.2.2.1 h.2.2.1, far _ _ hlt.2.2.2.1 h.2.2.2.1, far _ _ hlt.2.2.2.2.1 h.2.2.2.2.1, far _ _ hlt.2.2.2.2.2 h.2.2.2.2.2⟩

/-- Three new boxes. -/
theorem Box.three (w : World) (cs cs2 cs3 : Array Value) (t t2 t3 : TypeId) : Box (((w.alloc (.cells cs t)).alloc (.cells cs2 t2)).alloc (.cells cs3 t3)) w.heap.size cs t ∧ Box (((w.alloc (.cells cs t)).alloc (.cells cs2 t2)).alloc (.cells cs3 t3)) (w.heap.size + 1) cs2 t2 ∧ Box (((w.alloc (.cells cs t)).alloc (.cells cs2 t2)).alloc (.cells cs3 t3)) (w.heap.size + 1 + 1) cs3 t3 := by
  obtain ⟨h0, h1⟩ := Box.two w cs cs2 t t2
  refine ⟨h0.below (bel_alloc (Below.refl _ _) _), h1.below (bel_alloc (Below.refl _ _) _), ?_⟩
  have h := Box.new ((w.alloc (.cells cs t)).alloc (.cells cs2 t2)) cs3 t3
  have e : ((w.alloc (.cells cs t)).alloc (.cells cs2 t2)).heap.size = w.heap.size + 1 + 1 := by simp
  rw [e] at h
  exact h

theorem nextp_new {W w1 : World} {B : Int} {ms : List M} {m : M} {a' : Option Addr} {c' : Nat} (o1 : w1.ownsRow W.heap.size 69 4 (.slice a' (ms.length + 1) c') (ms.length + 1) (flat (ms ++ [m]))) (b1 : Below W.heap.size W w1) :
    NextP W B ms m (.pointer (some ⟨w1.heap.size, 0, none⟩)) (w1.alloc (.cells #[.int .i64 B, .slice a' (ms.length + 1) c'] 115)) :=
  ⟨_, a', c', rfl, Box.new w1 _ _, owns_below o1 (bel_alloc (Below.refl _ _) _), bel_alloc b1 _⟩

theorem nextp_set {W w1 : World} {B : Int} {ms : List M} {m : M} {a' : Option Addr} {c' : Nat} (o1 : w1.ownsRow (W.alloc (.cells #[.int .i64 0, .slice none 0 0] 115)).heap.size 69 4 (.slice a' (ms.length + 1) c') (ms.length + 1) (flat (ms ++ [m]))) (b1 : Below (W.alloc (.cells #[.int .i64 0, .slice none 0 0] 115)).heap.size (W.alloc (.cells #[.int .i64 0, .slice none 0 0] 115)) w1) :
    NextP W B ms m (.pointer (some ⟨W.heap.size, 0, none⟩)) ((w1.setCell ⟨W.heap.size, 0, none⟩ (.int .i64 B)).setCell ⟨W.heap.size, 1, none⟩ (.slice a' (ms.length + 1) c')) := by
  have X := (Box.new W #[.int .i64 0, .slice none 0 0] 115).below b1
  have hlt : ∀ j, (Value.slice a' (ms.length + 1) c').ownBlock = some j → W.heap.size ≠ j := fun j hj => by have := (o1.lt j hj).1; simp at this; omega
  refine ⟨_, a', c', rfl, heap_setCell_same _ _ 1 _ _ _ (heap_setCell_same _ _ 0 _ _ _ X), owns_setCell (owns_setCell (owns_base o1 (by simp)) hlt _) hlt _, ?_⟩
  exact bel_setCell (bel_setCell (bel_trans (bel_alloc (Below.refl _ _) _) b1) _ _ (Nat.le_refl _)) _ _ (Nat.le_refl _)

end Go.Proofs.YtpfppeifppdmbaaGreat

/- What the specification's l1Msg and l2Sender do. -/
namespace Go.Proofs.YtpfppeifppdmbaaGreat
open Go.RowKit
set_option linter.unusedVariables false

theorem own_lit (W : World) (base : Nat) (h : base ≤ W.heap.size) : (W.alloc (.cells #[] 3)).ownsRow base 3 1 (.slice (some ⟨W.heap.size, 0, none⟩) 0 0) 0 [] :=
  World.ownsRow_lit W #[] 0 h (by simp [maxLen]) rfl

theorem own3 (w : World) (o1 o2 : Obj) : (((w.alloc o1).alloc o2).alloc (.cells #[] 3)).ownsRow w.heap.size 3 1 (.slice (some ⟨w.heap.size + 1 + 1, 0, none⟩) 0 0) 0 [] := by
  have h := own_lit ((w.alloc o1).alloc o2) w.heap.size (by simp; omega)
  have e : ((w.alloc o1).alloc o2).heap.size = w.heap.size + 1 + 1 := by simp
  rw [e] at h
  exact h

set_option maxRecDepth 100000 in
set_option maxHeartbeats 1000000 in
theorem l1Msg_any (k p : Int) (o : Bool) (a : Option Addr) (c : Nat) (xs : List Int) (w : World) (hsm : xs.length ≤ 1048577) (ha : Row .i64 w a xs) :
    Calls Tryz.prog 76 #[.agg #[.int .i64 k, .int .i64 p, .bool o, .slice a xs.length c]] w fun e w' => ∃ v, e = .returned (.agg #[.int .i64 k, .int .i64 p, .bool o, v]) ∧ w'.ownsRow w.heap.size 3 1 v xs.length (xs.map (Value.int .i64)) ∧ Below w.heap.size w w' := by
  obtain ⟨i0, hi, hz0, hz1, hz2⟩ := info_parts info_i64
  have bA := bel_alloc (bel_alloc (Below.refl w.heap.size w) (.cells #[.int .i64 k, .int .i64 p, .bool o, .slice a xs.length c] 69)) (.cells #[.int .i64 0, .int .i64 0, .bool false, .slice none 0 0] 69)
  obtain ⟨X0, X1⟩ := Box.two w #[.int .i64 k, .int .i64 p, .bool o, .slice a xs.length c] #[.int .i64 0, .int .i64 0, .bool false, .slice none 0 0] 69 69
  have hW : ((w.alloc (.cells #[.int .i64 k, .int .i64 p, .bool o, .slice a xs.length c] 69)).alloc (.cells #[.int .i64 0, .int .i64 0, .bool false, .slice none 0 0] 69)).heap.size = w.heap.size + 1 + 1 := by simp
  have oL := own_lit ((w.alloc (.cells #[.int .i64 k, .int .i64 p, .bool o, .slice a xs.length c] 69)).alloc (.cells #[.int .i64 0, .int .i64 0, .bool false, .slice none 0 0] 69)) (w.heap.size + 1 + 1) (by simp)
  rw [hW] at oL
  have bL := bel_alloc (Below.refl _ ((w.alloc (.cells #[.int .i64 k, .int .i64 p, .bool o, .slice a xs.length c] 69)).alloc (.cells #[.int .i64 0, .int .i64 0, .bool false, .slice none 0 0] 69))) (.cells #[] 3)
  have X0 := X0.below bL
  have X1 := X1.below bL
  have bA := bel_trans bA bL
  clear bL hW
  by_cases h0 : 0 < xs.length
  · obtain ⟨b, off, rfl, hsrc⟩ := row_src (ha.below bA) h0
    have hcl : (xs.map (Value.int .i64)).length = xs.length * 1 := by simp
    go_enter Tryz.func76, Tryz.ntmps76
    go_wp2_with (at_builtin; refine wpList_append_own _ rfl (.tmp 3) (.tmp 5) 27 rfl (w.heap.size + 1 + 1) 3 i0 (.int .i64 0) 1 8 Tryz.underlying27 hi hz0 hz1 hz2 rfl (by decide) _ _ _ rfl oL ⟨b, off, none⟩ xs.length c (xs.map (Value.int .i64)) rfl hcl hsrc ?c2 ?c3 ?c4 ?c5 ?_)
    case c2 => intro u hu; obtain ⟨x, _, rfl⟩ := List.mem_map.1 hu; rfl
    case c3 => unfold maxLen; omega
    case c4 => omega
    case c5 => simp
    · intro v' w1 o1 g1 _
      have hne : ∀ i, i < 2 → (∀ j, (Value.slice (some ⟨w.heap.size + 1 + 1, 0, none⟩) 0 0).ownBlock = some j → j ≠ w.heap.size + i) := fun i hi j hj => by simp [Value.ownBlock] at hj; omega
      have X0 := X0.kept g1 (hne 0 (by omega))
      have X1 := X1.kept g1 (hne 1 (by omega))
      have B1 : Below w.heap.size w w1 := bA.grown g1 bA.size (fun j hj => by simp [Value.ownBlock] at hj; omega)
      obtain ⟨x0, x1, x2, x3, zx⟩ := X0.at4
      obtain ⟨y0, y1, y2, y3, zy⟩ := X1.at4
      have f3 := X0.frozen 3
      have e0 := X1.frozen 0
      have e1 := X1.frozen 1
      have e2 := X1.frozen 2
      have e3 := X1.frozen 3
      have hlt : Hid (∀ j, v'.ownBlock = some j → w.heap.size + 2 ≤ j) := fun j h => (o1.lt j h).1
      obtain ⟨a1, c1, rfl⟩ := owns_slice o1
      clear g1 bA oL hsrc ha X0 X1 hne
      go_wp2
      refine bodyPost_ret (v := .agg #[.int .i64 k, .int .i64 p, .bool o, .slice a1 xs.length c1]) (by simp [results, Tryz.results76, go_sem, y0, y1, y2, y3]) rfl ⟨_, rfl, ?_, ?_⟩
      · repeat refine owns_setCell ?_ ?_ _
        · exact owns_base o1 (by omega)
        all_goals (intro j h; have := hlt.out j h; simp; omega)
      · repeat refine bel_setCell ?_ _ _ ?_
        · exact B1
        all_goals (simp; try omega)
  · have hxe : xs = [] := List.length_eq_zero_iff.1 (by omega)
    subst hxe
    have oL := owns_base oL (show w.heap.size ≤ w.heap.size + 1 + 1 by omega)
    clear ha X0 X1
    clear oL bA
    rcases a with _ | ad
    all_goals
      go_enter Tryz.func76, Tryz.ntmps76
      go_wp2
      refine bodyPost_ret (v := .agg #[.int .i64 k, .int .i64 p, .bool o, .slice (some ⟨w.heap.size + 1 + 1, 0, none⟩) 0 0]) (by simp [results, Tryz.results76, go_sem]) rfl ⟨_, rfl, own3 w _ _, bel_alloc (bel_alloc (bel_alloc (Below.refl _ _) _) _) _⟩
end Go.Proofs.YtpfppeifppdmbaaGreat

/- What the law's markMsgS and heldMsgS do. -/
namespace Go.Proofs.YtpfppeifppdmbaaGreat
open Go.RowKit
set_option linter.unusedVariables false

/-- All blocks of an owned row of messages lie below hi. -/
def Deep.Lt (a : Option Addr) (c : Nat) (ms : List M) (hi : Nat) : Prop := (∀ j, (Value.slice a ms.length c).ownBlock = some j → j < hi) ∧ ∀ m ∈ ms, ∀ j, m.v.ownBlock = some j → j < hi
theorem Deep.lt {w : World} {lo : Nat} {a : Option Addr} {c : Nat} {ms : List M} (h : Deep w lo a c ms) : Deep.Lt a c ms w.heap.size := ⟨fun j hj => (h.row.lt j hj).2, fun m hm j hj => (h.lists.lt hm hj).2⟩
theorem Deep.keep {w w' : World} {lo lo' hi : Nat} {a : Option Addr} {c : Nat} {ms : List M} (h : Deep w lo a c ms) (k : Kept w w' lo' hi) (hm : (∀ j, (Value.slice a ms.length c).ownBlock = some j → j < lo' ∨ hi ≤ j) ∧ ∀ m ∈ ms, ∀ j, m.v.ownBlock = some j → j < lo' ∨ hi ≤ j) : Deep w' lo a c ms :=
  ⟨owns_keep h.row k hm.1, fun m hx => owns_keep (h.lists.1 m hx) k (hm.2 m hx), h.lists.2⟩
theorem Deep.keepLow {w w' : World} {lo lo' hi : Nat} {a : Option Addr} {c : Nat} {ms : List M} (h : Deep w lo a c ms) (k : Kept w w' lo' hi) (hl : Deep.Lt a c ms lo') : Deep w' lo a c ms :=
  h.keep k ⟨fun j hj => .inl (hl.1 j hj), fun m hm j hj => .inl (hl.2 m hm j hj)⟩
theorem Deep.keepHigh {w w' : World} {lo lo' hi : Nat} {a : Option Addr} {c : Nat} {ms : List M} (h : Deep w lo a c ms) (k : Kept w w' lo' hi) (hl : hi ≤ lo) : Deep w' lo a c ms :=
  h.keep k ⟨fun j hj => .inr (by have := (h.row.lt j hj).1; omega), fun m hm j hj => .inr (by have := (h.lists.lt hm hj).1; omega)⟩

def markM (k : Int) (m : M) : M := ⟨k, k + 1, (k + 1 + 1) % 3 == 0, m.a, m.c, mki (k + 1 + 1 + 1) m.xs.length⟩
def markMs : Int → List M → List M
  | _, [] => []
  | k, m :: ms => markM k m :: markMs (k + 1 + 1 + 1 + m.xs.length) ms
def markEnd : Int → List M → Int
  | k, [] => k
  | k, m :: ms => markEnd (k + 1 + 1 + 1 + m.xs.length) ms

theorem markMs_length (k : Int) (ms : List M) : (markMs k ms).length = ms.length := by
  induction ms generalizing k with
  | nil => rfl
  | cons m ms ih => simp [markMs, ih]
theorem markMs_snoc (k : Int) (ms : List M) (m : M) : markMs k (ms ++ [m]) = markMs k ms ++ [markM (markEnd k ms) m] := by
  induction ms generalizing k with
  | nil => rfl
  | cons x ms ih => simp [markMs, markEnd, ih]
theorem markEnd_snoc (k : Int) (ms : List M) (m : M) : markEnd k (ms ++ [m]) = markEnd k ms + 1 + 1 + 1 + m.xs.length := by
  induction ms generalizing k with
  | nil => rfl
  | cons x ms ih => simp [markEnd, ih]
theorem markEnd_bound (k : Int) (ms : List M) (L : Nat) (h : ∀ m ∈ ms, m.xs.length ≤ L) : k ≤ markEnd k ms ∧ markEnd k ms ≤ k + ms.length * (3 + (L : Int)) := by
  induction ms generalizing k with
  | nil => simp [markEnd]
  | cons x ms ih =>
    have h1 := ih (k + 1 + 1 + 1 + x.xs.length) (fun m hm => h m (List.mem_cons_of_mem _ hm))
    have h2 := h x (List.mem_cons_self ..)
    have e : ((ms.length + 1 : Nat) : Int) * (3 + (L : Int)) = (ms.length : Int) * (3 + L) + (3 + L) := by rw [Int.natCast_add, Int.add_mul]; simp
    simp only [markEnd, List.length_cons]
    rw [e]
    omega
theorem markM_v (k : Int) (m : M) : (markM k m).v = m.v := by simp [markM, M.v, mki_length]

/-- The message at place j is marked: what the loop carries. -/
theorem mark_one {w w2 : World} {lo g c j : Nat} {A R : List M} {m : M} {k : Int} (hD : Deep w lo (some ⟨g, 0, none⟩) c (A ++ m :: R)) (hA : A.length = j)
    (g2 : (((w.setCell ⟨g, j * 4, none⟩ (.int .i64 k)).setCell ⟨g, j * 4 + 1, none⟩ (.int .i64 (k + 1))).setCell ⟨g, j * 4 + 2, none⟩ (.bool ((k + 1 + 1) % 3 == 0))).grownBy w2 m.v.ownBlock)
    (o2 : w2.ownsRow lo 3 1 m.v m.xs.length ((mki (k + 1 + 1 + 1) m.xs.length).map (Value.int .i64))) :
    Deep w2 lo (some ⟨g, 0, none⟩) c (A ++ markM k m :: R) := by
  have hr := hD.row
  have hlen : (A ++ markM k m :: R).length = (A ++ m :: R).length := by simp
  have hmm : m ∈ A ++ m :: R := by simp
  have h0 := (hr.stored (j * 4) (.int .i64 k)).1
  have h1 := (h0.stored (j * 4 + 1) (.int .i64 (k + 1))).1
  have h2 := (h1.stored (j * 4 + 2) (.bool ((k + 1 + 1) % 3 == 0))).1
  have hne : ∀ x ∈ A ++ m :: R, ∀ b, x.v.ownBlock = some b → g ≠ b := fun x hx b hb he => by
    subst he
    exact owns_types hr (hD.lists.1 x hx) (by decide) rfl hb
  have hL1 := ((hD.lists.far ⟨g, j * 4, none⟩ (.int .i64 k) hne).far ⟨g, j * 4 + 1, none⟩ (.int .i64 (k + 1)) hne).far ⟨g, j * 4 + 2, none⟩ (.bool ((k + 1 + 1) % 3 == 0)) hne
  have eq : (((flat (A ++ m :: R)).set (j * 4) (.int .i64 k)).set (j * 4 + 1) (.int .i64 (k + 1))).set (j * 4 + 2) (.bool ((k + 1 + 1) % 3 == 0)) = flat (A ++ markM k m :: R) := by
    have hfl : (flat A).length = j * 4 := by rw [flat_length, hA]
    rw [flat_append, flat_append, flat_cons, flat_cons]
    rw [List.set_append_right _ _ (by omega), List.set_append_right _ _ (by omega), List.set_append_right _ _ (by omega), hfl]
    have e0 : j * 4 - j * 4 = 0 := by omega
    have e1 : j * 4 + 1 - j * 4 = 1 := by omega
    have e2 : j * 4 + 2 - j * 4 = 2 := by omega
    rw [e0, e1, e2]
    congr 1
    simp [M.cells, markM, mki_length]
  rw [eq] at h2
  have hp := hD.lists.2
  rw [List.pairwise_append, List.pairwise_cons] at hp
  refine ⟨?_, ?_, ?_⟩
  · rw [hlen]
    refine owns_ne h2 g2 (fun b hb he => ?_)
    exact owns_types hr (hD.lists.1 m hmm) (by decide) hb he
  · intro x hx
    have hx' : x = markM k m ∨ (x ∈ A ∨ x ∈ R) := by
      simp at hx
      rcases hx with h | h | h
      · exact .inr (.inl h)
      · exact .inl h
      · exact .inr (.inr h)
    rcases hx' with rfl | hx'
    · have e : (markM k m).xs.length = m.xs.length := by simp [markM, mki_length]
      rw [markM_v, e]
      exact o2
    · have hin : x ∈ A ++ m :: R := by
        rcases hx' with h | h <;> simp [h]
      refine owns_ne (hL1.1 x hin) g2 (fun b hb he => ?_)
      rcases hx' with h | h
      · exact hp.2.2 x h m (by simp) b hb he
      · exact hp.2.1.1 x h b he hb
  · rw [List.pairwise_append, List.pairwise_cons]
    refine ⟨hp.1, ⟨?_, hp.2.1.2⟩, ?_⟩
    · intro x hx b hb
      rw [markM_v] at hb
      exact hp.2.1.1 x hx b hb
    · intro x hx y hy b hb
      simp at hy
      rcases hy with rfl | hy
      · rw [markM_v]
        exact hp.2.2 x hx m (by simp) b hb
      · exact hp.2.2 x hx y (by simp [hy]) b hb
end Go.Proofs.YtpfppeifppdmbaaGreat
