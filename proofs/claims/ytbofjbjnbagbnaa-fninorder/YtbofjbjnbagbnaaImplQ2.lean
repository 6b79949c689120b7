/- What impl's Queue and Acked answer. -/
import Derived.Test.YtbofjbjnbagbnaaImplQ
import Derived.Deep.DeepCutAuto
namespace Go.Proofs.Ytbofjbjnbagbnaa
open Go.RowKit
set_option linter.unusedVariables false

theorem shallow {w : World} {lo : Nat} {a : Option Addr} {c n : Nat} {ms : List M} (h : w.ownsRow lo 33 4 (.slice a n c) n (flat ms)) (hn : ms.length = n) (hl : n ≤ 1048577) (hR : ∀ m ∈ ms, Row .i64 w m.a m.xs) : MRow w a ms := by
  refine ⟨by omega, fun i m hm => ⟨?_, hR m (List.mem_of_getElem? hm)⟩⟩
  obtain ⟨hi, _⟩ := List.getElem?_eq_some_iff.1 hm
  obtain ⟨g, rfl⟩ := owns_addr h (by omega)
  refine ⟨g, 0, rfl, ?_⟩
  have key : ∀ j, j < 4 → w.cell? ⟨g, i * 4 + j, none⟩ = m.cells[j]? := fun j hj => by
    rw [h.cellAt (i * 4 + j) (by omega), flat_get ms i m hm j hj]
  rw [Nat.zero_add]
  exact ⟨by simpa [M.cells] using key 0 (by omega), by simpa [M.cells] using key 1 (by omega), by simpa [M.cells] using key 2 (by omega), by simpa [M.cells] using key 3 (by omega)⟩

theorem MRow.row {w : World} {a : Option Addr} {ms : List M} (h : MRow w a ms) {m : M} (hm : m ∈ ms) : Row .i64 w m.a m.xs := by
  obtain ⟨i, hi, rfl⟩ := List.getElem_of_mem hm
  exact (h.2 i _ (List.getElem?_eq_getElem hi)).2

theorem Deep.far {w : World} {lo : Nat} {a : Option Addr} {c : Nat} {ms : List M} (h : Deep w lo a c ms) (x : Addr) (u : Value) (hx : x.block < lo) : Deep (w.setCell x u) lo a c ms :=
  ⟨owns_setCell h.row (fun j hj => by have := (h.row.lt j hj).1; omega) u, h.lists.far x u (fun m hm j hj => by have := (h.lists.lt hm hj).1; omega)⟩
theorem Deep.base {w : World} {lo lo' : Nat} {a : Option Addr} {c : Nat} {ms : List M} (h : Deep w lo a c ms) (hl : lo' ≤ lo) : Deep w lo' a c ms := ⟨owns_base h.row hl, h.lists.base hl⟩

/-- What Queue answers. -/
def QPost (B : Int) (ms : List M) (m : M) (w : World) (e : Ending) (w' : World) : Prop :=
  ∃ (a' : Option Addr) (c' : Nat) (ds : List M), e = .returned (.tuple #[.agg #[.int .i64 B, .slice a' ds.length c'], .bool (senderB B (ms ++ [m]))]) ∧ ds.map M.say = (if senderB B (ms ++ [m]) then ms ++ [m] else ms).map M.say ∧ Deep w' w.heap.size a' c' ds ∧ Below w.heap.size w w'

/-- The sender with one more message, in its box. -/
def NextP (W : World) (B : Int) (ms : List M) (m : M) (s : Value) (wx : World) : Prop :=
  ∃ (A : Nat) (a' : Option Addr) (c' : Nat), s = .pointer (some ⟨A, 0, none⟩) ∧ Box wx A #[.int .i64 B, .slice a' (ms.length + 1) c'] 26 ∧ wx.ownsRow W.heap.size 33 4 (.slice a' (ms.length + 1) c') (ms.length + 1) (flat (ms ++ [m])) ∧ Below W.heap.size W wx

theorem keep6 {W W' : World} (b : Below W.heap.size W W') {a0 a1 a2 a3 a4 a5 : Addr} {u0 u1 u2 u3 u4 u5 : Value}
    (h : W.cell? a0 = some u0 ∧ W.cell? a1 = some u1 ∧ W.cell? a2 = some u2 ∧ W.cell? a3 = some u3 ∧ W.cell? a4 = some u4 ∧ W.cell? a5 = some u5) :
    W'.cell? a0 = some u0 ∧ W'.cell? a1 = some u1 ∧ W'.cell? a2 = some u2 ∧ W'.cell? a3 = some u3 ∧ W'.cell? a4 = some u4 ∧ W'.cell? a5 = some u5 :=
  ⟨cell_later b h.1, cell_later b h.2.1, cell_later b h.2.2.1, cell_later b h.2.2.2.1, cell_later b h.2.2.2.2.1, cell_later b h.2.2.2.2.2⟩

theorem keep6f {W : World} {x : Addr} {u : Value} {a0 a1 a2 a3 a4 a5 : Addr} {u0 u1 u2 u3 u4 u5 : Value}
    (h : W.cell? a0 = some u0 ∧ W.cell? a1 = some u1 ∧ W.cell? a2 = some u2 ∧ W.cell? a3 = some u3 ∧ W.cell? a4 = some u4 ∧ W.cell? a5 = some u5) (hlt : a0.block < x.block ∧ a1.block < x.block ∧ a2.block < x.block ∧ a3.block < x.block ∧ a4.block < x.block ∧ a5.block < x.block) :
    (W.setCell x u).cell? a0 = some u0 ∧ (W.setCell x u).cell? a1 = some u1 ∧ (W.setCell x u).cell? a2 = some u2 ∧ (W.setCell x u).cell? a3 = some u3 ∧ (W.setCell x u).cell? a4 = some u4 ∧ (W.setCell x u).cell? a5 = some u5 := by
  have far : ∀ y : Addr, ∀ v, y.block < x.block → W.cell? y = some v → (W.setCell x u).cell? y = some v := fun y v hy hv => by
    rw [World.cell?_setCell_other _ _ _ _ (fun e => by subst e; omega)]
    exact hv
  exact ⟨far _ _ hlt.1 h.1, far _ _ hlt.2.1 h.2.1, far _ _ hlt.2.2.1 h.2.2.1, far _ _ hlt.2.2.2.1 h.2.2.2.1, far _ _ hlt.2.2.2.2.1 h.2.2.2.2.1, far _ _ hlt.2.2.2.2.2 h.2.2.2.2.2⟩

/-- Three new boxes. -/
theorem Box.three (w : World) (cs cs2 cs3 : Array Value) (t t2 t3 : TypeId) : Box (((w.alloc (.cells cs t)).alloc (.cells cs2 t2)).alloc (.cells cs3 t3)) w.heap.size cs t ∧ Box (((w.alloc (.cells cs t)).alloc (.cells cs2 t2)).alloc (.cells cs3 t3)) (w.heap.size + 1) cs2 t2 ∧ Box (((w.alloc (.cells cs t)).alloc (.cells cs2 t2)).alloc (.cells cs3 t3)) (w.heap.size + 1 + 1) cs3 t3 := by
  obtain ⟨h0, h1⟩ := Box.two w cs cs2 t t2
  refine ⟨h0.below (bel_alloc (Below.refl _ _) _), h1.below (bel_alloc (Below.refl _ _) _), ?_⟩
  have h := Box.new ((w.alloc (.cells cs t)).alloc (.cells cs2 t2)) cs3 t3
  have e : ((w.alloc (.cells cs t)).alloc (.cells cs2 t2)).heap.size = w.heap.size + 1 + 1 := by simp
  rw [e] at h
  exact h

theorem nextp_new {W w1 : World} {B : Int} {ms : List M} {m : M} {a' : Option Addr} {c' : Nat} (o1 : w1.ownsRow W.heap.size 33 4 (.slice a' (ms.length + 1) c') (ms.length + 1) (flat (ms ++ [m]))) (b1 : Below W.heap.size W w1) :
    NextP W B ms m (.pointer (some ⟨w1.heap.size, 0, none⟩)) (w1.alloc (.cells #[.int .i64 B, .slice a' (ms.length + 1) c'] 26)) :=
  ⟨_, a', c', rfl, Box.new w1 _ _, owns_below o1 (bel_alloc (Below.refl _ _) _), bel_alloc b1 _⟩

theorem nextp_set {W w1 : World} {B : Int} {ms : List M} {m : M} {a' : Option Addr} {c' : Nat} (o1 : w1.ownsRow (W.alloc (.cells #[.int .i64 0, .slice none 0 0] 26)).heap.size 33 4 (.slice a' (ms.length + 1) c') (ms.length + 1) (flat (ms ++ [m]))) (b1 : Below (W.alloc (.cells #[.int .i64 0, .slice none 0 0] 26)).heap.size (W.alloc (.cells #[.int .i64 0, .slice none 0 0] 26)) w1) :
    NextP W B ms m (.pointer (some ⟨W.heap.size, 0, none⟩)) ((w1.setCell ⟨W.heap.size, 0, none⟩ (.int .i64 B)).setCell ⟨W.heap.size, 1, none⟩ (.slice a' (ms.length + 1) c')) := by
  have X := (Box.new W #[.int .i64 0, .slice none 0 0] 26).below b1
  have hlt : ∀ j, (Value.slice a' (ms.length + 1) c').ownBlock = some j → W.heap.size ≠ j := fun j hj => by have := (o1.lt j hj).1; simp at this; omega
  refine ⟨_, a', c', rfl, heap_setCell_same _ _ 1 _ _ _ (heap_setCell_same _ _ 0 _ _ _ X), owns_setCell (owns_setCell (owns_base o1 (by simp)) hlt _) hlt _, ?_⟩
  exact bel_setCell (bel_setCell (bel_trans (bel_alloc (Below.refl _ _) _) b1) _ _ (Nat.le_refl _)) _ _ (Nat.le_refl _)

set_option maxRecDepth 100000 in
set_option maxHeartbeats 2000000 in
theorem implQueue_any (B : Int) (a : Option Addr) (c : Nat) (ms : List M) (m : M) (w : World) (ha : MRow w a ms) (hl : ms.length ≤ 1048576) (hc : ms.length ≤ c) (hxs : ∀ x ∈ ms, x.xs.length ≤ 1048577) (hmx : m.xs.length ≤ 1048577) (hrm : Row .i64 w m.a m.xs) :
    Calls Try.prog 6 #[.agg #[.int .i64 B, .slice a ms.length c], .agg #[.int .i64 m.k, .int .i64 m.p, .bool m.o, .slice m.a m.xs.length m.c]] w fun e w' => QPost B ms m w e w' := by
  have hb3 := bel_alloc (bel_alloc (bel_alloc (Below.refl w.heap.size w) (.cells #[.int .i64 B, .slice a ms.length c] 26)) (.cells #[.int .i64 m.k, .int .i64 m.p, .bool m.o, .slice m.a m.xs.length m.c] 33)) (.cells #[.int .i64 0, .slice none 0 0] 26)
  obtain ⟨X0, X1, X2⟩ := Box.three w #[.int .i64 B, .slice a ms.length c] #[.int .i64 m.k, .int .i64 m.p, .bool m.o, .slice m.a m.xs.length m.c] #[.int .i64 0, .slice none 0 0] 26 33 26
  obtain ⟨W, hW⟩ : ∃ W, (((w.alloc (.cells #[.int .i64 B, .slice a ms.length c] 26)).alloc (.cells #[.int .i64 m.k, .int .i64 m.p, .bool m.o, .slice m.a m.xs.length m.c] 33)).alloc (.cells #[.int .i64 0, .slice none 0 0] 26)) = W := ⟨_, rfl⟩
  have HWs : Hid (W.heap.size = w.heap.size + 3) := by show _ = _; rw [← hW]; simp
  go_enter Try.func6, Try.ntmps6
  go_upto_region 1 with fail
  rw [hW] at hb3 X0 X1 X2
  clear hW
  have haW := ha.below hb3
  have hrW := hrm.below hb3
  obtain ⟨x0, x1, zx⟩ := X0.at2
  obtain ⟨y0, y1, y2, y3, zy⟩ := X1.at4
  go_cut [6] (fun s6 wx => NextP W B ms m s6 wx)
  case first =>
    go_region_held3 (fun w' => w'.cell? ⟨w.heap.size, 0, none⟩ = some (.int .i64 B) ∧ w'.cell? ⟨w.heap.size, 1, none⟩ = some (.slice a ms.length c) ∧ w'.cell? ⟨w.heap.size + 1, 0, none⟩ = some (.int .i64 m.k) ∧ w'.cell? ⟨w.heap.size + 1, 1, none⟩ = some (.int .i64 m.p) ∧ w'.cell? ⟨w.heap.size + 1, 2, none⟩ = some (.bool m.o) ∧ w'.cell? ⟨w.heap.size + 1, 3, none⟩ = some (.slice m.a m.xs.length m.c))
      (first | (with_reducible exact keep6 b1 ‹_›) | (with_reducible exact keep6 (bel_alloc (bel_undrew b1) _) ⟨x0, x1, y0, y1, y2, y3⟩) | (refine keep6f (keep6f ‹_› ?_) ?_ <;> (have := HWs.out; simp; omega)) | go_keep)
      (first | (go_at_call 11; refine (with_any a c ms m _ ?_ hl hc).mono ?_; (first | exact haW | exact haW.below (bel_drew (bel_alloc (Below.refl _ _) _))); rintro e w1 ⟨a', c', rfl, o1, b1⟩; try (have XN := (Box.new W #[.int .i64 0, .slice none 0 0] 26).below (bel_undrew b1); obtain ⟨n0, n1, nz⟩ := XN.at2; have nf0 := XN.frozen 0; have nf1 := XN.frozen 1)))
    all_goals go_wp2_with fail
    all_goals go_meet
    · exact nextp_new o1 (bel_undrew b1)
    · exact nextp_set o1 (bel_undrew b1)
  case rest =>
    clear x0 x1 zx y0 y1 y2 y3 zy
    obtain ⟨A, a', c', rfl, XN, oN, bN⟩ := hcut
    have haN := haW.below bN
    have hlN : (ms ++ [m]).length = ms.length + 1 := by simp
    have hmN : MRow wc a' (ms ++ [m]) := shallow oN hlN (by omega) (fun x hx => by
      rcases List.mem_append.1 hx with hx | hx
      · exact haN.row hx
      · simp at hx; subst hx; exact hrW.below bN)
    have X0 := X0.below bN
    have X2 := X2.below bN
    have BN := bel_trans hb3 bN
    have s0 : w.heap.size + 3 ≤ wc.heap.size := by have h1 := bN.size; have h2 := HWs.out; omega
    clear bN hb3 X1 haW hrW
    obtain ⟨n0, n1, nz⟩ := XN.at2
    go_wp2_with fail
    have hcall := implSender_any B a' c' (ms ++ [m]) wc hmN
    rw [hlN] at hcall
    refine hcall.mono ?_
    rintro e w2 ⟨rfl, b2⟩
    have X0 := X0.below b2
    have X2 := X2.below b2
    have XN := XN.below b2
    have haN := haN.below b2
    have hmN := hmN.below b2
    have B2 := bel_trans BN b2
    have s2 := b2.size
    clear b2 BN n0 n1 nz hcall oN
    cases hq : senderB B (ms ++ [m])
    · have HQ : Hid (senderB B (ms ++ [m]) = false) := hq
      clear hq hmN XN
      obtain ⟨x0, x1, zx⟩ := X0.at2
      go_wp2_with fail
      refine (copySender_any B a c ms _ haN hxs).mono ?_
      rintro e w3 ⟨a3, c3, d3, rfl, s3, D3, b3⟩
      have X2 := X2.below b3
      have B3 := bel_trans B2 b3
      obtain ⟨z0, z1, zz⟩ := X2.at2
      have f0 := X2.frozen 0
      have f1 := X2.frozen 1
      have HD := D3
      have hl3 : d3.length = ms.length := by have h := congrArg List.length s3; simpa using h
      clear X0 haN b3 B2 x0 x1 zx D3
      go_wp2
      refine bodyPost_ret (v := .tuple #[.agg #[.int .i64 B, .slice a3 ms.length c3], .bool false]) (by simp [results, Try.results6, go_sem, z0, z1]) rfl ⟨a3, c3, d3, by rw [HQ.out, hl3], by rw [HQ.out]; exact s3, ?_, ?_⟩
      · exact ((HD.far ⟨w.heap.size + 1 + 1, 0, none⟩ _ (by simp; omega)).far ⟨w.heap.size + 1 + 1, 1, none⟩ _ (by simp; omega)).base (by omega)
      · exact bel_setCell (bel_setCell B3 _ _ (by simp; omega)) _ _ (by simp; omega)
    · have HQ : Hid (senderB B (ms ++ [m]) = true) := hq
      clear hq haN X0
      obtain ⟨x0, x1, zx⟩ := XN.at2
      go_wp2_with fail
      have hcall := copySender_any B a' c' (ms ++ [m]) w2 hmN (fun x hx => by
        rcases List.mem_append.1 hx with hx | hx
        · exact hxs x hx
        · simp at hx; subst hx; exact hmx)
      rw [hlN] at hcall
      refine hcall.mono ?_
      rintro e w3 ⟨a3, c3, d3, rfl, s3, D3, b3⟩
      have X2 := X2.below b3
      have B3 := bel_trans B2 b3
      obtain ⟨z0, z1, zz⟩ := X2.at2
      have f0 := X2.frozen 0
      have f1 := X2.frozen 1
      have HD := D3
      have hl3 : d3.length = ms.length + 1 := by have h := congrArg List.length s3; simpa using h
      clear XN hmN b3 B2 x0 x1 zx D3 hcall
      go_wp2
      refine bodyPost_ret (v := .tuple #[.agg #[.int .i64 B, .slice a3 (ms.length + 1) c3], .bool true]) (by simp [results, Try.results6, go_sem, z0, z1]) rfl ⟨a3, c3, d3, by rw [HQ.out, hl3], by rw [HQ.out]; exact s3, ?_, ?_⟩
      · exact ((HD.far ⟨w.heap.size + 1 + 1, 0, none⟩ _ (by simp; omega)).far ⟨w.heap.size + 1 + 1, 1, none⟩ _ (by simp; omega)).base (by omega)
      · exact bel_setCell (bel_setCell B3 _ _ (by simp; omega)) _ _ (by simp; omega)
end Go.Proofs.Ytbofjbjnbagbnaa
