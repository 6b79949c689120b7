/- What impl's Queue and Acked do. -/
import Derived.Test.YtbofjbjnbagbnaaCopyS
import Derived.Deep.RegionHeld3
import Derived.Deep.RegionLawGrows
import Derived.Deep.AppendLies
namespace Go.Proofs.Ytbofjbjnbagbnaa
open Go.RowKit
set_option linter.unusedVariables false

/-- Where a row lies that was cut at its front. -/
def CutAt (a a' : Option Addr) (n k : Nat) : Prop := 0 < n - k → ∃ b off, a = some ⟨b, off, none⟩ ∧ a' = some ⟨b, off + k * 4, none⟩

theorem MRow.cut {w : World} {a a' : Option Addr} {ms : List M} {k : Nat} (h : MRow w a ms) (hc : CutAt a a' ms.length k) : MRow w a' (ms.drop k) := by
  refine ⟨by have := h.1; simp; omega, fun i m hi => ?_⟩
  rw [List.getElem?_drop] at hi
  obtain ⟨⟨b, off, he, h4⟩, hr⟩ := h.2 _ m hi
  refine ⟨?_, hr⟩
  have hlt := (List.getElem?_eq_some_iff.1 hi).1
  obtain ⟨b', off', he', rfl⟩ := hc (by omega)
  rw [he] at he'
  simp at he'
  obtain ⟨rfl, rfl⟩ := he'
  refine ⟨b, off + k * 4, rfl, ?_⟩
  rw [show off + k * 4 + i * 4 = off + (k + i) * 4 by omega]
  exact h4

set_option maxRecDepth 100000 in
set_option maxHeartbeats 1000000 in
theorem cut_any (a : Option Addr) (n c k : Nat) (w : World) (hk : k ≤ n) (hn : n ≤ 1048577) (hc : n ≤ c) (ha : 0 < n → ∃ b off, a = some ⟨b, off, none⟩) :
    Calls Try.prog 17 #[.slice a n c, .int .i64 k] w fun e w' => ∃ a', e = .returned (.slice a' (n - k) (n - k)) ∧ CutAt a a' n k ∧ w' = w := by
  by_cases h : n = k
  · subst h
    go_enter Try.func17, Try.ntmps17
    go_wp2
    go_ret
    exact ⟨a, by rw [Nat.sub_self]; rfl, fun h => by omega, rfl⟩
  · obtain ⟨b, off, rfl⟩ := ha (by omega)
    go_enter Try.func17, Try.ntmps17
    go_wp2
    go_ret
    exact ⟨_, rfl, fun _ => ⟨b, off, rfl, by simp⟩, rfl⟩

theorem MRow.addr {w : World} {a : Option Addr} {ms : List M} (h : MRow w a ms) : 0 < ms.length → ∃ b off, a = some ⟨b, off, none⟩ := fun h0 => by
  obtain ⟨m0, hm0⟩ : ∃ m, ms[0]? = some m := ⟨_, List.getElem?_eq_getElem h0⟩
  obtain ⟨⟨b, off, rfl, _⟩, _⟩ := h.2 0 m0 hm0
  exact ⟨b, off, rfl⟩

theorem cut_none {a a' : Option Addr} {n : Nat} (h : CutAt a a' n 0) : a' = none → n = 0 ∧ n = 0 := fun e => by
  by_cases h0 : 0 < n - 0
  · obtain ⟨b, off, _, e'⟩ := h h0
    rw [e] at e'
    simp at e'
  · omega

theorem cut_src {w : World} {a a' : Option Addr} {ms : List M} (ha : MRow w a ms) (hcut : CutAt a a' ms.length 0) (o1 o2 : Obj) :
    ∀ b, a' = some b → ∀ j u, (flat ms)[j]? = some u → ((w.alloc o1).alloc o2).drew.cell? (b.add j) = some u := fun b hb j u hu => by
  have hj : j < ms.length * 4 := by
    have := (List.getElem?_eq_some_iff.1 hu).1
    rw [flat_length] at this
    exact this
  have hm := ((ha.cut hcut).below (bel_alloc (bel_alloc (Below.refl _ _) o1) o2))
  rw [List.drop_zero] at hm
  obtain ⟨b', off, e, h⟩ := msgs_src hm (by omega)
  rw [e] at hb
  simp at hb
  subst hb
  exact h j u hu

theorem new_src (w : World) (o1 : Obj) (m : M) : ∀ j u, m.cells[j]? = some u → ((w.alloc o1).alloc (.cells #[.int .i64 m.k, .int .i64 m.p, .bool m.o, .slice m.a m.xs.length m.c] 33)).drew.cell? ((⟨w.heap.size + 1, 0, none⟩ : Addr).add j) = some u := fun j u hu => by
  have h := Box.new (w.alloc o1) #[.int .i64 m.k, .int .i64 m.p, .bool m.o, .slice m.a m.xs.length m.c] 33
  have e : (w.alloc o1).heap.size = w.heap.size + 1 := by simp
  rw [e] at h
  rw [addr_add, Nat.zero_add]
  show ((w.alloc o1).alloc _).cell? _ = some u
  rw [h.cell]
  simpa [M.cells] using hu

theorem keep4n {W W' : World} (g : W.grownBy W' none) {a0 a1 a2 a3 : Addr} {u0 u1 u2 u3 : Value}
    (h : W.cell? a0 = some u0 ∧ W.cell? a1 = some u1 ∧ W.cell? a2 = some u2 ∧ W.cell? a3 = some u3) :
    W'.cell? a0 = some u0 ∧ W'.cell? a1 = some u1 ∧ W'.cell? a2 = some u2 ∧ W'.cell? a3 = some u3 :=
  ⟨(g.cell_far _ (lt_of_cell h.1) (by simp)).trans h.1, (g.cell_far _ (lt_of_cell h.2.1) (by simp)).trans h.2.1, (g.cell_far _ (lt_of_cell h.2.2.1) (by simp)).trans h.2.2.1, (g.cell_far _ (lt_of_cell h.2.2.2) (by simp)).trans h.2.2.2⟩

theorem bel_drew {B : Nat} {w W : World} (h : Below B w W) : Below B w W.drew := ⟨h.os, h.tape, h.output, h.size, h.block⟩

theorem cells_one (m : M) : ∀ v ∈ m.cells, v.oneCell' = true := fun v hv => by
  simp [M.cells] at hv
  rcases hv with rfl | rfl | rfl | rfl <;> rfl

set_option maxRecDepth 100000 in
set_option maxHeartbeats 1000000 in
theorem with_any (a : Option Addr) (c : Nat) (ms : List M) (m : M) (w : World) (ha : MRow w a ms) (hl : ms.length ≤ 1048576) (hc : ms.length ≤ c) :
    Calls Try.prog 11 #[.slice a ms.length c, .agg #[.int .i64 m.k, .int .i64 m.p, .bool m.o, .slice m.a m.xs.length m.c]] w fun e w' => ∃ a' c', e = .returned (.slice a' (ms.length + 1) c') ∧ w'.ownsRow w.heap.size 33 4 (.slice a' (ms.length + 1) c') (ms.length + 1) (flat (ms ++ [m])) ∧ Below w.heap.size w w' := by
  obtain ⟨i0, hi, hz0, hz1, hz2⟩ := info_parts info_msg
  have bA := bel_alloc (Below.refl w.heap.size w) (.cells #[.int .i64 m.k, .int .i64 m.p, .bool m.o, .slice m.a m.xs.length m.c] 33)
  have XA := Box.new w #[.int .i64 m.k, .int .i64 m.p, .bool m.o, .slice m.a m.xs.length m.c] 33
  go_enter Try.func11, Try.ntmps11
  go_wp2_with fail
  obtain ⟨x0, x1, x2, x3, zx⟩ := XA.at4
  have hadr := ha.addr
  go_region_held3 (fun w' => w'.cell? ⟨w.heap.size, 0, none⟩ = some (.int .i64 m.k) ∧ w'.cell? ⟨w.heap.size, 1, none⟩ = some (.int .i64 m.p) ∧ w'.cell? ⟨w.heap.size, 2, none⟩ = some (.bool m.o) ∧ w'.cell? ⟨w.heap.size, 3, none⟩ = some (.slice m.a m.xs.length m.c))
    (first | (with_reducible exact keep4n g4 ‹_›) | go_keep)
    (first | (go_at_call 17; refine (cut_any a ms.length c 0 _ (by omega) (by omega) hc hadr).mono ?_; rintro e w1 ⟨a', rfl, hcut, h⟩; subst h) | (refine step_append_grows rfl (.tmp 6) (.tmp 8) 42 rfl 33 i0 (.agg #[.int .i64 0, .int .i64 0, .bool false, .slice none 0 0]) 4 48 Try.underlying42 hi hz0 hz1 hz2 rfl (by decide) a' ms.length ms.length (flat ms) (by rfl) (cut_none hcut) (flat_length ms) (cut_src ha hcut _ _) ⟨w.heap.size + 1, 0, none⟩ 1 1 m.cells (by rfl) rfl (new_src w _ m) (cells_one m) (by omega) (by unfold maxLen; omega) (by omega) ?_; intro v4 w4 o4 g4; obtain ⟨a4, c4, rfl⟩ := owns_slice o4))
  all_goals
    have b0 := bel_drew (bel_alloc bA (.cells #[.int .i64 m.k, .int .i64 m.p, .bool m.o, .slice m.a m.xs.length m.c] 33))
    have B4 : Below w.heap.size w w4 := b0.grown g4 b0.size (fun k hk => by cases hk)
    have o4 := owns_base o4 b0.size
    clear b0 g4 bA XA x0 x1 x2 x3 zx hadr
    go_wp2
    go_ret
    refine ⟨_, _, rfl, ?_, B4⟩
    rw [flat_append]
    simpa [flat] using o4
end Go.Proofs.Ytbofjbjnbagbnaa
