/- What impl's Queue and Acked do. -/
import Derived.Test.YtpfppeifppdmbaaGreatCopyS
import Derived.Deep.RegionHeld3
import Derived.Deep.RegionLawGrows
import Derived.Deep.AppendLies
namespace Go.Proofs.YtpfppeifppdmbaaGreat
open Go.RowKit
set_option linter.unusedVariables false

/-- Where a row lies that was cut at its front. -/
def CutAt (a a' : Option Addr) (n k : Nat) : Prop := 0 < n - k → ∃ b off, a = some ⟨b, off, none⟩ ∧ a' = some ⟨b, off + k * 4, none⟩

theorem MRow.cut {w : World} {a a' : Option Addr} {ms : List M} {k : Nat} (h : MRow w a ms) (hc : CutAt a a' ms.length k) : MRow w a' (ms.drop k) := by
  refine ⟨by have := h.1; simp; omega, fun i m hi => ?_⟩
  rw [List.getElem?_drop] at hi
  obtain ⟨⟨b, off, he, h4⟩, hr⟩ := h.2 _ m hi
  refine ⟨?_, hr⟩
  have hlt := (List.getElem?_eq_some_iff.1 hi).1
  obtain ⟨b', off', he', rfl⟩ := hc (by omega)
  rw [he] at he'
  simp at he'
  obtain ⟨rfl, rfl⟩ := he'
  refine ⟨b, off + k * 4, rfl, ?_⟩
  rw [show off + k * 4 + i * 4 = off + (k + i) * 4 by omega]
  exact h4


theorem MRow.addr {w : World} {a : Option Addr} {ms : List M} (h : MRow w a ms) : 0 < ms.length → ∃ b off, a = some ⟨b, off, none⟩ := fun h0 => by
  obtain ⟨m0, hm0⟩ : ∃ m, ms[0]? = some m := ⟨_, List.getElem?_eq_getElem h0⟩
  obtain ⟨⟨b, off, rfl, _⟩, _⟩ := h.2 0 m0 hm0
  exact ⟨b, off, rfl⟩

theorem cut_none {a a' : Option Addr} {n : Nat} (h : CutAt a a' n 0) : a' = none → n = 0 ∧ n = 0 := fun e => by
  by_cases h0 : 0 < n - 0
  · obtain ⟨b, off, _, e'⟩ := h h0
    rw [e] at e'
    simp at e'
  · omega

theorem cut_src {w : World} {a a' : Option Addr} {ms : List M} (ha : MRow w a ms) (hcut : CutAt a a' ms.length 0) (o1 o2 : Obj) :
    ∀ b, a' = some b → ∀ j u, (flat ms)[j]? = some u → ((w.alloc o1).alloc o2).drew.cell? (b.add j) = some u := fun b hb j u hu => by
  have hj : j < ms.length * 4 := by
    have := (List.getElem?_eq_some_iff.1 hu).1
    rw [flat_length] at this
    exact this
  have hm := ((ha.cut hcut).below (bel_alloc (bel_alloc (Below.refl _ _) o1) o2))
  rw [List.drop_zero] at hm
  obtain ⟨b', off, e, h⟩ := msgs_src hm (by omega)
  rw [e] at hb
  simp at hb
  subst hb
  exact h j u hu

theorem new_src (w : World) (o1 : Obj) (m : M) : ∀ j u, m.cells[j]? = some u → ((w.alloc o1).alloc (.cells #[.int .i64 m.k, .int .i64 m.p, .bool m.o, .slice m.a m.xs.length m.c] 69)).drew.cell? ((⟨w.heap.size + 1, 0, none⟩ : Addr).add j) = some u := fun j u hu => by
  have h := Box.new (w.alloc o1) #[.int .i64 m.k, .int .i64 m.p, .bool m.o, .slice m.a m.xs.length m.c] 69
  have e : (w.alloc o1).heap.size = w.heap.size + 1 := by simp
  rw [e] at h
  rw [addr_add, Nat.zero_add]
  show ((w.alloc o1).alloc _).cell? _ = some u
  rw [h.cell]
  simpa [M.cells] using hu

theorem keep4n {W W' : World} (g : W.grownBy W' none) {a0 a1 a2 a3 : Addr} {u0 u1 u2 u3 : Value}
    (h : W.cell? a0 = some u0 ∧ W.cell? a1 = some u1 ∧ W.cell? a2 = some u2 ∧ W.cell? a3 = some u3) :
    W'.cell? a0 = some u0 ∧ W'.cell? a1 = some u1 ∧ W'.cell? a2 = some u2 ∧ W'.cell? a3 = some u3 :=
  ⟨(g.cell_far _ (lt_of_cell h.1) (by simp)).trans h.1, (g.cell_far _ (lt_of_cell h.2.1) (by simp)).trans h.2.1, (g.cell_far _ (lt_of_cell h.2.2.1) (by simp)).trans h.2.2.1, (g.cell_far _ (lt_of_cell h.2.2.2) (by simp)).trans h.2.2.2⟩

theorem bel_drew {B : Nat} {w W : World} (h : Below B w W) : Below B w W.drew := ⟨h.os, h.tape, h.output, h.size, h.block⟩

theorem cells_one (m : M) : ∀ v ∈ m.cells, v.oneCell' = true := fun v hv => by
  simp [M.cells] at hv
  rcases hv with rfl | rfl | rfl | rfl <;> rfl

end Go.Proofs.YtpfppeifppdmbaaGreat
