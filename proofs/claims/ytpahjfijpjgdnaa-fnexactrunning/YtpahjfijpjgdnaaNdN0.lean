/- Small facts ahead of both NodeNew. -/
import Derived.Test.YtpahjfijpjgdnaaNdK
import Derived.Test.YtpahjfijpjgdnaaHomN
import Derived.Test.YtpahjfijpjgdnaaHomO
import Derived.Deep.DeepCutAuto
namespace Go.Proofs.Ytpahjfijpjgdnaa
open Go.RowKit
set_option linter.unusedVariables false

def nodeB (id nodes : Int) : Bool := inB nodes 1 4 && inB id 0 (nodes - 1)


theorem make_all (t e : TypeId) (z : Value) (size bytes : Nat) (ht : Try.prog.underlying t = some (.slice e)) (hinfo : (Try.prog.info? e).map (fun i => (i.zero, i.size, i.bytes)) = some (some z, size, bytes)) (n : Nat) (hb : bytes * n ≤ 281474976710656) (hn : n ≤ 9223372036854775807) (W : World) :
    (Instr.makeSlice t (.int .i64 (n : Int)) (.int .i64 (n : Int))).run Try.prog W = .ok (.slice (some ⟨W.heap.size, 0, none⟩) n n) (W.alloc (.cells (madeCells z.cells (n * size)) e)) := by
  obtain ⟨i, hi, hzz⟩ := Option.map_eq_some_iff.1 hinfo
  simp only [Prod.mk.injEq] at hzz
  obtain ⟨hz, hs, hbb⟩ := hzz
  have hb' : (i.bytes : Int) * (n : Int) ≤ 281474976710656 := by
    have h : ((i.bytes * n : Nat) : Int) ≤ 281474976710656 := by rw [hbb]; omega
    rwa [Int.natCast_mul] at h
  have hr := run_make (P := Try.prog) W t e i z ht hi hz .i64 .i64 n n (by omega) (Int.le_refl _) hb' (by omega)
  simp only [Int.toNat_natCast, hs] at hr
  exact hr

theorem own_last {w : World} {z : Array Value} {e s n g base : Nat} (hg : g = w.heap.size) (hs : z.size = n * s) (hb : base ≤ w.heap.size) (hn : n ≤ maxLen) : (w.alloc (.cells z e)).ownsRow base e s (.slice (some ⟨g, 0, none⟩) n n) n z.toList := by
  subst hg
  exact World.ownsRow_lit w _ n hb hn hs

theorem info_home2 : (Try.prog.info? 145).map (fun i => (i.zero, i.size, i.bytes)) = some (some (.agg #[.slice none 0 0, .int .i64 0, .slice none 0 0, .bool false, .int .i64 0, .bool false, .int .i64 0, .slice none 0 0]), 8, 112) := by kernel_rfl
theorem info_sender2 : (Try.prog.info? 149).map (fun i => (i.zero, i.size, i.bytes)) = some (some (.agg #[.int .i64 0, .slice none 0 0]), 2, 32) := by kernel_rfl
theorem info_receiver2 : (Try.prog.info? 152).map (fun i => (i.zero, i.size, i.bytes)) = some (some (.agg #[.int .i64 0]), 1, 8) := by kernel_rfl

/-- A struct of five cells is stored into its box. -/
theorem lit_box5 {w : World} {m : Nat} {t : TypeId} {c0 c1 c2 c3 c4 d0 d1 d2 d3 d4 : Value} (h : Box w m #[c0, c1, c2, c3, c4] t) :
    Box (((((w.setCell ⟨m, 0, none⟩ d0).setCell ⟨m, 1, none⟩ d1).setCell ⟨m, 2, none⟩ d2).setCell ⟨m, 3, none⟩ d3).setCell ⟨m, 4, none⟩ d4) m #[d0, d1, d2, d3, d4] t := by
  have h0 : Box (w.setCell ⟨m, 0, none⟩ d0) m #[d0, c1, c2, c3, c4] t := heap_setCell_same _ _ 0 _ _ _ h
  have h1 : Box ((w.setCell ⟨m, 0, none⟩ d0).setCell ⟨m, 1, none⟩ d1) m #[d0, d1, c2, c3, c4] t := heap_setCell_same _ _ 1 _ _ _ h0
  have h2 : Box (((w.setCell ⟨m, 0, none⟩ d0).setCell ⟨m, 1, none⟩ d1).setCell ⟨m, 2, none⟩ d2) m #[d0, d1, d2, c3, c4] t := heap_setCell_same _ _ 2 _ _ _ h1
  have h3 : Box ((((w.setCell ⟨m, 0, none⟩ d0).setCell ⟨m, 1, none⟩ d1).setCell ⟨m, 2, none⟩ d2).setCell ⟨m, 3, none⟩ d3) m #[d0, d1, d2, d3, c4] t := heap_setCell_same _ _ 3 _ _ _ h2
  exact heap_setCell_same _ _ 4 _ _ _ h3
theorem lit_own5 {w : World} {m : Nat} {lo e s n : Nat} {v : Value} {xs : List Value} {d0 d1 d2 d3 d4 : Value} (h : w.ownsRow lo e s v n xs) (ne : ∀ j, v.ownBlock = some j → m ≠ j) :
    (((((w.setCell ⟨m, 0, none⟩ d0).setCell ⟨m, 1, none⟩ d1).setCell ⟨m, 2, none⟩ d2).setCell ⟨m, 3, none⟩ d3).setCell ⟨m, 4, none⟩ d4).ownsRow lo e s v n xs :=
  owns_setCell (owns_setCell (owns_setCell (owns_setCell (owns_setCell h ne _) ne _) ne _) ne _) ne _
theorem lit_bel5 {w0 w : World} {m : Nat} {d0 d1 d2 d3 d4 : Value} (h : Below w0.heap.size w0 w) (hm : w0.heap.size ≤ m) :
    Below w0.heap.size w0 (((((w.setCell ⟨m, 0, none⟩ d0).setCell ⟨m, 1, none⟩ d1).setCell ⟨m, 2, none⟩ d2).setCell ⟨m, 3, none⟩ d3).setCell ⟨m, 4, none⟩ d4) :=
  bel_setCell (bel_setCell (bel_setCell (bel_setCell (bel_setCell h _ _ hm) _ _ hm) _ _ hm) _ _ hm) _ _ hm
theorem lit_ne {w : World} {m lo e s n : Nat} {cs : Array Value} {t : TypeId} {v : Value} {xs : List Value} (h : Box w m cs t) (o : w.ownsRow lo e s v n xs) (he : e ≠ t) (hj : v.ownBlock = some m) : False := by
  rcases o.2 with ⟨rfl, _⟩ | ⟨g, cap, cur, rfl, _, hg, _⟩
  · simp [Value.ownBlock] at hj
  · simp [Value.ownBlock] at hj
    subst hj
    unfold Box at h
    rw [h] at hg
    simp at hg
    exact he hg.2.symm
end Go.Proofs.Ytpahjfijpjgdnaa
