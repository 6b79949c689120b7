/- What the specification's l2Sender does. -/
import Derived.Test.YtpfppeifppdmbaaGreatMark
import Derived.Deep.AppendLies
import Derived.Deep.RegionWith
import Derived.Deep.RegionLaw
import Derived.BigRegion
namespace Go.Proofs.YtpfppeifppdmbaaGreat
open Go.RowKit
set_option linter.unusedVariables false

theorem new_one (W : World) (k p : Int) (o : Bool) (v : Value) : ∀ j u, [Value.int .i64 k, .int .i64 p, .bool o, v][j]? = some u → (W.alloc (.cells #[.int .i64 k, .int .i64 p, .bool o, v] 69)).cell? ((⟨W.heap.size, 0, none⟩ : Addr).add j) = some u := fun j u hu => by
  have h := Box.new W #[.int .i64 k, .int .i64 p, .bool o, v] 69
  rw [addr_add, Nat.zero_add, h.cell]
  simpa using hu

theorem four_one (k p : Int) (o : Bool) (a : Option Addr) (n c : Nat) : ∀ u ∈ [Value.int .i64 k, .int .i64 p, .bool o, .slice a n c], u.oneCell' = true := fun u hu => by
  simp at hu
  rcases hu with rfl | rfl | rfl | rfl <;> rfl

theorem not_low {w : World} {lo e size n : Nat} {v : Value} {xs : List Value} (h : w.ownsRow lo e size v n xs) {m : Nat} (hm : m < lo) : ∀ j, v.ownBlock = some j → j ≠ m := fun j hj he => by have := (h.lt j hj).1; omega

/-- One more message behind an owned row that stands in a box: what the loop carries. -/
theorem l2_step {w wr w1 w4 : World} {B : Int} {a a' a2 : Option Addr} {ca c' c2 k g3 cap3 : Nat} {n : Nat} {ds ms : List M} {m : M}
    (hr : wr.ownsRow (w.heap.size + 3) 69 4 (.slice a' k c') k (flat ds)) (hL : Lists wr (w.heap.size + 3) ds)
    (XS : Box wr w.heap.size #[.int .i64 B, .slice a n ca] 115) (XR : Box wr (w.heap.size + 1) #[.int .i64 0, .slice none 0 0] 115) (XO : Box wr (w.heap.size + 1 + 1) #[.int .i64 B, .slice a' k c'] 115) (hB : Below w.heap.size w wr)
    (hds : ds.map M.say = (ms.take k).map M.say) (hm : ms[k]? = some m)
    (b2 : Below wr.heap.size wr w1) (o2 : w1.ownsRow wr.heap.size 3 1 (.slice a2 m.xs.length c2) m.xs.length (m.xs.map (Value.int .i64)))
    (g : (w1.alloc (.cells #[.int .i64 m.k, .int .i64 m.p, .bool m.o, .slice a2 m.xs.length c2] 69)).grownBy w4 (Value.slice a' k c').ownBlock)
    (o3 : w4.ownsRow (w.heap.size + 3) 69 4 (.slice (some ⟨g3, 0, none⟩) (k + 1) cap3) (k + 1) (flat ds ++ [.int .i64 m.k, .int .i64 m.p, .bool m.o, .slice a2 m.xs.length c2])) :
    ∃ ds' : List M, ds'.map M.say = (ms.take (k + 1)).map M.say ∧ (w4.setCell ⟨w.heap.size + 1 + 1, 1, none⟩ (.slice (some ⟨g3, 0, none⟩) (k + 1) cap3)).ownsRow (w.heap.size + 3) 69 4 (.slice (some ⟨g3, 0, none⟩) (k + 1) cap3) (k + 1) (flat ds') ∧ Lists (w4.setCell ⟨w.heap.size + 1 + 1, 1, none⟩ (.slice (some ⟨g3, 0, none⟩) (k + 1) cap3)) (w.heap.size + 3) ds' ∧
      Box (w4.setCell ⟨w.heap.size + 1 + 1, 1, none⟩ (.slice (some ⟨g3, 0, none⟩) (k + 1) cap3)) w.heap.size #[.int .i64 B, .slice a n ca] 115 ∧ Box (w4.setCell ⟨w.heap.size + 1 + 1, 1, none⟩ (.slice (some ⟨g3, 0, none⟩) (k + 1) cap3)) (w.heap.size + 1) #[.int .i64 0, .slice none 0 0] 115 ∧ Box (w4.setCell ⟨w.heap.size + 1 + 1, 1, none⟩ (.slice (some ⟨g3, 0, none⟩) (k + 1) cap3)) (w.heap.size + 1 + 1) #[.int .i64 B, .slice (some ⟨g3, 0, none⟩) (k + 1) cap3] 115 ∧ Below w.heap.size w (w4.setCell ⟨w.heap.size + 1 + 1, 1, none⟩ (.slice (some ⟨g3, 0, none⟩) (k + 1) cap3)) := by
  have hs := XO.lt
  have bx := bel_alloc b2 (.cells #[.int .i64 m.k, .int .i64 m.p, .bool m.o, .slice a2 m.xs.length c2] 69)
  have by1 := bel_alloc (Below.refl w1.heap.size w1) (.cells #[.int .i64 m.k, .int .i64 m.p, .bool m.o, .slice a2 m.xs.length c2] 69)
  have hr' := owns_below hr bx
  have hL1 : Lists w1 (w.heap.size + 3) (ds ++ [⟨m.k, m.p, m.o, a2, c2, m.xs⟩]) := (hL.below b2).snoc (owns_base o2 (by omega)) (fun x hx j hj hk' => by
    have h1 := hL.lt hx hj
    have h2 := o2.lt j hk'
    omega)
  have hL2 := hL1.below by1
  have hL4 : Lists w4 (w.heap.size + 3) (ds ++ [⟨m.k, m.p, m.o, a2, c2, m.xs⟩]) := ⟨fun x hx => owns_ne (hL2.1 x hx) g (fun j hj he => owns_types hr' (hL2.1 x hx) (by decide) he hj), hL2.2⟩
  refine ⟨ds ++ [⟨m.k, m.p, m.o, a2, c2, m.xs⟩], ?_, ?_, hL4.far _ _ (fun x hx j hj => by have := (hL4.lt hx hj).1; simp; omega), ?_, ?_, ?_, ?_⟩
  · have e : ms.take (k + 1) = ms.take k ++ [m] := by
      obtain ⟨hk', rfl⟩ := List.getElem?_eq_some_iff.1 hm
      rw [List.take_succ_eq_append_getElem hk']
    rw [e, List.map_append, List.map_append, hds]
    rfl
  · refine owns_setCell ?_ (fun j hj => by have := (o3.lt j hj).1; simp; omega) _
    rw [flat_append]
    simpa [flat, M.cells] using o3
  · exact ((XS.below bx).kept g (not_low hr' (by omega))).far _ _ (by simp; omega)
  · exact ((XR.below bx).kept g (not_low hr' (by omega))).far _ _ (by simp)
  · exact heap_setCell_same _ _ 1 _ _ _ ((XO.below bx).kept g (not_low hr' (by omega)))
  · have b4 : Below w.heap.size w w4 := (bel_trans hB bx).grown g (bel_trans hB bx).size (fun j hj => by have := (hr'.lt j hj).1; omega)
    exact bel_setCell b4 _ _ (by simp; omega)

end Go.Proofs.YtpfppeifppdmbaaGreat
