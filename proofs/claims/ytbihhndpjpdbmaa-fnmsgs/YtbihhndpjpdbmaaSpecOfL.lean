/- What the specification's MsgOf does: the facts that its walk wants. -/
import Derived.Test.YtbihhndpjpdbmaaSpecGet
import Derived.Test.YtbihhndpjpdbmaaSpecBytes
import Derived.Test.YtbihhndpjpdbmaaParse2
import Derived.Test.YtbihhndpjpdbmaaBase2
import Derived.Laws.BytesArg
import Derived.Laws.Strings
import Derived.Deep.RegionHeld3
import Derived.Deep.AppendLies
import Derived.Deep.DeepCutAuto
namespace Go.Proofs.Ytbihhndpjpdbmaa
open Go.RowKit
set_option linter.unusedVariables false

/-- The first loop of MsgOf: what has been read. -/
def Rd (bs N : List Int) (at' : Int) : Prop := InR N ∧ ∃ R, bs = flatB N ++ R ∧ at' = ((flatB N).length : Int)

theorem info_n : (Try.prog.info? 3).map (fun i => (i.zero, i.size, i.bytes)) = some (some (.int .i64 0), 1, 8) := by kernel_rfl

theorem of_start2 (w : World) : let W := (w.alloc (.cells #[.int .i64 0, .int .i64 0, .bool false, .slice none 0 0] 26)).alloc (.cells #[] 3)
    W.ownsRow (w.heap.size + 1) 3 1 (.slice (some ⟨w.heap.size + 1, 0, none⟩) 0 0) 0 [] ∧ Below (w.alloc (.cells #[.int .i64 0, .int .i64 0, .bool false, .slice none 0 0] 26)).heap.size (w.alloc (.cells #[.int .i64 0, .int .i64 0, .bool false, .slice none 0 0] 26)) W := by
  intro W
  refine ⟨?_, bel_alloc (Below.refl _ _) _⟩
  have h := World.ownsRow_lit (base := w.heap.size + 1) (e := 3) (size := 1) (w.alloc (.cells #[.int .i64 0, .int .i64 0, .bool false, .slice none 0 0] 26)) #[] 0 (by simp) (by simp [maxLen]) rfl
  simpa using h

theorem own_e (W : World) (base : Nat) (h : base ≤ W.heap.size) : (W.alloc (.cells #[] 3)).ownsRow base 3 1 (.slice (some ⟨W.heap.size, 0, none⟩) 0 0) 0 [] :=
  World.ownsRow_lit W #[] 0 h (by simp [maxLen]) rfl

theorem own_e2 (W : World) (base : Nat) (h : base ≤ W.heap.size) : ((W.alloc (.cells #[.int .i64 0, .int .i64 0, .bool false, .slice none 0 0] 26)).alloc (.cells #[] 3)).ownsRow base 3 1 (.slice (some ⟨W.heap.size + 1, 0, none⟩) 0 0) 0 [] := by
  have h2 := own_e (W.alloc (.cells #[.int .i64 0, .int .i64 0, .bool false, .slice none 0 0] 26)) base (by simp; omega)
  have e : (W.alloc (.cells #[.int .i64 0, .int .i64 0, .bool false, .slice none 0 0] 26)).heap.size = W.heap.size + 1 := by simp
  rw [e] at h2
  exact h2

theorem news_tail {W : World} {base g L cv : Nat} {x0 x1 x2 : Int} {ws : List Int} (hm : ws.length + 3 = L) (hown : W.ownsRow base 3 1 (.slice (some ⟨g, 0, none⟩) L cv) L ((x0 :: x1 :: x2 :: ws).map (Value.int .i64))) :
    ∀ j u, (ws.map (Value.int .i64))[j]? = some u → W.cell? ((⟨g, 3, none⟩ : Addr).add j) = some u := by
  intro j u hu
  have hj : j < ws.length := by
    rcases Nat.lt_or_ge j ws.length with h | h
    · exact h
    · simp [List.getElem?_eq_none (show (ws.map (Value.int .i64)).length ≤ j by simpa using h)] at hu
  have ea : (⟨g, 3, none⟩ : Addr).add j = ⟨g, 3 + j, none⟩ := by unfold Addr.add; split <;> simp_all
  rw [ea, hown.cellAt (3 + j) (by omega)]
  have : 3 + j = j + 1 + 1 + 1 := by omega
  rw [this]
  simpa using hu

theorem keep3 {W W' : World} {row : Option Nat} (g : W.grownBy W' row) {b : Nat} (hlt : b < W.heap.size) (hne : row ≠ some b) {u0 u1 u2 : Value} (h0 : W.cell? ⟨b, 0, none⟩ = some u0) (h1 : W.cell? ⟨b, 1, none⟩ = some u1) (h2 : W.cell? ⟨b, 2, none⟩ = some u2) :
    W'.cell? ⟨b, 0, none⟩ = some u0 ∧ W'.cell? ⟨b, 1, none⟩ = some u1 ∧ W'.cell? ⟨b, 2, none⟩ = some u2 :=
  ⟨(g.cell_far ⟨b, 0, none⟩ hlt (fun e => hne e.symm)).trans h0, (g.cell_far ⟨b, 1, none⟩ hlt (fun e => hne e.symm)).trans h1, (g.cell_far ⟨b, 2, none⟩ hlt (fun e => hne e.symm)).trans h2⟩

abbrev MZ : Obj := .cells #[.int .i64 0, .int .i64 0, .bool false, .slice none 0 0] 26
theorem new_a {wr w4 : World} (h : World.grownBy ((wr.alloc MZ).alloc (.cells #[] 3)).drew w4 (some (wr.heap.size + 1))) :
    w4.heap[wr.heap.size]? = some MZ := by
  rw [h.block wr.heap.size (by show _ < Array.size _; simp; omega) (by simp)]
  exact (Below.heap_alloc _ _ _ (by simp)).trans (heap_alloc_new wr _)
theorem new_b {wr w4 : World} (h : World.grownBy ((wr.alloc (.cells #[] 3)).alloc MZ).drew w4 (some wr.heap.size)) :
    w4.heap[wr.heap.size + 1]? = some MZ := by
  rw [h.block (wr.heap.size + 1) (by show _ < Array.size _; simp) (by simp)]
  have h2 := heap_alloc_new (wr.alloc (.cells #[] 3)) MZ
  have e : (wr.alloc (.cells #[] 3)).heap.size = wr.heap.size + 1 := by simp
  rw [e] at h2
  exact h2
theorem mz_cells {w : World} {m : Nat} (h : w.heap[m]? = some MZ) :
    w.cell? ⟨m, 0, none⟩ = some (.int .i64 0) ∧ w.cell? ⟨m, 1, none⟩ = some (.int .i64 0) ∧ w.cell? ⟨m, 2, none⟩ = some (.bool false) ∧ w.cell? ⟨m, 3, none⟩ = some (.slice none 0 0) ∧ w.frozen? ⟨m, 0, none⟩ = false ∧ w.frozen? ⟨m, 1, none⟩ = false ∧ w.frozen? ⟨m, 2, none⟩ = false ∧ w.frozen? ⟨m, 3, none⟩ = false :=
  ⟨by rw [cell_of_row w m 0 _ _ _ h]; rfl, by rw [cell_of_row w m 1 _ _ _ h]; rfl, by rw [cell_of_row w m 2 _ _ _ h]; rfl, by rw [cell_of_row w m 3 _ _ _ h]; rfl, frozen_of_row w m 0 _ _ h, frozen_of_row w m 1 _ _ h, frozen_of_row w m 2 _ _ h, frozen_of_row w m 3 _ _ h⟩

theorem mz_use {P : Prop} {w : World} {m : Nat} (h : w.heap[m]? = some MZ)
    (k : w.cell? ⟨m, 0, none⟩ = some (.int .i64 0) → w.cell? ⟨m, 1, none⟩ = some (.int .i64 0) → w.cell? ⟨m, 2, none⟩ = some (.bool false) → w.cell? ⟨m, 3, none⟩ = some (.slice none 0 0) → w.frozen? ⟨m, 0, none⟩ = false → w.frozen? ⟨m, 1, none⟩ = false → w.frozen? ⟨m, 2, none⟩ = false → w.frozen? ⟨m, 3, none⟩ = false → P) : P := by
  obtain ⟨z0, z1, z2, z3, q0, q1, q2, q3⟩ := mz_cells h
  exact k z0 z1 z2 z3 q0 q1 q2 q3

theorem row_use {P : Prop} {W w4 : World} {r : Nat} (h : W.grownBy w4 (some r)) (k : W.grownBy w4 (some r) → P) : P := k h
theorem grow_rules {W w4 : World} {r : Nat} (h : W.grownBy w4 (some r)) : (∀ b o, b < W.heap.size → b ≠ r → w4.cell? ⟨b, o, none⟩ = W.cell? ⟨b, o, none⟩) ∧ (∀ b o, b < W.heap.size → b ≠ r → w4.frozen? ⟨b, o, none⟩ = W.frozen? ⟨b, o, none⟩) :=
  ⟨fun b o h1 h2 => h.cell_far ⟨b, o, none⟩ h1 (fun e => h2 (by simpa using e)), fun b o h1 h2 => h.frozen_far ⟨b, o, none⟩ h1 (fun e => h2 (by simpa using e))⟩

theorem cell_set_far (w : World) (m i : Nat) (u : Value) (b o : Nat) (h : m ≠ b) : (w.setCell ⟨m, i, none⟩ u).cell? ⟨b, o, none⟩ = w.cell? ⟨b, o, none⟩ :=
  World.cell?_of_block (Below.heap_setCell w ⟨m, i, none⟩ u b (fun e => h e.symm))

/-- What stands behind the making of the message. -/
def Made (w : World) (x0 x1 x2 : Int) (ws : List Int) (s9 : Value) (wx : World) : Prop :=
  ∃ A v, s9 = .pointer (some ⟨A, 0, none⟩) ∧ wx.heap[A]? = some (.cells #[.int .i64 x0, .int .i64 x1, .bool (x2 == 1), v] 26 (0, 0)) ∧ wx.ownsRow (w.heap.size + 1) 3 1 v ws.length (ws.map (Value.int .i64)) ∧ Below (w.alloc MZ).heap.size (w.alloc MZ) wx

theorem set4 {W : World} {A : Nat} (h : W.heap[A]? = some MZ) (a b c d : Value) :
    ((((W.setCell ⟨A, 0, none⟩ a).setCell ⟨A, 1, none⟩ b).setCell ⟨A, 2, none⟩ c).setCell ⟨A, 3, none⟩ d).heap[A]? = some (.cells #[a, b, c, d] 26 (0, 0)) :=
  heap_setCell_same _ A 3 _ _ _ (heap_setCell_same _ A 2 _ _ _ (heap_setCell_same _ A 1 _ _ _ (heap_setCell_same W A 0 _ _ _ h)))

theorem made_new {w w4 : World} {x0 x1 x2 : Int} {ws : List Int} {v : Value} (ho : w4.ownsRow (w.heap.size + 1) 3 1 v ws.length (ws.map (Value.int .i64))) (hC : Below (w.alloc MZ).heap.size (w.alloc MZ) w4) :
    Made w x0 x1 x2 ws (.pointer (some ⟨w4.heap.size, 0, none⟩)) (w4.alloc (.cells #[.int .i64 x0, .int .i64 x1, .bool (x2 == 1), v] 26)) :=
  ⟨_, v, rfl, heap_alloc_new w4 _, ho.alloc _, hC.alloc hC.size _⟩

theorem made_set {w w4 : World} {x0 x1 x2 : Int} {ws : List Int} {v : Value} {A : Nat} (hA : w4.heap[A]? = some MZ) (hwA : w.heap.size < A) (hne : ∀ j, v.ownBlock = some j → A ≠ j) (ho : w4.ownsRow (w.heap.size + 1) 3 1 v ws.length (ws.map (Value.int .i64))) (hC : Below (w.alloc MZ).heap.size (w.alloc MZ) w4) :
    Made w x0 x1 x2 ws (.pointer (some ⟨A, 0, none⟩)) ((((w4.setCell ⟨A, 0, none⟩ (.int .i64 x0)).setCell ⟨A, 1, none⟩ (.int .i64 x1)).setCell ⟨A, 2, none⟩ (.bool (x2 == 1))).setCell ⟨A, 3, none⟩ v) := by
  have hs : (w.alloc MZ).heap.size ≤ A := by simp; omega
  refine ⟨A, v, rfl, set4 hA _ _ _ _, ?_, ?_⟩
  · exact owns_setCell (owns_setCell (owns_setCell (owns_setCell ho hne _) hne _) hne _) hne _
  · exact (((hC.setCell (p := ⟨A, 0, none⟩) hs _).setCell (p := ⟨A, 1, none⟩) hs _).setCell (p := ⟨A, 2, none⟩) hs _).setCell (p := ⟨A, 3, none⟩) hs _

theorem made_e1 {w wr : World} {x0 x1 x2 : Int} {ws : List Int} (hw : ws = []) (hC : Below (w.alloc MZ).heap.size (w.alloc MZ) wr) :
    Made w x0 x1 x2 ws (.pointer (some ⟨wr.heap.size + 1, 0, none⟩)) ((wr.alloc (.cells #[] 3)).alloc (.cells #[.int .i64 x0, .int .i64 x1, .bool (x2 == 1), .slice (some ⟨wr.heap.size, 0, none⟩) 0 0] 26)).drew := by
  subst hw
  have hs : w.heap.size + 1 ≤ wr.heap.size := by have := hC.size; simp at this; omega
  have e : (wr.alloc (.cells #[] 3)).heap.size = wr.heap.size + 1 := by simp
  refine ⟨wr.heap.size + 1, _, rfl, ?_, ((own_e wr (w.heap.size + 1) hs).alloc _), ((hC.alloc hC.size _).alloc (by simp; omega) _).drew⟩
  have h2 := heap_alloc_new (wr.alloc (.cells #[] 3)) (.cells #[.int .i64 x0, .int .i64 x1, .bool (x2 == 1), .slice (some ⟨wr.heap.size, 0, none⟩) 0 0] 26)
  rw [e] at h2
  exact h2
theorem made_e2 {w wr : World} {x0 x1 x2 : Int} {ws : List Int} (hw : ws = []) (hC : Below (w.alloc MZ).heap.size (w.alloc MZ) wr) :
    Made w x0 x1 x2 ws (.pointer (some ⟨wr.heap.size, 0, none⟩)) ((wr.alloc (.cells #[.int .i64 x0, .int .i64 x1, .bool (x2 == 1), .slice (some ⟨wr.heap.size + 1, 0, none⟩) 0 0] 26)).alloc (.cells #[] 3)).drew := by
  subst hw
  have hs : w.heap.size + 1 ≤ wr.heap.size := by have := hC.size; simp at this; omega
  have e : (wr.alloc (.cells #[.int .i64 x0, .int .i64 x1, .bool (x2 == 1), .slice (some ⟨wr.heap.size + 1, 0, none⟩) 0 0] 26)).heap.size = wr.heap.size + 1 := by simp
  refine ⟨wr.heap.size, .slice (some ⟨wr.heap.size + 1, 0, none⟩) 0 0, rfl, ?_, ?_, ((hC.alloc hC.size _).alloc (by simp; omega) _).drew⟩
  · exact (Below.heap_alloc _ _ _ (by simp)).trans (heap_alloc_new wr _)
  · have h2 := own_e (wr.alloc (.cells #[.int .i64 x0, .int .i64 x1, .bool (x2 == 1), .slice (some ⟨wr.heap.size + 1, 0, none⟩) 0 0] 26)) (w.heap.size + 1) (by simp; omega)
    rw [e] at h2
    exact h2

theorem conv_row {W : World} {a : Option Addr} {xs : List Int} (h : Row .u8 W a xs) (n c : Nat) (hn : xs.length = n) : (convert 22 9 (.slice a n c)).run Try.prog W = .ok (.string (strOfNums xs)) W := by
  by_cases h0 : n = 0
  · have hx : xs = [] := List.length_eq_zero_iff.1 (by omega)
    subst h0 hx
    cases a with
    | none => exact run_convert_bytes_nil W _ _ Try.underlying22 Try.underlying5 0 c _ Try.underlying9
    | some x =>
      rw [run_convert_bytes_string W _ _ _ (some x) 0 c Try.underlying22 Try.underlying5 Try.underlying9]
      rw [run_bytesToString W x 0 c [] (by simp [loadCells]; rfl)]
      rfl
  · obtain ⟨b, off, rfl, _⟩ := h.2 0 (by omega)
    refine run_convert_bytes_arg W _ _ Try.underlying22 Try.underlying5 b off n c xs hn ?_ _ Try.underlying9
    intro i hi
    obtain ⟨b', off', e, hc⟩ := h.2 i (by omega)
    simp only [Option.some.injEq, Addr.mk.injEq] at e
    rw [e.1, e.2.1]
    exact hc

theorem str_inj {xs ys : List Int} (hx : Bytes xs) (hy : Bytes ys) (h : strOfNums xs = strOfNums ys) : xs = ys := by
  have h1 : xs.map (fun n => UInt8.ofNat n.toNat) = ys.map (fun n => UInt8.ofNat n.toNat) := by rw [← strOfNums_data, ← strOfNums_data, h]
  have h2 := congrArg (List.map (fun b : UInt8 => (b.toNat : Int))) h1
  rw [List.map_map, List.map_map] at h2
  have key : ∀ l : List Int, Bytes l → l.map ((fun b : UInt8 => (b.toNat : Int)) ∘ fun n => UInt8.ofNat n.toNat) = l := by
    intro l hl
    rw [List.map_congr_left (g := id)]
    · simp
    · intro x hx
      have := hl x hx
      simp
      omega
  rw [key xs hx, key ys hy] at h2
  exact h2

/-- What MsgOf leaves. -/
def OfPost (bs : List Int) (w : World) (e : Ending) (w' : World) : Prop :=
  ∃ k p o xs b v, e = .returned (.tuple #[.agg #[.int .i64 k, .int .i64 p, .bool o, v], .bool b]) ∧ Res bs k p o xs b ∧ w'.ownsRow w.heap.size 3 1 v xs.length (xs.map (Value.int .i64)) ∧ Below w.heap.size w w'
theorem OfPost.no {bs : List Int} {w w' : World} (h : NoMsg bs) (hb : Below w.heap.size w w') : OfPost bs w (.returned (.tuple #[.agg #[.int .i64 0, .int .i64 0, .bool false, .slice none 0 0], .bool false])) w' :=
  ⟨0, 0, false, [], false, _, rfl, .inr ⟨rfl, rfl, rfl, rfl, rfl, h⟩, World.ownsRow_nil _ _ _ _, hb⟩
theorem OfPost.yes {bs xs : List Int} {k p : Int} {o : Bool} {v : Value} {w w' : World} (h : Res bs k p o xs true) (ho : w'.ownsRow w.heap.size 3 1 v xs.length (xs.map (Value.int .i64))) (hb : Below w.heap.size w w') : OfPost bs w (.returned (.tuple #[.agg #[.int .i64 k, .int .i64 p, .bool o, v], .bool true])) w' :=
  ⟨k, p, o, xs, true, v, rfl, h, ho, hb⟩

theorem mb_cells {w : World} {m : Nat} {c0 c1 c2 c3 : Value} (h : w.heap[m]? = some (.cells #[c0, c1, c2, c3] 26 (0, 0))) :
    w.cell? ⟨m, 0, none⟩ = some c0 ∧ w.cell? ⟨m, 1, none⟩ = some c1 ∧ w.cell? ⟨m, 2, none⟩ = some c2 ∧ w.cell? ⟨m, 3, none⟩ = some c3 :=
  ⟨by rw [cell_of_row w m 0 _ _ _ h]; rfl, by rw [cell_of_row w m 1 _ _ _ h]; rfl, by rw [cell_of_row w m 2 _ _ _ h]; rfl, by rw [cell_of_row w m 3 _ _ _ h]; rfl⟩
theorem keep4 {W W' : World} (b : Below W.heap.size W W') {a0 a1 a2 a3 : Addr} {u0 u1 u2 u3 : Value}
    (h : W.cell? a0 = some u0 ∧ W.cell? a1 = some u1 ∧ W.cell? a2 = some u2 ∧ W.cell? a3 = some u3) :
    W'.cell? a0 = some u0 ∧ W'.cell? a1 = some u1 ∧ W'.cell? a2 = some u2 ∧ W'.cell? a3 = some u3 :=
  ⟨cell_later b h.1, cell_later b h.2.1, cell_later b h.2.2.1, cell_later b h.2.2.2⟩
theorem msgB_bytes (k p : Int) (o : Bool) (xs : List Int) : Bytes (msgB k p o xs) := by
  unfold msgB
  split
  · exact flatB_byte _ (nums_in ‹_›)
  · intro x hx; simp at hx
theorem list_ne {xs ys : List Int} (hx : Bytes xs) (hy : Bytes ys) (h : xs ≠ ys) : ((strOfNums xs).toList == (strOfNums ys).toList) = false := by
  rw [beq_eq_false_iff_ne]
  intro e
  rw [ByteArray.toList_eq, ByteArray.toList_eq] at e
  apply h
  apply str_inj hx hy
  have e3 : (strOfNums xs).data = (strOfNums ys).data := Array.toList_inj.1 e
  cases hxs : strOfNums xs
  cases hys : strOfNums ys
  rw [hxs, hys] at e3
  simp only at e3
  rw [e3]
end Go.Proofs.Ytbihhndpjpdbmaa
