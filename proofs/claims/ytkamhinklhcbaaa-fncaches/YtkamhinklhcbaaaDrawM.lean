/- DrawN and DrawM: see the heads of the parts. -/
import Derived.Test.YtkamhinklhcbaaaCur2
import Derived.Test.YtkamhinklhcbaaaSpecPut
import Derived.Deep.RegionHeld3
import Derived.Test.YtkamhinklhcbaaaWords
/- What the drawing functions for numbers give. -/
namespace Go.Proofs.Ytkamhinklhcbaaa
open Go.RowKit
set_option linter.unusedVariables false

theorem row_lit (W : World) (xs : List Int) (hl : xs.length ≤ 1000) : Row .i64 (W.alloc (.cells (xs.map (Value.int .i64)).toArray 3)) (some ⟨W.heap.size, 0, none⟩) xs := by
  refine ⟨by omega, fun i hi => ⟨W.heap.size, 0, rfl, ?_⟩⟩
  have h := Box.new W (xs.map (Value.int .i64)).toArray 3
  rw [Nat.zero_add, h.cell]
  simp [hi]

theorem Cur.below {w w' : World} {r : Nat} {a : Option Addr} {n ca : Nat} (h : Cur w r a n ca) (b : Below w.heap.size w w') : Cur w' r a n ca := by
  obtain ⟨i, x, hi, hX⟩ := h
  exact ⟨i, x, hi, hX.below b⟩
theorem Cur.kept {w w' : World} {r : Nat} {a : Option Addr} {n ca : Nat} (h : Cur w r a n ca) {row : Option Nat} (g : w.grownBy w' row) (hne : ∀ j, row = some j → j ≠ r) : Cur w' r a n ca := by
  obtain ⟨i, x, hi, hX⟩ := h
  exact ⟨i, x, hi, hX.kept g hne⟩
theorem Cur.lt {w : World} {r : Nat} {a : Option Addr} {n ca : Nat} (h : Cur w r a n ca) : r < w.heap.size := by
  obtain ⟨i, x, hi, hX⟩ := h
  exact hX.lt
theorem Row.far {k : IntKind} {w : World} {a : Option Addr} {xs : List Int} (h : Row k w a xs) (h0 : 0 < xs.length) : ∀ x, a = some x → x.block < w.heap.size := fun x hx => by
  obtain ⟨b, off, e, hc⟩ := h.2 0 h0
  rw [hx] at e
  simp at e
  subst e
  exact lt_of_cell hc

/-- A code as the draws read it: where it is empty its address is of no matter. -/
theorem code_ne {w : World} {a : Option Addr} {bs : List Int} (h : Row .u8 w a bs) : ∃ a' : Option Addr, Row .u8 w a' bs ∧ (0 < bs.length → a' = a) ∧ ∀ x, a' = some x → x.block < w.heap.size := by
  by_cases h0 : 0 < bs.length
  · exact ⟨a, h, fun _ => rfl, h.far h0⟩
  · exact ⟨none, ⟨h.1, fun i hi => by omega⟩, fun h' => absurd h' h0, by simp⟩


theorem cells_src {w : World} {lo g n c : Nat} {xs : List Int} (h : w.ownsRow lo 5 1 (.slice (some ⟨g, 0, none⟩) n c) n (xs.map (Value.int .u8))) :
    ∀ j u, (xs.map (Value.int .u8))[j]? = some u → w.cell? ((⟨g, 0, none⟩ : Addr).add j) = some u := fun j u hu => by
  have hj : j < n := by
    have h1 := (List.getElem?_eq_some_iff.1 hu).1
    have h2 := h.1
    rw [h2] at h1
    omega
  have e : (⟨g, 0, none⟩ : Addr).add j = ⟨g, j, none⟩ := by unfold Addr.add; split <;> simp_all
  rw [e, h.cellAt j (by omega)]
  exact hu

theorem new_two (W : World) (u0 u1 : Value) : ∀ j u, [u0, u1][j]? = some u → (W.alloc (.cells #[u0, u1] 5)).cell? ((⟨W.heap.size, 0, none⟩ : Addr).add j) = some u := fun j u hu => by
  have h := Box.new W #[u0, u1] 5
  have e : (⟨W.heap.size, 0, none⟩ : Addr).add j = ⟨W.heap.size, j, none⟩ := by unfold Addr.add; split <;> simp_all
  rw [e, h.cell]
  simpa using hu

theorem bytes_app {xs ys : List Int} (hx : Bytes xs) (hy : Bytes ys) : Bytes (xs ++ ys) := fun z hz => by
  rcases List.mem_append.1 hz with h | h
  · exact hx z h
  · exact hy z h

end Go.Proofs.Ytkamhinklhcbaaa

/- What the drawing functions for messages give. -/
namespace Go.Proofs.Ytkamhinklhcbaaa
open Go.RowKit
set_option linter.unusedVariables false

theorem new_i64 (W : World) (c : Int) : ∀ j u, [Value.int .i64 c][j]? = some u → (W.alloc (.cells #[.int .i64 c] 3)).cell? ((⟨W.heap.size, 0, none⟩ : Addr).add j) = some u := fun j u hu => by
  have h := Box.new W #[.int .i64 c] 3
  have e : (⟨W.heap.size, 0, none⟩ : Addr).add j = ⟨W.heap.size, j, none⟩ := by unfold Addr.add; split <;> simp_all
  rw [e, h.cell]
  simpa using hu

theorem Row.kept2 {k : IntKind} {w w' : World} {a : Option Addr} {xs : List Int} {r : Nat} (h : Row k w a xs) (g : w.grownBy w' (some r)) (hne : 0 < xs.length → ∀ x, a = some x → x.block ≠ r) : Row k w' a xs := by
  by_cases h0 : 0 < xs.length
  · exact h.kept g (hne h0)
  · exact ⟨h.1, fun i hi => by omega⟩

theorem gr_alloc {w w2 : World} {r : Nat} (g : w.grownBy w2 (some r)) (o : Obj) : w.grownBy (w2.alloc o) (some r) := grownBy_trans g (World.grownBy_alloc w2 o (some r))

/-- A row that is new turned besides: of the old blocks the one alone. -/
theorem old_grown {w w2 w3 : World} {r : Nat} {row : Option Nat} (g : w.grownBy w2 (some r)) (g3 : w2.grownBy w3 row) (hlo : ∀ k, row = some k → w.heap.size ≤ k) : w.grownBy w3 (some r) :=
  ⟨g3.os.trans g.os, g3.tape.trans g.tape, g3.output.trans g.output, Nat.le_trans g.size g3.size, fun i hi hr => (g3.block i (Nat.lt_of_lt_of_le hi g.size) (fun e => by have := hlo i e.symm; omega)).trans (g.block i hi hr)⟩

/-- Four drawn words, their own. -/
def ListP (r : Nat) (a : Option Addr) (n ca : Nat) (w : World) (e : Ending) (w' : World) : Prop :=
  ∃ (v : Value) (xs : List Int), e = .returned v ∧ xs.length = 4 ∧ w'.ownsRow w.heap.size 3 1 v xs.length (xs.map (Value.int .i64)) ∧ Cur w' r a n ca ∧ w.grownBy w' (some r)

set_option maxRecDepth 100000 in
set_option maxHeartbeats 2000000 in
theorem drawList_any (r : Nat) (a : Option Addr) (ca : Nat) (bs : List Int) (w : World) (hC : Cur w r a bs.length ca) (ha : Row .u8 w a bs) (hne : 0 < bs.length → ∀ x, a = some x → x.block ≠ r) :
    Calls Try.prog 119 #[.pointer (some ⟨r, 0, none⟩)] w fun e w' => ListP r a bs.length ca w e w' := by
  obtain ⟨i0, hi, hz0, hz1, hz2⟩ := info_parts info_i64
  have zC := hC.lt
  have oL : (w.alloc (.cells #[] 3)).ownsRow w.heap.size 3 1 (.slice (some ⟨w.heap.size, 0, none⟩) 0 0) 0 [] := World.ownsRow_lit w #[] 0 (by omega) (by simp [maxLen]) rfl
  have bL := bel_alloc (Below.refl w.heap.size w) (.cells #[] 3)
  have hC1 := hC.below bL
  have g1 := World.grownBy_alloc w (.cells #[] 3) (some r)
  go_enter Try.func119, Try.ntmps119
  go_wp2_with fail
  go_loopw [3, 4] (fun v i wr => ∃ (j : Nat) (xs : List Int), j ≤ 4 ∧ i = .int .i64 j ∧ xs.length = j ∧ wr.ownsRow w.heap.size 3 1 v xs.length (xs.map (Value.int .i64)) ∧ Cur wr r a bs.length ca ∧ w.grownBy wr (some r)) (fun _ i _ => 4 - (intOf i).toNat)
  case atStart => exact ⟨0, [], by omega, rfl, rfl, by simpa using oL, hC1, g1⟩
  case round =>
    obtain ⟨j, xs, hj, rfl, hxl, hr, hCr, gr⟩ := hrel
    have HXL : Hid (xs.length = j) := hxl
    have hx4 : xs.length ≤ 4 := by omega
    clear hxl
    clear oL hC1 g1 bL
    have zr := hCr.lt
    obtain ⟨ab, cb, rfl⟩ := owns_slice hr
    have hlo : ∀ k, (Value.slice ab xs.length cb).ownBlock = some k → w.heap.size ≤ k := fun k hk => (hr.lt k hk).1
    by_cases hj4 : (j : Int) < 4
    · go_wp2_with fail
      have bx := bel_alloc (Below.refl wr.heap.size wr) (.cells #[.int .i64 0, .int .i64 1, .int .i64 5, .int .i64 300, .int .i64 65535] 3)
      have hrow := row_lit wr [0, 1, 5, 300, 65535] (by simp)
      have har := ((ha.kept2 gr hne).below bx)
      refine (l1Pick_any r a ca bs (some ⟨wr.heap.size, 0, none⟩) 5 [0, 1, 5, 300, 65535] _ (by simp) (by simp) hrow (fun x hx => by simp at hx; subst hx; simp; omega) (hCr.below bx) har hne).mono ?_
      rintro e w2 ⟨x, hx, rfl, hC2, g2⟩
      have hr2 := owns_ne (owns_below hr bx) g2 (fun k hk he => by simp at he; have := hlo k hk; omega)
      have g02 : w.grownBy w2 (some r) := grownBy_trans (grownBy_trans gr (World.grownBy_alloc wr _ (some r))) g2
      have z2 : w.heap.size ≤ w2.heap.size := g02.size
      clear bx hrow har g2 hr hCr gr hx
      have hr2x := hr2.alloc (.cells #[.int .i64 x] 3)
      go_wp2_with (at_builtin; refine wpList_append_own _ rfl (.tmp 10) (.tmp 14) 82 rfl w.heap.size 3 i0 (.int .i64 0) 1 8 Try.underlying82 hi hz0 hz1 hz2 rfl (by decide) _ _ _ rfl hr2x ⟨w2.heap.size, 0, none⟩ 1 1 [.int .i64 x] rfl rfl (new_i64 _ _) ?c2 ?c3 ?c4 ?c5 ?_)
      case c2 => intro u hu; simp at hu; subst hu; rfl
      case c3 => unfold maxLen; omega
      case c4 => omega
      case c5 => simp; omega
      · intro v' w3 o3 g3 _
        have b2 := bel_alloc (Below.refl w2.heap.size w2) (.cells #[.int .i64 x] 3)
        have hC3 := (hC2.below b2).kept g3 (fun k hk => by have := hlo k hk; omega)
        have g03 := old_grown (gr_alloc g02 (.cells #[.int .i64 x] 3)) g3 (fun k hk => hlo k hk)
        have o3 : w3.ownsRow w.heap.size 3 1 v' (xs ++ [x]).length ((xs ++ [x]).map (Value.int .i64)) := by simpa using o3
        have hl3 : Hid ((xs ++ [x]).length = j + 1) := by show _ = _; simp [HXL.out]
        clear g3 b2 hC2 g02 hr2 hr2x
        go_wp2
        go_roundw
        case rel => exact ⟨j + 1, xs ++ [x], by omega, by go_num, hl3.out, o3, hC3, g03⟩
        case measure => simp [intOf]; omega
    · clear ha
      go_wp2
      go_ret
      exact ⟨_, xs, rfl, by have := HXL.out; omega, hr, hCr, gr⟩

theorem Cur.off {w : World} {r : Nat} {a : Option Addr} {n ca : Nat} (h : Cur w r a n ca) (x : Addr) (u : Value) (hx : r ≠ x.block) : Cur (w.setCell x u) r a n ca := by
  obtain ⟨i, y, hi, hX⟩ := h
  exact ⟨i, y, hi, hX.far x u hx⟩
theorem gr_off {w w' : World} {r : Nat} (g : w.grownBy w' (some r)) (x : Addr) (u : Value) (hx : w.heap.size ≤ x.block) : w.grownBy (w'.setCell x u) (some r) :=
  ⟨g.os, g.tape, g.output, by have := g.size; simp; omega, fun i hi hr => (Below.heap_setCell w' x u i (by omega)).trans (g.block i hi hr)⟩

/-- A drawn message: its words are its own, at most so many. -/
def MsgP (L : Nat) (r : Nat) (a : Option Addr) (n ca : Nat) (w : World) (e : Ending) (w' : World) : Prop :=
  ∃ (k p : Int) (o : Bool) (v : Value) (xs : List Int), e = .returned (.agg #[.int .i64 k, .int .i64 p, .bool o, v]) ∧ xs.length ≤ L ∧ w'.ownsRow w.heap.size 3 1 v xs.length (xs.map (Value.int .i64)) ∧ Cur w' r a n ca ∧ w.grownBy w' (some r)

end Go.Proofs.Ytkamhinklhcbaaa
