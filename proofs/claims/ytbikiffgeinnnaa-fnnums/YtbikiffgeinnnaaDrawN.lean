/- What the drawing functions for numbers give. -/
import Derived.Test.YtbikiffgeinnnaaCur2
import Derived.Test.YtbikiffgeinnnaaSpecPut
import Derived.Deep.RegionHeld3
namespace Go.Proofs.Ytbikiffgeinnnaa
open Go.RowKit
set_option linter.unusedVariables false

theorem row_lit (W : World) (xs : List Int) (hl : xs.length ≤ 1000) : Row .i64 (W.alloc (.cells (xs.map (Value.int .i64)).toArray 3)) (some ⟨W.heap.size, 0, none⟩) xs := by
  refine ⟨by omega, fun i hi => ⟨W.heap.size, 0, rfl, ?_⟩⟩
  have h := Box.new W (xs.map (Value.int .i64)).toArray 3
  rw [Nat.zero_add, h.cell]
  simp [hi]

theorem Cur.below {w w' : World} {r : Nat} {a : Option Addr} {n ca : Nat} (h : Cur w r a n ca) (b : Below w.heap.size w w') : Cur w' r a n ca := by
  obtain ⟨i, x, hi, hX⟩ := h
  exact ⟨i, x, hi, hX.below b⟩
theorem Cur.kept {w w' : World} {r : Nat} {a : Option Addr} {n ca : Nat} (h : Cur w r a n ca) {row : Option Nat} (g : w.grownBy w' row) (hne : ∀ j, row = some j → j ≠ r) : Cur w' r a n ca := by
  obtain ⟨i, x, hi, hX⟩ := h
  exact ⟨i, x, hi, hX.kept g hne⟩
theorem Cur.lt {w : World} {r : Nat} {a : Option Addr} {n ca : Nat} (h : Cur w r a n ca) : r < w.heap.size := by
  obtain ⟨i, x, hi, hX⟩ := h
  exact hX.lt
theorem Row.far {k : IntKind} {w : World} {a : Option Addr} {xs : List Int} (h : Row k w a xs) (h0 : 0 < xs.length) : ∀ x, a = some x → x.block < w.heap.size := fun x hx => by
  obtain ⟨b, off, e, hc⟩ := h.2 0 h0
  rw [hx] at e
  simp at e
  subst e
  exact lt_of_cell hc

/-- A code as the draws read it: where it is empty its address is of no matter. -/
theorem code_ne {w : World} {a : Option Addr} {bs : List Int} (h : Row .u8 w a bs) : ∃ a' : Option Addr, Row .u8 w a' bs ∧ (0 < bs.length → a' = a) ∧ ∀ x, a' = some x → x.block < w.heap.size := by
  by_cases h0 : 0 < bs.length
  · exact ⟨a, h, fun _ => rfl, h.far h0⟩
  · exact ⟨none, ⟨h.1, fun i hi => by omega⟩, fun h' => absurd h' h0, by simp⟩

set_option maxRecDepth 100000 in
set_option maxHeartbeats 1000000 in
theorem drawPutNum_any (a : Option Addr) (ca : Nat) (bs : List Int) (w : World) (ha : Row .u8 w a bs) :
    Calls Try.prog 19 #[.slice a bs.length ca] w fun e w' => ∃ x : Int, e = .returned (.int .i64 x) ∧ -1 ≤ x ∧ x ≤ 100001 ∧ Below w.heap.size w w' := by
  have hlt := ha.far
  go_enter Try.func19, Try.ntmps19
  go_wp2_with fail
  refine (l1New_any a ca bs _ ha).mono ?_
  rintro e w1 ⟨rfl, hC, b1⟩
  have zC := hC.lt
  go_wp2_with fail
  have bx := bel_alloc (Below.refl w1.heap.size w1) (.cells #[.int .i64 0, .int .i64 1, .int .i64 127, .int .i64 128, .int .i64 16383, .int .i64 16384, .int .i64 100000, .int .i64 100001, .int .i64 (-1)] 3)
  have hrow := row_lit w1 [0, 1, 127, 128, 16383, 16384, 100000, 100001, -1] (by simp)
  refine (l1Pick_any w.heap.size a ca bs (some ⟨w1.heap.size, 0, none⟩) 9 [0, 1, 127, 128, 16383, 16384, 100000, 100001, -1] _ (by simp) (by simp) hrow (fun x hx => by simp at hx; subst hx; simp; omega) (hC.below bx) ((ha.below b1).below bx) (fun h0 x hx => by have := hlt h0 x hx; omega)).mono ?_
  rintro e w2 ⟨x, hx, rfl, hC2, g2⟩
  have hB : Below w.heap.size w w2 := (bel_trans b1 bx).grown g2 (bel_trans b1 bx).size (fun j hj => by simp at hj; omega)
  have hx1 : -1 ≤ x ∧ x ≤ 100001 := by
    simp at hx
    omega
  obtain ⟨hx2, hx3⟩ := hx1
  clear hC b1 bx hrow hC2 g2 ha hlt hx
  go_wp2
  go_ret
  exact ⟨x, rfl, hx2, hx3, hB⟩

theorem cells_src {w : World} {lo g n c : Nat} {xs : List Int} (h : w.ownsRow lo 5 1 (.slice (some ⟨g, 0, none⟩) n c) n (xs.map (Value.int .u8))) :
    ∀ j u, (xs.map (Value.int .u8))[j]? = some u → w.cell? ((⟨g, 0, none⟩ : Addr).add j) = some u := fun j u hu => by
  have hj : j < n := by
    have h1 := (List.getElem?_eq_some_iff.1 hu).1
    have h2 := h.1
    rw [h2] at h1
    omega
  have e : (⟨g, 0, none⟩ : Addr).add j = ⟨g, j, none⟩ := by unfold Addr.add; split <;> simp_all
  rw [e, h.cellAt j (by omega)]
  exact hu

theorem new_two (W : World) (u0 u1 : Value) : ∀ j u, [u0, u1][j]? = some u → (W.alloc (.cells #[u0, u1] 5)).cell? ((⟨W.heap.size, 0, none⟩ : Addr).add j) = some u := fun j u hu => by
  have h := Box.new W #[u0, u1] 5
  have e : (⟨W.heap.size, 0, none⟩ : Addr).add j = ⟨W.heap.size, j, none⟩ := by unfold Addr.add; split <;> simp_all
  rw [e, h.cell]
  simpa using hu

theorem bytes_app {xs ys : List Int} (hx : Bytes xs) (hy : Bytes ys) : Bytes (xs ++ ys) := fun z hz => by
  rcases List.mem_append.1 hz with h | h
  · exact hx z h
  · exact hy z h

set_option maxRecDepth 100000 in
set_option maxHeartbeats 2000000 in
theorem drawGetNum_any (a : Option Addr) (ca : Nat) (bs : List Int) (w : World) (ha : Row .u8 w a bs) :
    Calls Try.prog 24 #[.slice a bs.length ca] w fun e w' => ∃ (v : Value) (xs : List Int) (k : Int), e = .returned (.tuple #[v, .int .i64 k]) ∧ Bytes xs ∧ xs.length ≤ 11 ∧ w'.ownsRow w.heap.size 5 1 v xs.length (xs.map (Value.int .u8)) ∧ Below w.heap.size w w' := by
  obtain ⟨i0, hi, hz0, hz1, hz2⟩ := info_parts info_u8
  have hlt := ha.far
  go_enter Try.func24, Try.ntmps24
  go_wp2_with fail
  refine (l1New_any a ca bs _ ha).mono ?_
  rintro e w1 ⟨rfl, hC, b1⟩
  have zC := hC.lt
  have oL : (w1.alloc (.cells #[] 5)).ownsRow (w.heap.size + 1) 5 1 (.slice (some ⟨w1.heap.size, 0, none⟩) 0 0) 0 [] := World.ownsRow_lit w1 #[] 0 (by omega) (by simp [maxLen]) rfl
  have bL := bel_alloc (Below.refl w1.heap.size w1) (.cells #[] 5)
  have hC := hC.below bL
  have B1 := bel_trans b1 bL
  clear b1 bL
  go_wp2_with fail
  go_loopw [5, 6] (fun v i wr => ∃ (j : Nat) (xs : List Int), j ≤ 3 ∧ i = .int .i64 j ∧ Bytes xs ∧ xs.length ≤ 3 * j ∧ wr.ownsRow (w.heap.size + 1) 5 1 v xs.length (xs.map (Value.int .u8)) ∧ Cur wr w.heap.size a bs.length ca ∧ Below w.heap.size w wr) (fun _ i _ => 3 - (intOf i).toNat)
  case atStart => exact ⟨0, [], by omega, rfl, by simp [Bytes], by simp, by simpa using oL, hC, B1⟩
  case round =>
    obtain ⟨j, xs, hj, rfl, hby, hxl, hr, hCr, hB⟩ := hrel
    clear oL hC B1
    have zr := hCr.lt
    obtain ⟨ab, cb, rfl⟩ := owns_slice hr
    have hlo : ∀ k, (Value.slice ab xs.length cb).ownBlock = some k → w.heap.size + 1 ≤ k := fun k hk => (hr.lt k hk).1
    go_wp2_with fail
    refine (l1Below_any w.heap.size a ca bs 4 _ (by omega) (by omega) hCr (ha.below hB) (fun h0 x hx => by have := hlt h0 x hx; omega)).mono ?_
    rintro e w2 ⟨q, rfl, hq, hC2, g2⟩
    have hr2 := owns_ne hr g2 (fun k hk he => by simp at he; have := hlo k hk; omega)
    have hB2 : Below w.heap.size w w2 := hB.grown g2 hB.size (fun k hk => by simp at hk; omega)
    clear hr hCr hB g2
    by_cases hjq : (j : Int) < (q : Int)
    · go_wp2_with fail
      have bx := bel_alloc (Below.refl w2.heap.size w2) (.cells #[.int .i64 0, .int .i64 127, .int .i64 128, .int .i64 16384, .int .i64 100000] 3)
      have hrow := row_lit w2 [0, 127, 128, 16384, 100000] (by simp)
      have z2 := hC2.lt
      have hBx := bel_trans hB2 bx
      refine (l1Pick_any w.heap.size a ca bs (some ⟨w2.heap.size, 0, none⟩) 5 [0, 127, 128, 16384, 100000] _ (by simp) (by simp) hrow (fun x hx => by simp at hx; subst hx; simp; omega) (hC2.below bx) (ha.below hBx) (fun h0 x hx => by have := hlt h0 x hx; omega)).mono ?_
      rintro e w3 ⟨x, hx, rfl, hC3, g3⟩
      have hx1 : 0 ≤ x ∧ x ≤ 100000 := by simp at hx; omega
      obtain ⟨hx0, hx9⟩ := hx1
      have hr3 := owns_ne (owns_below hr2 bx) g3 (fun k hk he => by simp at he; have := hlo k hk; omega)
      have hB3 : Below w.heap.size w w3 := hBx.grown g3 hBx.size (fun k hk => by simp at hk; omega)
      have z3 := hC3.lt
      clear bx hrow hBx g3 hC2 hr2 hB2 hx
      go_wp2_with fail
      refine (specPutNum_any x _).mono ?_
      rintro e w4 ⟨v4, rfl, o4, b4⟩
      rw [putb_in x hx0 hx9] at o4
      obtain ⟨a4, c4, rfl⟩ := owns_slice o4
      have hel := enc_len 2 x
      obtain ⟨g4, rfl⟩ := owns_addr o4 (by omega)
      have hr4 := owns_below hr3 b4
      have hC4 := hC3.below b4
      have hB4 := bel_trans hB3 b4
      have hsrc := cells_src o4
      have z4 := hC4.lt
      have hby4 : Bytes (xs ++ enc 2 x) := bytes_app hby (enc_byte 2 x hx0 (by simp [pw]; omega))
      have HBY : Hid (Bytes (xs ++ enc 2 x)) := hby4
      obtain ⟨ys, hys⟩ : ∃ ys, enc 2 x = ys := ⟨_, rfl⟩
      rw [hys] at hsrc hel o4 HBY
      clear b4 hr3 hC3 hB3 hby4 o4
      go_wp2_with (at_builtin; refine wpList_append_own _ rfl (.tmp 16) (.tmp 20) 22 rfl (w.heap.size + 1) 5 i0 (.int .u8 0) 1 1 Try.underlying22 hi hz0 hz1 hz2 rfl (by decide) _ _ _ rfl hr4 ⟨g4, 0, none⟩ ys.length c4 (ys.map (Value.int .u8)) rfl (by simp) hsrc ?c2 ?c3 ?c4 ?c5 ?_)
      case c2 => intro u hu; obtain ⟨z, _, rfl⟩ := List.mem_map.1 hu; rfl
      case c3 => unfold maxLen; omega
      case c4 => omega
      case c5 => omega
      · intro v' w5 o5 g5 _
        have hC5 := hC4.kept g5 (fun k hk => by have := hlo k hk; omega)
        have hB5 : Below w.heap.size w w5 := hB4.grown g5 hB4.size (fun k hk => by have := hlo k hk; omega)
        have o5 : w5.ownsRow (w.heap.size + 1) 5 1 v' (xs ++ ys).length ((xs ++ ys).map (Value.int .u8)) := by simpa using o5
        have hlen : (xs ++ ys).length ≤ 3 * (j + 1) := by simp; omega
        have HLEN : Hid ((xs ++ ys).length ≤ 3 * (j + 1)) := hlen
        clear g5 hC4 hB4 hr4 hsrc hlen
        go_wp2
        go_roundw
        case rel => exact ⟨j + 1, xs ++ ys, by omega, by go_num, HBY.out, HLEN.out, o5, hC5, hB5⟩
        case measure => simp [intOf]; omega
    · have hjq' : (q : Int) ≤ (j : Int) := by omega
      have z2 := hC2.lt
      go_wp2_with fail
      refine (l1Once_any w.heap.size a ca bs 3 _ (by omega) (by omega) hC2 (ha.below hB2) (fun h0 x hx => by have := hlt h0 x hx; omega)).mono ?_
      rintro e w3 ⟨x, rfl, hC3, g3⟩
      have hr3 := owns_ne hr2 g3 (fun k hk he => by simp at he; have := hlo k hk; omega)
      have hB3 : Below w.heap.size w w3 := hB2.grown g3 hB2.size (fun k hk => by simp at hk; omega)
      have z3 := hC3.lt
      clear g3 hC2 hr2 hB2
      by_cases hx : (x : Int) = 0
      · have e0 : ((x : Int) == 0) = true := by simp [hx]
        rw [e0]
        go_wp2_with fail
        have bx := bel_alloc (Below.refl w3.heap.size w3) (.cells #[.int .i64 0, .int .i64 128, .int .i64 255] 3)
        have hrow := row_lit w3 [0, 128, 255] (by simp)
        have hBx := bel_trans hB3 bx
        refine (l1Pick_any w.heap.size a ca bs (some ⟨w3.heap.size, 0, none⟩) 3 [0, 128, 255] _ (by simp) (by simp) hrow (fun x hx => by simp at hx; subst hx; simp; omega) (hC3.below bx) (ha.below hBx) (fun h0 x hx => by have := hlt h0 x hx; omega)).mono ?_
        rintro e w4 ⟨y, hy, rfl, hC4, g4⟩
        have hy1 : 0 ≤ y ∧ y ≤ 255 := by simp at hy; omega
        obtain ⟨hy0, hy9⟩ := hy1
        have hr4 := owns_ne (owns_below hr3 bx) g4 (fun k hk he => by simp at he; have := hlo k hk; omega)
        have hB4 : Below w.heap.size w w4 := hBx.grown g4 hBx.size (fun k hk => by simp at hk; omega)
        have z4 := hC4.lt
        clear bx hrow hBx g4 hC3 hr3 hB3 hy
        go_wp2_with fail
        refine (l1Below_any w.heap.size a ca bs 3 _ (by omega) (by omega) hC4 (ha.below hB4) (fun h0 x hx => by have := hlt h0 x hx; omega)).mono ?_
        rintro e w5 ⟨q5, rfl, hq5, hC5, g5⟩
        have hr5 := owns_ne hr4 g5 (fun k hk he => by simp at he; have := hlo k hk; omega)
        have hB5 : Below w.heap.size w w5 := hB4.grown g5 hB4.size (fun k hk => by simp at hk; omega)
        have z5 := hC5.lt
        clear g5 hC4 hr4 hB4
        have hr5x := hr5.alloc (.cells #[.int .u8 y, .int .u8 q5] 5)
        go_wp2_with (at_builtin; refine wpList_append_own _ rfl (.tmp 24) (.tmp 32) 22 rfl (w.heap.size + 1) 5 i0 (.int .u8 0) 1 1 Try.underlying22 hi hz0 hz1 hz2 rfl (by decide) _ _ _ rfl hr5x ⟨w5.heap.size, 0, none⟩ 2 2 [.int .u8 y, .int .u8 q5] rfl rfl (new_two _ _ _) ?c2 ?c3 ?c4 ?c5 ?_)
        case c2 => intro u hu; simp at hu; rcases hu with rfl | rfl <;> rfl
        case c3 => unfold maxLen; omega
        case c4 => omega
        case c5 => simp; omega
        · intro v' w6 o6 g6 _
          have bz := bel_alloc (Below.refl w5.heap.size w5) (.cells #[.int .u8 y, .int .u8 q5] 5)
          have hC6 := (hC5.below bz).kept g6 (fun k hk => by have := hlo k hk; omega)
          have hBz := bel_trans hB5 bz
          have hB6 : Below w.heap.size w w6 := hBz.grown g6 hBz.size (fun k hk => by have := hlo k hk; omega)
          have o6 : w6.ownsRow (w.heap.size + 1) 5 1 v' (xs ++ [y, (q5 : Int)]).length ((xs ++ [y, (q5 : Int)]).map (Value.int .u8)) := by simpa using o6
          have hby6 : Bytes (xs ++ [y, (q5 : Int)]) := bytes_app hby (fun z hz => by simp at hz; omega)
          have HBY : Hid (Bytes (xs ++ [y, (q5 : Int)])) := hby6
          have hl6 : (xs ++ [y, (q5 : Int)]).length ≤ 11 := by simp; omega
          obtain ⟨L6, hL6⟩ : ∃ L6, xs ++ [y, (q5 : Int)] = L6 := ⟨_, rfl⟩
          rw [hL6] at o6 HBY hl6
          obtain ⟨a6, c6, rfl⟩ := owns_slice o6
          have hlo6 : ∀ k, (Value.slice a6 L6.length c6).ownBlock = some k → w.heap.size + 1 ≤ k := fun k hk => (o6.lt k hk).1
          have z6 := hC6.lt
          clear g6 bz hBz hby6 hL6 hr5 hr5x hC5 hB5
          go_wp2_with fail
          have bx := bel_alloc (Below.refl w6.heap.size w6) (.cells #[.int .i64 0, .int .i64 0, .int .i64 1, .int .i64 L6.length, .int .i64 (-1), .int .i64 9223372036854775807] 3)
          have hrow := row_lit w6 [0, 0, 1, (L6.length : Int), -1, 9223372036854775807] (by simp)
          have hBx := bel_trans hB6 bx
          refine (l1Pick_any w.heap.size a ca bs (some ⟨w6.heap.size, 0, none⟩) 6 [0, 0, 1, (L6.length : Int), -1, 9223372036854775807] _ (by simp) (by simp) hrow (fun x hx => by simp at hx; subst hx; simp; omega) (hC6.below bx) (ha.below hBx) (fun h0 x hx => by have := hlt h0 x hx; omega)).mono ?_
          rintro e w9 ⟨k9, _, rfl, hC9, g9⟩
          have hr9 := owns_ne (owns_below o6 bx) g9 (fun k hk he => by simp at he; have := hlo6 k hk; omega)
          have hB9 : Below w.heap.size w w9 := hBx.grown g9 hBx.size (fun k hk => by simp at hk; omega)
          clear bx hrow hBx g9 hC9
          go_wp2
          go_ret2
          exact ⟨_, L6, k9, rfl, HBY.out, hl6, owns_base hr9 (by omega), hB9⟩
      · have e0 : ((x : Int) == 0) = false := by simp; omega
        rw [e0]
        go_wp2_with fail
        have bx := bel_alloc (Below.refl w3.heap.size w3) (.cells #[.int .i64 0, .int .i64 0, .int .i64 1, .int .i64 xs.length, .int .i64 (-1), .int .i64 9223372036854775807] 3)
        have hrow := row_lit w3 [0, 0, 1, (xs.length : Int), -1, 9223372036854775807] (by simp)
        have hBx := bel_trans hB3 bx
        refine (l1Pick_any w.heap.size a ca bs (some ⟨w3.heap.size, 0, none⟩) 6 [0, 0, 1, (xs.length : Int), -1, 9223372036854775807] _ (by simp) (by simp) hrow (fun x hx => by simp at hx; subst hx; simp; omega) (hC3.below bx) (ha.below hBx) (fun h0 x hx => by have := hlt h0 x hx; omega)).mono ?_
        rintro e w9 ⟨k9, _, rfl, hC9, g9⟩
        have hr9 := owns_ne (owns_below hr3 bx) g9 (fun k hk he => by simp at he; have := hlo k hk; omega)
        have hB9 : Below w.heap.size w w9 := hBx.grown g9 hBx.size (fun k hk => by simp at hk; omega)
        clear bx hrow hBx g9 hC9
        go_wp2
        go_ret2
        exact ⟨_, xs, k9, rfl, hby, by omega, owns_base hr9 (by omega), hB9⟩
end Go.Proofs.Ytbikiffgeinnnaa
