/- What the drawing functions for messages give. -/
import Derived.Test.YtmbfhmpafjcneaaDrawN
import Derived.Test.YtmbfhmpafjcneaaInts
namespace Go.Proofs.Ytmbfhmpafjcneaa
open Go.RowKit
set_option linter.unusedVariables false

theorem new_i64 (W : World) (c : Int) : ∀ j u, [Value.int .i64 c][j]? = some u → (W.alloc (.cells #[.int .i64 c] 3)).cell? ((⟨W.heap.size, 0, none⟩ : Addr).add j) = some u := fun j u hu => by
  have h := Box.new W #[.int .i64 c] 3
  have e : (⟨W.heap.size, 0, none⟩ : Addr).add j = ⟨W.heap.size, j, none⟩ := by unfold Addr.add; split <;> simp_all
  rw [e, h.cell]
  simpa using hu

theorem Row.kept2 {k : IntKind} {w w' : World} {a : Option Addr} {xs : List Int} {r : Nat} (h : Row k w a xs) (g : w.grownBy w' (some r)) (hne : 0 < xs.length → ∀ x, a = some x → x.block ≠ r) : Row k w' a xs := by
  by_cases h0 : 0 < xs.length
  · exact h.kept g (hne h0)
  · exact ⟨h.1, fun i hi => by omega⟩

theorem gr_alloc {w w2 : World} {r : Nat} (g : w.grownBy w2 (some r)) (o : Obj) : w.grownBy (w2.alloc o) (some r) := grownBy_trans g (World.grownBy_alloc w2 o (some r))

/-- A row that is new turned besides: of the old blocks the one alone. -/
theorem old_grown {w w2 w3 : World} {r : Nat} {row : Option Nat} (g : w.grownBy w2 (some r)) (g3 : w2.grownBy w3 row) (hlo : ∀ k, row = some k → w.heap.size ≤ k) : w.grownBy w3 (some r) :=
  ⟨g3.os.trans g.os, g3.tape.trans g.tape, g3.output.trans g.output, Nat.le_trans g.size g3.size, fun i hi hr => (g3.block i (Nat.lt_of_lt_of_le hi g.size) (fun e => by have := hlo i e.symm; omega)).trans (g.block i hi hr)⟩

/-- Four drawn words, their own. -/
def ListP (r : Nat) (a : Option Addr) (n ca : Nat) (w : World) (e : Ending) (w' : World) : Prop :=
  ∃ (v : Value) (xs : List Int), e = .returned v ∧ xs.length = 4 ∧ w'.ownsRow w.heap.size 3 1 v xs.length (xs.map (Value.int .i64)) ∧ Cur w' r a n ca ∧ w.grownBy w' (some r)

set_option maxRecDepth 100000 in
set_option maxHeartbeats 2000000 in
theorem drawList_any (r : Nat) (a : Option Addr) (ca : Nat) (bs : List Int) (w : World) (hC : Cur w r a bs.length ca) (ha : Row .u8 w a bs) (hne : 0 < bs.length → ∀ x, a = some x → x.block ≠ r) :
    Calls Try.prog 112 #[.pointer (some ⟨r, 0, none⟩)] w fun e w' => ListP r a bs.length ca w e w' := by
  obtain ⟨i0, hi, hz0, hz1, hz2⟩ := info_parts info_i64
  have zC := hC.lt
  have oL : (w.alloc (.cells #[] 3)).ownsRow w.heap.size 3 1 (.slice (some ⟨w.heap.size, 0, none⟩) 0 0) 0 [] := World.ownsRow_lit w #[] 0 (by omega) (by simp [maxLen]) rfl
  have bL := bel_alloc (Below.refl w.heap.size w) (.cells #[] 3)
  have hC1 := hC.below bL
  have g1 := World.grownBy_alloc w (.cells #[] 3) (some r)
  go_enter Try.func112, Try.ntmps112
  go_wp2_with fail
  go_loopw [3, 4] (fun v i wr => ∃ (j : Nat) (xs : List Int), j ≤ 4 ∧ i = .int .i64 j ∧ xs.length = j ∧ wr.ownsRow w.heap.size 3 1 v xs.length (xs.map (Value.int .i64)) ∧ Cur wr r a bs.length ca ∧ w.grownBy wr (some r)) (fun _ i _ => 4 - (intOf i).toNat)
  case atStart => exact ⟨0, [], by omega, rfl, rfl, by simpa using oL, hC1, g1⟩
  case round =>
    obtain ⟨j, xs, hj, rfl, hxl, hr, hCr, gr⟩ := hrel
    have HXL : Hid (xs.length = j) := hxl
    have hx4 : xs.length ≤ 4 := by omega
    clear hxl
    clear oL hC1 g1 bL
    have zr := hCr.lt
    obtain ⟨ab, cb, rfl⟩ := owns_slice hr
    have hlo : ∀ k, (Value.slice ab xs.length cb).ownBlock = some k → w.heap.size ≤ k := fun k hk => (hr.lt k hk).1
    by_cases hj4 : (j : Int) < 4
    · go_wp2_with fail
      have bx := bel_alloc (Below.refl wr.heap.size wr) (.cells #[.int .i64 0, .int .i64 1, .int .i64 5, .int .i64 300, .int .i64 65535] 3)
      have hrow := row_lit wr [0, 1, 5, 300, 65535] (by simp)
      have har := ((ha.kept2 gr hne).below bx)
      refine (l1Pick_any r a ca bs (some ⟨wr.heap.size, 0, none⟩) 5 [0, 1, 5, 300, 65535] _ (by simp) (by simp) hrow (fun x hx => by simp at hx; subst hx; simp; omega) (hCr.below bx) har hne).mono ?_
      rintro e w2 ⟨x, hx, rfl, hC2, g2⟩
      have hr2 := owns_ne (owns_below hr bx) g2 (fun k hk he => by simp at he; have := hlo k hk; omega)
      have g02 : w.grownBy w2 (some r) := grownBy_trans (grownBy_trans gr (World.grownBy_alloc wr _ (some r))) g2
      have z2 : w.heap.size ≤ w2.heap.size := g02.size
      clear bx hrow har g2 hr hCr gr hx
      have hr2x := hr2.alloc (.cells #[.int .i64 x] 3)
      go_wp2_with (at_builtin; refine wpList_append_own _ rfl (.tmp 10) (.tmp 14) 24 rfl w.heap.size 3 i0 (.int .i64 0) 1 8 Try.underlying24 hi hz0 hz1 hz2 rfl (by decide) _ _ _ rfl hr2x ⟨w2.heap.size, 0, none⟩ 1 1 [.int .i64 x] rfl rfl (new_i64 _ _) ?c2 ?c3 ?c4 ?c5 ?_)
      case c2 => intro u hu; simp at hu; subst hu; rfl
      case c3 => unfold maxLen; omega
      case c4 => omega
      case c5 => simp; omega
      · intro v' w3 o3 g3 _
        have b2 := bel_alloc (Below.refl w2.heap.size w2) (.cells #[.int .i64 x] 3)
        have hC3 := (hC2.below b2).kept g3 (fun k hk => by have := hlo k hk; omega)
        have g03 := old_grown (gr_alloc g02 (.cells #[.int .i64 x] 3)) g3 (fun k hk => hlo k hk)
        have o3 : w3.ownsRow w.heap.size 3 1 v' (xs ++ [x]).length ((xs ++ [x]).map (Value.int .i64)) := by simpa using o3
        have hl3 : Hid ((xs ++ [x]).length = j + 1) := by show _ = _; simp [HXL.out]
        clear g3 b2 hC2 g02 hr2 hr2x
        go_wp2
        go_roundw
        case rel => exact ⟨j + 1, xs ++ [x], by omega, by go_num, hl3.out, o3, hC3, g03⟩
        case measure => simp [intOf]; omega
    · clear ha
      go_wp2
      go_ret
      exact ⟨_, xs, rfl, by have := HXL.out; omega, hr, hCr, gr⟩

theorem Cur.off {w : World} {r : Nat} {a : Option Addr} {n ca : Nat} (h : Cur w r a n ca) (x : Addr) (u : Value) (hx : r ≠ x.block) : Cur (w.setCell x u) r a n ca := by
  obtain ⟨i, y, hi, hX⟩ := h
  exact ⟨i, y, hi, hX.far x u hx⟩
theorem gr_off {w w' : World} {r : Nat} (g : w.grownBy w' (some r)) (x : Addr) (u : Value) (hx : w.heap.size ≤ x.block) : w.grownBy (w'.setCell x u) (some r) :=
  ⟨g.os, g.tape, g.output, by have := g.size; simp; omega, fun i hi hr => (Below.heap_setCell w' x u i (by omega)).trans (g.block i hi hr)⟩

/-- A drawn message: its words are its own, at most so many. -/
def MsgP (L : Nat) (r : Nat) (a : Option Addr) (n ca : Nat) (w : World) (e : Ending) (w' : World) : Prop :=
  ∃ (k p : Int) (o : Bool) (v : Value) (xs : List Int), e = .returned (.agg #[.int .i64 k, .int .i64 p, .bool o, v]) ∧ xs.length ≤ L ∧ w'.ownsRow w.heap.size 3 1 v xs.length (xs.map (Value.int .i64)) ∧ Cur w' r a n ca ∧ w.grownBy w' (some r)

set_option maxRecDepth 100000 in
set_option maxHeartbeats 2000000 in
theorem drawRight_any (r : Nat) (a : Option Addr) (ca : Nat) (bs : List Int) (w : World) (hC : Cur w r a bs.length ca) (ha : Row .u8 w a bs) (hne : 0 < bs.length → ∀ x, a = some x → x.block ≠ r) :
    Calls Try.prog 62 #[.pointer (some ⟨r, 0, none⟩)] w fun e w' => MsgP 4 r a bs.length ca w e w' := by
  have zC := hC.lt
  have XR := Box.new w #[.int .i64 0, .int .i64 0, .bool false, .slice none 0 0] 26
  have bR := bel_alloc (Below.refl w.heap.size w) (.cells #[.int .i64 0, .int .i64 0, .bool false, .slice none 0 0] 26)
  have gR := World.grownBy_alloc w (.cells #[.int .i64 0, .int .i64 0, .bool false, .slice none 0 0] 26) (some r)
  have hC0 := hC.below bR
  have ha0 := ha.below bR
  clear bR
  go_enter Try.func62, Try.ntmps62
  go_wp2_with fail
  refine (l1Below_any r a ca bs 7 _ (by omega) (by omega) hC0 ha0 hne).mono ?_
  rintro e w1 ⟨q, rfl, hq, hC1, g1⟩
  have XR1 := XR.kept g1 (fun j hj => by simp at hj; omega)
  have g01 := grownBy_trans gR g1
  clear hC0 ha0 g1 gR XR
  go_wp2_with fail
  refine (l1Below_any r a ca bs 6 _ (by omega) (by omega) hC1 (ha.kept2 g01 hne) hne).mono ?_
  rintro e w2 ⟨p, rfl, hp, hC2, g2⟩
  have XR2 := XR1.kept g2 (fun j hj => by simp at hj; omega)
  have g02 := grownBy_trans g01 g2
  have z2 := XR2.lt
  have zC2 := hC2.lt
  have bM := bel_alloc (Below.refl w2.heap.size w2) (.cells #[.int .i64 (1 + q), .int .i64 p, .bool false, .slice none 0 0] 26)
  have XM := Box.new w2 #[.int .i64 (1 + q), .int .i64 p, .bool false, .slice none 0 0] 26
  have XR3 := XR2.below bM
  have hC3 := hC2.below bM
  have g03 := gr_alloc g02 (.cells #[.int .i64 (1 + q), .int .i64 p, .bool false, .slice none 0 0] 26)
  clear bM hC1 g2 g01 XR1 XR2 hC2 g02 hC
  by_cases hk : q = 6
  · subst hk
    have har := ha.kept2 g03 hne
    go_wp2_with fail
    refine (drawList_any r a ca bs _ hC3 har hne).mono ?_
    rintro e w5 ⟨v5, xs, rfl, hxl, o5, hC5, g5⟩
    have XM5 := XM.kept g5 (fun j hj => by simp at hj; omega)
    have XR5 := XR3.kept g5 (fun j hj => by simp at hj; omega)
    have g05 := grownBy_trans g03 g5
    have hl5 : ∀ j, v5.ownBlock = some j → w2.heap.size < j := fun j hj => by have h1 := (o5.lt j hj).1; have h2 := XM.lt; omega
    have HL5 : Hid (∀ j, v5.ownBlock = some j → w2.heap.size < j) := hl5
    have HXL : Hid (xs.length = 4) := hxl
    obtain ⟨a5, c5, rfl⟩ := owns_slice o5
    obtain ⟨y0, y1, y2, y3, zy⟩ := XM5.at4
    obtain ⟨x0, x1, x2, x3, zx⟩ := XR5.at4
    have e3 := XM5.frozen 3
    have f0 := XR5.frozen 0
    have f1 := XR5.frozen 1
    have f2 := XR5.frozen 2
    have f3 := XR5.frozen 3
    clear XM5 XR5 hl5 hxl g5 har
    go_wp2
    refine bodyPost_ret (v := .agg #[.int .i64 (1 + 6), .int .i64 p, .bool false, .slice a5 xs.length c5]) (by simp [results, Try.results62, go_sem, x0, x1, x2, x3]) rfl ⟨_, _, _, _, xs, rfl, by have := HXL.out; omega, ?_, ?_, ?_⟩
    · repeat refine owns_setCell ?_ ?_ _
      · exact owns_base o5 (by have := g03.size; omega)
      all_goals (intro j h; have := HL5.out j h; simp; omega)
    · repeat refine Cur.off ?_ _ _ ?_
      · exact hC5
      all_goals (simp; try omega)
    · repeat refine gr_off ?_ _ _ ?_
      · exact g05
      all_goals (simp; try omega)
  by_cases hk3 : q = 2
  · subst hk3
    obtain ⟨z0, z1, z2', z3, zz⟩ := XM.at4
    go_wp2_with fail
    refine (l1Once_any r a ca bs 2 _ (by omega) (by omega) hC3 (ha.kept2 g03 hne) hne).mono ?_
    rintro e w4 ⟨x, rfl, hC4, g4⟩
    obtain ⟨b, hb⟩ : ∃ b, ((x : Int) == 0) = b := ⟨_, rfl⟩
    rw [hb]
    have XM4 := XM.kept g4 (fun j hj => by simp at hj; omega)
    have XR4 := XR3.kept g4 (fun j hj => by simp at hj; omega)
    have g04 := grownBy_trans g03 g4
    have e2 := XM4.frozen 2
    obtain ⟨m0, m1, m2, m3, mz⟩ := XM4.at4
    have XM6 : Box (w4.setCell ⟨w2.heap.size, 2, none⟩ (.bool b)) w2.heap.size #[.int .i64 (1 + 2), .int .i64 p, .bool b, .slice none 0 0] 26 := heap_setCell_same _ _ 2 _ _ _ XM4
    have XR6 := XR4.far ⟨w2.heap.size, 2, none⟩ (.bool b) (by simp; omega)
    have hC6 := hC4.off ⟨w2.heap.size, 2, none⟩ (.bool b) (by simp; omega)
    have g06 := gr_off g04 ⟨w2.heap.size, 2, none⟩ (.bool b) (by simp; omega)
    obtain ⟨W6, hW6⟩ : ∃ W6, w4.setCell ⟨w2.heap.size, 2, none⟩ (.bool b) = W6 := ⟨_, rfl⟩
    rw [hW6] at XM6 XR6 hC6 g06
    obtain ⟨n0, n1, n2, n3, nz⟩ := XM6.at4
    clear XM XR3 hC3 g03 XM4 XR4 hC4 g4 g04 z0 z1 z2' z3 zz hb
    have har := ha.kept2 g06 hne
    go_wp2_with fail
    refine (drawList_any r a ca bs _ hC6 har hne).mono ?_
    rintro e w5 ⟨v5, xs, rfl, hxl, o5, hC5, g5⟩
    have XM5 := XM6.kept g5 (fun j hj => by simp at hj; omega)
    have XR5 := XR6.kept g5 (fun j hj => by simp at hj; omega)
    have g05 := grownBy_trans g06 g5
    have hl5 : ∀ j, v5.ownBlock = some j → w2.heap.size < j := fun j hj => by have h1 := (o5.lt j hj).1; have h2 := XM6.lt; omega
    have HL5 : Hid (∀ j, v5.ownBlock = some j → w2.heap.size < j) := hl5
    have HXL : Hid (xs.length = 4) := hxl
    obtain ⟨a5, c5, rfl⟩ := owns_slice o5
    obtain ⟨y0, y1, y2, y3, zy⟩ := XM5.at4
    obtain ⟨x0, x1, x2, x3, zx⟩ := XR5.at4
    have e3 := XM5.frozen 3
    have f0 := XR5.frozen 0
    have f1 := XR5.frozen 1
    have f2 := XR5.frozen 2
    have f3 := XR5.frozen 3
    clear XM5 XR5 hl5 hxl g5 har
    go_wp2
    refine bodyPost_ret (v := .agg #[.int .i64 (1 + 2), .int .i64 p, .bool b, .slice a5 xs.length c5]) (by simp [results, Try.results62, go_sem, x0, x1, x2, x3]) rfl ⟨_, _, _, _, xs, rfl, by have := HXL.out; omega, ?_, ?_, ?_⟩
    · repeat refine owns_setCell ?_ ?_ _
      · exact owns_base o5 (by have := g06.size; omega)
      all_goals (intro j h; have := HL5.out j h; simp; omega)
    · repeat refine Cur.off ?_ _ _ ?_
      · exact hC5
      all_goals (simp; try omega)
    · repeat refine gr_off ?_ _ _ ?_
      · exact g05
      all_goals (simp; try omega)
  by_cases hk6 : q = 5
  · subst hk6
    obtain ⟨z0, z1, z2', z3, zz⟩ := XM.at4
    go_wp2_with fail
    refine (l1Once_any r a ca bs 2 _ (by omega) (by omega) hC3 (ha.kept2 g03 hne) hne).mono ?_
    rintro e w4 ⟨x, rfl, hC4, g4⟩
    obtain ⟨b, hb⟩ : ∃ b, ((x : Int) == 0) = b := ⟨_, rfl⟩
    rw [hb]
    have XM4 := XM.kept g4 (fun j hj => by simp at hj; omega)
    have XR4 := XR3.kept g4 (fun j hj => by simp at hj; omega)
    have g04 := grownBy_trans g03 g4
    have e2 := XM4.frozen 2
    obtain ⟨m0, m1, m2, m3, mz⟩ := XM4.at4
    have XM6 : Box (w4.setCell ⟨w2.heap.size, 2, none⟩ (.bool b)) w2.heap.size #[.int .i64 (1 + 5), .int .i64 p, .bool b, .slice none 0 0] 26 := heap_setCell_same _ _ 2 _ _ _ XM4
    have XR6 := XR4.far ⟨w2.heap.size, 2, none⟩ (.bool b) (by simp; omega)
    have hC6 := hC4.off ⟨w2.heap.size, 2, none⟩ (.bool b) (by simp; omega)
    have g06 := gr_off g04 ⟨w2.heap.size, 2, none⟩ (.bool b) (by simp; omega)
    obtain ⟨W6, hW6⟩ : ∃ W6, w4.setCell ⟨w2.heap.size, 2, none⟩ (.bool b) = W6 := ⟨_, rfl⟩
    rw [hW6] at XM6 XR6 hC6 g06
    obtain ⟨n0, n1, n2, n3, nz⟩ := XM6.at4
    clear XM XR3 hC3 g03 XM4 XR4 hC4 g4 g04 z0 z1 z2' z3 zz hb
    obtain ⟨x0, x1, x2, x3, zx⟩ := XR6.at4
    obtain ⟨y0, y1, y2, y3, zy⟩ := XM6.at4
    have f0 := XR6.frozen 0
    have f1 := XR6.frozen 1
    have f2 := XR6.frozen 2
    have f3 := XR6.frozen 3
    go_wp2
    refine bodyPost_ret (v := .agg #[.int .i64 (1 + 5), .int .i64 p, .bool b, .slice none 0 0]) (by simp [results, Try.results62, go_sem, x0, x1, x2, x3]) rfl ⟨_, _, _, _, [], rfl, by simp, World.ownsRow_nil _ _ _ _, ?_, ?_⟩
    · repeat refine Cur.off ?_ _ _ ?_
      · exact hC6
      all_goals (simp; try omega)
    · repeat refine gr_off ?_ _ _ ?_
      · exact g06
      all_goals (simp; try omega)
  obtain ⟨K, hK⟩ : ∃ K : Int, 1 + (q : Int) = K := ⟨_, rfl⟩
  have hK3 : ¬ K = 3 := by omega
  have hK6 : ¬ K = 6 := by omega
  have hK7 : ¬ K = 7 := by omega
  rw [hK] at XM XR3 hC3 g03
  have e3 : (K == 3) = false := by simp [hK3]
  have e6 : (K == 6) = false := by simp [hK6]
  have e7 : (K == 7) = false := by simp [hK7]
  · obtain ⟨W3, hW3⟩ : ∃ W3, w2.alloc (.cells #[.int .i64 K, .int .i64 p, .bool false, .slice none 0 0] 26) = W3 := ⟨_, rfl⟩
    rw [hW3] at XM XR3 hC3 g03
    have q0 := XM.frozen 0
    have q1 := XM.frozen 1
    have q2 := XM.frozen 2
    have q3 := XM.frozen 3
    obtain ⟨x0, x1, x2, x3, zx⟩ := XR3.at4
    obtain ⟨y0, y1, y2, y3, zy⟩ := XM.at4
    have f0 := XR3.frozen 0
    have f1 := XR3.frozen 1
    have f2 := XR3.frozen 2
    have f3 := XR3.frozen 3
    go_wp2
    refine bodyPost_ret (v := .agg #[.int .i64 K, .int .i64 p, .bool false, .slice none 0 0]) (by simp [results, Try.results62, go_sem, x0, x1, x2, x3]) rfl ⟨_, _, _, _, [], rfl, by simp, World.ownsRow_nil _ _ _ _, ?_, ?_⟩
    · repeat refine Cur.off ?_ _ _ ?_
      · exact hC3
      all_goals (simp; try omega)
    · repeat refine gr_off ?_ _ _ ?_
      · exact g03
      all_goals (simp; try omega)
end Go.Proofs.Ytmbfhmpafjcneaa
