/- What MsgOf does. -/
import Derived.Test.YtbihhndpjpdbmaaRdWords
import Derived.Test.YtbihhndpjpdbmaaLetter
namespace Go.Proofs.Ytbihhndpjpdbmaa
open Go.RowKit
set_option linter.unusedVariables false

/-- A message's block. -/
def MB (w : World) (m : Nat) (c0 c1 c2 c3 : Value) : Prop := w.heap[m]? = some (.cells #[c0, c1, c2, c3] 26 (0, 0))

theorem MB.cells {w : World} {m : Nat} {c0 c1 c2 c3 : Value} (h : MB w m c0 c1 c2 c3) :
    w.cell? ⟨m, 0, none⟩ = some c0 ∧ w.cell? ⟨m, 1, none⟩ = some c1 ∧ w.cell? ⟨m, 2, none⟩ = some c2 ∧ w.cell? ⟨m, 3, none⟩ = some c3 ∧ w.frozen? ⟨m, 0, none⟩ = false ∧ w.frozen? ⟨m, 1, none⟩ = false ∧ w.frozen? ⟨m, 2, none⟩ = false ∧ w.frozen? ⟨m, 3, none⟩ = false :=
  ⟨by rw [cell_of_row w m 0 _ _ _ h]; rfl, by rw [cell_of_row w m 1 _ _ _ h]; rfl, by rw [cell_of_row w m 2 _ _ _ h]; rfl, by rw [cell_of_row w m 3 _ _ _ h]; rfl, frozen_of_row w m 0 _ _ h, frozen_of_row w m 1 _ _ h, frozen_of_row w m 2 _ _ h, frozen_of_row w m 3 _ _ h⟩
theorem MB.kept {w w' : World} {m : Nat} {c0 c1 c2 c3 : Value} (h : MB w m c0 c1 c2 c3) {row : Option Nat} (g : w.grownBy w' row) (hne : row ≠ some m) : MB w' m c0 c1 c2 c3 :=
  (g.block m (Array.getElem?_eq_some_iff.1 h).1 (fun e => hne e.symm)).trans h
theorem MB.far {w : World} {m : Nat} {c0 c1 c2 c3 : Value} (h : MB w m c0 c1 c2 c3) (x : Addr) (u : Value) (hne : m ≠ x.block) : MB (w.setCell x u) m c0 c1 c2 c3 := (Below.heap_setCell w x u m hne).trans h
theorem Rdr.far {w : World} {r : Nat} {s : Value} {at' : Int} {bad : Bool} (h : Rdr w r s at' bad) (x : Addr) (u : Value) (hne : r ≠ x.block) : Rdr (w.setCell x u) r s at' bad := (Below.heap_setCell w x u r hne).trans h
theorem MB.set0 {w : World} {m : Nat} {c0 c1 c2 c3 : Value} (h : MB w m c0 c1 c2 c3) (u : Value) : MB (w.setCell ⟨m, 0, none⟩ u) m u c1 c2 c3 := heap_setCell_same w m 0 _ _ _ h
theorem MB.set1 {w : World} {m : Nat} {c0 c1 c2 c3 : Value} (h : MB w m c0 c1 c2 c3) (u : Value) : MB (w.setCell ⟨m, 1, none⟩ u) m c0 u c2 c3 := heap_setCell_same w m 1 _ _ _ h
theorem MB.set2 {w : World} {m : Nat} {c0 c1 c2 c3 : Value} (h : MB w m c0 c1 c2 c3) (u : Value) : MB (w.setCell ⟨m, 2, none⟩ u) m c0 c1 u c3 := heap_setCell_same w m 2 _ _ _ h
theorem MB.set3 {w : World} {m : Nat} {c0 c1 c2 c3 : Value} (h : MB w m c0 c1 c2 c3) (u : Value) : MB (w.setCell ⟨m, 3, none⟩ u) m c0 c1 c2 u := heap_setCell_same w m 3 _ _ _ h

theorem heap_new (w : World) (o : Obj) (n : Nat) (h : n = w.heap.size) : (w.alloc o).heap[n]? = some o := by subst h; exact heap_alloc_new w o

theorem of_start (w : World) (s : Value) :
    let W := ((w.alloc (.cells #[.int .i64 0, .int .i64 0, .bool false, .slice none 0 0] 26)).alloc (.cells #[s, .int .i64 0, .bool false] 47)).alloc (.cells #[.int .i64 0, .int .i64 0, .bool false, .slice none 0 0] 26)
    MB W w.heap.size (.int .i64 0) (.int .i64 0) (.bool false) (.slice none 0 0) ∧ Rdr W (w.heap.size + 1) s 0 false ∧ MB W (w.heap.size + 1 + 1) (.int .i64 0) (.int .i64 0) (.bool false) (.slice none 0 0) ∧ Below w.heap.size w W := by
  intro W
  refine ⟨?_, ?_, ?_, bel_alloc (bel_alloc (bel_alloc (Below.refl _ _) _) _) _⟩
  · exact (Below.heap_alloc _ _ _ (by simp; omega)).trans ((Below.heap_alloc _ _ _ (by simp)).trans (heap_new _ _ _ rfl))
  · exact (Below.heap_alloc _ _ _ (by simp)).trans (heap_new _ _ _ (by simp))
  · exact heap_new _ _ _ (by simp)

set_option maxHeartbeats 4000000 in
theorem implOf_any (a : Option Addr) (ca : Nat) (bs : List Int) (w : World) (ha : Row .u8 w a bs) (hby : Bytes bs) (hcap : bs.length ≤ ca) (hcm : ca ≤ maxLen) :
    Calls Try.prog 9 #[.slice a bs.length ca] w fun e w' => ∃ k p o xs b v, e = .returned (.tuple #[.agg #[.int .i64 k, .int .i64 p, .bool o, v], .bool b]) ∧ Res bs k p o xs b ∧ w'.ownsRow w.heap.size 3 1 v xs.length (xs.map (Value.int .i64)) ∧ Below w.heap.size w w' := by
  have hne : 0 < bs.length → ∀ x, a = some x → x.block ≠ w.heap.size + 1 := by
    intro h0 x hx
    obtain ⟨b, off, e, hc⟩ := ha.2 0 h0
    have := lt_of_cell hc
    rw [hx] at e
    simp only [Option.some.injEq] at e
    rw [e]
    simp only at this ⊢
    omega
  go_enter Try.func9, Try.ntmps9
  go_wp2_with fail
  obtain ⟨RB, R0, M0, B0⟩ := of_start w (.slice a bs.length ca)
  have I0 := Inv.start bs
  refine (num_any (w.heap.size + 1) a ca bs 0 false _ R0 (ha.below B0) hby hcap hcm).mono ?_
  rintro e w1 ⟨k, at1, bad1, rfl, R1, g1, hs1⟩
  have I1 := I0.step hby (.inl (by simp)) hs1
  have M1 := M0.kept g1 (by simp)
  have RB := RB.kept g1 (by simp)
  have B1 := B0.grown g1 B0.size (fun j hj => by simp at hj; omega)
  clear R0 M0 B0 I0 hs1 g1
  have M1' := M1.set0 (.int .i64 k)
  have R1' := R1.far ⟨w.heap.size + 1 + 1, 0, none⟩ (.int .i64 k) (by simp)
  have RB := RB.far ⟨w.heap.size + 1 + 1, 0, none⟩ (.int .i64 k) (by simp; omega)
  have B1' := bel_setCell B1 ⟨w.heap.size + 1 + 1, 0, none⟩ (.int .i64 k) (by simp; omega)
  obtain ⟨m0, m1, m2, m3, f0, f1, f2, f3⟩ := M1.cells
  clear M1 R1 B1 m1 m2 m3 f1 f2 f3
  go_wp2_with fail
  refine (num_any (w.heap.size + 1) a ca bs at1 bad1 _ R1' (ha.below B1') hby hcap hcm).mono ?_
  rintro e w2 ⟨p, at2, bad2, rfl, R2, g2, hs2⟩
  have I2 := I1.step hby (.inl (by simp)) hs2
  have M2 := M1'.kept g2 (by simp)
  have RB := RB.kept g2 (by simp)
  have B2 := B1'.grown g2 B1'.size (fun j hj => by simp at hj; omega)
  clear R1' M1' B1' I1 hs2 g2 m0 f0
  have M2' := M2.set1 (.int .i64 p)
  have R2' := R2.far ⟨w.heap.size + 1 + 1, 1, none⟩ (.int .i64 p) (by simp)
  have RB := RB.far ⟨w.heap.size + 1 + 1, 1, none⟩ (.int .i64 p) (by simp; omega)
  have B2' := bel_setCell B2 ⟨w.heap.size + 1 + 1, 1, none⟩ (.int .i64 p) (by simp; omega)
  obtain ⟨m0, m1, m2, m3, f0, f1, f2, f3⟩ := M2.cells
  clear M2 R2 B2 m0 m2 m3 f0 f2 f3
  go_wp2_with fail
  refine (flag_any (w.heap.size + 1) a ca bs at2 bad2 _ R2' (ha.below B2') hby hcap hcm).mono ?_
  rintro e w3 ⟨c, at3, bad3, rfl, R3, g3, hs3⟩
  have I3 := (I2.step hby (.inl (by simp)) hs3).flag
  have M3 := M2'.kept g3 (by simp)
  have RB := RB.kept g3 (by simp)
  have B3 := B2'.grown g3 B2'.size (fun j hj => by simp at hj; omega)
  clear R2' M2' B2' I2 hs3 g3 m1 f1
  obtain ⟨bad4, hb4⟩ : ∃ b, (bad3 || decide (1 < c)) = b := ⟨_, rfl⟩
  rw [hb4] at I3 R3
  clear hb4
  obtain ⟨I3, hcc⟩ := I3
  have HC : Hid (bad4 = false → c = 0 ∨ c = 1) := hcc
  clear hcc
  have M3' := M3.set2 (.bool (c == 1))
  have R3' := R3.far ⟨w.heap.size + 1 + 1, 2, none⟩ (.bool (c == 1)) (by simp)
  have RB := RB.far ⟨w.heap.size + 1 + 1, 2, none⟩ (.bool (c == 1)) (by simp; omega)
  have B3' := bel_setCell B3 ⟨w.heap.size + 1 + 1, 2, none⟩ (.bool (c == 1)) (by simp; omega)
  obtain ⟨m0, m1, m2, m3, f0, f1, f2, f3⟩ := M3.cells
  clear M3 R3 B3 m0 m1 m3 f0 f1 f3
  go_wp2_with fail
  refine (rdWords_any (w.heap.size + 1) a ca bs _ at3 bad4 _ R3' (ha.below B3') hby hcap hcm hne I3).mono ?_
  rintro e w4 ⟨v, ws, at4, bad5, rfl, o4, R4, g4, I4, hwl, hex, hmon⟩
  have hml := (Array.getElem?_eq_some_iff.1 M3').1
  have l4 : ∀ j, v.ownBlock = some j → w.heap.size + 1 + 1 < j := fun j hj => by have := (o4.lt j hj).1; omega
  have o4 := owns_base o4 B3'.size
  have M4 := M3'.kept g4 (by simp)
  have RB := RB.kept g4 (by simp)
  have B4 := B3'.grown g4 B3'.size (fun j hj => by simp at hj; omega)
  have HI4 : Hid (Inv bs ([k, p, c] ++ ws) at4 bad5) := I4
  have HX : Hid (ws.length = 4 ∨ bad5 = true ∨ (bs.length : Int) ≤ at4) := hex
  have HIm : Hid (bad5 = false → bad4 = false) := hmon
  obtain ⟨av, cv, rfl⟩ := owns_slice o4
  clear hml M3' B3' g4 I4 hex hmon I3 R3' m2 f2
  obtain ⟨m0, m1, m2, m3, f0, f1, f2, f3⟩ := M4.cells
  have M5 := M4.set3 (.slice av ws.length cv)
  have R5 := R4.far ⟨w.heap.size + 1 + 1, 3, none⟩ (.slice av ws.length cv) (by simp)
  have RB := RB.far ⟨w.heap.size + 1 + 1, 3, none⟩ (.slice av ws.length cv) (by simp; omega)
  have B5 := bel_setCell B4 ⟨w.heap.size + 1 + 1, 3, none⟩ (.slice av ws.length cv) (by simp; omega)
  have o5 := owns_setCell o4 (a := ⟨w.heap.size + 1 + 1, 3, none⟩) (fun j hj => by have := l4 j hj; simp; omega) (.slice av ws.length cv)
  clear M4 R4 B4 o4 m0 m1 m2 f0 f1 f2
  go_wp2_with fail
  refine (readAll_any (w.heap.size + 1) a ca bs.length at4 bad5 _ R5).mono ?_
  rintro e w6 ⟨rfl, d6, h6⟩
  have o6 := owns_dr h6 o5
  have B6 := bel_dr h6 B5
  have M6 : MB w6 (w.heap.size + 1 + 1) (.int .i64 k) (.int .i64 p) (.bool (c == 1)) (.slice av ws.length cv) := by rw [h6]; exact M5
  have RB : MB w6 w.heap.size (.int .i64 0) (.int .i64 0) (.bool false) (.slice none 0 0) := by rw [h6]; exact RB
  clear h6 o5 B5 M5 R5 m3 f3
  obtain ⟨m0, m1, m2, m3, _, _, _, _⟩ := M6.cells
  obtain ⟨r0, r1, r2, r3, f0, f1, f2, f3⟩ := RB.cells
  have hzb : w.heap.size < w6.heap.size := (Array.getElem?_eq_some_iff.1 RB).1
  by_cases hb : (!bad5 && at4 == (bs.length : Int)) = true
  · rw [hb]
    rw [Bool.and_eq_true] at hb
    have h5 : bad5 = false := by simpa using hb.1
    have hat : at4 = bs.length := by simpa using hb.2
    have HR : Hid (InR (k :: p :: c :: ws) ∧ bs = flatB (k :: p :: c :: ws) ∧ (c = 0 ∨ c = 1)) := by
      rcases HI4.out with ⟨_, hN, R, hbs, ha4⟩ | ⟨h, _⟩
      · refine ⟨hN, ?_, HC.out (HIm.out h5)⟩
        have hR0 : R = [] := by
          have h1 := congrArg List.length hbs
          rw [List.length_append] at h1
          exact List.length_eq_zero_iff.1 (by omega)
        rw [hR0, List.append_nil] at hbs
        exact hbs
      · rw [h5] at h; cases h
    clear hb h5 hat HI4 HX HIm HC M6
    go_wp2_with fail
    refine (msgOk_any k p (c == 1) av cv ws _ (owns_row' o6 (by omega))).mono ?_
    rintro e w7 ⟨rfl, b7⟩
    have o7 := owns_below o6 b7
    have B7 := bel_trans B6 b7
    have RB := RB.kept (row := none) ⟨b7.os, b7.tape, b7.output, b7.size, fun j hj _ => b7.block j hj⟩ (by simp)
    have s7 := b7.size
    have m0 := cell_later b7 m0
    have m1 := cell_later b7 m1
    have m2 := cell_later b7 m2
    have m3 := cell_later b7 m3
    clear b7 o6 B6 r0 r1 r2 r3 f0 f1 f2 f3
    obtain ⟨r0, r1, r2, r3, f0, f1, f2, f3⟩ := RB.cells
    by_cases hok : msgOkB k p (c == 1) ws = true
    · have HF : Hid (Res bs k p (c == 1) ws true) := res_read HR.out.1 HR.out.2.1 HR.out.2.2 hok
      rw [hok]
      clear HR hok
      go_wp2
      refine bodyPost_ret (v := .tuple #[.agg #[.int .i64 k, .int .i64 p, .bool (c == 1), .slice av ws.length cv], .bool true]) (by simp [results, Try.results9, go_sem, r0, r1, r2, r3]) rfl ⟨k, p, (c == 1), ws, true, _, rfl, HF.out, ?_, ?_⟩
      · refine owns_setCell (owns_setCell (owns_setCell (owns_setCell o7 ?_ _) ?_ _) ?_ _) ?_ _
        all_goals (intro j h; have := l4 j h; simp; omega)
      · refine bel_setCell (bel_setCell (bel_setCell (bel_setCell B7 _ _ ?_) _ _ ?_) _ _ ?_) _ _ ?_
        all_goals simp
    · have hok' : msgOkB k p (c == 1) ws = false := by simpa using hok
      have HF : Hid (NoMsg bs) := res_not_ok HR.out.1 HR.out.2.1 hok'
      rw [hok']
      clear HR hok hok'
      go_wp2
      refine bodyPost_ret (v := .tuple #[.agg #[.int .i64 0, .int .i64 0, .bool false, .slice none 0 0], .bool false]) (by simp [results, Try.results9, go_sem, r0, r1, r2, r3]) rfl ⟨0, 0, false, [], false, _, rfl, .inr ⟨rfl, rfl, rfl, rfl, rfl, HF.out⟩, World.ownsRow_nil _ _ _ _, ?_⟩
      refine bel_setCell (bel_setCell (bel_setCell (bel_setCell B7 _ _ ?_) _ _ ?_) _ _ ?_) _ _ ?_
      all_goals simp
  · have hb' : (!bad5 && at4 == (bs.length : Int)) = false := by simpa using hb
    have HF : Hid (NoMsg bs) := by
      rcases HI4.out with ⟨h5, hN, R, hbs, ha4⟩ | ⟨_, h⟩
      · have hl : ws.length = 4 := by
          rcases HX.out with h | h | h
          · exact h
          · rw [h5] at h; cases h
          · exfalso
            have h1 := congrArg List.length hbs
            rw [List.length_append] at h1
            apply hb
            rw [h5]
            have : at4 = bs.length := by omega
            simp [this]
        refine no_rest hN hbs (by simp; omega) ?_
        intro hR
        apply hb
        rw [hR, List.append_nil] at hbs
        have h1 := congrArg List.length hbs
        rw [h5]
        have : at4 = bs.length := by omega
        simp [this]
      · exact h
    rw [hb']
    clear hb hb' HI4 HX HIm HC M6
    go_wp2
    refine bodyPost_ret (v := .tuple #[.agg #[.int .i64 0, .int .i64 0, .bool false, .slice none 0 0], .bool false]) (by simp [results, Try.results9, go_sem, r0, r1, r2, r3]) rfl ⟨0, 0, false, [], false, _, rfl, .inr ⟨rfl, rfl, rfl, rfl, rfl, HF.out⟩, World.ownsRow_nil _ _ _ _, ?_⟩
    refine bel_setCell (bel_setCell (bel_setCell (bel_setCell B6 _ _ ?_) _ _ ?_) _ _ ?_) _ _ ?_
    all_goals simp
end Go.Proofs.Ytbihhndpjpdbmaa
