/- What the reader's words does. -/
import Derived.Test.YtbihhndpjpdbmaaReader
namespace Go.Proofs.Ytbihhndpjpdbmaa
open Go.RowKit
set_option linter.unusedVariables false



theorem info_int : (Try.prog.info? 3).map (fun i => (i.zero, i.size, i.bytes)) = some (some (.int .i64 0), 1, 8) := by kernel_rfl

theorem Row.grown {k : IntKind} {w w' : World} {a : Option Addr} {xs : List Int} {row : Option Nat} (h : Row k w a xs) (hg : w.grownBy w' row) (hne : 0 < xs.length → ∀ x, a = some x → row ≠ some x.block) : Row k w' a xs := by
  refine ⟨h.1, fun i hi => ?_⟩
  obtain ⟨b, off, rfl, hc⟩ := h.2 i hi
  refine ⟨b, off, rfl, ?_⟩
  rw [World.cell?_of_block (w := w) (hg.block b (lt_of_cell hc) (fun e => hne (by omega) _ rfl e.symm))]
  exact hc

theorem grownBy_new {a b c : World} {r : Nat} {row : Option Nat} (h : a.grownBy b (some r)) (g : b.grownBy c row) (hrow : ∀ k, row = some k → a.heap.size ≤ k) : a.grownBy c (some r) :=
  ⟨g.os.trans h.os, g.tape.trans h.tape, g.output.trans h.output, Nat.le_trans h.size g.size, fun k hk hr => (g.block k (Nat.lt_of_lt_of_le hk h.size) (fun e => by have := hrow k e.symm; omega)).trans (h.block k hk hr)⟩

theorem Rdr.kept {w w' : World} {r : Nat} {s : Value} {at' : Int} {bad : Bool} (h : Rdr w r s at' bad) {row : Option Nat} (g : w.grownBy w' row) (hne : row ≠ some r) : Rdr w' r s at' bad :=
  (g.block r (Array.getElem?_eq_some_iff.1 h).1 (fun e => hne e.symm)).trans h

set_option maxHeartbeats 2000000 in
theorem rdWords_any (r : Nat) (a : Option Addr) (ca : Nat) (bs N : List Int) (at' : Int) (bad : Bool) (w : World) (hR : Rdr w r (.slice a bs.length ca) at' bad) (ha : Row .u8 w a bs) (hby : Bytes bs) (hcap : bs.length ≤ ca) (hcm : ca ≤ maxLen)
    (hne : 0 < bs.length → ∀ x, a = some x → x.block ≠ r) (hI : Inv bs N at' bad) :
    Calls Try.prog 24 #[.pointer (some ⟨r, 0, none⟩)] w fun e w' => ∃ v ws at2 bad2, e = .returned v ∧ w'.ownsRow w.heap.size 3 1 v ws.length (ws.map (Value.int .i64)) ∧ Rdr w' r (.slice a bs.length ca) at2 bad2 ∧ w.grownBy w' (some r) ∧ Inv bs (N ++ ws) at2 bad2 ∧ ws.length ≤ 4 ∧ (ws.length = 4 ∨ bad2 = true ∨ (bs.length : Int) ≤ at2) ∧ (bad2 = false → bad = false) := by
  obtain ⟨i0, hi, hz0, hz1, hz2⟩ := info_parts info_int
  have hrl : r < w.heap.size := (Array.getElem?_eq_some_iff.1 hR).1
  have hbl := ha.1
  have HI : Hid (Inv bs N at' bad) := hI
  clear hI
  go_enter Try.func24, Try.ntmps24
  go_wp2
  go_loopw [3] (fun v wr => ∃ (ws : List Int) (at2 : Int) (bad2 : Bool), ws.length ≤ 4 ∧ wr.ownsRow w.heap.size 3 1 v ws.length (ws.map (Value.int .i64)) ∧ Rdr wr r (.slice a bs.length ca) at2 bad2 ∧ w.grownBy wr (some r) ∧ Inv bs (N ++ ws) at2 bad2 ∧ (bad2 = false → bad = false)) (fun v _ => 4 - lenOf v)
  case atStart => exact ⟨[], at', bad, by simp, World.ownsRow_nil _ _ _ _, hR, World.grownBy.refl _ _, by rw [List.append_nil]; exact HI.out, id⟩
  case round =>
    obtain ⟨ws, at2, bad2, hwl, hown, hR2, hg2, hI2, hmon⟩ := hrel
    have HMON : Hid (bad2 = false → bad = false) := hmon
    clear hmon
    have HI2 : Hid (Inv bs (N ++ ws) at2 bad2) := hI2
    clear hI2 HI hR
    obtain ⟨c0, c1, c2, f1, f2⟩ := hR2.cells
    clear f1 f2
    obtain ⟨av, cv, rfl⟩ := owns_slice hown
    by_cases h4 : ws.length < 4
    · have h4i : ((ws.length : Int)) < 4 := by omega
      have hd4 : decide (((ws.length : Int)) < 4) = true := by simp; omega
      cases bad2
      · by_cases hlt : at2 < (bs.length : Int)
        · have hdl : decide (at2 < (bs.length : Int)) = true := decide_eq_true hlt
          go_wp2
          go_quiet (fail)
          have ha2 : Row .u8 (wr.drewN nq) a bs := ha.grown (grownBy_drewN hg2 nq) (fun h0 x hx e => hne h0 x hx (by simp only [Option.some.injEq] at e; exact e.symm))
          go_wp2_with fail
          refine (num_any r a ca bs at2 false (wr.drewN nq) hR2 ha2 hby hcap hcm).mono ?_
          rintro e w3 ⟨n, at3, bad3, rfl, hR3, g3, hs⟩
          have HS : Hid (Step bs at2 false n at3 bad3) := hs
          have g3 := grownBy_undrewN g3
          have hown3 : w3.ownsRow w.heap.size 3 1 (.slice av ws.length cv) ws.length (ws.map (Value.int .i64)) := owns_ne hown g3 (fun j hj e => by have := (hown.lt j hj).1; simp at e; omega)
          have hg3 := grownBy_trans hg2 g3
          have hsz : w.heap.size ≤ w3.heap.size := hg3.size
          clear hs g3 hown hg2 hR2 ha2 c0 c1 c2
          go_wp2_with (at_builtin; refine wpList_append_own _ rfl (.tmp 26) (.tmp 29) 24 rfl w.heap.size 3 i0 (.int .i64 0) 1 8 Try.underlying24 hi hz0 hz1 hz2 rfl (by decide) _ _ _ rfl (hown3.alloc _) ⟨w3.heap.size, 0, none⟩ 1 1 [.int .i64 n] rfl rfl (cell_one_new _ _ _) ?c2 ?c3 ?c4 ?c5 ?_)
          case c2 => first | (intro u hu; simp at hu; subst hu; rfl) | rfl
          case c3 => unfold maxLen; omega
          case c4 => omega
          case c5 => first | omega | (simp; omega)
          intro v' w4 hown4 hgrow _
          have hal : w3.grownBy (w3.alloc (.cells #[.int .i64 n] 3)) (Value.slice av ws.length cv).ownBlock := World.grownBy_alloc _ _ _
          have hg34 := grownBy_trans hal hgrow
          have hrow : ∀ k, (Value.slice av ws.length cv).ownBlock = some k → w.heap.size ≤ k := fun k hk => (hown3.lt k hk).1
          have hg4 := grownBy_new hg3 hg34 hrow
          have hR4 := hR3.kept hg34 (fun e => by have := hrow r e; omega)
          have ho4 : w4.ownsRow w.heap.size 3 1 v' (ws ++ [n]).length ((ws ++ [n]).map (Value.int .i64)) := by simpa using hown4
          have HI4 : Hid (Inv bs (N ++ (ws ++ [n])) at3 bad3) := by show Inv _ _ _ _; rw [← List.append_assoc]; exact HI2.out.step hby (.inr hlt) HS.out
          obtain ⟨a4, c4, hv4⟩ := owns_slice ho4
          have HM4 : Hid (bad3 = false → bad = false) := fun _ => by simpa using HMON.out
          clear hown4 hgrow hal hg34 hg3 hown3 hR3 HS HI2
          go_wp2
          go_roundw
          case rel => exact ⟨ws ++ [n], at3, bad3, by simp; omega, ho4, hR4, hg4, HI4.out, HM4.out⟩
          case measure => rw [hv4]; simp [lenOf]; omega
        · have hdl : decide (at2 < (bs.length : Int)) = false := decide_eq_false hlt
          go_wp2
          go_quiet (fail)
          go_wp2
          go_ret
          exact ⟨_, ws, at2, false, rfl, hown, hR2, grownBy_drewN hg2 nq, HI2.out, hwl, .inr (.inr (by omega)), (fun _ => by simpa using HMON.out)⟩
      · go_wp2
        go_quiet (fail)
        go_wp2
        go_ret
        exact ⟨_, ws, at2, true, rfl, hown, hR2, grownBy_drewN hg2 nq, HI2.out, hwl, .inr (.inl rfl), (fun h => by cases h)⟩
    · have h4i : ¬ ((ws.length : Int)) < 4 := by omega
      have hd4 : decide (((ws.length : Int)) < 4) = false := by simp; omega
      go_wp2
      go_quiet (fail)
      go_wp2
      go_ret
      exact ⟨_, ws, at2, bad2, rfl, hown, hR2, grownBy_drewN hg2 nq, HI2.out, hwl, .inl (by omega), HMON.out⟩
end Go.Proofs.Ytbihhndpjpdbmaa
