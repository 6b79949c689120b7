/- What the reader's methods do: num, flag, words, readAll. -/
import Derived.Test.YtbihhndpjpdbmaaImplGet
import Derived.Test.YtbihhndpjpdbmaaParse2
import Derived.Test.YtbihhndpjpdbmaaBase2
import Derived.BigQuiet
import Derived.Deep.QuietTactic
namespace Go.Proofs.Ytbihhndpjpdbmaa
open Go.RowKit
set_option linter.unusedVariables false

/-- The reader's block. -/
def Rdr (w : World) (r : Nat) (s : Value) (at' : Int) (bad : Bool) : Prop := w.heap[r]? = some (.cells #[s, .int .i64 at', .bool bad] 47 (0, 0))

theorem Rdr.cells {w : World} {r : Nat} {s : Value} {at' : Int} {bad : Bool} (h : Rdr w r s at' bad) :
    w.cell? ⟨r, 0, none⟩ = some s ∧ w.cell? ⟨r, 1, none⟩ = some (.int .i64 at') ∧ w.cell? ⟨r, 2, none⟩ = some (.bool bad) ∧ w.frozen? ⟨r, 1, none⟩ = false ∧ w.frozen? ⟨r, 2, none⟩ = false :=
  ⟨by rw [cell_of_row w r 0 _ _ _ h]; rfl, by rw [cell_of_row w r 1 _ _ _ h]; rfl, by rw [cell_of_row w r 2 _ _ _ h]; rfl, frozen_of_row w r 1 _ _ h, frozen_of_row w r 2 _ _ h⟩

theorem Rdr.setAt {w : World} {r : Nat} {s : Value} {at' : Int} {bad : Bool} (h : Rdr w r s at' bad) (n : Int) : Rdr (w.setCell ⟨r, 1, none⟩ (.int .i64 n)) r s n bad ∧ w.grownBy (w.setCell ⟨r, 1, none⟩ (.int .i64 n)) (some r) :=
  ⟨heap_setCell_same w r 1 _ _ _ h, ⟨rfl, rfl, rfl, by simp, fun k _ hk => heap_setCell_other w ⟨r, 1, none⟩ k _ (fun e => hk (by simp [e]))⟩⟩
theorem Rdr.setBad {w : World} {r : Nat} {s : Value} {at' : Int} {bad : Bool} (h : Rdr w r s at' bad) : Rdr (w.setCell ⟨r, 2, none⟩ (.bool true)) r s at' true ∧ w.grownBy (w.setCell ⟨r, 2, none⟩ (.bool true)) (some r) :=
  ⟨heap_setCell_same w r 2 _ _ _ h, ⟨rfl, rfl, rfl, by simp, fun k _ hk => heap_setCell_other w ⟨r, 2, none⟩ k _ (fun e => hk (by simp [e]))⟩⟩
theorem grownBy_drewN {a b : World} {row : Option Nat} (h : a.grownBy b row) (n : Nat) : a.grownBy (b.drewN n) row := ⟨h.os, h.tape, h.output, h.size, h.block⟩
theorem grownBy_undrewN {a b : World} {row : Option Nat} {n : Nat} (h : (a.drewN n).grownBy b row) : a.grownBy b row := ⟨h.os, h.tape, h.output, h.size, h.block⟩

set_option maxHeartbeats 1000000 in
theorem num_any (r : Nat) (a : Option Addr) (ca : Nat) (bs : List Int) (at' : Int) (bad : Bool) (w : World) (hR : Rdr w r (.slice a bs.length ca) at' bad) (ha : Row .u8 w a bs) (hby : Bytes bs) (hcap : bs.length ≤ ca) (hcm : ca ≤ maxLen) :
    Calls Try.prog 22 #[.pointer (some ⟨r, 0, none⟩)] w fun e w' => ∃ n at2 bad2, e = .returned (.int .i64 n) ∧ Rdr w' r (.slice a bs.length ca) at2 bad2 ∧ w.grownBy w' (some r) ∧ Step bs at' bad n at2 bad2 := by
  obtain ⟨⟨n, q, t⟩, hg⟩ : ∃ g, getn bs at' = g := ⟨_, rfl⟩
  have HG : Hid (getn bs at' = (n, q, t)) := hg
  have hcall : Hid (∀ d, Calls Try.prog 34 #[.slice a bs.length ca, .int .i64 at'] (w.drewN d) fun e w' => e = .returned (.tuple #[.int .i64 n, .int .i64 q, .bool t]) ∧ w' = w.drewN d) := by
    intro d
    have h := get_any a ca bs at' (w.drewN d) ha hby hcap hcm
    rw [hg] at h
    exact h
  obtain ⟨c0, c1, c2, f1, f2⟩ := hR.cells
  clear hg ha hcap hcm hby
  cases t
  · have HS : Hid (Step bs at' bad 0 at' true) := .inr ⟨fun n' q' h => by rw [HG.out] at h; simp at h, rfl, rfl, rfl⟩
    have hset := hR.setBad
    go_enter Try.func22, Try.ntmps22
    go_wp2
    go_quiet ((go_at_call 34; exact Calls.quiet_of_same (hcall.out _)))
    go_wp2
    go_ret
    have hs := (show Rdr (w.drewN nq) r (.slice a bs.length ca) at' bad from hR).setBad
    exact ⟨0, at', true, rfl, hs.1, grownBy_undrewN hs.2, HS.out⟩
  · have HS : Hid (Step bs at' bad n q bad) := .inl ⟨HG.out, rfl⟩
    go_enter Try.func22, Try.ntmps22
    go_wp2
    go_quiet ((go_at_call 34; exact Calls.quiet_of_same (hcall.out _)))
    go_wp2
    go_ret
    have hs := (show Rdr (w.drewN nq) r (.slice a bs.length ca) at' bad from hR).setAt q
    exact ⟨n, q, bad, rfl, hs.1, grownBy_undrewN hs.2, HS.out⟩

set_option maxHeartbeats 1000000 in
theorem flag_any (r : Nat) (a : Option Addr) (ca : Nat) (bs : List Int) (at' : Int) (bad : Bool) (w : World) (hR : Rdr w r (.slice a bs.length ca) at' bad) (ha : Row .u8 w a bs) (hby : Bytes bs) (hcap : bs.length ≤ ca) (hcm : ca ≤ maxLen) :
    Calls Try.prog 23 #[.pointer (some ⟨r, 0, none⟩)] w fun e w' => ∃ n at2 bad2, e = .returned (.bool (n == 1)) ∧ Rdr w' r (.slice a bs.length ca) at2 (bad2 || decide (1 < n)) ∧ w.grownBy w' (some r) ∧ Step bs at' bad n at2 bad2 := by
  go_enter Try.func23, Try.ntmps23
  go_wp2_with fail
  refine (num_any r a ca bs at' bad w hR ha hby hcap hcm).mono ?_
  rintro e w1 ⟨n, at2, bad2, rfl, hR1, g1, hs⟩
  have HS : Hid (Step bs at' bad n at2 bad2) := hs
  clear hs ha hR
  obtain ⟨c0, c1, c2, f1, f2⟩ := hR1.cells
  by_cases hn : 1 < n
  · have hset := hR1.setBad
    go_wp2
    go_ret
    refine ⟨n, at2, bad2, rfl, ?_, grownBy_trans g1 hset.2, HS.out⟩
    have e : (bad2 || decide (1 < n)) = true := by simp [hn]
    rw [e]
    exact hset.1
  · have hn' : n ≤ 1 := by omega
    go_wp2
    go_ret
    refine ⟨n, at2, bad2, rfl, ?_, g1, HS.out⟩
    have e : (bad2 || decide (1 < n)) = bad2 := by rw [decide_eq_false (by omega : ¬ 1 < n), Bool.or_false]
    rw [e]
    exact hR1

set_option maxHeartbeats 1000000 in
theorem readAll_any (r : Nat) (a : Option Addr) (ca n : Nat) (at' : Int) (bad : Bool) (w : World) (hR : Rdr w r (.slice a n ca) at' bad) :
    Calls Try.prog 25 #[.pointer (some ⟨r, 0, none⟩)] w fun e w' => e = .returned (.bool (!bad && at' == (n : Int))) ∧ ∃ d, w' = w.drewN d := by
  obtain ⟨c0, c1, c2, f1, f2⟩ := hR.cells
  clear f1 f2
  cases bad
  · go_enter Try.func25, Try.ntmps25
    go_wp2
    go_quiet (fail)
    go_wp2
    go_ret
    exact ⟨rfl, nq, rfl⟩
  · go_enter Try.func25, Try.ntmps25
    go_wp2
    go_quiet (fail)
    go_wp2
    go_ret
    exact ⟨rfl, nq, rfl⟩
end Go.Proofs.Ytbihhndpjpdbmaa
