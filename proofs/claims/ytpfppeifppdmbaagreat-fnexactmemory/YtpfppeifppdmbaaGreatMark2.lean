/- What the law's markMsgS, markSender, heldMsgS and heldSender do. -/
import Derived.Test.YtpfppeifppdmbaaGreatMark
import Derived.Deep.RegionHeld3
import Derived.BigQuiet
import Derived.Deep.QuietTactic
namespace Go.Proofs.YtpfppeifppdmbaaGreat
open Go.RowKit
set_option linter.unusedVariables false

set_option maxRecDepth 100000 in
set_option maxHeartbeats 2000000 in
theorem markMsgS_only (S : Nat → Prop) (lo : Nat) (a : Option Addr) (c : Nat) (ms : List M) (k0 : Int) (w : World) (h0 : 0 ≤ k0) (h1 : k0 ≤ 3000000000000000000) (hn : ms.length ≤ 1048577) (hxs : ∀ m ∈ ms, m.xs.length ≤ 1048577) (hD : Deep w lo a c ms) (hlt : (∀ j, (Value.slice a ms.length c).ownBlock = some j → S j) ∧ ∀ m ∈ ms, ∀ j, m.v.ownBlock = some j → S j) :
    Calls Tryz.prog 67 #[.slice a ms.length c, .int .i64 k0] w fun e w' => e = .returned (.int .i64 (markEnd k0 ms)) ∧ Deep w' lo a c (markMs k0 ms) ∧ Only w w' S := by
  obtain ⟨n, hn'⟩ : ∃ n, ms.length = n := ⟨_, rfl⟩
  have HN : Hid (ms.length = n) := hn'
  have hend : Hid (∀ j, k0 ≤ markEnd k0 (ms.take j) ∧ markEnd k0 (ms.take j) ≤ 3000002000000000000) := fun j => by
    have h := markEnd_bound k0 (ms.take j) 1048577 (fun m hm => hxs m (List.mem_of_mem_take hm))
    have hl : (ms.take j).length ≤ 1048577 := by simp; omega
    have hm : ((ms.take j).length : Int) * (3 + (1048577 : Nat)) ≤ 1048577 * (3 + (1048577 : Nat)) := Int.mul_le_mul_of_nonneg_right (by omega) (by omega)
    omega
  rw [hn'] at hn ⊢
  clear hn'
  go_enter Tryz.func67, Tryz.ntmps67
  go_wp2
  go_loopw [1, 5] (fun q i wr => ∃ j : Nat, j ≤ n ∧ i = .int .i64 j ∧ q = .int .i64 (markEnd k0 (ms.take j)) ∧ Deep wr lo a c (markMs k0 (ms.take j) ++ ms.drop j) ∧ Only w wr S) (fun _ i _ => n - (intOf i).toNat)
  case atStart => exact ⟨0, Nat.zero_le _, rfl, rfl, by simpa [markMs] using hD, Only.refl _ _⟩
  case round =>
    obtain ⟨j, hj, rfl, rfl, hDr, hK⟩ := hrel
    obtain ⟨k, hk⟩ : ∃ k, markEnd k0 (ms.take j) = k := ⟨_, rfl⟩
    have hkb := hend.out j
    rw [hk] at hkb
    obtain ⟨hk0, hk1⟩ := hkb
    have HK : Hid (markEnd k0 (ms.take j) = k) := hk
    rw [hk]
    clear hk
    by_cases hlt' : j < n
    · have hi' : (j : Int) < (n : Int) := by omega
      obtain ⟨m, hmk⟩ : ∃ m, ms[j]? = some m := ⟨_, List.getElem?_eq_getElem (by have := HN.out; omega)⟩
      have HM : Hid (ms[j]? = some m) := hmk
      have hlen : m.xs.length ≤ 1048577 := hxs m (List.mem_of_getElem? hmk)
      have hdrop : ms.drop j = m :: ms.drop (j + 1) := by
        obtain ⟨h', rfl⟩ := List.getElem?_eq_some_iff.1 hmk
        exact List.drop_eq_getElem_cons h'
      have htake : ms.take (j + 1) = ms.take j ++ [m] := by
        obtain ⟨h', rfl⟩ := List.getElem?_eq_some_iff.1 hmk
        exact List.take_succ_eq_append_getElem h'
      have hAl : (markMs k0 (ms.take j)).length = j := by rw [markMs_length]; simp; have := HN.out; omega
      have hLn : (markMs k0 (ms.take j) ++ ms.drop j).length = n := by simp [hAl]; have := HN.out; omega
      have hr := hDr.row
      rw [hLn] at hr
      obtain ⟨g, rfl⟩ := owns_addr hr (by omega)
      have hgb : Hid (S g) := hlt.1 g rfl
      obtain ⟨u0, u1, u2, u3, e0, e1, e2, e3, f0, f1, f2, f3⟩ := slots4 hr hlt'
      rw [hdrop] at hDr
      have hc3 : wr.cell? ⟨g, j * 4 + 3, none⟩ = some (.slice m.a m.xs.length m.c) := by
        have h := hDr.row.cellAt (j * 4 + 3) (by rw [← hdrop, hLn]; omega)
        rw [h, flat_get _ j m (by rw [List.getElem?_append_right (by omega), hAl]; simp) 3 (by omega)]
        rfl
      have hmm : m ∈ markMs k0 (ms.take j) ++ m :: ms.drop (j + 1) := by simp
      have hne : ∀ b, m.v.ownBlock = some b → g ≠ b := fun b hb he => by
        subst he
        exact owns_types hDr.row (hDr.lists.1 m hmm) (by decide) rfl hb
      have om := owns_setCell (owns_setCell (owns_setCell (hDr.lists.1 m hmm) (a := ⟨g, j * 4, none⟩) hne (.int .i64 k)) (a := ⟨g, j * 4 + 1, none⟩) hne (.int .i64 (k + 1))) (a := ⟨g, j * 4 + 2, none⟩) hne (.bool ((k + 1 + 1) % 3 == 0))
      have hmb : Hid (∀ b, m.v.ownBlock = some b → S b) := fun b hb => hlt.2 m (List.mem_of_getElem? HM.out) b hb
      have HDr : Hid (Deep wr lo (some ⟨g, 0, none⟩) c (markMs k0 (ms.take j) ++ m :: ms.drop (j + 1))) := hDr
      have HT : Hid (ms.take (j + 1) = ms.take j ++ [m]) := htake
      have HAl : Hid ((markMs k0 (ms.take j)).length = j) := hAl
      clear hr hDr hdrop htake hAl hLn hmk hne e3 hmm hD hlt
      go_wp2_with fail
      refine (markIntS_any lo m.xs.length _ (k + 1 + 1 + 1) _ _ (by omega) (by omega) (by omega) om).mono ?_
      rintro e w2 ⟨rfl, o2, g2⟩
      have HD2 : Hid (Deep w2 lo (some ⟨g, 0, none⟩) c (markMs k0 (ms.take (j + 1)) ++ ms.drop (j + 1))) := by
        have h := mark_one HDr.out HAl.out g2 o2
        rw [HT.out, markMs_snoc, HK.out]
        show Deep _ _ _ _ _
        simpa using h
      have HE : Hid (markEnd k0 (ms.take (j + 1)) = k + 1 + 1 + 1 + m.xs.length) := by
        show _ = _
        rw [HT.out, markEnd_snoc, HK.out]
      have hK2 : Only w w2 S := (((hK.setCell ⟨g, j * 4, none⟩ _ hgb.out).setCell ⟨g, j * 4 + 1, none⟩ _ hgb.out).setCell ⟨g, j * 4 + 2, none⟩ _ hgb.out).grown g2 hmb.out
      clear om o2 g2 hK e0 e1 e2 f0 f1 f2 f3 hc3
      go_wp2
      go_roundw
      case rel => exact ⟨j + 1, by omega, by go_num, by rw [HE.out], HD2.out, hK2⟩
      case measure => simp [intOf]; omega
    · have : j = n := by omega
      subst this
      have ht : ms.take j = ms := List.take_of_length_le (by have := HN.out; omega)
      have hd : ms.drop j = [] := List.drop_eq_nil_of_le (by have := HN.out; omega)
      have HE : Hid (markEnd k0 ms = k) := by have h := HK.out; rw [ht] at h; exact h
      have HD2 : Hid (Deep wr lo a c (markMs k0 ms)) := by
        have h := hDr
        rw [ht, hd, List.append_nil] at h
        exact h
      clear hDr hD ht hd
      go_wp2
      go_ret
      exact ⟨by rw [HE.out]; rfl, HD2.out, hK⟩

theorem markMsgS_any (lo hi : Nat) (a : Option Addr) (c : Nat) (ms : List M) (k0 : Int) (w : World) (h0 : 0 ≤ k0) (h1 : k0 ≤ 3000000000000000000) (hn : ms.length ≤ 1048577) (hxs : ∀ m ∈ ms, m.xs.length ≤ 1048577) (hD : Deep w lo a c ms) (hlt : Deep.Lt a c ms hi) :
    Calls Tryz.prog 67 #[.slice a ms.length c, .int .i64 k0] w fun e w' => e = .returned (.int .i64 (markEnd k0 ms)) ∧ Deep w' lo a c (markMs k0 ms) ∧ Kept w w' lo hi :=
  (markMsgS_only (fun b => lo ≤ b ∧ b < hi) lo a c ms k0 w h0 h1 hn hxs hD ⟨fun j hj => ⟨(hD.row.lt j hj).1, hlt.1 j hj⟩, fun m hm j hj => ⟨(hD.lists.lt hm hj).1, hlt.2 m hm j hj⟩⟩).mono (fun e w' h => ⟨h.1, h.2.1, h.2.2.kept (fun i hi => hi)⟩)


theorem Deep.at4 {w : World} {lo : Nat} {g c : Nat} {ms : List M} (h : Deep w lo (some ⟨g, 0, none⟩) c ms) {i : Nat} {m : M} (hm : ms[i]? = some m) : At4 w g (i * 4) m := by
  obtain ⟨hi, _⟩ := List.getElem?_eq_some_iff.1 hm
  have key : ∀ j, j < 4 → w.cell? ⟨g, i * 4 + j, none⟩ = m.cells[j]? := fun j hj => by
    rw [h.row.cellAt (i * 4 + j) (by omega), flat_get ms i m hm j hj]
  exact ⟨by simpa [M.cells] using key 0 (by omega), by simpa [M.cells] using key 1 (by omega), by simpa [M.cells] using key 2 (by omega), by simpa [M.cells] using key 3 (by omega)⟩

theorem markMs_at (k0 : Int) (ms : List M) (j : Nat) (m : M) (hm : ms[j]? = some m) : (markMs k0 ms)[j]? = some (markM (markEnd k0 (ms.take j)) m) := by
  induction ms generalizing k0 j with
  | nil => simp at hm
  | cons x ms ih =>
    cases j with
    | zero => simp at hm; subst hm; rfl
    | succ j =>
      simp at hm
      simp only [markMs, List.getElem?_cons_succ, List.take_succ_cons, markEnd]
      exact ih _ j hm


end Go.Proofs.YtpfppeifppdmbaaGreat
