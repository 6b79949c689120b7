/- What the specification's l16Num answers: the number that a text of digits says. -/
import Derived.Test.YtfigbfddhmgafaaDoorTx1
namespace Go.Proofs.YtfigbfddhmgafaaDoor
open Go.RowKit
set_option linter.unusedVariables false

def digitB (c : UInt8) : Bool := decide (48 ≤ c.toNat ∧ c.toNat ≤ 57)
/-- What digits say. -/
def valD (s : List UInt8) : Nat := s.foldl (fun x c => 10 * x + (c.toNat - 48)) 0
/-- The number that a text says, -1 where it says none. -/
def numV (s : List UInt8) : Int := if s.length = 0 ∨ 5 < s.length ∨ s.all digitB = false ∨ ¬ digs (valD s) = s then -1 else valD s
theorem valD_snoc (s : List UInt8) (c : UInt8) : valD (s ++ [c]) = 10 * valD s + (c.toNat - 48) := by unfold valD; rw [List.foldl_append]; rfl

set_option maxRecDepth 100000 in
set_option maxHeartbeats 4000000 in
theorem l16Num_any (s : List UInt8) (w : World) : Calls Tryd.prog 27 #[txt s] w fun e w' => e = .returned (.int .i64 (numV s)) ∧ Below w.heap.size w w' := by
  obtain ⟨n, hn⟩ : ∃ n, s.length = n := ⟨_, rfl⟩
  have HN : Hid (s.length = n) := hn
  by_cases h0 : n = 0
  · subst h0
    have hs : s = [] := List.length_eq_zero_iff.1 hn
    subst hs
    clear hn
    go_enter Tryd.func27, Tryd.ntmps27
    go_wp2
    go_ret
    exact ⟨rfl, Below.refl _ _⟩
  · have hne : s.isEmpty = false := by
      cases s with
      | nil => exact absurd hn.symm h0
      | cons x t => rfl
    have hsz : (⟨s.toArray⟩ : ByteArray).size = n := by rw [← hn]; simp [ByteArray.size]
    by_cases h5 : 5 < n
    · have hi : (5 : Int) < n := by omega
      have HV : Hid (numV s = -1) := by show _ = _; unfold numV; rw [hn, if_pos (.inr (.inl h5))]
      clear hn
      go_enter Tryd.func27, Tryd.ntmps27
      go_wp2
      go_ret
      exact ⟨by rw [HV.out]; rfl, Below.refl _ _⟩
    · have hi : ¬ (5 : Int) < n := by omega
      clear hn
      go_enter Tryd.func27, Tryd.ntmps27
      go_wp2
      go_loopw [3, 4] (fun v i wr => ∃ k : Nat, k ≤ n ∧ i = .int .i64 k ∧ v = .int .i64 (valD (s.take k) : Nat) ∧ (∀ j, j < k → digitB (s.getD j 0) = true) ∧ valD (s.take k) < 10 ^ k ∧ wr = w) (fun _ i _ => n - (intOf i).toNat)
      case atStart => exact ⟨0, Nat.zero_le _, rfl, rfl, fun j hj => absurd hj (Nat.not_lt_zero j), by simp [valD], rfl⟩
      case round =>
        obtain ⟨k, hk, rfl, rfl, hall, hv, rfl⟩ := hrel
        have HA : Hid (∀ j, j < k → digitB (s.getD j 0) = true) := hall
        clear hall
        by_cases hkn : k < n
        · have hi2 : (k : Int) < n := by omega
          have hks : k < s.length := by have := HN.out; omega
          obtain ⟨c, hc⟩ : ∃ c, s[k] = c := ⟨_, rfl⟩
          have hcb : (⟨s.toArray⟩ : ByteArray)[k]'(by rw [hsz]; exact hkn) = c := by rw [← hc]; rfl
          have hcg : s.getD k 0 = c := by rw [← hc, List.getD_eq_getElem?_getD, List.getElem?_eq_getElem hks]; rfl
          have HC : Hid (s.getD k 0 = c ∧ c ∈ s ∧ s.take (k + 1) = s.take k ++ [c]) := ⟨hcg, by rw [← hc]; exact List.getElem_mem _, by rw [List.take_add_one, List.getElem?_eq_getElem hks, hc]; rfl⟩
          clear hc hcg hks
          by_cases hd : digitB c = true
          · have hd2 : 48 ≤ c.toNat ∧ c.toNat ≤ 57 := by simpa [digitB] using hd
            have HD : Hid (digitB c = true) := hd
            obtain ⟨hd3, hd4⟩ := hd2
            have hv5 : valD (s.take k) < 100000 := Nat.lt_of_lt_of_le hv (Nat.pow_le_pow_right (n := 10) (by decide) (show k ≤ 5 by omega))
            have HV : Hid (valD (s.take k) < 10 ^ k) := hv
            obtain ⟨x, hx⟩ : ∃ x, valD (s.take k) = x := ⟨_, rfl⟩
            have HX : Hid (valD (s.take k) = x) := hx
            rw [hx] at hv5 ⊢
            have HN2 : Hid (valD (s.take (k + 1)) = 10 * x + (c.toNat - 48)) := by show _ = _; rw [HC.out.2.2, valD_snoc, hx]
            have HP : Hid (10 * x + (c.toNat - 48) < 10 ^ (k + 1)) := by
              show _ < _
              have := HV.out
              rw [hx] at this
              rw [Nat.pow_succ]
              omega
            have HT : Hid (∀ j, j < k + 1 → digitB (s.getD j 0) = true) := fun j hj => by
              by_cases e : j = k
              · subst e; rw [HC.out.1]; exact HD.out
              · exact HA.out j (by omega)
            clear hd hv hx
            go_wp2
            refine ⟨⟨k + 1, by omega, by go_num, ?_, HT.out, by rw [HN2.out]; exact HP.out, trivial⟩, by simp [intOf]; omega⟩
            rw [HN2.out]
            congr 1
            omega
          · have HV : Hid (numV s = -1) := by
              show _ = _
              have hf : s.all digitB = false := by
                rw [List.all_eq_false]
                exact ⟨c, HC.out.2.1, hd⟩
              unfold numV
              rw [if_pos (.inr (.inr (.inl hf)))]
            have hd2 : c.toNat < 48 ∨ 57 < c.toNat := by
              simp [digitB] at hd
              omega
            clear hd
            rcases hd2 with hd2 | hd2
            · go_wp2
              go_ret
              exact ⟨by rw [HV.out]; rfl, Below.refl _ _⟩
            · go_wp2
              go_ret
              exact ⟨by rw [HV.out]; rfl, Below.refl _ _⟩
        · have hkk : k = n := by omega
          subst hkk
          have ht : s.take k = s := List.take_of_length_le (by have := HN.out; omega)
          rw [ht] at hv ⊢
          have hv5 : valD s < 100000 := Nat.lt_of_lt_of_le hv (Nat.pow_le_pow_right (n := 10) (by decide) (show k ≤ 5 by omega))
          have HD : Hid (s.all digitB = true) := by
            show _ = _
            rw [List.all_eq_true]
            intro c hc
            obtain ⟨i, hi, rfl⟩ := List.getElem_of_mem hc
            have := HA.out i (by have := HN.out; omega)
            simpa [List.getD_eq_getElem?_getD, List.getElem?_eq_getElem hi] using this
          go_wp2_with fail
          refine (l16Digits_any (valD s) (by omega) _).mono ?_
          rintro e w1 ⟨rfl, b1⟩
          by_cases he : digs (valD s) = s
          · have HV : Hid (numV s = valD s) := by
              show _ = _
              unfold numV
              rw [if_neg]
              rintro (h | h | h | h)
              · have := HN.out; omega
              · have := HN.out; omega
              · rw [HD.out] at h; simp at h
              · exact h he
            rw [he]
            go_wp2
            go_ret
            exact ⟨by rw [HV.out]; rfl, b1⟩
          · have HV : Hid (numV s = -1) := by
              show _ = _
              unfold numV
              rw [if_pos (.inr (.inr (.inr he)))]
            obtain ⟨g, hg⟩ : ∃ g, digs (valD s) = g := ⟨_, rfl⟩
            rw [hg] at he ⊢
            have he2 : (g == s) = false := by simpa using he
            have he3 : (g != s) = true := by simpa using he
            go_wp2
            go_ret
            exact ⟨by rw [HV.out]; rfl, b1⟩
end Go.Proofs.YtfigbfddhmgafaaDoor
