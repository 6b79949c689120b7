/- What impl's numberRead answers: the word that digits say. -/
import Derived.Test.YtfigbfddhmgafaaDoorTq2
import Derived.Test.YtfigbfddhmgafaaDoorHi9
namespace Go.Proofs.YtfigbfddhmgafaaDoor
open Go.RowKit
set_option linter.unusedVariables false

/-- Whether a text is a word in digits, and which. -/
def nrB (s : List UInt8) : Bool := inB (numV s) 0 65535
def nrV (s : List UInt8) : Int := if nrB s then numV s else 0
theorem nr_bad {s : List UInt8} (h : nrB s = false) : nrB s = false ∧ nrV s = 0 := ⟨h, by unfold nrV; rw [h]; rfl⟩
theorem nr_no {s : List UInt8} (h : numV s = -1) : nrB s = false ∧ nrV s = 0 := nr_bad (by unfold nrB; rw [h]; rfl)
theorem nr_yes {s : List UInt8} (h0 : 0 < s.length) (hd : ∀ c ∈ s, digitB c = true) (hn : s.length = 1 ∨ ¬ s.getD 0 0 = 48) (hv : valD s ≤ 65535) : nrB s = true ∧ nrV s = valD s := by
  have e := numV_yes h0 hd hn hv
  have hb : nrB s = true := by unfold nrB; rw [e]; simp [inB]; omega
  exact ⟨hb, by unfold nrV; rw [hb, e]; rfl⟩
/-- How far the digits of a text are read. -/
structure NumAt (s : List UInt8) (k v : Nat) : Prop where
  le : k ≤ s.length
  dig : ∀ c ∈ s.take k, digitB c = true
  nought : k ≤ 1 ∨ ¬ s.getD 0 0 = 48
  val : valD (s.take k) = v
  small : v ≤ 65535
theorem take_one {s : List UInt8} {k : Nat} (h : k < s.length) : s.take (k + 1) = s.take k ++ [s.getD k 0] := by
  rw [List.take_add_one, List.getElem?_eq_getElem h, List.getD_eq_getElem?_getD, List.getElem?_eq_getElem h]
  rfl
theorem NumAt.zero {s : List UInt8} {k : Nat} (h : NumAt s k 0) (h0 : 0 < k) (hk : k < s.length) : numV s = -1 := by
  refine numV_nought (by omega) ?_
  by_cases h48 : s.getD 0 0 = 48
  · exact h48
  · exfalso
    have hl : (s.take k).length = k := by rw [List.length_take]; omega
    have hg : (s.take k).getD 0 0 = s.getD 0 0 := by
      have e := getD_app (s.take k) (s.drop k) (by omega)
      rw [List.take_append_drop] at e
      exact e.symm
    have h1 := (digs_valD (s.take k) (by omega) h.dig (.inr (by rw [hg]; exact h48))).2 (by rw [hg]; exact h48)
    rw [h.val] at h1
    omega
theorem NumAt.next {s : List UInt8} {k v : Nat} (h : NumAt s k v) (hk : k < s.length) (hd : digitB (s.getD k 0) = true) (hz : k = 0 ∨ v ≠ 0) (hv : 10 * v + ((s.getD k 0).toNat - 48) ≤ 65535) : NumAt s (k + 1) (10 * v + ((s.getD k 0).toNat - 48)) := by
  refine ⟨by omega, fun c hc => ?_, ?_, by rw [take_one hk, valD_snoc, h.val], hv⟩
  · rw [take_one hk, List.mem_append] at hc
    rcases hc with hc | hc
    · exact h.dig c hc
    · simp only [List.mem_cons, List.not_mem_nil, or_false] at hc
      rw [hc]
      exact hd
  · rcases hz with hz | hz
    · exact .inl (by omega)
    · rcases h.nought with hn | hn
      · by_cases h0 : k = 0
        · exact .inl (by omega)
        · refine .inr fun e => hz ?_
          have h1 : k = 1 := by omega
          subst h1
          rw [← h.val, take_one (by omega), e]
          rfl
      · exact .inr hn
theorem NumAt.past {s : List UInt8} {k v : Nat} (h : NumAt s k v) (hk : k < s.length) (hv : 65535 < 10 * v + ((s.getD k 0).toNat - 48)) : nrB s = false := by
  refine numV_big ?_
  have e := valD_le (s.take (k + 1)) (s.drop (k + 1))
  rw [List.take_append_drop, take_one hk, valD_snoc, h.val] at e
  omega
theorem NumAt.done {s : List UInt8} {k v : Nat} (h : NumAt s k v) (hk : k = s.length) (h0 : 0 < s.length) : nrB s = true ∧ nrV s = v := by
  subst hk
  have e : s.take s.length = s := List.take_length
  have hd := h.dig
  have hv := h.val
  rw [e] at hd hv
  rw [← hv]
  refine nr_yes h0 hd ?_ (by rw [hv]; exact h.small)
  rcases h.nought with hn | hn
  · exact .inl (by omega)
  · exact .inr hn
theorem mem_at {s : List UInt8} {k : Nat} (h : k < s.length) : s.getD k 0 ∈ s := by
  rw [List.getD_eq_getElem?_getD, List.getElem?_eq_getElem h]
  exact List.getElem_mem _
theorem dig_no {c : UInt8} (h : ¬ (48 ≤ c.toNat ∧ c.toNat ≤ 57)) : digitB c = false := by unfold digitB; exact decide_eq_false h
theorem RuneAt.nodig {s : List UInt8} {k r d : Nat} (R : RuneAt s k r d) (h : r < 48 ∨ 57 < r) : digitB (s.getD k 0) = false := by
  refine dig_no fun h1 => ?_
  have := (R.small (by omega)).1
  omega
theorem RuneAt.dig {s : List UInt8} {k r d : Nat} (R : RuneAt s k r d) (h1 : 48 ≤ r) (h2 : r ≤ 57) : digitB (s.getD k 0) = true ∧ (s.getD k 0).toNat = r ∧ d = 1 := by
  by_cases hb : (s.getD k 0).toNat < 128
  · have := R.small hb
    refine ⟨?_, this.1.symm, this.2⟩
    unfold digitB
    exact decide_eq_true ⟨by omega, by omega⟩
  · have := (R.big (by omega)).1
    omega
theorem ret_nr {x y : Int} {a b : Bool} (h1 : x = y) (h2 : a = b) : Ending.returned (.tuple #[.int .i64 x, .bool a]) = .returned (.tuple #[.int .i64 y, .bool b]) := by rw [h1, h2]

set_option maxRecDepth 100000 in
set_option maxHeartbeats 4000000 in
theorem numberRead_any (s : List UInt8) (w : World) (hs : s.length ≤ 1048576) : Calls Tryd.prog 42 #[txt s] w fun e w' => e = .returned (.tuple #[.int .i64 (nrV s), .bool (nrB s)]) ∧ Below w.heap.size w w' := by
  obtain ⟨n, hn⟩ : ∃ n, s.length = n := ⟨_, rfl⟩
  have HN : Hid (s.length = n) := hn
  have hsz : (⟨s.toArray⟩ : ByteArray).size = n := by rw [← hn]; simp [ByteArray.size]
  have hem : s.isEmpty = decide (n = 0) := by
    cases s with
    | nil => subst hn; rfl
    | cons x t => subst hn; simp
  rw [hn] at hs
  clear hn
  have HB : Hid (Below w.heap.size w (w.iter ⟨s.toArray⟩ 0)) := bel_alloc (Below.refl _ _) _
  have HT : Hid ((w.iter ⟨s.toArray⟩ 0).heap[w.heap.size]? = some (.stringIter ⟨s.toArray⟩ 0)) := World.iter_heap w _ 0
  have HE : Hid (s.isEmpty = decide (n = 0)) := hem
  clear hem
  go_enter Tryd.func42, Tryd.ntmps42
  go_wp2
  go_loopw [4] (fun v wr => ∃ (k x : Nat), k ≤ n ∧ v = .int .i64 x ∧ NumAt s k x ∧ wr.heap[w.heap.size]? = some (.stringIter ⟨s.toArray⟩ k) ∧ Below w.heap.size w wr) (fun _ wr => n - wr.iterPos w.heap.size)
  case atStart => exact ⟨0, 0, Nat.zero_le _, rfl, ⟨Nat.zero_le _, by simp, .inl (by omega), rfl, by omega⟩, HT.out, HB.out⟩
  case round =>
    obtain ⟨k, x, hk, rfl, hna, hit, B⟩ := hrel
    clear HB HT
    have HA : Hid (NumAt s k x) := hna
    have HP : Hid (wr.iterPos w.heap.size = k) := iterPos_of hit
    have hx := hna.small
    clear hna
    by_cases hkn : k < n
    · have hks : k < s.length := by have := HN.out; omega
      have hp : k < (⟨s.toArray⟩ : ByteArray).size := by rw [hsz]; exact hkn
      have hnx := fun ty => Lib.run_next_any_at (P := Tryd.prog) wr w.heap.size ⟨s.toArray⟩ k ty hit hp
      have R := rune_at s k hks
      obtain ⟨r, hr⟩ : ∃ x, (Utf8.decode ⟨s.toArray⟩ k).1 = x := ⟨_, rfl⟩
      obtain ⟨d, hd⟩ : ∃ x, (Utf8.decode ⟨s.toArray⟩ k).2 = x := ⟨_, rfl⟩
      rw [hr, hd] at hnx R
      have hit2 := Lib.iterAt_heap wr w.heap.size ⟨s.toArray⟩ k (k + d) hit
      have B2 := Lib.below_iterAt B (Nat.le_refl w.heap.size) ⟨s.toArray⟩ (k + d)
      obtain ⟨V, hV⟩ : ∃ V, wr.iterAt w.heap.size ⟨s.toArray⟩ (k + d) = V := ⟨_, rfl⟩
      rw [hV] at hnx hit2 B2
      clear hV hr hd B hit hp
      have HR : Hid (RuneAt s k r d) := R
      have hr1 := R.max
      clear R
      have HKS : Hid (k < s.length) := hks
      clear hks
      by_cases h48 : (r : Int) < 48
      · have HV : Hid (nrB s = false ∧ nrV s = 0) := by
          exact nr_no (numV_no (mem_at HKS.out) (HR.out.nodig (.inl (by omega))))
        by_cases hk0 : (0 : Int) < k
        · by_cases hx0 : (x : Int) = 0
          · go_wp2
            go_ret2
            exact ⟨ret_nr HV.out.2.symm HV.out.1.symm, B2⟩
          · go_wp2
            go_ret2
            exact ⟨ret_nr HV.out.2.symm HV.out.1.symm, B2⟩
        · go_wp2
          go_ret2
          exact ⟨ret_nr HV.out.2.symm HV.out.1.symm, B2⟩
      · by_cases h57 : (57 : Int) < r
        · have HV : Hid (nrB s = false ∧ nrV s = 0) := nr_no (numV_no (mem_at HKS.out) (HR.out.nodig (.inr (by omega))))
          by_cases hk0 : (0 : Int) < k
          · by_cases hx0 : (x : Int) = 0
            · go_wp2
              go_ret2
              exact ⟨ret_nr HV.out.2.symm HV.out.1.symm, B2⟩
            · go_wp2
              go_ret2
              exact ⟨ret_nr HV.out.2.symm HV.out.1.symm, B2⟩
          · go_wp2
            go_ret2
            exact ⟨ret_nr HV.out.2.symm HV.out.1.symm, B2⟩
        · have HD : Hid (digitB (s.getD k 0) = true ∧ (s.getD k 0).toNat = r ∧ d = 1) := HR.out.dig (by omega) (by omega)
          obtain rfl : d = 1 := HD.out.2.2
          by_cases hk0 : (0 : Int) < k
          · by_cases hx0 : (x : Int) = 0
            · have HV : Hid (nrB s = false ∧ nrV s = 0) := by
                have h := HA.out
                rw [show x = 0 by omega] at h
                exact nr_no (h.zero (by omega) HKS.out)
              go_wp2
              go_ret2
              exact ⟨ret_nr HV.out.2.symm HV.out.1.symm, B2⟩
            · have hx1 : ((x : Int) == 0) = false := by simp; omega
              have hy0 : 0 ≤ 10 * (x : Int) + ((r : Int) - 48) := by omega
              by_cases hv : 10 * x + (r - 48) ≤ 65535
              · have hB : inB (10 * (x : Int) + ((r : Int) - 48)) 0 65535 = true := by simp [inB]; omega
                have HN2 : Hid (NumAt s (k + 1) (10 * x + (r - 48))) := by
                  have h := HA.out.next HKS.out HD.out.1 (.inr (by omega)) (by rw [HD.out.2.1]; exact hv)
                  rw [HD.out.2.1] at h
                  exact h
                obtain ⟨y, hy⟩ : ∃ y : Nat, 10 * x + (r - 48) = y := ⟨_, rfl⟩
                have HY : Hid ((10 * (x : Int) + ((r : Int) - 48)) = (y : Int)) := by show _ = _; omega
                rw [hy] at HN2
                clear hv hy
                go_wp2_with (go_at_call 54; refine (isWord9_any _ _).mono ?_; rintro e w1 ⟨rfl, rfl⟩)
                go_roundw
                case rel => exact ⟨k + 1, y, by omega, by rw [← HY.out], HN2.out, hit2, B2⟩
                case measure => rw [iterPos_of hit2, HP.out]; omega
              · have hB : inB (10 * (x : Int) + ((r : Int) - 48)) 0 65535 = false := by simp [inB]; omega
                have HV : Hid (nrB s = false ∧ nrV s = 0) := nr_bad (HA.out.past HKS.out (by rw [HD.out.2.1]; omega))
                go_wp2_with (go_at_call 54; refine (isWord9_any _ _).mono ?_; rintro e w1 ⟨rfl, rfl⟩)
                go_ret2
                exact ⟨ret_nr HV.out.2.symm HV.out.1.symm, B2⟩
          · have hk00 : k = 0 := by omega
            subst hk00
            have hy0 : 0 ≤ 10 * (x : Int) + ((r : Int) - 48) := by omega
            by_cases hv : 10 * x + (r - 48) ≤ 65535
            · have hB : inB (10 * (x : Int) + ((r : Int) - 48)) 0 65535 = true := by simp [inB]; omega
              have HN2 : Hid (NumAt s (0 + 1) (10 * x + (r - 48))) := by
                have h := HA.out.next HKS.out HD.out.1 (.inl rfl) (by rw [HD.out.2.1]; exact hv)
                rw [HD.out.2.1] at h
                exact h
              obtain ⟨y, hy⟩ : ∃ y : Nat, 10 * x + (r - 48) = y := ⟨_, rfl⟩
              have HY : Hid ((10 * (x : Int) + ((r : Int) - 48)) = (y : Int)) := by show _ = _; omega
              rw [hy] at HN2
              clear hv hy
              go_wp2_with (go_at_call 54; refine (isWord9_any _ _).mono ?_; rintro e w1 ⟨rfl, rfl⟩)
              go_roundw
              case rel => exact ⟨0 + 1, y, by omega, by rw [← HY.out], HN2.out, hit2, B2⟩
              case measure => rw [iterPos_of hit2, HP.out]; omega
            · have hB : inB (10 * (x : Int) + ((r : Int) - 48)) 0 65535 = false := by simp [inB]; omega
              have HV : Hid (nrB s = false ∧ nrV s = 0) := nr_bad (HA.out.past HKS.out (by rw [HD.out.2.1]; omega))
              go_wp2_with (go_at_call 54; refine (isWord9_any _ _).mono ?_; rintro e w1 ⟨rfl, rfl⟩)
              go_ret2
              exact ⟨ret_nr HV.out.2.symm HV.out.1.symm, B2⟩
    · have hkk2 : k = n := by omega
      subst hkk2
      have hp : ¬ k < (⟨s.toArray⟩ : ByteArray).size := by rw [hsz]; exact hkn
      have hnx := fun ty => Lib.run_next_end_at (P := Tryd.prog) wr w.heap.size ⟨s.toArray⟩ k ty hit hp
      by_cases hk0 : k = 0
      · have hx0 : x = 0 := by
          have := HA.out.val
          rw [hk0] at this
          exact this.symm
        have HV : Hid (nrB s = false ∧ nrV s = 0) := by
          refine nr_no ?_
          unfold numV
          rw [if_pos (.inl (by have := HN.out; omega))]
        have hse : s.isEmpty = true := by have := HE.out; rw [hk0] at this; exact this
        subst hx0
        clear hp hkn
        go_wp2
        go_ret2
        exact ⟨ret_nr HV.out.2.symm (by rw [HV.out.1]; try rfl), B⟩
      · have HV : Hid (nrB s = true ∧ nrV s = x) := HA.out.done (by have := HN.out; omega) (by have := HN.out; omega)
        have hse : s.isEmpty = false := by have := HE.out; rw [this]; simp; exact hk0
        clear hp hkn
        go_wp2
        go_ret2
        exact ⟨ret_nr HV.out.2.symm (by rw [HV.out.1]; try rfl), B⟩
end Go.Proofs.YtfigbfddhmgafaaDoor
