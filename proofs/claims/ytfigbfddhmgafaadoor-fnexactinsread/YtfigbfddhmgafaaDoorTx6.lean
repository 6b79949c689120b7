/- What the specification's l16Rows answers: the lines of a text. -/
import Derived.Test.YtfigbfddhmgafaaDoorTx5
namespace Go.Proofs.YtfigbfddhmgafaaDoor
open Go.RowKit
set_option linter.unusedVariables false

/-- The lines of a text; 'cur' is what stands ahead already. -/
def rowsA (cur : List UInt8) : List UInt8 → List (List UInt8)
  | [] => if cur = [] then [] else [cur]
  | c :: t => if c = 10 then cur :: rowsA [] t else rowsA (cur ++ [c]) t

set_option maxRecDepth 100000 in
set_option maxHeartbeats 4000000 in
theorem l16Rows_any (s : List UInt8) (w : World) (hs : s.length ≤ 1048576) : Calls Tryd.prog 31 #[txt s] w fun e w' => ∃ a c, e = .returned (.slice a (rowsA [] s).length c) ∧ w'.ownsRow w.heap.size 9 1 (.slice a (rowsA [] s).length c) (rowsA [] s).length ((rowsA [] s).map txt) ∧ Below w.heap.size w w' := by
  obtain ⟨i1, hi1, hz10, hz11, hz12⟩ := info_parts info_string
  obtain ⟨n, hn⟩ : ∃ n, s.length = n := ⟨_, rfl⟩
  have HN : Hid (s.length = n) := hn
  have hsz : (⟨s.toArray⟩ : ByteArray).size = n := by rw [← hn]; simp [ByteArray.size]
  rw [hn] at hs
  clear hn
  have HB : Hid (Below w.heap.size w (w.alloc (.cells #[] 9))) := bel_alloc (Below.refl _ _) _
  have HO : Hid ((w.alloc (.cells #[] 9)).ownsRow w.heap.size 9 1 (.slice (some ⟨w.heap.size, 0, none⟩) 0 0) 0 (([] : List (List UInt8)).map txt)) := own_litE w 9 1 w.heap.size (by simp)
  go_enter Tryd.func31, Tryd.ntmps31
  go_wp2
  go_loopw [3, 4, 5] (fun v f i wr => ∃ (k m : Nat) (W : List (List UInt8)), k ≤ n + 1 ∧ m ≤ k ∧ W.length ≤ k ∧ i = .int .i64 k ∧ f = .int .i64 m ∧ ((k ≤ n ∧ W ++ rowsA ((s.drop m).take (k - m)) (s.drop k) = rowsA [] s) ∨ (k = n + 1 ∧ W = rowsA [] s)) ∧ ∃ a c, v = .slice a W.length c ∧ wr.ownsRow w.heap.size 9 1 (.slice a W.length c) W.length (W.map txt) ∧ Below w.heap.size w wr) (fun _ _ i _ => n + 1 - (intOf i).toNat)
  case atStart => exact ⟨0, 0, [], by omega, by omega, by simp, rfl, rfl, .inl ⟨by omega, by simp⟩, _, _, rfl, HO.out, HB.out⟩
  case round =>
    obtain ⟨k, m, W, hk, hm, hWk, rfl, rfl, hinv, a, c, rfl, O, B⟩ := hrel
    clear HO HB
    by_cases hkn : k ≤ n
    · have hi : (k : Int) ≤ n := by omega
      have hinv2 : W ++ rowsA ((s.drop m).take (k - m)) (s.drop k) = rowsA [] s := by
        rcases hinv with h | h
        · exact h.2
        · omega
      have HI : Hid (W ++ rowsA ((s.drop m).take (k - m)) (s.drop k) = rowsA [] s) := hinv2
      clear hinv hinv2
      obtain ⟨u, hu⟩ : ∃ u, (s.drop m).take (k - m) = u := ⟨_, rfl⟩
      have hex : (⟨s.toArray⟩ : ByteArray).extract m k = ⟨u.toArray⟩ := by rw [ext_txt, hu]
      have HU : Hid ((s.drop m).take (k - m) = u) := hu
      rw [hu] at HI
      clear hu
      by_cases hk2 : k = n
      · by_cases hmn : m = n
        · have HINV : Hid (k + 1 = n + 1 ∧ W = rowsA [] s) := by
            refine ⟨by omega, ?_⟩
            have h := HI.out
            have hu0 : u = [] := by rw [← HU.out, show k - m = 0 by omega]; simp
            rw [List.drop_of_length_le (by have := HN.out; omega), hu0] at h
            simpa [rowsA] using h
          subst hk2
          subst hmn
          go_wp2
          go_roundw
          case rel => exact ⟨m + 1, m, W, by omega, by omega, by omega, by go_num, rfl, .inr ⟨rfl, HINV.out.2⟩, a, c, rfl, O, B⟩
          case measure => simp [intOf]
        · have HINV : Hid ((k + 1 ≤ n ∧ (W ++ [u]) ++ rowsA ((s.drop (k + 1)).take (k + 1 - (k + 1))) (s.drop (k + 1)) = rowsA [] s) ∨ (k + 1 = n + 1 ∧ W ++ [u] = rowsA [] s)) := by
            refine .inr ⟨by omega, ?_⟩
            have h := HI.out
            have hu0 : ¬ u = [] := fun e => by
              have h1 := congrArg List.length HU.out
              rw [e] at h1
              simp only [List.length_take, List.length_drop, List.length_nil] at h1
              have := HN.out
              omega
            rw [List.drop_of_length_le (by have := HN.out; omega)] at h
            simp only [rowsA, if_neg hu0] at h
            exact h
          subst hk2
          have hmk : ((m : Int) == (k : Int)) = false := by simp; omega
          have X := Box.new wr #[txt u] 9
          have O2 := owns_below O (bel_alloc (Below.refl wr.heap.size wr) (.cells #[txt u] 9))
          have B2 := bel_alloc B (.cells #[txt u] 9)
          have hnew : Hid (∀ j x, [txt u][j]? = some x → ∃ b off, (some ⟨wr.heap.size, 0, none⟩ : Option Addr) = some ⟨b, off, none⟩ ∧ (wr.alloc (.cells #[txt u] 9)).cell? ⟨b, off + j, none⟩ = some x) := fun j x hx => by
            match j, hx with
            | 0, hx =>
              simp at hx
              subst hx
              exact ⟨_, _, rfl, X.cell 0⟩
            | j + 1, hx => simp at hx
          clear X O B
          go_wp2_with (at_builtin; refine wpList_append_rowYtfigbfddhmgafaaDoor rfl (.tmp 35) (.tmp 40) 39 rfl w.heap.size 9 i1 (.string ⟨#[]⟩) 1 16 Tryd.underlying39 hi1 hz10 hz11 hz12 rfl (by decide) (.slice a W.length c) W.length (W.map txt) (by rfl) O2 (some ⟨wr.heap.size, 0, none⟩) 1 1 [txt u] (by rfl) rfl hnew.out (by intro x hx; simp at hx; subst hx; rfl) (by unfold maxLen; omega) (by omega) B2.size ?_)
          intro v1 w5 o5 g5
          have hlt : Hid (∀ j, (Value.slice a W.length c).ownBlock = some j → w.heap.size ≤ j) := fun j h => (O2.lt j h).1
          replace B2 := B2.grown g5 B2.size (fun j hj => by have := hlt.out j hj; omega)
          obtain ⟨a5, c5, rfl⟩ := owns_slice o5
          have HO5 : Hid (w5.ownsRow w.heap.size 9 1 (.slice a5 (W ++ [u]).length c5) (W ++ [u]).length ((W ++ [u]).map txt)) := by
            have h := o5
            rw [show W.map txt ++ [txt u] = (W ++ [u]).map txt by simp] at h
            rw [show W.length + 1 = (W ++ [u]).length by simp] at h
            exact h
          have hl5 : (W ++ [u]).length = W.length + 1 := by simp
          rw [show Value.slice a5 (W.length + 1) c5 = Value.slice a5 (W ++ [u]).length c5 by rw [hl5]]
          clear o5 g5 O2 hlt hnew
          generalize hW5 : W ++ [u] = W5 at HO5 HINV hl5 ⊢
          have hl6 : W5.length ≤ k + 1 := by omega
          clear hW5 hl5
          go_wp2
          go_roundw
          case rel => exact ⟨k + 1, k + 1, W5, by omega, by omega, hl6, by go_num, by go_num, HINV.out.imp id (fun h => ⟨rfl, h.2⟩), a5, c5, rfl, HO5.out, B2⟩
          case measure => simp [intOf]
      · have hks : k < s.length := by have := HN.out; omega
        have hne : (k : Int) < (n : Int) := by omega
        have hne2 : ((k : Int) == (n : Int)) = false := by simp; omega
        obtain ⟨ch, hc⟩ : ∃ c, s[k] = c := ⟨_, rfl⟩
        have hcb : (⟨s.toArray⟩ : ByteArray)[k]'(by rw [hsz]; omega) = ch := by rw [← hc]; rfl
        have HD : Hid (s.drop k = ch :: s.drop (k + 1) ∧ (s.drop m).take (k + 1 - m) = u ++ [ch]) := ⟨by rw [drop_cons hks, hc], by rw [take_more hm hks, hc, HU.out]⟩
        clear hc hks
        by_cases h10 : ch = 10
        · have HINV : Hid ((k + 1 ≤ n ∧ (W ++ [u]) ++ rowsA ((s.drop (k + 1)).take (k + 1 - (k + 1))) (s.drop (k + 1)) = rowsA [] s) ∨ (k + 1 = n + 1 ∧ W ++ [u] = rowsA [] s)) := by
            refine .inl ⟨by omega, ?_⟩
            have h := HI.out
            rw [HD.out.1, h10] at h
            simp only [rowsA, if_pos] at h
            rw [← h]
            simp
          subst h10
          have X := Box.new wr #[txt u] 9
          have O2 := owns_below O (bel_alloc (Below.refl wr.heap.size wr) (.cells #[txt u] 9))
          have B2 := bel_alloc B (.cells #[txt u] 9)
          have hnew : Hid (∀ j x, [txt u][j]? = some x → ∃ b off, (some ⟨wr.heap.size, 0, none⟩ : Option Addr) = some ⟨b, off, none⟩ ∧ (wr.alloc (.cells #[txt u] 9)).cell? ⟨b, off + j, none⟩ = some x) := fun j x hx => by
            match j, hx with
            | 0, hx =>
              simp at hx
              subst hx
              exact ⟨_, _, rfl, X.cell 0⟩
            | j + 1, hx => simp at hx
          clear X O B
          go_wp2_with (at_builtin; refine wpList_append_rowYtfigbfddhmgafaaDoor rfl (.tmp 35) (.tmp 40) 39 rfl w.heap.size 9 i1 (.string ⟨#[]⟩) 1 16 Tryd.underlying39 hi1 hz10 hz11 hz12 rfl (by decide) (.slice a W.length c) W.length (W.map txt) (by rfl) O2 (some ⟨wr.heap.size, 0, none⟩) 1 1 [txt u] (by rfl) rfl hnew.out (by intro x hx; simp at hx; subst hx; rfl) (by unfold maxLen; omega) (by omega) B2.size ?_)
          intro v1 w5 o5 g5
          have hlt : Hid (∀ j, (Value.slice a W.length c).ownBlock = some j → w.heap.size ≤ j) := fun j h => (O2.lt j h).1
          replace B2 := B2.grown g5 B2.size (fun j hj => by have := hlt.out j hj; omega)
          obtain ⟨a5, c5, rfl⟩ := owns_slice o5
          have HO5 : Hid (w5.ownsRow w.heap.size 9 1 (.slice a5 (W ++ [u]).length c5) (W ++ [u]).length ((W ++ [u]).map txt)) := by
            have h := o5
            rw [show W.map txt ++ [txt u] = (W ++ [u]).map txt by simp] at h
            rw [show W.length + 1 = (W ++ [u]).length by simp] at h
            exact h
          have hl5 : (W ++ [u]).length = W.length + 1 := by simp
          rw [show Value.slice a5 (W.length + 1) c5 = Value.slice a5 (W ++ [u]).length c5 by rw [hl5]]
          clear o5 g5 O2 hlt hnew
          generalize hW5 : W ++ [u] = W5 at HO5 HINV hl5 ⊢
          have hl6 : W5.length ≤ k + 1 := by omega
          clear hW5 hl5
          go_wp2
          go_roundw
          case rel => exact ⟨k + 1, k + 1, W5, by omega, by omega, hl6, by go_num, by go_num, HINV.out, a5, c5, rfl, HO5.out, B2⟩
          case measure => simp [intOf]; omega
        · have h10b : ¬ ch.toNat = 10 := fun e => h10 (by rw [← UInt8.toNat_inj]; exact e)
          have HINV : Hid ((k + 1 ≤ n ∧ W ++ rowsA ((s.drop m).take (k + 1 - m)) (s.drop (k + 1)) = rowsA [] s) ∨ (k + 1 = n + 1 ∧ W = rowsA [] s)) := by
            refine .inl ⟨by omega, ?_⟩
            have h := HI.out
            rw [HD.out.1] at h
            simp only [rowsA, if_neg h10] at h
            rw [HD.out.2]
            exact h
          go_wp2
          go_roundw
          case rel => exact ⟨k + 1, m, W, by omega, by omega, by omega, by go_num, rfl, HINV.out, a, c, rfl, O, B⟩
          case measure => simp [intOf]; omega
    · have HV : Hid (W = rowsA [] s) := by
        rcases hinv with h | h
        · omega
        · exact h.2
      clear hinv
      go_wp2
      go_ret
      rw [← HV.out]
      exact ⟨a, c, rfl, O, B⟩
end Go.Proofs.YtfigbfddhmgafaaDoor
