/- What the specification's l16Words answers: the words of a line. -/
import Derived.Test.YtfigbfddhmgafaaDoorTx4
import Derived.Test.YtfigbfddhmgafaaDoorAppR
namespace Go.Proofs.YtfigbfddhmgafaaDoor
open Go.RowKit
set_option linter.unusedVariables false

/-- What stands between blanks; 'cur' is what stands ahead already. -/
def splitA (cur : List UInt8) : List UInt8 → List (List UInt8)
  | [] => [cur]
  | c :: t => if c = 32 then cur :: splitA [] t else splitA (cur ++ [c]) t
theorem info_string : (Tryd.prog.info? 9).map (fun i => (i.zero, i.size, i.bytes)) = some (some (.string ⟨#[]⟩), 1, 16) := by kernel_rfl

theorem ext_txt (s : List UInt8) (m k : Nat) : (⟨s.toArray⟩ : ByteArray).extract m k = ⟨((s.drop m).take (k - m)).toArray⟩ := by
  apply ByteArray.ext
  simp
theorem drop_cons {s : List UInt8} {k : Nat} (h : k < s.length) : s.drop k = s[k] :: s.drop (k + 1) := (List.getElem_cons_drop h).symm
theorem take_more {s : List UInt8} {m k : Nat} (hm : m ≤ k) (h : k < s.length) : (s.drop m).take (k + 1 - m) = (s.drop m).take (k - m) ++ [s[k]] := by
  have e : k + 1 - m = (k - m) + 1 := by omega
  rw [e, List.take_add_one, List.getElem?_drop, show m + (k - m) = k by omega, List.getElem?_eq_getElem h]
  rfl

set_option maxRecDepth 100000 in
set_option maxHeartbeats 4000000 in
theorem l16Words_any (s : List UInt8) (w : World) (hs : s.length ≤ 1048576) : Calls Tryd.prog 25 #[txt s] w fun e w' => ∃ a c, e = .returned (.slice a (splitA [] s).length c) ∧ w'.ownsRow w.heap.size 9 1 (.slice a (splitA [] s).length c) (splitA [] s).length ((splitA [] s).map txt) ∧ Below w.heap.size w w' := by
  obtain ⟨i1, hi1, hz10, hz11, hz12⟩ := info_parts info_string
  obtain ⟨n, hn⟩ : ∃ n, s.length = n := ⟨_, rfl⟩
  have HN : Hid (s.length = n) := hn
  have hsz : (⟨s.toArray⟩ : ByteArray).size = n := by rw [← hn]; simp [ByteArray.size]
  rw [hn] at hs
  clear hn
  have HB : Hid (Below w.heap.size w (w.alloc (.cells #[] 9))) := bel_alloc (Below.refl _ _) _
  have HO : Hid ((w.alloc (.cells #[] 9)).ownsRow w.heap.size 9 1 (.slice (some ⟨w.heap.size, 0, none⟩) 0 0) 0 (([] : List (List UInt8)).map txt)) := own_litE w 9 1 w.heap.size (by simp)
  go_enter Tryd.func25, Tryd.ntmps25
  go_wp2
  go_loopw [3, 4, 5] (fun v f i wr => ∃ (k m : Nat) (W : List (List UInt8)), k ≤ n + 1 ∧ m ≤ k ∧ W.length ≤ k ∧ i = .int .i64 k ∧ f = .int .i64 m ∧ ((k ≤ n ∧ W ++ splitA ((s.drop m).take (k - m)) (s.drop k) = splitA [] s) ∨ (k = n + 1 ∧ W = splitA [] s)) ∧ ∃ a c, v = .slice a W.length c ∧ wr.ownsRow w.heap.size 9 1 (.slice a W.length c) W.length (W.map txt) ∧ Below w.heap.size w wr) (fun _ _ i _ => n + 1 - (intOf i).toNat)
  case atStart => exact ⟨0, 0, [], by omega, by omega, by simp, rfl, rfl, .inl ⟨by omega, by simp⟩, _, _, rfl, HO.out, HB.out⟩
  case round =>
    obtain ⟨k, m, W, hk, hm, hWk, rfl, rfl, hinv, a, c, rfl, O, B⟩ := hrel
    clear HO HB
    by_cases hkn : k ≤ n
    · have hi : (k : Int) ≤ n := by omega
      have hinv2 : W ++ splitA ((s.drop m).take (k - m)) (s.drop k) = splitA [] s := by
        rcases hinv with h | h
        · exact h.2
        · omega
      have HI : Hid (W ++ splitA ((s.drop m).take (k - m)) (s.drop k) = splitA [] s) := hinv2
      clear hinv hinv2
      obtain ⟨u, hu⟩ : ∃ u, (s.drop m).take (k - m) = u := ⟨_, rfl⟩
      have hex : (⟨s.toArray⟩ : ByteArray).extract m k = ⟨u.toArray⟩ := by rw [ext_txt, hu]
      have HU : Hid ((s.drop m).take (k - m) = u) := hu
      rw [hu] at HI
      clear hu
      by_cases hk2 : k = n
      · have HINV : Hid ((k + 1 ≤ n ∧ (W ++ [u]) ++ splitA ((s.drop (k + 1)).take (k + 1 - (k + 1))) (s.drop (k + 1)) = splitA [] s) ∨ (k + 1 = n + 1 ∧ W ++ [u] = splitA [] s)) := by
          refine .inr ⟨by omega, ?_⟩
          have h := HI.out
          rw [List.drop_of_length_le (by have := HN.out; omega)] at h
          exact h
        subst hk2
        have X := Box.new wr #[txt u] 9
        have O2 := owns_below O (bel_alloc (Below.refl wr.heap.size wr) (.cells #[txt u] 9))
        have B2 := bel_alloc B (.cells #[txt u] 9)
        have hnew : Hid (∀ j x, [txt u][j]? = some x → ∃ b off, (some ⟨wr.heap.size, 0, none⟩ : Option Addr) = some ⟨b, off, none⟩ ∧ (wr.alloc (.cells #[txt u] 9)).cell? ⟨b, off + j, none⟩ = some x) := fun j x hx => by
          match j, hx with
          | 0, hx =>
            simp at hx
            subst hx
            exact ⟨_, _, rfl, X.cell 0⟩
          | j + 1, hx => simp at hx
        clear X O B
        go_wp2_with (at_builtin; refine wpList_append_rowYtfigbfddhmgafaaDoor rfl (.tmp 23) (.tmp 28) 39 rfl w.heap.size 9 i1 (.string ⟨#[]⟩) 1 16 Tryd.underlying39 hi1 hz10 hz11 hz12 rfl (by decide) (.slice a W.length c) W.length (W.map txt) (by rfl) O2 (some ⟨wr.heap.size, 0, none⟩) 1 1 [txt u] (by rfl) rfl hnew.out (by intro x hx; simp at hx; subst hx; rfl) (by unfold maxLen; omega) (by omega) B2.size ?_)
        intro v1 w5 o5 g5
        have hlt : Hid (∀ j, (Value.slice a W.length c).ownBlock = some j → w.heap.size ≤ j) := fun j h => (O2.lt j h).1
        replace B2 := B2.grown g5 B2.size (fun j hj => by have := hlt.out j hj; omega)
        obtain ⟨a5, c5, rfl⟩ := owns_slice o5
        have HO5 : Hid (w5.ownsRow w.heap.size 9 1 (.slice a5 (W ++ [u]).length c5) (W ++ [u]).length ((W ++ [u]).map txt)) := by
          have h := o5
          rw [show W.map txt ++ [txt u] = (W ++ [u]).map txt by simp] at h
          rw [show W.length + 1 = (W ++ [u]).length by simp] at h
          exact h
        have hl5 : (W ++ [u]).length = W.length + 1 := by simp
        rw [show Value.slice a5 (W.length + 1) c5 = Value.slice a5 (W ++ [u]).length c5 by rw [hl5]]
        clear o5 g5 O2 hlt hnew
        generalize hW5 : W ++ [u] = W5 at HO5 HINV hl5 ⊢
        have hl6 : W5.length ≤ k + 1 := by omega
        clear hW5 hl5
        go_wp2
        go_roundw
        case rel => exact ⟨k + 1, k + 1, W5, by omega, by omega, hl6, by go_num, by go_num, HINV.out.imp id (fun h => ⟨rfl, h.2⟩), a5, c5, rfl, HO5.out, B2⟩
        case measure => simp [intOf]
      · have hks : k < s.length := by have := HN.out; omega
        have hne : ((k : Int) == (n : Int)) = false := by simp; omega
        obtain ⟨ch, hc⟩ : ∃ c, s[k] = c := ⟨_, rfl⟩
        have hcb : (⟨s.toArray⟩ : ByteArray)[k]'(by rw [hsz]; omega) = ch := by rw [← hc]; rfl
        have HD : Hid (s.drop k = ch :: s.drop (k + 1) ∧ (s.drop m).take (k + 1 - m) = u ++ [ch]) := ⟨by rw [drop_cons hks, hc], by rw [take_more hm hks, hc, HU.out]⟩
        clear hc hks
        by_cases h32 : ch = 32
        · have HINV : Hid ((k + 1 ≤ n ∧ (W ++ [u]) ++ splitA ((s.drop (k + 1)).take (k + 1 - (k + 1))) (s.drop (k + 1)) = splitA [] s) ∨ (k + 1 = n + 1 ∧ W ++ [u] = splitA [] s)) := by
            refine .inl ⟨by omega, ?_⟩
            have h := HI.out
            rw [HD.out.1, h32] at h
            simp only [splitA, if_pos] at h
            rw [← h]
            simp
          subst h32
          have X := Box.new wr #[txt u] 9
          have O2 := owns_below O (bel_alloc (Below.refl wr.heap.size wr) (.cells #[txt u] 9))
          have B2 := bel_alloc B (.cells #[txt u] 9)
          have hnew : Hid (∀ j x, [txt u][j]? = some x → ∃ b off, (some ⟨wr.heap.size, 0, none⟩ : Option Addr) = some ⟨b, off, none⟩ ∧ (wr.alloc (.cells #[txt u] 9)).cell? ⟨b, off + j, none⟩ = some x) := fun j x hx => by
            match j, hx with
            | 0, hx =>
              simp at hx
              subst hx
              exact ⟨_, _, rfl, X.cell 0⟩
            | j + 1, hx => simp at hx
          clear X O B
          go_wp2_with (at_builtin; refine wpList_append_rowYtfigbfddhmgafaaDoor rfl (.tmp 23) (.tmp 28) 39 rfl w.heap.size 9 i1 (.string ⟨#[]⟩) 1 16 Tryd.underlying39 hi1 hz10 hz11 hz12 rfl (by decide) (.slice a W.length c) W.length (W.map txt) (by rfl) O2 (some ⟨wr.heap.size, 0, none⟩) 1 1 [txt u] (by rfl) rfl hnew.out (by intro x hx; simp at hx; subst hx; rfl) (by unfold maxLen; omega) (by omega) B2.size ?_)
          intro v1 w5 o5 g5
          have hlt : Hid (∀ j, (Value.slice a W.length c).ownBlock = some j → w.heap.size ≤ j) := fun j h => (O2.lt j h).1
          replace B2 := B2.grown g5 B2.size (fun j hj => by have := hlt.out j hj; omega)
          obtain ⟨a5, c5, rfl⟩ := owns_slice o5
          have HO5 : Hid (w5.ownsRow w.heap.size 9 1 (.slice a5 (W ++ [u]).length c5) (W ++ [u]).length ((W ++ [u]).map txt)) := by
            have h := o5
            rw [show W.map txt ++ [txt u] = (W ++ [u]).map txt by simp] at h
            rw [show W.length + 1 = (W ++ [u]).length by simp] at h
            exact h
          have hl5 : (W ++ [u]).length = W.length + 1 := by simp
          rw [show Value.slice a5 (W.length + 1) c5 = Value.slice a5 (W ++ [u]).length c5 by rw [hl5]]
          clear o5 g5 O2 hlt hnew
          generalize hW5 : W ++ [u] = W5 at HO5 HINV hl5 ⊢
          have hl6 : W5.length ≤ k + 1 := by omega
          clear hW5 hl5
          go_wp2
          go_roundw
          case rel => exact ⟨k + 1, k + 1, W5, by omega, by omega, hl6, by go_num, by go_num, HINV.out, a5, c5, rfl, HO5.out, B2⟩
          case measure => simp [intOf]; omega
        · have h32b : ¬ ch.toNat = 32 := fun e => h32 (by rw [← UInt8.toNat_inj]; exact e)
          have HINV : Hid ((k + 1 ≤ n ∧ W ++ splitA ((s.drop m).take (k + 1 - m)) (s.drop (k + 1)) = splitA [] s) ∨ (k + 1 = n + 1 ∧ W = splitA [] s)) := by
            refine .inl ⟨by omega, ?_⟩
            have h := HI.out
            rw [HD.out.1] at h
            simp only [splitA, if_neg h32] at h
            rw [HD.out.2]
            exact h
          go_wp2
          go_roundw
          case rel => exact ⟨k + 1, m, W, by omega, by omega, by omega, by go_num, rfl, HINV.out, a, c, rfl, O, B⟩
          case measure => simp [intOf]; omega
    · have HV : Hid (W = splitA [] s) := by
        rcases hinv with h | h
        · omega
        · exact h.2
      clear hinv
      go_wp2
      go_ret
      rw [← HV.out]
      exact ⟨a, c, rfl, O, B⟩
end Go.Proofs.YtfigbfddhmgafaaDoor
