/- What impl's partsOf answers: what stands between marks. -/
import Derived.Test.YtfigbfddhmgafaaDoorTq1
namespace Go.Proofs.YtfigbfddhmgafaaDoor
open Go.RowKit
set_option linter.unusedVariables false

/-- A row stays owned while an iterator ahead of it is moved on. -/
theorem owns_iterAt {w : World} {base e size : Nat} {v : Value} {n : Nat} {xs : List Value} (h : w.ownsRow base e size v n xs) {k : Nat} (hk : k < base) (S : ByteArray) (p : Nat) : (w.iterAt k S p).ownsRow base e size v n xs := by
  refine ⟨h.1, ?_⟩
  rcases h.2 with hn | ⟨g, cap, cur, rfl, hbg, hg, rest⟩
  · exact .inl hn
  · exact .inr ⟨g, cap, cur, rfl, hbg, (Lib.iterAt_other w k g S p (by omega)).trans hg, rest⟩
theorem iter_kept {w w' : World} {S : ByteArray} {p k : Nat} (h : w.heap[k]? = some (.stringIter S p)) {row : Option Nat} (hg : w.grownBy w' row) (hr : ∀ j, row = some j → k < j) : w'.heap[k]? = some (.stringIter S p) := by
  have hlt : k < w.heap.size := (Array.getElem?_eq_some_iff.1 h).1
  rw [hg.block k hlt (fun e => by have := hr k e.symm; omega)]
  exact h
theorem iter_alloc {w : World} {S : ByteArray} {p k : Nat} (h : w.heap[k]? = some (.stringIter S p)) (o : Obj) : (w.alloc o).heap[k]? = some (.stringIter S p) := by
  have hlt : k < w.heap.size := (Array.getElem?_eq_some_iff.1 h).1
  rw [heap_alloc_old w o hlt]
  exact h
theorem iterPos_of {w : World} {S : ByteArray} {p k : Nat} (h : w.heap[k]? = some (.stringIter S p)) : w.iterPos k = p := by simp [World.iterPos, h]

set_option maxRecDepth 100000 in
set_option maxHeartbeats 4000000 in
theorem partsOf_any (mk : UInt8) (kk : Nat) (hkk : mk.toNat = kk) (h128 : kk < 128) (s : List UInt8) (w : World) (hs : s.length ≤ 1048576) : Calls Tryd.prog 28 #[txt s, .int .i32 kk] w fun e w' => ∃ a c, e = .returned (.slice a (partsA mk [] s).length c) ∧ w'.ownsRow w.heap.size 9 1 (.slice a (partsA mk [] s).length c) (partsA mk [] s).length ((partsA mk [] s).map txt) ∧ Below w.heap.size w w' := by
  obtain ⟨i1, hi1, hz10, hz11, hz12⟩ := info_parts info_string
  obtain ⟨n, hn⟩ : ∃ n, s.length = n := ⟨_, rfl⟩
  have HN : Hid (s.length = n) := hn
  have hsz : (⟨s.toArray⟩ : ByteArray).size = n := by rw [← hn]; simp [ByteArray.size]
  rw [hn] at hs
  clear hn
  have HB : Hid (Below w.heap.size w (w.iter ⟨s.toArray⟩ 0)) := bel_alloc (Below.refl _ _) _
  have HT : Hid ((w.iter ⟨s.toArray⟩ 0).heap[w.heap.size]? = some (.stringIter ⟨s.toArray⟩ 0)) := World.iter_heap w _ 0
  have HZ : Hid (w.heap.size + 1 ≤ (w.iter ⟨s.toArray⟩ 0).heap.size) := by show _ ≤ _; simp [World.iter]
  go_enter Tryd.func28, Tryd.ntmps28
  go_wp2
  go_loopw [5, 6] (fun v f wr => ∃ (k m : Nat) (W : List (List UInt8)), k ≤ n ∧ m ≤ k ∧ W.length ≤ k ∧ f = .int .i64 m ∧ W ++ partsA mk ((s.drop m).take (k - m)) (s.drop k) = partsA mk [] s ∧ wr.heap[w.heap.size]? = some (.stringIter ⟨s.toArray⟩ k) ∧ w.heap.size + 1 ≤ wr.heap.size ∧ ∃ a c, v = .slice a W.length c ∧ wr.ownsRow (w.heap.size + 1) 9 1 (.slice a W.length c) W.length (W.map txt) ∧ Below w.heap.size w wr) (fun _ _ wr => n - wr.iterPos w.heap.size)
  case atStart => exact ⟨0, 0, [], by omega, by omega, by simp, rfl, by simp, HT.out, HZ.out, none, 0, rfl, World.ownsRow_nil _ _ _ _, HB.out⟩
  case round =>
    obtain ⟨k, m, W, hk, hm, hWk, rfl, hinv, hit, hz, a, c, rfl, O, B⟩ := hrel
    clear HB HT HZ
    have HI : Hid (W ++ partsA mk ((s.drop m).take (k - m)) (s.drop k) = partsA mk [] s) := hinv
    have HP : Hid (wr.iterPos w.heap.size = k) := iterPos_of hit
    clear hinv
    by_cases hkn : k < n
    · have hks : k < s.length := by have := HN.out; omega
      have hp : k < (⟨s.toArray⟩ : ByteArray).size := by rw [hsz]; exact hkn
      have hnx := fun ty => Lib.run_next_any_at (P := Tryd.prog) wr w.heap.size ⟨s.toArray⟩ k ty hit hp
      have R := rune_at s k hks
      obtain ⟨r, hr⟩ : ∃ x, (Utf8.decode ⟨s.toArray⟩ k).1 = x := ⟨_, rfl⟩
      obtain ⟨d, hd⟩ : ∃ x, (Utf8.decode ⟨s.toArray⟩ k).2 = x := ⟨_, rfl⟩
      rw [hr, hd] at hnx R
      have hit2 := Lib.iterAt_heap wr w.heap.size ⟨s.toArray⟩ k (k + d) hit
      have O2 := owns_iterAt O (Nat.lt_succ_self w.heap.size) ⟨s.toArray⟩ (k + d)
      have B2 := Lib.below_iterAt B (Nat.le_refl w.heap.size) ⟨s.toArray⟩ (k + d)
      have hz2 : w.heap.size + 1 ≤ (wr.iterAt w.heap.size ⟨s.toArray⟩ (k + d)).heap.size := by rw [Lib.iterAt_size]; exact hz
      obtain ⟨V, hV⟩ : ∃ V, wr.iterAt w.heap.size ⟨s.toArray⟩ (k + d) = V := ⟨_, rfl⟩
      rw [hV] at hnx hit2 O2 B2 hz2
      clear hV hr hd O B hit hz hp
      have HR : Hid (RuneAt s k r d) := R
      have hd1 := R.pos
      have hdn : k + d ≤ n := by have := R.le; have := HN.out; omega
      clear R
      by_cases hmk : s.getD k 0 = mk
      · obtain ⟨rfl, rfl⟩ : r = kk ∧ d = 1 := by
          have := HR.out.small (by rw [hmk]; omega)
          rw [hmk, hkk] at this
          exact this
        obtain ⟨u, hu⟩ : ∃ u, (s.drop m).take (k - m) = u := ⟨_, rfl⟩
        have hex : (⟨s.toArray⟩ : ByteArray).extract m k = ⟨u.toArray⟩ := by rw [ext_txt, hu]
        have HINV : Hid ((W ++ [u]) ++ partsA mk ((s.drop (k + 1)).take (k + 1 - (k + 1))) (s.drop (k + 1)) = partsA mk [] s) := by
          have h := HI.out
          rw [parts_cut mk s m k hm hks hmk, hu] at h
          show _ = _
          rw [← h, List.append_assoc]
          rfl
        clear hu hmk HI HR
        have X := Box.new V #[txt u] 9
        have O3 := owns_below O2 (bel_alloc (Below.refl V.heap.size V) (.cells #[txt u] 9))
        have B3 := bel_alloc B2 (.cells #[txt u] 9)
        have hit3 := iter_alloc hit2 (.cells #[txt u] 9)
        have hz3 : w.heap.size + 1 ≤ (V.alloc (.cells #[txt u] 9)).heap.size := by simp; omega
        have hnew : Hid (∀ j x, [txt u][j]? = some x → ∃ b off, (some ⟨V.heap.size, 0, none⟩ : Option Addr) = some ⟨b, off, none⟩ ∧ (V.alloc (.cells #[txt u] 9)).cell? ⟨b, off + j, none⟩ = some x) := fun j x hx => by
          match j, hx with
          | 0, hx =>
            simp at hx
            subst hx
            exact ⟨_, _, rfl, X.cell 0⟩
          | j + 1, hx => simp at hx
        clear X O2 B2 hit2
        go_wp2_with (at_builtin; refine wpList_append_rowYtfigbfddhmgafaaDoor rfl (.tmp 18) (.tmp 23) 39 rfl (w.heap.size + 1) 9 i1 (.string ⟨#[]⟩) 1 16 Tryd.underlying39 hi1 hz10 hz11 hz12 rfl (by decide) (.slice a W.length c) W.length (W.map txt) (by rfl) O3 (some ⟨V.heap.size, 0, none⟩) 1 1 [txt u] (by rfl) rfl hnew.out (by intro x hx; simp at hx; subst hx; rfl) (by unfold maxLen; omega) (by omega) hz3 ?_)
        intro v1 w5 o5 g5
        have hlt : ∀ j, (Value.slice a W.length c).ownBlock = some j → w.heap.size + 1 ≤ j := fun j h => (O3.lt j h).1
        have hit5 := iter_kept hit3 g5 (fun j hj => by have := hlt j hj; omega)
        have B5 := B3.grown g5 B3.size (fun j hj => by have := hlt j hj; omega)
        have hz5 : w.heap.size + 1 ≤ w5.heap.size := Nat.le_trans hz3 g5.size
        obtain ⟨a5, c5, rfl⟩ := owns_slice o5
        have HO5 : Hid (w5.ownsRow (w.heap.size + 1) 9 1 (.slice a5 (W ++ [u]).length c5) (W ++ [u]).length ((W ++ [u]).map txt)) := by
          have h := o5
          rw [show W.map txt ++ [txt u] = (W ++ [u]).map txt by simp] at h
          rw [show W.length + 1 = (W ++ [u]).length by simp] at h
          exact h
        have hl5 : (W ++ [u]).length = W.length + 1 := by simp
        rw [show Value.slice a5 (W.length + 1) c5 = Value.slice a5 (W ++ [u]).length c5 by rw [hl5]]
        clear o5 g5 O3 hlt hnew hit3 B3 hz3
        generalize hW5 : W ++ [u] = W5 at HO5 HINV hl5 ⊢
        have hl6 : W5.length ≤ k + 1 := by omega
        clear hW5 hl5 hnx
        have HP5 : Hid (w5.iterPos w.heap.size = k + 1) := iterPos_of hit5
        go_wp2
        go_roundw
        case rel => exact ⟨k + 1, k + 1, W5, by omega, by omega, hl6, by go_num, HINV.out, hit5, hz5, a5, c5, rfl, HO5.out, B5⟩
        case measure => rw [HP5.out, HP.out]; omega
      · have hrk : ¬ r = kk := fun e => by
          by_cases hb : (s.getD k 0).toNat < 128
          · have h1 := (HR.out.small hb).1
            exact hmk (by rw [← UInt8.toNat_inj]; omega)
          · have h1 := (HR.out.big (by omega)).1
            omega
        have hne : ((r : Int) == (kk : Int)) = false := by simp; omega
        have HINV : Hid (W ++ partsA mk ((s.drop m).take (k + d - m)) (s.drop (k + d)) = partsA mk [] s) := by
          have h := HI.out
          rw [parts_skip mk s m k d hm (by have := HN.out; omega) (fun j hj e => by
            by_cases hb : (s.getD k 0).toNat < 128
            · have h1 := (HR.out.small hb).2
              obtain rfl : j = 0 := by omega
              exact hmk e
            · have h1 := (HR.out.big (by omega)).2 j hj
              rw [e] at h1
              omega)] at h
          exact h
        clear hmk HI HR hrk
        have HP5 : Hid (V.iterPos w.heap.size = k + d) := iterPos_of hit2
        go_wp2
        go_roundw
        case rel => exact ⟨k + d, m, W, by omega, by omega, by omega, rfl, HINV.out, hit2, hz2, a, c, rfl, O2, B2⟩
        case measure => rw [HP5.out, HP.out]; omega
    · have hkk2 : k = n := by omega
      subst hkk2
      have hp : ¬ k < (⟨s.toArray⟩ : ByteArray).size := by rw [hsz]; exact hkn
      have hnx := fun ty => Lib.run_next_end_at (P := Tryd.prog) wr w.heap.size ⟨s.toArray⟩ k ty hit hp
      obtain ⟨u, hu⟩ : ∃ u, (s.drop m).take (k - m) = u := ⟨_, rfl⟩
      have hex : (⟨s.toArray⟩ : ByteArray).extract m k = ⟨u.toArray⟩ := by rw [ext_txt, hu]
      have HV : Hid (W ++ [u] = partsA mk [] s) := by
        have h := HI.out
        rw [hu, List.drop_of_length_le (by have := HN.out; omega)] at h
        exact h
      clear hu HI hp hkn
      have X := Box.new wr #[txt u] 9
      have O3 := owns_below O (bel_alloc (Below.refl wr.heap.size wr) (.cells #[txt u] 9))
      have B3 := bel_alloc B (.cells #[txt u] 9)
      have hz3 : w.heap.size + 1 ≤ (wr.alloc (.cells #[txt u] 9)).heap.size := by simp; omega
      have hnew : Hid (∀ j x, [txt u][j]? = some x → ∃ b off, (some ⟨wr.heap.size, 0, none⟩ : Option Addr) = some ⟨b, off, none⟩ ∧ (wr.alloc (.cells #[txt u] 9)).cell? ⟨b, off + j, none⟩ = some x) := fun j x hx => by
        match j, hx with
        | 0, hx =>
          simp at hx
          subst hx
          exact ⟨_, _, rfl, X.cell 0⟩
        | j + 1, hx => simp at hx
      clear X O B
      go_wp2_with (at_builtin; refine wpList_append_rowYtfigbfddhmgafaaDoor rfl (.tmp 27) (.tmp 31) 39 rfl (w.heap.size + 1) 9 i1 (.string ⟨#[]⟩) 1 16 Tryd.underlying39 hi1 hz10 hz11 hz12 rfl (by decide) (.slice a W.length c) W.length (W.map txt) (by rfl) O3 (some ⟨wr.heap.size, 0, none⟩) 1 1 [txt u] (by rfl) rfl hnew.out (by intro x hx; simp at hx; subst hx; rfl) (by unfold maxLen; omega) (by omega) hz3 ?_)
      intro v1 w5 o5 g5
      have hlt : ∀ j, (Value.slice a W.length c).ownBlock = some j → w.heap.size + 1 ≤ j := fun j h => (O3.lt j h).1
      have B5 := B3.grown g5 B3.size (fun j hj => by have := hlt j hj; omega)
      obtain ⟨a5, c5, rfl⟩ := owns_slice o5
      have HO5 : Hid (w5.ownsRow (w.heap.size + 1) 9 1 (.slice a5 (partsA mk [] s).length c5) (partsA mk [] s).length ((partsA mk [] s).map txt)) := by
        have h := o5
        rw [show W.map txt ++ [txt u] = (W ++ [u]).map txt by simp] at h
        rw [show W.length + 1 = (W ++ [u]).length by simp, HV.out] at h
        exact h
      have HL : Hid (W.length + 1 = (partsA mk [] s).length) := by show _ = _; rw [← HV.out]; simp
      clear o5 g5 O3 hlt hnew B3 hz3 hnx
      go_wp2
      go_ret
      rw [HL.out]
      exact ⟨a5, c5, rfl, owns_base HO5.out (by omega), B5⟩
end Go.Proofs.YtfigbfddhmgafaaDoor
