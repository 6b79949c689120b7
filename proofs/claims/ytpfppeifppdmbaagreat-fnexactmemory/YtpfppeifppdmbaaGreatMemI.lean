/- What impl.Memory answers (written by mk14i.py out of Mem1). -/
import Derived.Test.YtpfppeifppdmbaaGreatMem1
import Derived.Test.YtpfppeifppdmbaaGreatNfV
import Derived.WalkMore
namespace Go.Proofs.YtpfppeifppdmbaaGreat
open Go.RowKit
set_option linter.unusedVariables false

theorem make_24 (W : World) : (Instr.makeSlice 27 (.int .i64 0) (.int .i64 24)).run Tryz.prog W = .ok (.slice (some ⟨W.heap.size, 0, none⟩) 0 24) (W.alloc (.cells (madeCells #[.int .i64 0] 24) 3)) := by
  obtain ⟨i1, hi1, hz10, hz11, hz12⟩ := info_parts info_i64
  have hr := run_make (P := Tryz.prog) W 27 3 i1 (.int .i64 0) Tryz.underlying27 hi1 hz10 .i64 .i64 0 24 (by omega) (by omega) (by rw [hz12]; decide) (by omega)
  rw [hz11] at hr
  exact hr

set_option maxRecDepth 100000 in
set_option maxHeartbeats 4000000 in
theorem implMemory_any (d : WoD) (p : WoP) (w : World) (hbs : ∀ i, i < d.nn → ∀ j, j < (d.d i).nh → ((d.d i).h j).bs.length ≤ 1048577) (hR : WoR w d p) :
    Calls Tryz.prog 7 #[.agg (wcells d p)] w (IntsP (memW d) w) := by
  obtain ⟨i1, hi1, hz10, hz11, hz12⟩ := info_parts info_i64
  have HR : Hid (WoR w d p) := hR
  have HBS : Hid (∀ i, i < d.nn → ∀ j, j < (d.d i).nh → ((d.d i).h j).bs.length ≤ 1048577) := hbs
  have hX : Hid (Box ((w.alloc (.cells (wcells d p) 32)).alloc (.cells (madeCells #[.int .i64 0] 24) 3)) w.heap.size (wcells d p) 32) := (Box.new w (wcells d p) 32).below (bel_alloc (Below.refl _ _) _)
  have HB : Hid (Below w.heap.size w ((w.alloc (.cells (wcells d p) 32)).alloc (.cells (madeCells #[.int .i64 0] 24) 3))) := bel_alloc (bel_alloc (Below.refl _ _) _) _
  have HO : Hid (((w.alloc (.cells (wcells d p) 32)).alloc (.cells (madeCells #[.int .i64 0] 24) 3)).ownsRow (w.heap.size + 1) 3 1 (.slice (some ⟨w.heap.size + 1, 0, none⟩) 0 24) 0 ((memL d 0).map (Value.int .i64))) := by
    have h := World.ownsRow_made (base := w.heap.size + 1) (e := 3) (size := 1) (w.alloc (.cells (wcells d p) 32)) (madeCells #[.int .i64 0] 24) 24 (by simp) (by simp [maxLen]) (size_madeCells _ _)
    simp only [World.size_alloc] at h
    exact h
  have hmk := make_24
  clear hR hbs
  go_enter Tryz.func7, Tryz.ntmps7
  go_wp2
  go_step3
  go_wp2
  go_step3
  go_wp2
  clear hmk
  go_loopw [3, 7] (fun v i wr => ∃ k : Nat, k ≤ 6 ∧ i = .int .i64 k ∧ (∀ q : Nat, q < k → (truW d (q : Int)).length = 4) ∧ ∃ (a : Option Addr) (c : Nat), v = .slice a (4 * k) c ∧ wr.ownsRow (w.heap.size + 1) 3 1 (.slice a (4 * k) c) (4 * k) ((memL d k).map (Value.int .i64)) ∧ Box wr w.heap.size (wcells d p) 32 ∧ Below w.heap.size w wr) (fun _ i _ => 6 - (intOf i).toNat)
  case atStart => exact ⟨0, by omega, rfl, fun q hq => absurd hq (Nat.not_lt_zero q), _, _, rfl, HO.out, hX.out, HB.out⟩
  case round =>
    obtain ⟨k, hk, rfl, hall, a, c, rfl, O, X, B⟩ := hrel
    have HA : Hid (∀ q : Nat, q < k → (truW d (q : Int)).length = 4) := hall
    clear hall hX HB HO
    by_cases hk6 : k < 6
    · have hi : (k : Int) < 6 := by omega
      obtain ⟨x0, x1, x2, xz⟩ := X.at3
      have hr := HR.out.below B
      go_wp2_with fail
      refine (implTruth_any d p (k : Int) _ HBS.out hr).mono ?_
      rintro e w1 ⟨a1, c1, rfl, o1, b1⟩
      have L1 : Hid (∀ j, (Value.slice a1 (truW d (k : Int)).length c1).ownBlock = some j → wr.heap.size ≤ j) := fun j hj => (o1.lt j hj).1
      replace X := X.below b1
      replace O := owns_below O b1
      replace B := bel_trans B b1
      clear b1 hr x0 x1 x2 xz
      obtain ⟨n, hn⟩ : ∃ n, (truW d (k : Int)).length = n := ⟨_, rfl⟩
      have HN : Hid ((truW d (k : Int)).length = n) := hn
      rw [hn] at o1 L1 ⊢
      by_cases h4 : n = 4
      · subst h4
        have hv := owns_vrow' o1 (by rw [List.length_map, hn]; omega)
        have hz : w.heap.size + 1 ≤ w1.heap.size := by have := X.lt; omega
        clear hn
        go_wp2_with (at_builtin; refine wpList_append_rowYtpfppeifppdmbaaGreat rfl (.tmp 17) (.tmp 18) 27 rfl (w.heap.size + 1) 3 i1 (.int .i64 0) 1 8 Tryz.underlying27 hi1 hz10 hz11 hz12 rfl (by decide) (.slice a (4 * k) c) (4 * k) ((memL d k).map (Value.int .i64)) (by rfl) O a1 4 c1 ((truW d (k : Int)).map (Value.int .i64)) (by rfl) (by rw [List.length_map, HN.out]) hv.2 (by intro u hu; obtain ⟨x, _, rfl⟩ := List.mem_map.1 hu; rfl) (by unfold maxLen; omega) (by omega) hz ?_)
        intro v1 w5 o5 g5
        have hlt : Hid (∀ j, (Value.slice a (4 * k) c).ownBlock = some j → w.heap.size + 1 ≤ j) := fun j h => (O.lt j h).1
        replace X := X.kept g5 (fun j hj => by have := hlt.out j hj; omega)
        replace B := B.grown g5 B.size (fun j hj => by have := hlt.out j hj; omega)
        obtain ⟨a5, c5, rfl⟩ := owns_slice o5
        have HO5 : Hid (w5.ownsRow (w.heap.size + 1) 3 1 (.slice a5 (4 * (k + 1)) c5) (4 * (k + 1)) ((memL d (k + 1)).map (Value.int .i64))) := by
          have h := o5
          rw [← List.map_append] at h
          exact h
        have HT : Hid (∀ q : Nat, q < k + 1 → (truW d (q : Int)).length = 4) := fun q hq => by
          by_cases e : q = k
          · subst e; exact HN.out
          · exact HA.out q (by omega)
        clear o5 g5 O o1 hv hz
        go_wp2
        go_roundw
        case rel => exact ⟨k + 1, by omega, by go_num, HT.out, a5, c5, rfl, HO5.out, X, B⟩
        case measure => simp [intOf]; omega
      · have e4 : ((n : Int) != 4) = true := by simp; omega
        have HV : Hid (memW d = []) := memW_no hk6 (by rw [hn]; exact h4)
        clear hn X O o1
        go_wp2
        rw [Exit.noGoto_ret]
        go_ret
        rw [HV.out]
        exact ⟨none, 0, rfl, ⟨rfl, .inl ⟨rfl, rfl⟩⟩, B⟩
    · have hk66 : k = 6 := by omega
      subst hk66
      have HV : Hid (memW d = memL d 6 ∧ (memL d 6).length = 24) := ⟨memW_yes HA.out, memL_len HA.out⟩
      clear X
      go_wp2
      go_ret
      rw [HV.out.1]
      exact ints_of HV.out.2 (owns_base O (by omega)) B
end Go.Proofs.YtpfppeifppdmbaaGreat
