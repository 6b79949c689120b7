/- What impl's Work answers. -/
import Derived.Test.YtiilgkloddflcaaHd9
namespace Go.Proofs.Ytiilgkloddflcaa
open Go.RowKit
set_option linter.unusedVariables false

set_option maxRecDepth 100000 in
set_option maxHeartbeats 4000000 in
theorem implWork_any (p : Option Addr) (c : Nat) (xs : List Int) (pc st op r a b n got : Int) (w : World) (ha : Row .i64 w p xs) (hsm : xs.length ≤ 1048577) :
    Calls Try.prog 24 #[.agg #[.slice p xs.length c, .int .i64 pc, .int .i64 st], .agg (icells op r a b n), .int .i64 got] w (WorkP (workR xs pc st op r a b n got) w) := by
  have bA := bel_alloc (bel_alloc (bel_alloc (Below.refl w.heap.size w) (.cells #[.slice p xs.length c, .int .i64 pc, .int .i64 st] 27)) (.cells (icells op r a b n) 37)) (.cells #[.slice none 0 0, .int .i64 0, .int .i64 0] 27)
  have X3 := (Box.two w #[.slice p xs.length c, .int .i64 pc, .int .i64 st] (icells op r a b n) 27 37).1.below (bel_alloc (Below.refl _ _) (.cells #[.slice none 0 0, .int .i64 0, .int .i64 0] 27))
  have X4 := (Box.two w #[.slice p xs.length c, .int .i64 pc, .int .i64 st] (icells op r a b n) 27 37).2.below (bel_alloc (Below.refl _ _) (.cells #[.slice none 0 0, .int .i64 0, .int .i64 0] 27))
  have X6 := Box.new ((w.alloc (.cells #[.slice p xs.length c, .int .i64 pc, .int .i64 st] 27)).alloc (.cells (icells op r a b n) 37)) #[.slice none 0 0, .int .i64 0, .int .i64 0] 27
  simp only [World.size_alloc] at X6
  have HA : Hid (Row .i64 w p xs) := ha
  have hra := ha.below bA
  clear ha
  go_enter Try.func24, Try.ntmps24
  go_wp2_with fail
  refine (copyHart_any p c xs pc st _ hsm hra).mono ?_
  rintro e w1 ⟨aC, cC, rfl, oC, b1⟩
  have hz1 := b1.size
  simp only [World.size_alloc] at hz1
  have bx := bel_alloc (Below.refl w1.heap.size w1) (.cells #[.slice aC xs.length cC, .int .i64 pc, .int .i64 st] 27)
  have X8 := Box.new w1 #[.slice aC xs.length cC, .int .i64 pc, .int .i64 st] 27
  replace X3 := (X3.below b1).below bx
  replace X4 := (X4.below b1).below bx
  replace X6 := (X6.below b1).below bx
  have hlC : Hid (∀ j, (Value.slice aC xs.length cC).ownBlock = some j → w.heap.size + 3 ≤ j) := fun j h => by have := (oC.lt j h).1; simp at this; omega
  have HG8 : Hid (∀ j, (Value.slice aC xs.length cC).ownBlock = some j → j < w1.heap.size) := fun j h => (oC.lt j h).2
  replace oC := owns_below oC bx
  have B1 := bel_trans (bel_trans bA b1) bx
  have hr1 := HA.out.below B1
  clear bA b1 bx hra
  obtain ⟨x0, x1, x2, xz⟩ := X3.at3
  go_wp2_with fail
  refine (runs_any p c xs pc st _ hr1 hsm).mono ?_
  rintro e w2 ⟨rfl, b2⟩
  replace X3 := X3.below b2
  replace X4 := X4.below b2
  replace X6 := X6.below b2
  replace X8 := X8.below b2
  replace oC := owns_below oC b2
  have HB : Hid (Below w.heap.size w w2) := bel_trans B1 b2
  clear x0 x1 x2 xz b2 B1 hr1
  have HO : Hid (w2.ownsRow w.heap.size 3 1 (.slice aC xs.length cC) xs.length (xs.map (Value.int .i64))) := owns_base oC (by simp; omega)
  clear oC
  have hsz2 : Hid (w1.heap.size < w2.heap.size) := X8.lt
  obtain ⟨k0, k1, k2, kz⟩ := X8.at3
  obtain ⟨m0, m1, m2, mz⟩ := X6.at3
  have fm0 := X6.frozen 0
  have fm1 := X6.frozen 1
  have fm2 := X6.frozen 2
  have hm6 : Hid (∀ j, (Value.slice aC xs.length cC).ownBlock = some j → w.heap.size + 1 + 1 ≠ j) := fun j hj => by have := hlC.out j hj; omega
  have END : Hid (workR xs pc st op r a b n got = (xs, pc, st, -1) → ∀ x y z : Value, WorkP (workR xs pc st op r a b n got) w (.returned (.tuple #[.agg #[.slice aC xs.length cC, .int .i64 pc, .int .i64 st], .int .i64 (-1)])) (((w2.setCell ⟨w.heap.size + 1 + 1, 0, none⟩ x).setCell ⟨w.heap.size + 1 + 1, 1, none⟩ y).setCell ⟨w.heap.size + 1 + 1, 2, none⟩ z)) := fun hR x y z =>
    work_end hR rfl HO.out (Nat.le_refl _) HB.out (by omega) hm6.out x y z
  cases hk : hartB xs pc st && (st == 0)
  · have HR : Hid (workR xs pc st op r a b n got = (xs, pc, st, -1)) := by
      show _ = _
      unfold workR
      rw [← Bool.and_assoc, hk]
      rfl
    obtain ⟨N, hN⟩ : ∃ N, xs.length = N := ⟨_, rfl⟩
    rw [hN] at k0 END
    clear hk hN HO hm6 hlC HG8 X3 X8
    go_wp2
    refine bodyPost_ret (v := .tuple #[.agg #[.slice aC N cC, .int .i64 pc, .int .i64 st], .int .i64 (-1)]) (by simp [results, Try.results24, go_sem, m0, m1, m2]) rfl ?_
    exact END.out HR.out _ _ _
  · have h1 : hartB xs pc st = true ∧ st = 0 := by
      rw [Bool.and_eq_true] at hk
      exact ⟨hk.1, by simpa using hk.2⟩
    obtain ⟨h1, rfl⟩ := h1
    have H1 : Hid (hartB xs pc 0 = true) := h1
    go_wp2_with fail
    refine (isWord9_any got _).mono ?_
    rintro e w3 ⟨rfl, h⟩
    replace h := h.symm
    subst h
    cases hg : inB got 0 65535
    · have HR : Hid (workR xs pc 0 op r a b n got = (xs, pc, 0, -1)) := by
        show _ = _
        unfold workR
        rw [hg, h1]
        rfl
      obtain ⟨N, hN⟩ : ∃ N, xs.length = N := ⟨_, rfl⟩
      rw [hN] at k0 END
      clear hk hN HO hm6 hlC HG8 X3 X8 h1 hg
      go_wp2
      refine bodyPost_ret (v := .tuple #[.agg #[.slice aC N cC, .int .i64 pc, .int .i64 0], .int .i64 (-1)]) (by simp [results, Try.results24, go_sem, m0, m1, m2]) rfl ?_
      exact END.out HR.out _ _ _
    · have HG : Hid (inB got 0 65535 = true) := hg
      have hl4 : xs.length = 4 := (hart_parts h1).1
      have HL4 : Hid (xs.length = 4) := hl4
      rw [hl4] at X8 HO hlC HG8
      obtain ⟨g, cap, hv, hgl, hgz⟩ := HO.out.form (by decide)
      simp only [Value.slice.injEq, true_and] at hv
      obtain ⟨rfl, rfl⟩ := hv
      have hg3 := hlC.out g rfl
      have hg8 : g < w1.heap.size := HG8.out g rfl
      have HD : Hid _ := do_any w1.heap.size g cC w.heap.size xs pc op r a b n got w2 X8 HO.out (by omega) h1 hg
      obtain ⟨i0, i1, i2, i3, i4, iz⟩ := X4.at5i
      have HX6 : Hid (Box w2 (w.heap.size + 1 + 1) #[.slice none 0 0, .int .i64 0, .int .i64 0] 27) := X6
      clear END hk h1 hg hl4 X3 X4 X6 X8 HO hlC HG8 hgl hgz hm6 k0 k1 k2 kz m0 m1 m2 mz fm0 fm1 fm2
      go_wp2_with fail
      refine Calls.mono HD.out ?_
      rintro e w4 ⟨rfl, Y8, YO, K⟩
      have Y6 := HX6.out.only K (by omega)
      have hl5 : (workR xs pc 0 op r a b n got).1.length = 4 := by rw [workR_len]; exact HL4.out
      obtain ⟨R, hR⟩ : ∃ R, workR xs pc 0 op r a b n got = R := ⟨_, rfl⟩
      rw [hR] at Y8 YO hl5 ⊢
      obtain ⟨L, q, s, v⟩ := R
      have HRR : Hid (workR xs pc 0 op r a b n got = (L, q, s, v)) := hR
      have HL5 : Hid (L.length = 4) := hl5
      have HO4 : Hid (w4.ownsRow w.heap.size 3 1 (.slice (some ⟨g, 0, none⟩) 4 cC) 4 (L.map (Value.int .i64))) := YO
      have HB4 : Hid (Below w.heap.size w w4) := (K.kept (lo := w.heap.size + 3) (hi := w1.heap.size + 1) (fun i hi => by rcases hi with rfl | rfl <;> omega)).bel HB.out (by omega)
      clear hl5 YO K hR HD HX6 HB
      dsimp only at Y8 ⊢
      obtain ⟨k0, k1, k2, kz⟩ := Y8.at3
      obtain ⟨m0, m1, m2, mz⟩ := Y6.at3
      have fm0 := Y6.frozen 0
      have fm1 := Y6.frozen 1
      have fm2 := Y6.frozen 2
      clear Y8 Y6
      go_wp2
      refine bodyPost_ret (v := .tuple #[.agg #[.slice (some ⟨g, 0, none⟩) 4 cC, .int .i64 q, .int .i64 s], .int .i64 v]) (by simp [results, Try.results24, go_sem, m0, m1, m2]) rfl ?_
      refine work_end HRR.out HL5.out HO4.out (Nat.le_refl _) HB4.out ?_ ?_ _ _ _
      · omega
      · intro j hj
        simp [Value.ownBlock] at hj
        omega
end Go.Proofs.Ytiilgkloddflcaa
