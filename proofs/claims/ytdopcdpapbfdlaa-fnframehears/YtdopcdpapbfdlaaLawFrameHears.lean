/- For every list of bytes the law FnFrameHears returns true: a drawn frame that hears from home has what it is told, or gives up what it had; what is to write is told back. Conditions: none. -/
import Derived.Test.YtdopcdpapbfdlaaDrawF2
import Derived.Test.YtdopcdpapbfdlaaFrmHs
import Derived.Test.YtdopcdpapbfdlaaOpen
namespace Go.Proofs.Ytdopcdpapbfdlaa
open Go.ChangeShapes Go.WideShapes Go.ChangeAt Go.RowKit
set_option linter.unusedVariables false

theorem bigH_any (a : Option Addr) (n ca : Nat) (w : World) (hl : (n : Int) ≤ 1048576) :
    Calls Try.prog 9 #[.slice a n ca] w fun e w' => e = .returned (.bool false) ∧ w' = w := by
  go_enter Try.func9, Try.ntmps9
  go_wp2
  go_ret
  exact ⟨ret_bool (by simp; omega), rfl⟩

theorem hear_len5 (s : Int) (q : Bool) (xs : List Int) (k p : Int) (o : Bool) (ys : List Int) (hx : xs.length ≤ 5) (hy : ys.length ≤ 5) : (hearR s q xs k p o ys).fl.length ≤ 5 ∧ (hearR s q xs k p o ys).ml.length ≤ 5 := by
  rcases hear_cases s q xs k p o ys with ⟨_, h⟩ | ⟨_, _, h⟩ | ⟨_, _, ⟨_, h⟩ | ⟨_, h⟩ | ⟨_, _, _, h⟩ | ⟨_, _, _, h⟩ | ⟨_, _, h⟩ | ⟨_, _, _, h⟩⟩
  all_goals
    rw [h]
    simp
    try omega

theorem frame_two {xs : List Int} (h : frameOkB 2 xs = true) : wordsB xs 4 = true ∧ frameOkB 1 xs = true := by
  rw [frame_some rfl] at h
  simp only [Bool.and_eq_true] at h
  refine ⟨h.2, ?_⟩
  rw [frame_some rfl, h.2]
  rfl

namespace LawFnFrameHears
set_option maxRecDepth 100000 in
set_option maxHeartbeats 8000000 in
theorem walk (a : Option Addr) (ca : Nat) (bs : List Int) (w : World) (hc : Came .u8 w a ca bs) :
    Calls Try.prog 6 #[.slice a bs.length ca] w fun e w' => e = .returned (.bool true) ∧ Below w.heap.size w w' := by
  by_cases hl : 1048576 < bs.length
  · have hn : bs.length ≤ maxLen := Nat.le_trans hc.1 hc.2.1
    have hl' : (1048576 : Int) < bs.length := by omega
    clear hc
    go_enter Try.func6, Try.ntmps6
    go_wp2
    go_ret
    exact ⟨rfl, Below.refl _ _⟩
  · have hr := hc.row (by omega)
    have hl' : (bs.length : Int) ≤ 1048576 := by omega
    clear hc
    go_enter Try.func6, Try.ntmps6
    go_wp2_with fail
    refine (bigH_any a bs.length ca _ hl').mono ?_
    rintro e w0 ⟨rfl, h⟩
    subst h
    go_wp2_with fail
    refine (drawFHear_any a ca bs _ hr).mono ?_
    rintro e w1 ⟨s, q, v1, xs, k, p, o, v2, ys, rfl, hxl, hyl, OF, OM, B⟩
    obtain ⟨aF, cF, rfl⟩ := owns_slice OF
    obtain ⟨aM, cM, rfl⟩ := owns_slice OM
    clear hr hl'
    obtain ⟨R, hR⟩ : ∃ R, hearR s q xs k p o ys = R := ⟨_, rfl⟩
    have HRR : Hid (hearR s q xs k p o ys = R) := hR
    have hRl := hear_len5 s q xs k p o ys hxl hyl
    rw [hR] at hRl
    obtain ⟨hfl, hml⟩ := hRl
    clear hR
    go_wp2_with fail
    obtain ⟨XF, XM⟩ := Box.two w1 #[.int .i64 s, .slice aF xs.length cF, .bool q] #[.int .i64 k, .int .i64 p, .bool o, .slice aM ys.length cM] 50 26
    have bx := bel_alloc (bel_alloc (Below.refl w1.heap.size w1) (.cells #[.int .i64 s, .slice aF xs.length cF, .bool q] 50)) (.cells #[.int .i64 k, .int .i64 p, .bool o, .slice aM ys.length cM] 26)
    replace OF := owns_below OF bx
    replace OM := owns_below OM bx
    replace B := bel_trans B bx
    clear bx
    refine (implHear_any s q aF cF xs k p o aM cM ys _ (by omega) (owns_row' OF (by omega)) (owns_row' OM (by omega))).mono ?_
    rw [HRR.out]
    rintro e w2 ⟨v3, v4, rfl, OG, OT, _, b2⟩
    obtain ⟨aG, cG, rfl⟩ := owns_slice OG
    obtain ⟨aT, cT, rfl⟩ := owns_slice OT
    replace XF := XF.below b2
    replace XM := XM.below b2
    replace OF := owns_below OF b2
    replace OM := owns_below OM b2
    replace B := bel_trans B b2
    clear b2
    obtain ⟨f0, f1, f2, fz⟩ := XF.at3
    obtain ⟨m0, m1, m2, m3, mz⟩ := XM.at4
    go_wp2_with fail
    clear f0 f1 f2 fz m0 m1 m2 m3 mz
    obtain ⟨XG, XT⟩ := Box.two w2 #[.int .i64 R.fs, .slice aG R.fl.length cG, .bool R.fq] #[.int .i64 R.mkd, .int .i64 R.mp, .bool false, .slice aT R.ml.length cT] 50 26
    have bx := bel_alloc (bel_alloc (Below.refl w2.heap.size w2) (.cells #[.int .i64 R.fs, .slice aG R.fl.length cG, .bool R.fq] 50)) (.cells #[.int .i64 R.mkd, .int .i64 R.mp, .bool false, .slice aT R.ml.length cT] 26)
    replace XF := XF.below bx
    replace XM := XM.below bx
    replace OF := owns_below OF bx
    replace OM := owns_below OM bx
    replace OG := owns_below OG bx
    replace OT := owns_below OT bx
    replace B := bel_trans B bx
    clear bx
    refine (specHear_any s q aF cF xs k p o aM cM ys _ (by omega) (owns_row' OF (by omega)) (owns_row' OM (by omega))).mono ?_
    rw [HRR.out]
    rintro e w3 ⟨v5, v6, rfl, OH, OL, _, b3⟩
    obtain ⟨aH, cH, rfl⟩ := owns_slice OH
    obtain ⟨aL, cL, rfl⟩ := owns_slice OL
    replace XF := XF.below b3
    replace XM := XM.below b3
    replace XG := XG.below b3
    replace XT := XT.below b3
    replace OF := owns_below OF b3
    replace OM := owns_below OM b3
    replace OG := owns_below OG b3
    replace OT := owns_below OT b3
    replace B := bel_trans B b3
    clear b3
    obtain ⟨f0, f1, f2, fz⟩ := XG.at3
    obtain ⟨m0, m1, m2, m3, mz⟩ := XT.at4
    go_wp2_with fail
    clear f0 f1 f2 fz m0 m1 m2 m3 mz
    obtain ⟨XH, XL⟩ := Box.two w3 #[.int .i64 R.fs, .slice aH R.fl.length cH, .bool R.fq] #[.int .i64 R.mkd, .int .i64 R.mp, .bool false, .slice aL R.ml.length cL] 50 26
    have bx := bel_alloc (bel_alloc (Below.refl w3.heap.size w3) (.cells #[.int .i64 R.fs, .slice aH R.fl.length cH, .bool R.fq] 50)) (.cells #[.int .i64 R.mkd, .int .i64 R.mp, .bool false, .slice aL R.ml.length cL] 26)
    replace XF := XF.below bx
    replace XM := XM.below bx
    replace XG := XG.below bx
    replace XT := XT.below bx
    replace OF := owns_below OF bx
    replace OM := owns_below OM bx
    replace OG := owns_below OG bx
    replace OT := owns_below OT bx
    replace OH := owns_below OH bx
    replace OL := owns_below OL bx
    replace B := bel_trans B bx
    clear bx
    refine (sameInts_any aG aH cG cH R.fl _ (owns_row' OG (by omega)) (owns_row' OH (by omega))).mono ?_
    rintro e w4 ⟨rfl, d4, h4⟩
    replace XF := XF.dr h4
    replace XM := XM.dr h4
    replace XG := XG.dr h4
    replace XT := XT.dr h4
    replace XH := XH.dr h4
    replace XL := XL.dr h4
    replace OF := owns_dr h4 OF
    replace OM := owns_dr h4 OM
    replace OG := owns_dr h4 OG
    replace OT := owns_dr h4 OT
    replace OH := owns_dr h4 OH
    replace OL := owns_dr h4 OL
    replace B := bel_dr h4 B
    clear h4 
    obtain ⟨f0, f1, f2, fz⟩ := XG.at3
    obtain ⟨h0, h1, h2, hz⟩ := XH.at3
    obtain ⟨m0, m1, m2, m3, mz⟩ := XT.at4
    obtain ⟨n0, n1, n2, n3, nz⟩ := XL.at4
    go_wp2_with fail
    refine (sameInts_any aT aL cT cL R.ml _ (owns_row' OT (by omega)) (owns_row' OL (by omega))).mono ?_
    rintro e w5 ⟨rfl, d5, h5⟩
    replace XF := XF.dr h5
    replace XM := XM.dr h5
    replace XG := XG.dr h5
    replace XT := XT.dr h5
    replace XH := XH.dr h5
    replace XL := XL.dr h5
    replace OF := owns_dr h5 OF
    replace OM := owns_dr h5 OM
    replace OG := owns_dr h5 OG
    replace OT := owns_dr h5 OT
    replace OH := owns_dr h5 OH
    replace OL := owns_dr h5 OL
    replace B := bel_dr h5 B
    clear h5 f0 f1 f2 fz h0 h1 h2 hz m0 m1 m2 m3 mz n0 n1 n2 n3 nz
    clear XH XL OH OL
    obtain ⟨f0, f1, f2, fz⟩ := XF.at3
    go_wp2_with fail
    refine (specFrameOk_any s q aF cF xs _ (owns_row' OF (by omega))).mono ?_
    rintro e w6 ⟨rfl, b6⟩
    clear f0 f1 f2 fz
    replace XF := XF.below b6
    replace XM := XM.below b6
    replace XG := XG.below b6
    replace XT := XT.below b6
    replace OF := owns_below OF b6
    replace OM := owns_below OM b6
    replace OG := owns_below OG b6
    replace OT := owns_below OT b6
    replace B := bel_trans B b6
    clear b6
    have hRc := hear_cases s q xs k p o ys
    rw [HRR.out] at hRc
    clear HRR
    rcases hRc with ⟨hf, rfl⟩ | ⟨hf, hk, rfl⟩ | ⟨hf, hk, hc⟩
    · try dsimp only at XG XT OG OT hfl hml
      obtain ⟨g0, g1, g2, gz⟩ := XG.at3
      obtain ⟨f0, f1, f2, fz⟩ := XF.at3
      obtain ⟨t0, t1, t2, t3, tz⟩ := XT.at4
      go_wp2_with fail
      refine (sameInts_any aG aF cG cF xs _ (owns_row' OG (by omega)) (owns_row' OF (by omega))).mono ?_
      rintro e w9 ⟨rfl, d9, h9⟩
      subst h9
      clear XF XM XG XT OF OM OG OT
      go_wp2
      go_ret
      exact ⟨rfl, below_drewN B d9⟩
    · obtain ⟨m0, m1, m2, m3, mz⟩ := XM.at4
      go_wp2_with fail
      refine (specMsgOk_any k p o aM cM ys _ (owns_row' OM (by omega))).mono ?_
      rintro e w7 ⟨rfl, b7⟩
      clear m0 m1 m2 m3 mz
      replace XF := XF.below b7
      replace XM := XM.below b7
      replace XG := XG.below b7
      replace XT := XT.below b7
      replace OF := owns_below OF b7
      replace OM := owns_below OM b7
      replace OG := owns_below OG b7
      replace OT := owns_below OT b7
      replace B := bel_trans B b7
      clear b7
      try dsimp only at XG XT OG OT hfl hml
      obtain ⟨g0, g1, g2, gz⟩ := XG.at3
      obtain ⟨f0, f1, f2, fz⟩ := XF.at3
      obtain ⟨t0, t1, t2, t3, tz⟩ := XT.at4
      go_wp2_with fail
      refine (sameInts_any aG aF cG cF xs _ (owns_row' OG (by omega)) (owns_row' OF (by omega))).mono ?_
      rintro e w9 ⟨rfl, d9, h9⟩
      subst h9
      clear XF XM XG XT OF OM OG OT
      go_wp2
      go_ret
      exact ⟨rfl, below_drewN B d9⟩
    · obtain ⟨m0, m1, m2, m3, mz⟩ := XM.at4
      go_wp2_with fail
      refine (specMsgOk_any k p o aM cM ys _ (owns_row' OM (by omega))).mono ?_
      rintro e w7 ⟨rfl, b7⟩
      clear m0 m1 m2 m3 mz
      replace XF := XF.below b7
      replace XM := XM.below b7
      replace XG := XG.below b7
      replace XT := XT.below b7
      replace OF := owns_below OF b7
      replace OM := owns_below OM b7
      replace OG := owns_below OG b7
      replace OT := owns_below OT b7
      replace B := bel_trans B b7
      clear b7
      rcases hc with ⟨rfl, rfl⟩ | ⟨rfl, rfl⟩ | ⟨rfl, rfl, rfl, rfl⟩ | ⟨rfl, rfl, rfl, rfl⟩ | ⟨rfl, hs, rfl⟩ | ⟨h3, h4, h6, rfl⟩
      · have hw4 : wordsB ys 4 = true := by rw [← ok_3 (ok_page' hk)]; exact hk
        cases o
        · have hfo : frameOkB 1 ys = true := by rw [frame_some rfl, hw4]; rfl
          clear hw4
          have XG2 : Box _ _ #[.int .i64 1, .slice aG ys.length cG, .bool false] 50 := XG
          clear XG
          try dsimp only at XT OG OT hfl hml
          obtain ⟨g0, g1, g2, gz⟩ := XG2.at3
          obtain ⟨m0, m1, m2, m3, mz⟩ := XM.at4
          go_wp2_with fail
          refine (frameOk_any 1 false aG cG ys _ (owns_row' OG (by omega))).mono ?_
          rw [hfo]
          rintro e w8 ⟨rfl, b8⟩
          clear g0 g1 g2 gz m0 m1 m2 m3 mz
          replace XF := XF.below b8
          replace XM := XM.below b8
          replace XT := XT.below b8
          replace XG2 := XG2.below b8
          replace OF := owns_below OF b8
          replace OM := owns_below OM b8
          replace OG := owns_below OG b8
          replace OT := owns_below OT b8
          replace B := bel_trans B b8
          clear b8
          obtain ⟨g0, g1, g2, gz⟩ := XG2.at3
          obtain ⟨m0, m1, m2, m3, mz⟩ := XM.at4
          go_wp2_with fail
          refine (sameInts_any aG aM cG cM ys _ (owns_row' OG (by omega)) (owns_row' OM (by omega))).mono ?_
          rintro e w9 ⟨rfl, d9, h9⟩
          subst h9
          go_wp2
          go_ret
          exact ⟨rfl, below_drewN B d9⟩
        · have hfo : frameOkB 2 ys = true := by rw [frame_some rfl, hw4]; rfl
          clear hw4
          have XG2 : Box _ _ #[.int .i64 2, .slice aG ys.length cG, .bool false] 50 := XG
          clear XG
          try dsimp only at XT OG OT hfl hml
          obtain ⟨g0, g1, g2, gz⟩ := XG2.at3
          obtain ⟨m0, m1, m2, m3, mz⟩ := XM.at4
          go_wp2_with fail
          refine (frameOk_any 2 false aG cG ys _ (owns_row' OG (by omega))).mono ?_
          rw [hfo]
          rintro e w8 ⟨rfl, b8⟩
          clear g0 g1 g2 gz m0 m1 m2 m3 mz
          replace XF := XF.below b8
          replace XM := XM.below b8
          replace XT := XT.below b8
          replace XG2 := XG2.below b8
          replace OF := owns_below OF b8
          replace OM := owns_below OM b8
          replace OG := owns_below OG b8
          replace OT := owns_below OT b8
          replace B := bel_trans B b8
          clear b8
          obtain ⟨g0, g1, g2, gz⟩ := XG2.at3
          obtain ⟨m0, m1, m2, m3, mz⟩ := XM.at4
          go_wp2_with fail
          refine (sameInts_any aG aM cG cM ys _ (owns_row' OG (by omega)) (owns_row' OM (by omega))).mono ?_
          rintro e w9 ⟨rfl, d9, h9⟩
          subst h9
          go_wp2
          go_ret
          exact ⟨rfl, below_drewN B d9⟩
      · have hmo : msgOkB 5 p false [] = true := by rw [ok_plain (ok_page' hk) (by omega) (by omega) (by omega) (by omega)]; rfl
        try dsimp only at XG XT OG OT hfl hml
        obtain ⟨t0, t1, t2, t3, tz⟩ := XT.at4
        go_wp2_with fail
        refine (msgOk_any 5 p false aT cT [] _ (owns_row' OT (by first | (simp; done) | omega))).mono ?_
        rw [hmo]
        rintro e w8 ⟨rfl, b8⟩
        clear t0 t1 t2 t3 tz
        replace XF := XF.below b8
        replace XM := XM.below b8
        replace XG := XG.below b8
        replace XT := XT.below b8
        replace OF := owns_below OF b8
        replace OM := owns_below OM b8
        replace OG := owns_below OG b8
        replace OT := owns_below OT b8
        replace B := bel_trans B b8
        clear b8
        obtain ⟨t0, t1, t2, t3, tz⟩ := XT.at4
        obtain ⟨g0, g1, g2, gz⟩ := XG.at3
        obtain ⟨m0, m1, m2, m3, mz⟩ := XM.at4
        go_wp2_with fail
        refine (frameOk_any 0 q aG cG [] _ (owns_row' OG (by simp))).mono ?_
        rintro e w9 ⟨rfl, b9⟩
        clear tz gz mz t0 t1 t2 t3 g0 g1 g2 m0 m1 m2 m3
        replace XF := XF.below b9
        replace XM := XM.below b9
        replace XG := XG.below b9
        replace XT := XT.below b9
        replace OF := owns_below OF b9
        replace OM := owns_below OM b9
        replace OG := owns_below OG b9
        replace OT := owns_below OT b9
        replace B := bel_trans B b9
        clear b9
        obtain ⟨m0, m1, m2, m3, mz⟩ := XM.at4
        have hfo : frameOkB 0 [] = true := rfl
        rw [hfo]
        go_wp2
        go_ret
        exact ⟨rfl, B⟩
      · obtain ⟨hw4, hf1⟩ := frame_two hf
        have hmo : msgOkB 7 p false xs = true := by rw [ok_7 (ok_page' hk), hw4]; rfl
        clear hw4
        try dsimp only at XG XT OG OT hfl hml
        obtain ⟨t0, t1, t2, t3, tz⟩ := XT.at4
        go_wp2_with fail
        refine (msgOk_any 7 p false aT cT xs _ (owns_row' OT (by first | (simp; done) | omega))).mono ?_
        rw [hmo]
        rintro e w8 ⟨rfl, b8⟩
        clear t0 t1 t2 t3 tz
        replace XF := XF.below b8
        replace XM := XM.below b8
        replace XG := XG.below b8
        replace XT := XT.below b8
        replace OF := owns_below OF b8
        replace OM := owns_below OM b8
        replace OG := owns_below OG b8
        replace OT := owns_below OT b8
        replace B := bel_trans B b8
        clear b8
        obtain ⟨t0, t1, t2, t3, tz⟩ := XT.at4
        obtain ⟨f0, f1, f2, fz⟩ := XF.at3
        go_wp2_with fail
        refine (sameInts_any aT aF cT cF xs _ (owns_row' OT (by omega)) (owns_row' OF (by omega))).mono ?_
        rintro e w9 ⟨rfl, d9, h9⟩
        replace XF := XF.dr h9
        replace XM := XM.dr h9
        replace XG := XG.dr h9
        replace XT := XT.dr h9
        replace OF := owns_dr h9 OF
        replace OM := owns_dr h9 OM
        replace OG := owns_dr h9 OG
        replace OT := owns_dr h9 OT
        replace B := bel_dr h9 B
        clear h9 t0 t1 t2 t3 tz f0 f1 f2 fz
        obtain ⟨g0, g1, g2, gz⟩ := XG.at3
        go_wp2_with fail
        refine (frameOk_any 0 q aG cG [] _ (owns_row' OG (by simp))).mono ?_
        have hfo : frameOkB 0 [] = true := rfl
        rw [hfo]
        rintro e w10 ⟨rfl, b10⟩
        clear g0 g1 g2 gz
        replace XF := XF.below b10
        replace XM := XM.below b10
        replace XG := XG.below b10
        replace XT := XT.below b10
        replace OF := owns_below OF b10
        replace OM := owns_below OM b10
        replace OG := owns_below OG b10
        replace OT := owns_below OT b10
        replace B := bel_trans B b10
        clear b10
        obtain ⟨m0, m1, m2, m3, mz⟩ := XM.at4
        go_wp2
        go_ret
        exact ⟨rfl, B⟩
      · obtain ⟨hw4, hf1⟩ := frame_two hf
        have hmo : msgOkB 7 p false xs = true := by rw [ok_7 (ok_page' hk), hw4]; rfl
        clear hw4
        try dsimp only at XG XT OG OT hfl hml
        obtain ⟨t0, t1, t2, t3, tz⟩ := XT.at4
        go_wp2_with fail
        refine (msgOk_any 7 p false aT cT xs _ (owns_row' OT (by first | (simp; done) | omega))).mono ?_
        rw [hmo]
        rintro e w8 ⟨rfl, b8⟩
        clear t0 t1 t2 t3 tz
        replace XF := XF.below b8
        replace XM := XM.below b8
        replace XG := XG.below b8
        replace XT := XT.below b8
        replace OF := owns_below OF b8
        replace OM := owns_below OM b8
        replace OG := owns_below OG b8
        replace OT := owns_below OT b8
        replace B := bel_trans B b8
        clear b8
        obtain ⟨t0, t1, t2, t3, tz⟩ := XT.at4
        obtain ⟨f0, f1, f2, fz⟩ := XF.at3
        go_wp2_with fail
        refine (sameInts_any aT aF cT cF xs _ (owns_row' OT (by omega)) (owns_row' OF (by omega))).mono ?_
        rintro e w9 ⟨rfl, d9, h9⟩
        replace XF := XF.dr h9
        replace XM := XM.dr h9
        replace XG := XG.dr h9
        replace XT := XT.dr h9
        replace OF := owns_dr h9 OF
        replace OM := owns_dr h9 OM
        replace OG := owns_dr h9 OG
        replace OT := owns_dr h9 OT
        replace B := bel_dr h9 B
        clear h9 t0 t1 t2 t3 tz f0 f1 f2 fz
        obtain ⟨g0, g1, g2, gz⟩ := XG.at3
        go_wp2_with fail
        refine (frameOk_any 1 q aG cG xs _ (owns_row' OG (by omega))).mono ?_
        rw [hf1]
        rintro e w10 ⟨rfl, b10⟩
        clear g0 g1 g2 gz
        replace XF := XF.below b10
        replace XM := XM.below b10
        replace XG := XG.below b10
        replace XT := XT.below b10
        replace OF := owns_below OF b10
        replace OM := owns_below OM b10
        replace OG := owns_below OG b10
        replace OT := owns_below OT b10
        replace B := bel_trans B b10
        clear b10
        obtain ⟨m0, m1, m2, m3, mz⟩ := XM.at4
        go_wp2
        go_ret
        exact ⟨rfl, B⟩
      · try dsimp only at XG XT OG OT hfl hml
        obtain ⟨g0, g1, g2, gz⟩ := XG.at3
        go_wp2_with fail
        refine (frameOk_any s q aG cG xs _ (owns_row' OG (by omega))).mono ?_
        rw [hf]
        rintro e w10 ⟨rfl, b10⟩
        clear g0 g1 g2 gz
        replace XF := XF.below b10
        replace XM := XM.below b10
        replace XG := XG.below b10
        replace XT := XT.below b10
        replace OF := owns_below OF b10
        replace OM := owns_below OM b10
        replace OG := owns_below OG b10
        replace OT := owns_below OT b10
        replace B := bel_trans B b10
        clear b10
        obtain ⟨m0, m1, m2, m3, mz⟩ := XM.at4
        go_wp2
        go_ret
        exact ⟨rfl, B⟩
      · have h3n : (k != 3) = true := by unfold bne; rw [h3]; rfl
        try dsimp only at XG XT OG OT hfl hml
        obtain ⟨g0, g1, g2, gz⟩ := XG.at3
        go_wp2_with fail
        refine (frameOk_any s q aG cG xs _ (owns_row' OG (by omega))).mono ?_
        rw [hf]
        rintro e w10 ⟨rfl, b10⟩
        clear g0 g1 g2 gz
        replace XF := XF.below b10
        replace XM := XM.below b10
        replace XG := XG.below b10
        replace XT := XT.below b10
        replace OF := owns_below OF b10
        replace OM := owns_below OM b10
        replace OG := owns_below OG b10
        replace OT := owns_below OT b10
        replace B := bel_trans B b10
        clear b10
        obtain ⟨m0, m1, m2, m3, mz⟩ := XM.at4
        go_wp2
        go_ret
        exact ⟨rfl, B⟩

set_option maxRecDepth 100000 in
theorem lifted (os : Os) (started : os.Started) (H : Type) (enc : TypeId × Value → H) :
    ReturnsInHanded {} Try.checked os 6 .any (Rows.fnFrameHearsSpec.pre6 enc Try.prog Try.f6 Rows.fnFrameHearsRow.domain false) (Rows.fnFrameHearsSpec.post enc Try.prog Try.f6 false true false false) := by
  refine returnsInHanded_of_change (C := Try.checked) own started (by kernel_rfl) Try.func6
    (ChangeSpec.witness6 (enc := enc) (C := Try.checked) false ⟨#[], #[.slice none 0 0], []⟩ 8 (by kernel_rfl) (by kernel_rfl) (by kernel_rfl) (by kernel_rfl)) ?_
  intro W base args ds gs before hval0 hW hcnd _
  have hval : ∀ (j : Nat) t v, Try.f6.params[j]? = some t → args[j]? = some v → Value.okWide Try.prog W .any base t v := hval0
  have hW' := hW
  obtain ⟨p, q, hA0, hV, rfl, hfz, hnd⟩ := hW
  have hA : DataW.TrodAll enc Try.prog W 0 (fun _ => true) true Try.f6.params.toList args.toList ds p := hA0
  rw [Try.params6] at hA hval
  obtain ⟨v0, vs0, d0, ds0, p0, q0, hargs, rfl, rfl, h0, r0⟩ := trodAll_cons hA
  obtain ⟨rfl, rfl, rfl⟩ := trodAll_nil r0
  obtain rfl : args = #[v0] := by cases args; simp_all
  obtain ⟨rfl, rfl⟩ := trodVars_none hV
  obtain ⟨a0, len0, cap0, rfl⟩ := okWide_slice Try.underlying22 (hval 0 22 v0 rfl rfl)
  have k0 := h0
  have lt0 : ∀ x ∈ p0, x.block < W.heap.size := by obtain ⟨m, hm⟩ := k0; exact DataW.trod_lt m _ _ _ hm
  obtain ⟨x0, rfl, w0⟩ : ∃ xs : List Int, xs.length = len0 ∧ Came .u8 W a0 cap0 xs := by
    obtain ⟨fuel, hf⟩ := h0
    rcases open_ints Try.underlying22 Try.underlying5 (by kernel_rfl) hf with ⟨hcs, _⟩ | ⟨x, l, c, zs, hcs, _, hl, hm, hz, _, hcell, hwz⟩
    · simp [Value.cells] at hcs
      obtain ⟨rfl, rfl, rfl⟩ := hcs
      exact ⟨[], rfl, came_nil _ _⟩
    · simp [Value.cells] at hcs
      obtain ⟨rfl, rfl, rfl⟩ := hcs
      have hc := came_of hl hm (by simpa using hz) hcell hwz
      exact ⟨_, hc.1, hc.2⟩
  clear hA0 hval0
  refine (walk a0 cap0 x0 W w0).mono fun e W' ⟨he, bel⟩ => ?_
  subst he
  exact ⟨_, rfl, _, _, _, [], _, [], hW', trodAll_mk1 (shut_bool Try.underlying4 _), (trodAll_cons_mk (Below.trod laidOut (by kernel_rfl) (of_decide_eq_true (by kernel_rfl)) k0 bel lt0) trodAll_mk0), rfl, bel.frame _, fun h => by cases h⟩

theorem over : Rows.fnFrameHearsRow.holds Try.pinned (OpenSpec.ofChange Rows.fnFrameHearsSpec) :=
  OpenClaim.holds_of_wide 6 Try.f6 rfl rfl rfl rfl rfl rfl rfl ⟨rfl, rfl, rfl, rfl, rfl⟩ rfl rfl rfl rfl rfl (by kernel_rfl) Try.func6 (by kernel_rfl)
    (of_decide_eq_true (by kernel_rfl)) (by unfold Func.isWrapper; first | (rw [if_pos (by decide +kernel)]; kernel_rfl) | (rw [if_neg (by decide +kernel)]; exact ⟨rfl, rfl⟩))
    (fun os started H enc _ => lifted os started H enc)
end LawFnFrameHears

theorem fnFrameHears_holds : Rows.FnFrameHearsSaid := LawFnFrameHears.over
#print axioms fnFrameHears_holds
end Go.Proofs.Ytdopcdpapbfdlaa
