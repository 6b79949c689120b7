/- For every frame and every message the law FnExactFrameHear returns true: FrameHear answers as the specification, writes into no argument, keeps nothing of one, and its answer owns its memory, behind another call too. Conditions: none. -/
import Derived.Test.YtgpmkojajmkkoaaFrmHq
import Derived.Test.YtgpmkojajmkkoaaFrmR8
import Derived.Test.YtgpmkojajmkkoaaFrmR35
import Derived.Test.YtgpmkojajmkkoaaBase2
import Derived.Test.YtgpmkojajmkkoaaOpenF
import Derived.Test.YtgpmkojajmkkoaaMsg2
namespace Go.Proofs.Ytgpmkojajmkkoaa
open Go.ChangeShapes Go.WideShapes Go.ChangeAt Go.RowKit
set_option linter.unusedVariables false

namespace LawFnExactFrameHear
set_option maxRecDepth 100000 in
set_option maxHeartbeats 60000000 in
theorem walk (s : Int) (q : Bool) (a : Option Addr) (ca : Nat) (xs : List Int) (k p : Int) (o : Bool) (am : Option Addr) (cm : Nat) (ys : List Int) (w : World) (hc : Came .i64 w a ca xs) (hcm : Came .i64 w am cm ys) (wk : (Lit.int .i64 k).wf = true) (wp : (Lit.int .i64 p).wf = true) :
    Calls Try.prog 3 #[.agg #[.int .i64 s, .slice a xs.length ca, .bool q], .agg #[.int .i64 k, .int .i64 p, .bool o, .slice am ys.length cm]] w fun e w' => e = .returned (.bool true) ∧ Below w.heap.size w w' := by
  clear wk wp
  have B := bel_alloc (bel_alloc (Below.refl w.heap.size w) (.cells #[.int .i64 s, .slice a xs.length ca, .bool q] 24)) (.cells #[.int .i64 k, .int .i64 p, .bool o, .slice am ys.length cm] 26)
  obtain ⟨XA, XB⟩ := Box.two w #[.int .i64 s, .slice a xs.length ca, .bool q] #[.int .i64 k, .int .i64 p, .bool o, .slice am ys.length cm] 24 26
  by_cases hl : 1048576 < xs.length
  · have hn : xs.length ≤ maxLen := Nat.le_trans hc.1 hc.2.1
    clear hc hcm XA XB
    go_enter Try.func3, Try.ntmps3
    go_wp2_with fail
    refine (szFrame_big s q a _ ca _ hl hn).mono ?_
    rintro e w1 ⟨rfl, b1⟩
    replace B := bel_trans B b1
    go_wp2
    go_ret
    exact ⟨rfl, B⟩
  have hsm : xs.length ≤ 1048576 := by omega
  have hr0 := hc.row (by omega)
  have hnm : ys.length ≤ maxLen := Nat.le_trans hcm.1 hcm.2.1
  clear hc hl
  go_enter Try.func3, Try.ntmps3
  go_wp2_with fail
  refine (szFrame_small s q a _ ca _ hsm).mono ?_
  rintro e w1 ⟨rfl, b1⟩
  replace XA := XA.below b1
  replace XB := XB.below b1
  replace B := bel_trans B b1
  clear b1
  have zA := XA.lt
  have zB := XB.lt
  obtain ⟨n0, n1, n2, n3, nz⟩ := XB.at4
  have hd : decide ((1048576 : Int) - xs.length < 0) = false := by simp; omega
  go_wp2_with fail
  refine (szMsg_gen2 k p o am ys.length cm (1048576 - xs.length) _ (by omega) (by omega) hnm).mono ?_
  rintro e w2 ⟨r2, rfl, hsz2, b2⟩
  replace XA := XA.below b2
  replace XB := XB.below b2
  replace B := bel_trans B b2
  have z2 := b2.size
  clear b2 n0 n1 n2 n3 nz hd
  rcases hsz2 with rfl | ⟨hr2, hr20⟩
  · clear hcm XA XB hr0
    go_wp2
    go_ret
    exact ⟨rfl, B⟩
  have hd : decide (r2 < 0) = false := by simp; omega
  have hym : ys.length ≤ 1048576 := by omega
  have hy0 := hcm.row (by omega)
  have hr := hr0.below B
  have hy := hy0.below B
  clear hcm hr2 hnm
  have zB2 := XB.lt
  obtain ⟨m0, m1, m2, mz⟩ := XA.at3
  obtain ⟨n0, n1, n2, n3, nz⟩ := XB.at4
  obtain ⟨R, hR⟩ : ∃ R, hearR s q xs k p o ys = R := ⟨_, rfl⟩
  have HEAR : Hid (∀ (a' : Option Addr) (c' : Nat) (am' : Option Addr) (cm' : Nat) (W : World), Row .i64 W a' xs → Row .i64 W am' ys → Calls Try.prog 6 #[.agg #[.int .i64 s, .slice a' xs.length c', .bool q], .agg #[.int .i64 k, .int .i64 p, .bool o, .slice am' ys.length cm']] W fun e w' => HearP R W e w') := fun a' c' am' cm' W h h' => by
    have := specHear_any s q a' c' xs k p o am' cm' ys W (by omega) h h'
    rw [hR] at this
    exact this
  have hRl := hear_len s q xs k p o ys 1048576 hsm hym
  rw [hR] at hRl
  obtain ⟨hfl, hml⟩ := hRl
  have HEAR2 : Hid (∀ (a' : Option Addr) (c' : Nat) (am' : Option Addr) (cm' : Nat) (W : World), Row .i64 W a' xs → Row .i64 W am' ys → Calls Try.prog 9 #[.agg #[.int .i64 s, .slice a' xs.length c', .bool q], .agg #[.int .i64 k, .int .i64 p, .bool o, .slice am' ys.length cm']] W fun e w' => HearP R W e w') := fun a' c' am' cm' W h h' => by
    have := implHear_any s q a' c' xs k p o am' cm' ys W (by omega) h h'
    rw [hR] at this
    exact this
  clear hR
  go_upto_region 8 with fail
  refine r8 hsm hym hfl hml hr hy XA XB HEAR ?_
  intro v30 v31 v32 v33 v34 v35 v36 v37 v38 s6 s7 s8 wc hcut
  obtain ⟨A1, M1, aW, cW, aV, cV, rfl, rfl, rfl, hA1, hM1, XW, XV, OW, OV, hWV, hVA, bc⟩ := hcut
  clear m0 m1 m2 mz n0 n1 n2 n3 nz hr hy HEAR hd
  obtain ⟨n8, hn8⟩ : ∃ n8, n8 = wc.heap.size := ⟨_, rfl⟩
  have zW := XW.lt
  have zV := XV.lt
  rw [← hn8] at zW zV
  have hn8' : n8 ≤ wc.heap.size := Nat.le_of_eq hn8
  have LW : Hid (∀ j, (Value.slice aW R.fl.length cW).ownBlock = some j → w2.heap.size ≤ j ∧ j < n8) := fun j h => by have := OW.lt j h; omega
  have LV : Hid (∀ j, (Value.slice aV R.ml.length cV).ownBlock = some j → w2.heap.size ≤ j ∧ j < n8) := fun j h => by have := OV.lt j h; omega
  clear hn8 hWV hVA
  replace XA := XA.below bc
  replace XB := XB.below bc
  replace B := bel_trans B bc
  clear bc
  have hr := hr0.below B
  have hy := hy0.below B
  obtain ⟨m0, m1, m2, mz⟩ := XA.at3
  go_wp2_with fail
  refine (toFrame_any s q a ca xs _ hsm hr).mono ?_
  rintro e w3 ⟨v3, rfl, o3, b3⟩
  clear hr m0 m1 m2 mz
  have L3 : Hid (∀ j, v3.ownBlock = some j → n8 ≤ j ∧ j < w3.heap.size) := fun j h => by have h := o3.lt j h; omega
  have z3 := b3.size
  obtain ⟨a3, c3, rfl⟩ := owns_slice o3
  replace XA := XA.below b3
  replace XB := XB.below b3
  replace XW := XW.below b3
  replace XV := XV.below b3
  replace OW := owns_below OW b3
  replace OV := owns_below OV b3
  replace hy := hy.below b3
  replace B := bel_trans B b3
  clear b3
  obtain ⟨n0, n1, n2, n3, nz⟩ := XB.at4
  go_wp2_with fail
  clear n0 n1 n2 n3 nz
  have bx := bel_alloc (Below.refl w3.heap.size w3) (.cells #[.int .i64 s, .slice a3 xs.length c3, .bool q] 29)
  have X3 := Box.new w3 #[.int .i64 s, .slice a3 xs.length c3, .bool q] 29
  replace XA := XA.below bx
  replace XB := XB.below bx
  replace XW := XW.below bx
  replace XV := XV.below bx
  replace OW := owns_below OW bx
  replace OV := owns_below OV bx
  replace o3 := owns_below o3 bx
  replace hy := hy.below bx
  replace B := bel_trans B bx
  clear bx
  refine (toMsg_any k p o am cm ys _ hym hy).mono ?_
  rintro e w4 ⟨v4, rfl, o4, b4⟩
  clear hy
  have L4 : Hid (∀ j, v4.ownBlock = some j → w3.heap.size < j ∧ j < w4.heap.size) := fun j h => by have h := o4.lt j h; simp at h; omega
  have z4 : w3.heap.size < w4.heap.size := by have h := b4.size; simp at h; omega
  obtain ⟨a4, c4, rfl⟩ := owns_slice o4
  replace XA := XA.below b4
  replace XB := XB.below b4
  replace XW := XW.below b4
  replace XV := XV.below b4
  replace X3 := X3.below b4
  replace OW := owns_below OW b4
  replace OV := owns_below OV b4
  replace o3 := owns_below o3 b4
  replace B := bel_trans B b4
  clear b4
  obtain ⟨m0, m1, m2, mz⟩ := X3.at3
  go_wp2_with fail
  clear m0 m1 m2 mz
  have bx := bel_alloc (Below.refl w4.heap.size w4) (.cells #[.int .i64 k, .int .i64 p, .bool o, .slice a4 ys.length c4] 30)
  have X4 := Box.new w4 #[.int .i64 k, .int .i64 p, .bool o, .slice a4 ys.length c4] 30
  replace XA := XA.below bx
  replace XB := XB.below bx
  replace XW := XW.below bx
  replace XV := XV.below bx
  replace X3 := X3.below bx
  replace OW := owns_below OW bx
  replace OV := owns_below OV bx
  replace o3 := owns_below o3 bx
  replace o4 := owns_below o4 bx
  replace B := bel_trans B bx
  clear bx
  refine (HEAR2.out a3 c3 a4 c4 _ (owns_row' o3 (by omega)) (owns_row' o4 (by omega))).mono ?_
  rintro e w5 ⟨v5, v6, rfl, OG, OH, hne, b5⟩
  have LG : Hid (∀ j, v5.ownBlock = some j → w4.heap.size < j ∧ j < w5.heap.size) := fun j h => by have h := OG.lt j h; simp at h; omega
  have LH : Hid (∀ j, v6.ownBlock = some j → w4.heap.size < j ∧ j < w5.heap.size) := fun j h => by have h := OH.lt j h; simp at h; omega
  have hGH : Hid (∀ j, v5.ownBlock = some j → v6.ownBlock = some j → False) := fun j h h2 => hne j h h2
  clear hne
  have z5 : w4.heap.size < w5.heap.size := by have h := b5.size; simp at h; omega
  obtain ⟨aG, cG, rfl⟩ := owns_slice OG
  obtain ⟨aH, cH, rfl⟩ := owns_slice OH
  replace XA := XA.below b5
  replace XB := XB.below b5
  replace XW := XW.below b5
  replace XV := XV.below b5
  replace X3 := X3.below b5
  replace X4 := X4.below b5
  replace OW := owns_below OW b5
  replace OV := owns_below OV b5
  replace o3 := owns_below o3 b5
  replace o4 := owns_below o4 b5
  replace B := bel_trans B b5
  clear b5
  obtain ⟨k0, k1, k2, kz⟩ := XW.at3
  go_wp2_with fail
  clear k0 k1 k2 kz
  have bx := bel_alloc (Below.refl w5.heap.size w5) (.cells #[.int .i64 R.fs, .slice aG R.fl.length cG, .bool R.fq] 29)
  have XG := Box.new w5 #[.int .i64 R.fs, .slice aG R.fl.length cG, .bool R.fq] 29
  replace XA := XA.below bx
  replace XB := XB.below bx
  replace XW := XW.below bx
  replace XV := XV.below bx
  replace X3 := X3.below bx
  replace X4 := X4.below bx
  replace OW := owns_below OW bx
  replace OV := owns_below OV bx
  replace o3 := owns_below o3 bx
  replace o4 := owns_below o4 bx
  replace OG := owns_below OG bx
  replace OH := owns_below OH bx
  replace B := bel_trans B bx
  clear bx
  have e6 : (w5.alloc (.cells #[.int .i64 R.fs, .slice aG R.fl.length cG, .bool R.fq] 29)).heap.size = w5.heap.size + 1 := by simp
  have bx := bel_alloc (Below.refl _ (w5.alloc (.cells #[.int .i64 R.fs, .slice aG R.fl.length cG, .bool R.fq] 29))) (.cells #[.int .i64 R.mkd, .int .i64 R.mp, .bool false, .slice aH R.ml.length cH] 30)
  have XH := Box.new (w5.alloc (.cells #[.int .i64 R.fs, .slice aG R.fl.length cG, .bool R.fq] 29)) #[.int .i64 R.mkd, .int .i64 R.mp, .bool false, .slice aH R.ml.length cH] 30
  rw [e6] at XH
  replace XA := XA.below bx
  replace XB := XB.below bx
  replace XW := XW.below bx
  replace XV := XV.below bx
  replace X3 := X3.below bx
  replace X4 := X4.below bx
  replace XG := XG.below bx
  replace OW := owns_below OW bx
  replace OV := owns_below OV bx
  replace o3 := owns_below o3 bx
  replace o4 := owns_below o4 bx
  replace OG := owns_below OG bx
  replace OH := owns_below OH bx
  replace B := bel_trans B bx
  clear bx e6
  refine (eqFrame_any R.fs R.fq aG aW cG cW R.fl _ (owns_row' OG (by omega)) (owns_row' OW (by omega))).mono ?_
  rintro e w6 ⟨rfl, b6⟩
  replace XA := XA.below b6
  replace XB := XB.below b6
  replace XW := XW.below b6
  replace XV := XV.below b6
  replace X3 := X3.below b6
  replace X4 := X4.below b6
  replace XG := XG.below b6
  replace XH := XH.below b6
  replace OW := owns_below OW b6
  replace OV := owns_below OV b6
  replace o3 := owns_below o3 b6
  replace o4 := owns_below o4 b6
  replace OG := owns_below OG b6
  replace OH := owns_below OH b6
  replace B := bel_trans B b6
  clear b6
  obtain ⟨n0, n1, n2, n3, nz⟩ := XH.at4
  obtain ⟨k0, k1, k2, k3, kz⟩ := XV.at4
  go_wp2_with fail
  refine (eqMsg_any R.mkd R.mp false aH aV cH cV R.ml _ (owns_row' OH (by omega)) (owns_row' OV (by omega))).mono ?_
  rintro e w7 ⟨rfl, b7⟩
  clear n0 n1 n2 n3 nz k0 k1 k2 k3 kz
  replace XA := XA.below b7
  replace XB := XB.below b7
  replace XW := XW.below b7
  replace XV := XV.below b7
  replace X3 := X3.below b7
  replace X4 := X4.below b7
  replace XG := XG.below b7
  replace XH := XH.below b7
  replace OW := owns_below OW b7
  replace OV := owns_below OV b7
  replace o3 := owns_below o3 b7
  replace o4 := owns_below o4 b7
  replace OG := owns_below OG b7
  replace OH := owns_below OH b7
  replace B := bel_trans B b7
  clear b7
  have hr := hr0.below B
  have hy := hy0.below B
  obtain ⟨m0, m1, m2, mz⟩ := XA.at3
  obtain ⟨n0, n1, n2, nz⟩ := X3.at3
  have q3 := owns_row' o3 (by omega)
  go_wp2_with fail
  go_region_held3 (fun w' => w'.cell? ⟨w.heap.size, 0, none⟩ = some (.int .i64 s) ∧ w'.cell? ⟨w.heap.size, 1, none⟩ = some (.slice a xs.length ca) ∧ w'.cell? ⟨w.heap.size, 2, none⟩ = some (.bool q) ∧ w'.cell? ⟨w3.heap.size, 0, none⟩ = some (.int .i64 s) ∧ w'.cell? ⟨w3.heap.size, 1, none⟩ = some (.slice a3 xs.length c3) ∧ w'.cell? ⟨w3.heap.size, 2, none⟩ = some (.bool q))
    (first | (with_reducible exact keep6 b9 ‹_›) | (with_reducible exact keep6 b8 ‹_›) | go_keep)
    (first | (go_at_call 7; refine (toFrame_any s q a ca xs _ hsm ?_).mono ?_; exact hr; rintro e w8 ⟨v8, rfl, o8, b8⟩; obtain ⟨a8, c8, rfl, q8, _, _⟩ := owns_row o8 (by omega)) | (go_at_call 10; refine (eqFrame_any s q a3 a8 c3 c8 xs _ ?_ ?_).mono ?_; exact q3.below (bel_undrew b8); exact q8; rintro e w9 ⟨rfl, b9⟩))
  have b79 := bel_trans (bel_undrew b8) b9
  clear b8 b9 o8 q8 q3 m0 m1 m2 mz n0 n1 n2 nz hr hy
  replace XA := XA.below b79
  replace XB := XB.below b79
  replace XW := XW.below b79
  replace XV := XV.below b79
  replace X3 := X3.below b79
  replace X4 := X4.below b79
  replace XG := XG.below b79
  replace XH := XH.below b79
  replace OW := owns_below OW b79
  replace OV := owns_below OV b79
  replace o3 := owns_below o3 b79
  replace o4 := owns_below o4 b79
  replace OG := owns_below OG b79
  replace OH := owns_below OH b79
  replace B := bel_trans B b79
  clear b79
  have hr := hr0.below B
  have hy := hy0.below B
  obtain ⟨m0, m1, m2, m3, mz⟩ := XB.at4
  obtain ⟨n0, n1, n2, n3, nz⟩ := X4.at4
  have q4 := owns_row' o4 (by omega)
  go_wp2_with fail
  go_region_held3 (fun w' => w'.cell? ⟨w.heap.size + 1, 0, none⟩ = some (.int .i64 k) ∧ w'.cell? ⟨w.heap.size + 1, 1, none⟩ = some (.int .i64 p) ∧ w'.cell? ⟨w.heap.size + 1, 2, none⟩ = some (.bool o) ∧ w'.cell? ⟨w.heap.size + 1, 3, none⟩ = some (.slice am ys.length cm) ∧ w'.cell? ⟨w4.heap.size, 0, none⟩ = some (.int .i64 k) ∧ w'.cell? ⟨w4.heap.size, 1, none⟩ = some (.int .i64 p) ∧ w'.cell? ⟨w4.heap.size, 2, none⟩ = some (.bool o) ∧ w'.cell? ⟨w4.heap.size, 3, none⟩ = some (.slice a4 ys.length c4))
    (first | (with_reducible exact keep8 b11 ‹_›) | (with_reducible exact keep8 b10 ‹_›) | go_keep)
    (first | (go_at_call 8; refine (toMsg_any k p o am cm ys _ hym ?_).mono ?_; exact hy; rintro e w10 ⟨v10, rfl, o10, b10⟩; obtain ⟨a10, c10, rfl, q10, _, _⟩ := owns_row o10 (by omega)) | (go_at_call 11; refine (eqMsg_any k p o a4 a10 c4 c10 ys _ ?_ ?_).mono ?_; exact q4.below (bel_undrew b10); exact q10; rintro e w11 ⟨rfl, b11⟩))
  have b911 := bel_trans (bel_undrew b10) b11
  clear b10 b11 o10 q10 q4 m0 m1 m2 m3 mz n0 n1 n2 n3 nz hr hy
  replace XA := XA.below b911
  replace XB := XB.below b911
  replace XW := XW.below b911
  replace XV := XV.below b911
  replace X3 := X3.below b911
  replace X4 := X4.below b911
  replace XG := XG.below b911
  replace XH := XH.below b911
  replace OW := owns_below OW b911
  replace OV := owns_below OV b911
  replace o3 := owns_below o3 b911
  replace o4 := owns_below o4 b911
  replace OG := owns_below OG b911
  replace OH := owns_below OH b911
  replace B := bel_trans B b911
  clear b911
  obtain ⟨n0, n1, n2, nz⟩ := X3.at3
  go_wp2_with fail
  refine (markFrame_any s q _ xs.length a3 c3 1 _ _ (by omega) (by omega) (by omega) o3).mono ?_
  rintro e w12 ⟨rfl, o12, g12⟩
  clear o12 o3 X3 n0 n1 n2 nz
  replace XA := XA.kept g12 (fun j hj => by have := L3.out j hj; omega)
  replace XB := XB.kept g12 (fun j hj => by have := L3.out j hj; omega)
  replace XW := XW.kept g12 (fun j hj => by have := L3.out j hj; omega)
  replace XV := XV.kept g12 (fun j hj => by have := L3.out j hj; omega)
  replace X4 := X4.kept g12 (fun j hj => by have := L3.out j hj; omega)
  replace XG := XG.kept g12 (fun j hj => by have := L3.out j hj; omega)
  replace XH := XH.kept g12 (fun j hj => by have := L3.out j hj; omega)
  replace OW := owns_ne OW g12 (fun j hj hr => by have h1 := L3.out j hr; have h2 := LW.out j hj; omega)
  replace OV := owns_ne OV g12 (fun j hj hr => by have h1 := L3.out j hr; have h2 := LV.out j hj; omega)
  replace o4 := owns_ne o4 g12 (fun j hj hr => by have h1 := L3.out j hr; have h2 := L4.out j hj; omega)
  replace OG := owns_ne OG g12 (fun j hj hr => by have h1 := L3.out j hr; have h2 := LG.out j hj; omega)
  replace OH := owns_ne OH g12 (fun j hj hr => by have h1 := L3.out j hr; have h2 := LH.out j hj; omega)
  replace B := B.grown g12 B.size (fun j hj => by have := L3.out j hj; omega)
  clear g12
  obtain ⟨n0, n1, n2, n3, nz⟩ := X4.at4
  go_wp2_with fail
  refine (markMsg_w2 k p o _ ys.length a4 c4 (1 + xs.length) _ _ (by omega) (by omega) (by omega) o4).mono ?_
  rintro e w13 ⟨rfl, o13, g13⟩
  clear o13 o4 X4 n0 n1 n2 n3 nz
  replace XA := XA.kept g13 (fun j hj => by have := L4.out j hj; omega)
  replace XB := XB.kept g13 (fun j hj => by have := L4.out j hj; omega)
  replace XW := XW.kept g13 (fun j hj => by have := L4.out j hj; omega)
  replace XV := XV.kept g13 (fun j hj => by have := L4.out j hj; omega)
  replace XG := XG.kept g13 (fun j hj => by have := L4.out j hj; omega)
  replace XH := XH.kept g13 (fun j hj => by have := L4.out j hj; omega)
  replace OW := owns_ne OW g13 (fun j hj hr => by have h1 := L4.out j hr; have h2 := LW.out j hj; omega)
  replace OV := owns_ne OV g13 (fun j hj hr => by have h1 := L4.out j hr; have h2 := LV.out j hj; omega)
  replace OG := owns_ne OG g13 (fun j hj hr => by have h1 := L4.out j hr; have h2 := LG.out j hj; omega)
  replace OH := owns_ne OH g13 (fun j hj hr => by have h1 := L4.out j hr; have h2 := LH.out j hj; omega)
  replace B := B.grown g13 B.size (fun j hj => by have := L4.out j hj; omega)
  clear g13
  have hd : decide ((1 : Int) + xs.length + ys.length < 0) = false := by simp; omega
  obtain ⟨k0, k1, k2, kz⟩ := XW.at3
  obtain ⟨y0, y1, y2, yz⟩ := XG.at3
  go_wp2_with fail
  refine (eqFrame_any R.fs R.fq aG aW cG cW R.fl _ (owns_row' OG (by omega)) (owns_row' OW (by omega))).mono ?_
  rintro e w14 ⟨rfl, b14⟩
  clear hd k0 k1 k2 kz y0 y1 y2 yz
  replace XA := XA.below b14
  replace XB := XB.below b14
  replace XW := XW.below b14
  replace XV := XV.below b14
  replace XG := XG.below b14
  replace XH := XH.below b14
  replace OW := owns_below OW b14
  replace OV := owns_below OV b14
  replace OG := owns_below OG b14
  replace OH := owns_below OH b14
  replace B := bel_trans B b14
  clear b14
  obtain ⟨n0, n1, n2, n3, nz⟩ := XH.at4
  obtain ⟨k0, k1, k2, k3, kz⟩ := XV.at4
  go_wp2_with fail
  refine (eqMsg_any R.mkd R.mp false aH aV cH cV R.ml _ (owns_row' OH (by omega)) (owns_row' OV (by omega))).mono ?_
  rintro e w15 ⟨rfl, b15⟩
  clear n0 n1 n2 n3 nz k0 k1 k2 k3 kz
  replace XA := XA.below b15
  replace XB := XB.below b15
  replace XW := XW.below b15
  replace XV := XV.below b15
  replace XG := XG.below b15
  replace XH := XH.below b15
  replace OW := owns_below OW b15
  replace OV := owns_below OV b15
  replace OG := owns_below OG b15
  replace OH := owns_below OH b15
  replace B := bel_trans B b15
  clear b15
  obtain ⟨y0, y1, y2, yz⟩ := XG.at3
  go_wp2_with fail
  refine (markFrame_any R.fs R.fq _ R.fl.length aG cG 1 _ _ (by omega) (by omega) (by omega) OG).mono ?_
  rintro e w16 ⟨rfl, PG, g16⟩
  clear OG y0 y1 y2 yz
  replace XA := XA.kept g16 (fun j hj => by have := LG.out j hj; omega)
  replace XB := XB.kept g16 (fun j hj => by have := LG.out j hj; omega)
  replace XW := XW.kept g16 (fun j hj => by have := LG.out j hj; omega)
  replace XV := XV.kept g16 (fun j hj => by have := LG.out j hj; omega)
  replace XG := XG.kept g16 (fun j hj => by have := LG.out j hj; omega)
  replace XH := XH.kept g16 (fun j hj => by have := LG.out j hj; omega)
  replace OW := owns_ne OW g16 (fun j hj hr => by have h1 := LG.out j hr; have h2 := LW.out j hj; omega)
  replace OV := owns_ne OV g16 (fun j hj hr => by have h1 := LG.out j hr; have h2 := LV.out j hj; omega)
  replace OH := owns_ne OH g16 (fun j hj hr => by have h1 := LG.out j hr; have h2 := LH.out j hj; exact hGH.out j hr hj)
  replace B := B.grown g16 B.size (fun j hj => by have := LG.out j hj; omega)
  clear g16
  obtain ⟨n0, n1, n2, n3, nz⟩ := XH.at4
  go_wp2_with fail
  refine (markMsg_w2 R.mkd R.mp false _ R.ml.length aH cH (1 + R.fl.length) _ _ (by omega) (by omega) (by omega) OH).mono ?_
  rintro e w17 ⟨rfl, PH, g17⟩
  clear OH n0 n1 n2 n3 nz
  replace XA := XA.kept g17 (fun j hj => by have := LH.out j hj; omega)
  replace XB := XB.kept g17 (fun j hj => by have := LH.out j hj; omega)
  replace XW := XW.kept g17 (fun j hj => by have := LH.out j hj; omega)
  replace XV := XV.kept g17 (fun j hj => by have := LH.out j hj; omega)
  replace XG := XG.kept g17 (fun j hj => by have := LH.out j hj; omega)
  replace XH := XH.kept g17 (fun j hj => by have := LH.out j hj; omega)
  replace OW := owns_ne OW g17 (fun j hj hr => by have h1 := LH.out j hr; have h2 := LW.out j hj; omega)
  replace OV := owns_ne OV g17 (fun j hj hr => by have h1 := LH.out j hr; have h2 := LV.out j hj; omega)
  replace PG := owns_ne PG g17 (fun j hj hr => by have h1 := LH.out j hr; have h2 := LG.out j hj; exact hGH.out j hj hr)
  replace B := B.grown g17 B.size (fun j hj => by have := LH.out j hj; omega)
  clear g17
  have hd : decide ((1 : Int) + R.fl.length < 0) = false := by simp; omega
  obtain ⟨y0, y1, y2, yz⟩ := XG.at3
  go_wp2_with fail
  refine (heldFrame_any R.fs R.fq aG cG R.fl.length 1 _ (by omega) (by omega) (by omega) (owns_row' PG (by rw [mki_length]; omega))).mono ?_
  rintro e w18 ⟨rfl, b18⟩
  clear y0 y1 y2 yz
  replace XA := XA.below b18
  replace XB := XB.below b18
  replace XW := XW.below b18
  replace XV := XV.below b18
  replace XG := XG.below b18
  replace XH := XH.below b18
  replace OW := owns_below OW b18
  replace OV := owns_below OV b18
  replace PG := owns_below PG b18
  replace PH := owns_below PH b18
  replace B := bel_trans B b18
  clear b18
  obtain ⟨n0, n1, n2, n3, nz⟩ := XH.at4
  go_wp2_with fail
  refine (heldMsg_any R.mkd R.mp false aH cH R.ml.length (1 + R.fl.length) _ (by omega) (by omega) (by omega) (owns_row' PH (by rw [mki_length]; omega))).mono ?_
  rintro e w19 ⟨rfl, b19⟩
  clear hd n0 n1 n2 n3 nz
  replace XA := XA.below b19
  replace XB := XB.below b19
  replace XW := XW.below b19
  replace XV := XV.below b19
  replace XG := XG.below b19
  replace XH := XH.below b19
  replace OW := owns_below OW b19
  replace OV := owns_below OV b19
  replace PG := owns_below PG b19
  replace PH := owns_below PH b19
  replace B := bel_trans B b19
  clear b19
  have hd : decide ((1 : Int) + R.fl.length + R.ml.length < 0) = false := by simp; omega
  have hr := hr0.below B
  have hy := hy0.below B
  have zw : w2.heap.size ≤ w19.heap.size := by have h := XG.lt; omega
  obtain ⟨m0, m1, m2, mz⟩ := XA.at3
  obtain ⟨n0, n1, n2, n3, nz⟩ := XB.at4
  go_upto_region 35 with fail
  refine r35 hsm hym hfl hml hr hy XA XB HEAR2 ?_
  intro v119 v120 v121 v122 v123 v124 v125 v126 v127 s6 s7 s8 wc hcut
  obtain ⟨A2, M2, aY, cY, aZ, cZ, rfl, rfl, rfl, hA2, hM2, XY, XZ, OY, OZ, hYZ, hZA, bc⟩ := hcut
  clear m0 m1 m2 mz n0 n1 n2 n3 nz hr hy HEAR2 hYZ hZA
  replace XA := XA.below bc
  replace XB := XB.below bc
  replace XW := XW.below bc
  replace XV := XV.below bc
  replace XG := XG.below bc
  replace XH := XH.below bc
  replace OW := owns_below OW bc
  replace OV := owns_below OV bc
  replace PG := owns_below PG bc
  replace PH := owns_below PH bc
  replace B := bel_trans B bc
  clear bc
  obtain ⟨y0, y1, y2, yz⟩ := XY.at3
  obtain ⟨k0, k1, k2, kz⟩ := XW.at3
  go_wp2_with fail
  refine (eqFrame_any R.fs R.fq aY aW cY cW R.fl _ (owns_row' OY (by omega)) (owns_row' OW (by omega))).mono ?_
  rintro e w21 ⟨rfl, b21⟩
  clear hd y0 y1 y2 yz k0 k1 k2 kz
  replace XA := XA.below b21
  replace XB := XB.below b21
  replace XW := XW.below b21
  replace XV := XV.below b21
  replace XG := XG.below b21
  replace XH := XH.below b21
  replace XY := XY.below b21
  replace XZ := XZ.below b21
  replace OW := owns_below OW b21
  replace OV := owns_below OV b21
  replace PG := owns_below PG b21
  replace PH := owns_below PH b21
  replace OY := owns_below OY b21
  replace OZ := owns_below OZ b21
  replace B := bel_trans B b21
  clear b21
  obtain ⟨n0, n1, n2, n3, nz⟩ := XZ.at4
  obtain ⟨k0, k1, k2, k3, kz⟩ := XV.at4
  go_wp2_with fail
  refine (eqMsg_any R.mkd R.mp false aZ aV cZ cV R.ml _ (owns_row' OZ (by omega)) (owns_row' OV (by omega))).mono ?_
  rintro e w22 ⟨rfl, b22⟩
  clear n0 n1 n2 n3 nz k0 k1 k2 k3 kz
  replace XA := XA.below b22
  replace XB := XB.below b22
  replace XW := XW.below b22
  replace XV := XV.below b22
  replace XG := XG.below b22
  replace XH := XH.below b22
  replace XY := XY.below b22
  replace XZ := XZ.below b22
  replace OW := owns_below OW b22
  replace OV := owns_below OV b22
  replace PG := owns_below PG b22
  replace PH := owns_below PH b22
  replace OY := owns_below OY b22
  replace OZ := owns_below OZ b22
  replace B := bel_trans B b22
  clear b22
  have hd : decide ((1 : Int) + R.fl.length < 0) = false := by simp; omega
  obtain ⟨y0, y1, y2, yz⟩ := XG.at3
  go_wp2_with fail
  refine (heldFrame_any R.fs R.fq aG cG R.fl.length 1 _ (by omega) (by omega) (by omega) (owns_row' PG (by rw [mki_length]; omega))).mono ?_
  rintro e w23 ⟨rfl, b23⟩
  clear y0 y1 y2 yz
  replace XA := XA.below b23
  replace XB := XB.below b23
  replace XW := XW.below b23
  replace XV := XV.below b23
  replace XG := XG.below b23
  replace XH := XH.below b23
  replace XY := XY.below b23
  replace XZ := XZ.below b23
  replace OW := owns_below OW b23
  replace OV := owns_below OV b23
  replace PG := owns_below PG b23
  replace PH := owns_below PH b23
  replace OY := owns_below OY b23
  replace OZ := owns_below OZ b23
  replace B := bel_trans B b23
  clear b23
  obtain ⟨n0, n1, n2, n3, nz⟩ := XH.at4
  go_wp2_with fail
  refine (heldMsg_any R.mkd R.mp false aH cH R.ml.length (1 + R.fl.length) _ (by omega) (by omega) (by omega) (owns_row' PH (by rw [mki_length]; omega))).mono ?_
  rintro e w24 ⟨rfl, b24⟩
  clear hd n0 n1 n2 n3 nz
  replace XA := XA.below b24
  replace XB := XB.below b24
  replace XW := XW.below b24
  replace XV := XV.below b24
  replace XG := XG.below b24
  replace XH := XH.below b24
  replace XY := XY.below b24
  replace XZ := XZ.below b24
  replace OW := owns_below OW b24
  replace OV := owns_below OV b24
  replace PG := owns_below PG b24
  replace PH := owns_below PH b24
  replace OY := owns_below OY b24
  replace OZ := owns_below OZ b24
  replace B := bel_trans B b24
  clear b24
  have hd : decide ((1 : Int) + R.fl.length + R.ml.length < 0) = false := by simp; omega
  clear XA XB XW XV XG XH XY XZ OW OV PG PH OY OZ
  go_wp2
  go_ret
  exact ⟨rfl, B⟩

set_option maxRecDepth 100000 in
theorem lifted (os : Os) (started : os.Started) (H : Type) (enc : TypeId × Value → H) :
    ReturnsInHanded {} Try.checked os 3 .any (Rows.fnExactFrameHearSpec.pre6 enc Try.prog Try.f3 Rows.fnExactFrameHearRow.domain false) (Rows.fnExactFrameHearSpec.post enc Try.prog Try.f3 false true false false) := by
  refine returnsInHanded_of_change (C := Try.checked) own started (by kernel_rfl) Try.func3
    (ChangeSpec.witness6 (enc := enc) (C := Try.checked) false ⟨#[], #[.agg #[.int .i64 0, .slice none 0 0, .bool false], .agg #[.int .i64 0, .int .i64 0, .bool false, .slice none 0 0]], []⟩ 8 (by kernel_rfl) (by kernel_rfl) (by kernel_rfl) (by kernel_rfl)) ?_
  intro W base args ds gs before hval0 hW hcnd _
  have hval : ∀ (j : Nat) t v, Try.f3.params[j]? = some t → args[j]? = some v → Value.okWide Try.prog W .any base t v := hval0
  have hW' := hW
  obtain ⟨p, q, hA0, hV, rfl, hfz, hnd⟩ := hW
  have hA : DataW.TrodAll enc Try.prog W 0 (fun _ => true) true Try.f3.params.toList args.toList ds p := hA0
  rw [Try.params3] at hA hval
  obtain ⟨v0, vs0, d0, ds0, p0, q0, hargs, rfl, rfl, h0, r0⟩ := trodAll_cons hA
  obtain ⟨v1, vs1, d1, ds1, p1, q1, rfl, rfl, rfl, h1, r1⟩ := trodAll_cons r0
  obtain ⟨rfl, rfl, rfl⟩ := trodAll_nil r1
  obtain rfl : args = #[v0, v1] := by cases args; simp_all
  obtain ⟨rfl, rfl⟩ := trodVars_none hV
  have k0 := h0
  have lt0 : ∀ x ∈ p0, x.block < W.heap.size := by obtain ⟨m, hm⟩ := k0; exact DataW.trod_lt m _ _ _ hm
  obtain ⟨s0, b0, a0, cap0, x0, rfl, w0⟩ := open_frame (hval 0 24 v0 rfl rfl) h0
  have k1 := h1
  have lt1 : ∀ x ∈ p1, x.block < W.heap.size := by obtain ⟨m, hm⟩ := k1; exact DataW.trod_lt m _ _ _ hm
  obtain ⟨c0, c1, c2, c3, y0, y1, y2, y3, fu, rfl, _, _, hy0, hy1, hy2, hy3⟩ := Go.Joins.open_agg4 Try.underlying26 (by kernel_rfl) (by kernel_rfl) (hval 1 26 v1 rfl rfl) h1
  obtain ⟨mk1, e0, _, wk1⟩ := DataW.trod_int Try.underlying3 hy0
  obtain ⟨mp1, e1, _, wp1⟩ := DataW.trod_int Try.underlying3 hy1
  obtain ⟨mo1, e2, _⟩ := DataW.trod_bool Try.underlying4 hy2
  simp only [List.cons.injEq, and_true] at e0 e1 e2
  subst e0 e1 e2
  obtain ⟨a1, cap1, x1, rfl, w1⟩ : ∃ (a : Option Addr) (cap : Nat) (xs : List Int), c3 = .slice a xs.length cap ∧ Came .i64 W a cap xs := by
    rcases open_ints Try.underlying22 Try.underlying3 (by kernel_rfl) hy3 with ⟨hcs, _⟩ | ⟨x, l, c, zs, hcs, _, hl, hm, hz, _, hcell, hwz⟩
    · simp only [List.cons.injEq, and_true] at hcs
      exact ⟨none, 0, [], hcs, came_nil _ _⟩
    · simp only [List.cons.injEq, and_true] at hcs
      have hc := came_of hl hm (by simpa using hz) hcell hwz
      exact ⟨some x, c, zs.take l, by rw [hc.1]; exact hcs, hc.2⟩
  clear hA0 hval0
  refine (walk s0 b0 a0 cap0 x0 mk1 mp1 mo1 a1 cap1 x1 W w0 w1 wk1 wp1).mono fun e W' ⟨he, bel⟩ => ?_
  subst he
  exact ⟨_, rfl, _, _, _, [], _, [], hW', trodAll_mk1 (shut_bool Try.underlying4 _), (trodAll_cons_mk (Below.trod laidOut (by kernel_rfl) (of_decide_eq_true (by kernel_rfl)) k0 bel lt0) (trodAll_cons_mk (Below.trod laidOut (by kernel_rfl) (of_decide_eq_true (by kernel_rfl)) k1 bel lt1) trodAll_mk0)), rfl, bel.frame _, fun h => by cases h⟩

theorem over : Rows.fnExactFrameHearRow.holds Try.pinned (OpenSpec.ofChange Rows.fnExactFrameHearSpec) :=
  OpenClaim.holds_of_wide 3 Try.f3 rfl rfl rfl rfl rfl rfl rfl ⟨rfl, rfl, rfl, rfl, rfl⟩ rfl rfl rfl rfl rfl (by kernel_rfl) Try.func3 (by kernel_rfl)
    (of_decide_eq_true (by kernel_rfl)) (by unfold Func.isWrapper; first | (rw [if_pos (by decide +kernel)]; kernel_rfl) | (rw [if_neg (by decide +kernel)]; exact ⟨rfl, rfl⟩))
    (fun os started H enc _ => lifted os started H enc)
end LawFnExactFrameHear

theorem fnExactFrameHear_holds : Rows.FnExactFrameHearSaid := LawFnExactFrameHear.over
#print axioms fnExactFrameHear_holds
end Go.Proofs.Ytgpmkojajmkkoaa
