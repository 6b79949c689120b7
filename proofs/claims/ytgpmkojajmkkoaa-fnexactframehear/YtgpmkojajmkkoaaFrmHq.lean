/- FrameHear's answer in its boxes: for the law FnExactFrameHear. -/
import Derived.Test.YtgpmkojajmkkoaaFrmHs
import Derived.Test.YtgpmkojajmkkoaaOpenF
import Derived.Test.YtgpmkojajmkkoaaMsg2
namespace Go.Proofs.Ytgpmkojajmkkoaa
open Go.ChangeShapes Go.WideShapes Go.ChangeAt Go.RowKit
set_option linter.unusedVariables false

theorem keep7a {W : World} {o : Obj} {a0 a1 a2 a3 a4 a5 a6 : Addr} {u0 u1 u2 u3 u4 u5 u6 : Value}
    (h : W.cell? a0 = some u0 ∧ W.cell? a1 = some u1 ∧ W.cell? a2 = some u2 ∧ W.cell? a3 = some u3 ∧ W.cell? a4 = some u4 ∧ W.cell? a5 = some u5 ∧ W.cell? a6 = some u6) :
    (W.alloc o).cell? a0 = some u0 ∧ (W.alloc o).cell? a1 = some u1 ∧ (W.alloc o).cell? a2 = some u2 ∧ (W.alloc o).cell? a3 = some u3 ∧ (W.alloc o).cell? a4 = some u4 ∧ (W.alloc o).cell? a5 = some u5 ∧ (W.alloc o).cell? a6 = some u6 := keep7 (bel_alloc (Below.refl _ _) o) h

theorem bel_drw {B : Nat} {w W : World} (h : Below B w W) : Below B w W.drew := ⟨h.os, h.tape, h.output, h.size, h.block⟩

/-- What FrameHear's answer is, boxed: two boxes, two lists, a flag. -/
def HQ (w0 : World) (R : HR) (s6 s7 s8 : Value) (wx : World) : Prop :=
  ∃ (A M : Nat) (aF : Option Addr) (cF : Nat) (aM : Option Addr) (cM : Nat), s6 = .pointer (some ⟨A, 0, none⟩) ∧ s7 = .pointer (some ⟨M, 0, none⟩) ∧ s8 = .bool R.b ∧ w0.heap.size ≤ A ∧ w0.heap.size ≤ M ∧
    Box wx A #[.int .i64 R.fs, .slice aF R.fl.length cF, .bool R.fq] 29 ∧ Box wx M #[.int .i64 R.mkd, .int .i64 R.mp, .bool false, .slice aM R.ml.length cM] 30 ∧
    wx.ownsRow w0.heap.size 3 1 (.slice aF R.fl.length cF) R.fl.length (R.fl.map (Value.int .i64)) ∧ wx.ownsRow w0.heap.size 3 1 (.slice aM R.ml.length cM) R.ml.length (R.ml.map (Value.int .i64)) ∧
    (∀ j, (Value.slice aF R.fl.length cF).ownBlock = some j → (Value.slice aM R.ml.length cM).ownBlock ≠ some j ∧ j ≠ A ∧ j ≠ M) ∧ (∀ j, (Value.slice aM R.ml.length cM).ownBlock = some j → j ≠ A ∧ j ≠ M) ∧ Below w0.heap.size w0 wx

theorem hq_1 {w2 w5 : World} {R : HR} {a5 a6 : Option Addr} {c5 c6 lo : Nat} (o5 : w5.ownsRow lo 3 1 (.slice a5 R.fl.length c5) R.fl.length (R.fl.map (Value.int .i64))) (o6 : w5.ownsRow lo 3 1 (.slice a6 R.ml.length c6) R.ml.length (R.ml.map (Value.int .i64))) (hne : ∀ j, (Value.slice a5 R.fl.length c5).ownBlock = some j → (Value.slice a6 R.ml.length c6).ownBlock ≠ some j) (B : Below w2.heap.size w2 w5) (hlo : w2.heap.size ≤ lo) :
    HQ w2 R (.pointer (some ⟨w5.heap.size, 0, none⟩)) (.pointer (some ⟨w5.heap.size + 1, 0, none⟩)) (.bool R.b) ((w5.alloc (.cells #[.int .i64 R.fs, .slice a5 R.fl.length c5, .bool R.fq] 29)).alloc (.cells #[.int .i64 R.mkd, .int .i64 R.mp, .bool false, .slice a6 R.ml.length c6] 30)) := by
  obtain ⟨X, Y⟩ := Box.two w5 #[.int .i64 R.fs, .slice a5 R.fl.length c5, .bool R.fq] #[.int .i64 R.mkd, .int .i64 R.mp, .bool false, .slice a6 R.ml.length c6] 29 30
  have b := bel_alloc (bel_alloc (Below.refl w5.heap.size w5) (.cells #[.int .i64 R.fs, .slice a5 R.fl.length c5, .bool R.fq] 29)) (.cells #[.int .i64 R.mkd, .int .i64 R.mp, .bool false, .slice a6 R.ml.length c6] 30)
  have hz := B.size
  exact ⟨_, _, a5, c5, a6, c6, rfl, rfl, rfl, hz, by omega, X, Y, owns_below (owns_base o5 hlo) b, owns_below (owns_base o6 hlo) b, fun j hj => ⟨hne j hj, by have := (o5.lt j hj).2; omega, by have := (o5.lt j hj).2; omega⟩, fun j hj => ⟨by have := (o6.lt j hj).2; omega, by have := (o6.lt j hj).2; omega⟩, bel_trans B b⟩
theorem hq_2 {w2 w5 : World} {R : HR} {a5 a6 : Option Addr} {c5 c6 lo : Nat} (o5 : w5.ownsRow lo 3 1 (.slice a5 R.fl.length c5) R.fl.length (R.fl.map (Value.int .i64))) (o6 : w5.ownsRow lo 3 1 (.slice a6 R.ml.length c6) R.ml.length (R.ml.map (Value.int .i64))) (hne : ∀ j, (Value.slice a5 R.fl.length c5).ownBlock = some j → (Value.slice a6 R.ml.length c6).ownBlock ≠ some j) (B : Below w2.heap.size w2 w5) (hlo : w2.heap.size ≤ lo) :
    HQ w2 R (.pointer (some ⟨w5.heap.size + 1, 0, none⟩)) (.pointer (some ⟨w5.heap.size, 0, none⟩)) (.bool R.b) ((w5.alloc (.cells #[.int .i64 R.mkd, .int .i64 R.mp, .bool false, .slice a6 R.ml.length c6] 30)).alloc (.cells #[.int .i64 R.fs, .slice a5 R.fl.length c5, .bool R.fq] 29)) := by
  obtain ⟨Y, X⟩ := Box.two w5 #[.int .i64 R.mkd, .int .i64 R.mp, .bool false, .slice a6 R.ml.length c6] #[.int .i64 R.fs, .slice a5 R.fl.length c5, .bool R.fq] 30 29
  have b := bel_alloc (bel_alloc (Below.refl w5.heap.size w5) (.cells #[.int .i64 R.mkd, .int .i64 R.mp, .bool false, .slice a6 R.ml.length c6] 30)) (.cells #[.int .i64 R.fs, .slice a5 R.fl.length c5, .bool R.fq] 29)
  have hz := B.size
  exact ⟨_, _, a5, c5, a6, c6, rfl, rfl, rfl, by omega, hz, X, Y, owns_below (owns_base o5 hlo) b, owns_below (owns_base o6 hlo) b, fun j hj => ⟨hne j hj, by have := (o5.lt j hj).2; omega, by have := (o5.lt j hj).2; omega⟩, fun j hj => ⟨by have := (o6.lt j hj).2; omega, by have := (o6.lt j hj).2; omega⟩, bel_trans B b⟩
theorem hq_3 {w2 w5 : World} {R : HR} {a5 a6 : Option Addr} {c5 c6 lo : Nat} (o5 : w5.ownsRow lo 3 1 (.slice a5 R.fl.length c5) R.fl.length (R.fl.map (Value.int .i64))) (o6 : w5.ownsRow lo 3 1 (.slice a6 R.ml.length c6) R.ml.length (R.ml.map (Value.int .i64))) (hne : ∀ j, (Value.slice a5 R.fl.length c5).ownBlock = some j → (Value.slice a6 R.ml.length c6).ownBlock ≠ some j) (B : Below w2.heap.size w2 w5) {A : Nat} (X : Box w5 A #[.int .i64 0, .slice none 0 0, .bool false] 29) (hA : w2.heap.size ≤ A) (hlo : A < lo) :
    HQ w2 R (.pointer (some ⟨A, 0, none⟩)) (.pointer (some ⟨w5.heap.size, 0, none⟩)) (.bool R.b) ((((w5.setCell ⟨A, 0, none⟩ (.int .i64 R.fs)).setCell ⟨A, 1, none⟩ (.slice a5 R.fl.length c5)).setCell ⟨A, 2, none⟩ (.bool R.fq)).alloc (.cells #[.int .i64 R.mkd, .int .i64 R.mp, .bool false, .slice a6 R.ml.length c6] 30)) := by
  have XS : Box (((w5.setCell ⟨A, 0, none⟩ (.int .i64 R.fs)).setCell ⟨A, 1, none⟩ (.slice a5 R.fl.length c5)).setCell ⟨A, 2, none⟩ (.bool R.fq)) A #[.int .i64 R.fs, .slice a5 R.fl.length c5, .bool R.fq] 29 := heap_setCell_same _ _ 2 _ _ _ (heap_setCell_same _ _ 1 _ _ _ (heap_setCell_same _ _ 0 _ _ _ X))
  have BS : Below w2.heap.size w2 (((w5.setCell ⟨A, 0, none⟩ (.int .i64 R.fs)).setCell ⟨A, 1, none⟩ (.slice a5 R.fl.length c5)).setCell ⟨A, 2, none⟩ (.bool R.fq)) := by
    repeat refine bel_setCell ?_ _ _ hA
    exact B
  have O5 := o5
  have O6 := o6
  replace O5 := owns_setCell O5 (a := ⟨A, 0, none⟩) (fun j hj => by have := (o5.lt j hj).1; simp; omega) (.int .i64 R.fs)
  replace O5 := owns_setCell O5 (a := ⟨A, 1, none⟩) (fun j hj => by have := (o5.lt j hj).1; simp; omega) (.slice a5 R.fl.length c5)
  replace O5 := owns_setCell O5 (a := ⟨A, 2, none⟩) (fun j hj => by have := (o5.lt j hj).1; simp; omega) (.bool R.fq)
  replace O6 := owns_setCell O6 (a := ⟨A, 0, none⟩) (fun j hj => by have := (o6.lt j hj).1; simp; omega) (.int .i64 R.fs)
  replace O6 := owns_setCell O6 (a := ⟨A, 1, none⟩) (fun j hj => by have := (o6.lt j hj).1; simp; omega) (.slice a5 R.fl.length c5)
  replace O6 := owns_setCell O6 (a := ⟨A, 2, none⟩) (fun j hj => by have := (o6.lt j hj).1; simp; omega) (.bool R.fq)
  obtain ⟨W, hW⟩ : ∃ W, (((w5.setCell ⟨A, 0, none⟩ (.int .i64 R.fs)).setCell ⟨A, 1, none⟩ (.slice a5 R.fl.length c5)).setCell ⟨A, 2, none⟩ (.bool R.fq)) = W := ⟨_, rfl⟩
  have hWs : W.heap.size = w5.heap.size := by rw [← hW]; simp
  rw [hW] at XS BS O5 O6 ⊢
  have Y := Box.new W #[.int .i64 R.mkd, .int .i64 R.mp, .bool false, .slice a6 R.ml.length c6] 30
  rw [hWs] at Y
  have b := bel_alloc (Below.refl W.heap.size W) (.cells #[.int .i64 R.mkd, .int .i64 R.mp, .bool false, .slice a6 R.ml.length c6] 30)
  have hz := B.size
  have k5 := o5.lt
  have k6 := o6.lt
  exact ⟨_, _, a5, c5, a6, c6, rfl, rfl, rfl, hA, hz, XS.below b, Y, owns_below (owns_base O5 (by omega)) b, owns_below (owns_base O6 (by omega)) b, fun j hj => ⟨hne j hj, by have := k5 j hj; omega, by have := k5 j hj; omega⟩, fun j hj => ⟨by have := k6 j hj; omega, by have := k6 j hj; omega⟩, bel_trans BS b⟩
theorem hq_4 {w2 w5 : World} {R : HR} {a5 a6 : Option Addr} {c5 c6 lo : Nat} (o5 : w5.ownsRow lo 3 1 (.slice a5 R.fl.length c5) R.fl.length (R.fl.map (Value.int .i64))) (o6 : w5.ownsRow lo 3 1 (.slice a6 R.ml.length c6) R.ml.length (R.ml.map (Value.int .i64))) (hne : ∀ j, (Value.slice a5 R.fl.length c5).ownBlock = some j → (Value.slice a6 R.ml.length c6).ownBlock ≠ some j) (B : Below w2.heap.size w2 w5) {A : Nat} (X : Box w5 A #[.int .i64 0, .int .i64 0, .bool false, .slice none 0 0] 30) (hA : w2.heap.size ≤ A) (hlo : A < lo) :
    HQ w2 R (.pointer (some ⟨w5.heap.size, 0, none⟩)) (.pointer (some ⟨A, 0, none⟩)) (.bool R.b) (((((w5.setCell ⟨A, 0, none⟩ (.int .i64 R.mkd)).setCell ⟨A, 1, none⟩ (.int .i64 R.mp)).setCell ⟨A, 2, none⟩ (.bool false)).setCell ⟨A, 3, none⟩ (.slice a6 R.ml.length c6)).alloc (.cells #[.int .i64 R.fs, .slice a5 R.fl.length c5, .bool R.fq] 29)) := by
  have XS : Box ((((w5.setCell ⟨A, 0, none⟩ (.int .i64 R.mkd)).setCell ⟨A, 1, none⟩ (.int .i64 R.mp)).setCell ⟨A, 2, none⟩ (.bool false)).setCell ⟨A, 3, none⟩ (.slice a6 R.ml.length c6)) A #[.int .i64 R.mkd, .int .i64 R.mp, .bool false, .slice a6 R.ml.length c6] 30 := heap_setCell_same _ _ 3 _ _ _ (heap_setCell_same _ _ 2 _ _ _ (heap_setCell_same _ _ 1 _ _ _ (heap_setCell_same _ _ 0 _ _ _ X)))
  have BS : Below w2.heap.size w2 ((((w5.setCell ⟨A, 0, none⟩ (.int .i64 R.mkd)).setCell ⟨A, 1, none⟩ (.int .i64 R.mp)).setCell ⟨A, 2, none⟩ (.bool false)).setCell ⟨A, 3, none⟩ (.slice a6 R.ml.length c6)) := by
    repeat refine bel_setCell ?_ _ _ hA
    exact B
  have O5 := o5
  have O6 := o6
  replace O5 := owns_setCell O5 (a := ⟨A, 0, none⟩) (fun j hj => by have := (o5.lt j hj).1; simp; omega) (.int .i64 R.mkd)
  replace O5 := owns_setCell O5 (a := ⟨A, 1, none⟩) (fun j hj => by have := (o5.lt j hj).1; simp; omega) (.int .i64 R.mp)
  replace O5 := owns_setCell O5 (a := ⟨A, 2, none⟩) (fun j hj => by have := (o5.lt j hj).1; simp; omega) (.bool false)
  replace O5 := owns_setCell O5 (a := ⟨A, 3, none⟩) (fun j hj => by have := (o5.lt j hj).1; simp; omega) (.slice a6 R.ml.length c6)
  replace O6 := owns_setCell O6 (a := ⟨A, 0, none⟩) (fun j hj => by have := (o6.lt j hj).1; simp; omega) (.int .i64 R.mkd)
  replace O6 := owns_setCell O6 (a := ⟨A, 1, none⟩) (fun j hj => by have := (o6.lt j hj).1; simp; omega) (.int .i64 R.mp)
  replace O6 := owns_setCell O6 (a := ⟨A, 2, none⟩) (fun j hj => by have := (o6.lt j hj).1; simp; omega) (.bool false)
  replace O6 := owns_setCell O6 (a := ⟨A, 3, none⟩) (fun j hj => by have := (o6.lt j hj).1; simp; omega) (.slice a6 R.ml.length c6)
  obtain ⟨W, hW⟩ : ∃ W, ((((w5.setCell ⟨A, 0, none⟩ (.int .i64 R.mkd)).setCell ⟨A, 1, none⟩ (.int .i64 R.mp)).setCell ⟨A, 2, none⟩ (.bool false)).setCell ⟨A, 3, none⟩ (.slice a6 R.ml.length c6)) = W := ⟨_, rfl⟩
  have hWs : W.heap.size = w5.heap.size := by rw [← hW]; simp
  rw [hW] at XS BS O5 O6 ⊢
  have Y := Box.new W #[.int .i64 R.fs, .slice a5 R.fl.length c5, .bool R.fq] 29
  rw [hWs] at Y
  have b := bel_alloc (Below.refl W.heap.size W) (.cells #[.int .i64 R.fs, .slice a5 R.fl.length c5, .bool R.fq] 29)
  have hz := B.size
  have k5 := o5.lt
  have k6 := o6.lt
  exact ⟨_, _, a5, c5, a6, c6, rfl, rfl, rfl, hz, hA, Y, XS.below b, owns_below (owns_base O5 (by omega)) b, owns_below (owns_base O6 (by omega)) b, fun j hj => ⟨hne j hj, by have := k5 j hj; omega, by have := k5 j hj; omega⟩, fun j hj => ⟨by have := k6 j hj; omega, by have := k6 j hj; omega⟩, bel_trans BS b⟩
theorem hq_5 {w2 w5 : World} {R : HR} {a5 a6 : Option Addr} {c5 c6 lo : Nat} (o5 : w5.ownsRow lo 3 1 (.slice a5 R.fl.length c5) R.fl.length (R.fl.map (Value.int .i64))) (o6 : w5.ownsRow lo 3 1 (.slice a6 R.ml.length c6) R.ml.length (R.ml.map (Value.int .i64))) (hne : ∀ j, (Value.slice a5 R.fl.length c5).ownBlock = some j → (Value.slice a6 R.ml.length c6).ownBlock ≠ some j) (B : Below w2.heap.size w2 w5) {A M : Nat} (X : Box w5 A #[.int .i64 0, .slice none 0 0, .bool false] 29) (Y : Box w5 M #[.int .i64 0, .int .i64 0, .bool false, .slice none 0 0] 30) (hA : w2.heap.size ≤ A) (hlo : A < lo) (hM : w2.heap.size ≤ M) (hlo2 : M < lo) (hAM : A ≠ M) :
    HQ w2 R (.pointer (some ⟨A, 0, none⟩)) (.pointer (some ⟨M, 0, none⟩)) (.bool R.b) (((((((w5.setCell ⟨A, 0, none⟩ (.int .i64 R.fs)).setCell ⟨A, 1, none⟩ (.slice a5 R.fl.length c5)).setCell ⟨A, 2, none⟩ (.bool R.fq)).setCell ⟨M, 0, none⟩ (.int .i64 R.mkd)).setCell ⟨M, 1, none⟩ (.int .i64 R.mp)).setCell ⟨M, 2, none⟩ (.bool false)).setCell ⟨M, 3, none⟩ (.slice a6 R.ml.length c6)) := by
  have XS : Box (((w5.setCell ⟨A, 0, none⟩ (.int .i64 R.fs)).setCell ⟨A, 1, none⟩ (.slice a5 R.fl.length c5)).setCell ⟨A, 2, none⟩ (.bool R.fq)) A #[.int .i64 R.fs, .slice a5 R.fl.length c5, .bool R.fq] 29 := heap_setCell_same _ _ 2 _ _ _ (heap_setCell_same _ _ 1 _ _ _ (heap_setCell_same _ _ 0 _ _ _ X))
  replace XS := (((XS.far ⟨M, 0, none⟩ (.int .i64 R.mkd) hAM).far ⟨M, 1, none⟩ (.int .i64 R.mp) hAM).far ⟨M, 2, none⟩ (.bool false) hAM).far ⟨M, 3, none⟩ (.slice a6 R.ml.length c6) hAM
  replace Y := ((Y.far ⟨A, 0, none⟩ (.int .i64 R.fs) (fun e => hAM e.symm)).far ⟨A, 1, none⟩ (.slice a5 R.fl.length c5) (fun e => hAM e.symm)).far ⟨A, 2, none⟩ (.bool R.fq) (fun e => hAM e.symm)
  have k5 := o5.lt
  have k6 := o6.lt
  refine ⟨A, M, a5, c5, a6, c6, rfl, rfl, rfl, hA, hM, XS, heap_setCell_same _ _ 3 _ _ _ (heap_setCell_same _ _ 2 _ _ _ (heap_setCell_same _ _ 1 _ _ _ (heap_setCell_same _ _ 0 _ _ _ Y))), ?_, ?_, fun j hj => ⟨hne j hj, by have := k5 j hj; omega, by have := k5 j hj; omega⟩, fun j hj => ⟨by have := k6 j hj; omega, by have := k6 j hj; omega⟩, ?_⟩
  · repeat refine owns_setCell ?_ ?_ _
    · exact owns_base o5 (by omega)
    all_goals (intro j h; have := k5 j h; simp; omega)
  · repeat refine owns_setCell ?_ ?_ _
    · exact owns_base o6 (by omega)
    all_goals (intro j h; have := k6 j h; simp; omega)
  · repeat refine bel_setCell ?_ _ _ ?_
    · exact B
    all_goals (first | exact hA | exact hM)

set_option maxHeartbeats 400000 in
theorem markMsg_w2 (k p : Int) (o : Bool) (base n : Nat) (a : Option Addr) (c : Nat) (k0 : Int) (xs : List Value) (w : World) (h0 : 0 ≤ k0) (h1 : k0 ≤ 100000000000) (hn : n ≤ 1048577) (hown : w.ownsRow base 3 1 (.slice a n c) n xs) :
    Calls Try.prog 13 #[.agg #[.int .i64 k, .int .i64 p, .bool o, .slice a n c], .int .i64 k0] w fun e w' => e = .returned (.int .i64 (k0 + n)) ∧ w'.ownsRow base 3 1 (.slice a n c) n ((mki k0 n).map (Value.int .i64)) ∧ w.grownBy w' (Value.slice a n c).ownBlock := by
  go_enter Try.func13, Try.ntmps13
  go_wp2_with fail
  refine (markIntS_any base n _ k0 xs _ h0 (by omega) (by omega) (hown.alloc _)).mono ?_
  rintro e w1 ⟨rfl, o1, g1⟩
  have g := grownBy_trans (World.grownBy_alloc w (.cells #[.int .i64 k, .int .i64 p, .bool o, .slice a n c] 30) (Value.slice a n c).ownBlock) g1
  clear g1
  go_wp2
  go_ret
  exact ⟨rfl, o1, g⟩

theorem hear_len (s : Int) (q : Bool) (xs : List Int) (k p : Int) (o : Bool) (ys : List Int) (N : Nat) (hx : xs.length ≤ N) (hy : ys.length ≤ N) : (hearR s q xs k p o ys).fl.length ≤ N ∧ (hearR s q xs k p o ys).ml.length ≤ N := by
  rcases hear_cases s q xs k p o ys with ⟨_, h⟩ | ⟨_, _, h⟩ | ⟨_, _, ⟨_, h⟩ | ⟨_, h⟩ | ⟨_, _, _, h⟩ | ⟨_, _, _, h⟩ | ⟨_, _, h⟩ | ⟨_, _, _, h⟩⟩
  all_goals
    rw [h]
    simp
    try omega

set_option maxHeartbeats 400000 in
theorem szMsg_gen2 (k p : Int) (o : Bool) (a : Option Addr) (n c : Nat) (r : Int) (w : World) (h0 : 0 ≤ r) (h1 : r ≤ 1048576) (hn : n ≤ maxLen) :
    Calls Try.prog 5 #[.agg #[.int .i64 k, .int .i64 p, .bool o, .slice a n c], .int .i64 r] w fun e w' => ∃ r2 : Int, e = .returned (.int .i64 r2) ∧ (r2 = -1 ∨ (r2 = r - n ∧ 0 ≤ r2)) ∧ Below w.heap.size w w' := by
  unfold maxLen at hn
  by_cases h : (n : Int) ≤ r
  · go_enter Try.func5, Try.ntmps5
    go_wp2
    go_ret
    exact ⟨_, rfl, .inr ⟨rfl, by omega⟩, (Below.refl _ _).alloc (Nat.le_refl _) _⟩
  · go_enter Try.func5, Try.ntmps5
    go_wp2
    go_ret
    exact ⟨_, rfl, .inl rfl, (Below.refl _ _).alloc (Nat.le_refl _) _⟩

end Go.Proofs.Ytgpmkojajmkkoaa
