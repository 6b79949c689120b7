/- The law FnExactWork over any impl.Work that answers as it should (written by mk9w.py). -/
import Derived.Test.YtiilgkloddflcaaLw9a
import Derived.Test.YtiilgkloddflcaaLw9b
import Derived.Test.YtiilgkloddflcaaLw9c
namespace Go.Proofs.Ytiilgkloddflcaa
open Go.ChangeShapes Go.WideShapes Go.ChangeAt Go.RowKit
set_option linter.unusedVariables false

namespace LawFnExactWork
theorem keep6w {W W' : World} (b : Below W.heap.size W W') {a0 a1 a2 a3 a4 a5 : Addr} {u0 u1 u2 u3 u4 u5 : Value}
    (h : W.cell? a0 = some u0 ∧ W.cell? a1 = some u1 ∧ W.cell? a2 = some u2 ∧ W.cell? a3 = some u3 ∧ W.cell? a4 = some u4 ∧ W.cell? a5 = some u5) :
    W'.cell? a0 = some u0 ∧ W'.cell? a1 = some u1 ∧ W'.cell? a2 = some u2 ∧ W'.cell? a3 = some u3 ∧ W'.cell? a4 = some u4 ∧ W'.cell? a5 = some u5 :=
  ⟨cell_later b h.1, cell_later b h.2.1, cell_later b h.2.2.1, cell_later b h.2.2.2.1, cell_later b h.2.2.2.2.1, cell_later b h.2.2.2.2.2⟩

theorem owns_box_ne {w : World} {m lo s n j : Nat} {cs : Array Value} {v : Value} {xs : List Value} (o : w.ownsRow lo 3 s v n xs) (h : Box w m cs 27) (hj : v.ownBlock = some j) (he : j = m) : False := by
  subst he
  rcases o.2 with ⟨rfl, _⟩ | ⟨g, cap, cur, rfl, _, hg, _⟩
  · simp [Value.ownBlock] at hj
  · simp [Value.ownBlock] at hj
    subst hj
    rw [show w.heap[g]? = _ from h] at hg
    simp at hg

set_option maxRecDepth 100000 in
set_option maxHeartbeats 8000000 in
theorem walkG (HI : ∀ (p : Option Addr) (c : Nat) (xs : List Int) (pc st op r a b n got : Int) (w : World), Row .i64 w p xs → xs.length ≤ 1048577 → Calls Try.prog 24 #[.agg #[.slice p xs.length c, .int .i64 pc, .int .i64 st], .agg (icells op r a b n), .int .i64 got] w (WorkP (workR xs pc st op r a b n got) w))
    (a : Option Addr) (ca : Nat) (xs : List Int) (pc st : Int) (op r ia ib n got : Int) (w : World) (hc : Came .i64 w a ca xs) (ht : True) (hwf : (Lit.int .i64 got).wf = true) :
    Calls Try.prog 6 #[.agg #[.slice a xs.length ca, .int .i64 pc, .int .i64 st], .agg (icells op r ia ib n), .int .i64 got] w fun e w' => e = .returned (.bool true) ∧ Below w.heap.size w w' := by
  clear hwf ht
  have B := bel_alloc (bel_alloc (Below.refl w.heap.size w) (.cells #[.slice a xs.length ca, .int .i64 pc, .int .i64 st] 24)) (.cells (icells op r ia ib n) 35)
  obtain ⟨XA, XI⟩ := Box.two w #[.slice a xs.length ca, .int .i64 pc, .int .i64 st] (icells op r ia ib n) 24 35
  by_cases hl : 1048576 < xs.length
  · have hn : xs.length ≤ maxLen := Nat.le_trans hc.1 hc.2.1
    clear hc XA XI HI
    go_enter Try.func6, Try.ntmps6
    go_wp2_with fail
    refine (szHart_big pc st a _ ca _ hl hn).mono ?_
    rintro e w1 ⟨rfl, b1⟩
    replace B := bel_trans B b1
    go_wp2
    go_ret
    exact ⟨rfl, B⟩
  · have hsm : xs.length ≤ 1048576 := by omega
    have HR0 : Hid (Row .i64 w a xs) := hc.row (by omega)
    clear hc hl
    have hLl := workR_len xs pc st op r ia ib n got
    obtain ⟨R, hR⟩ : ∃ R, workR xs pc st op r ia ib n got = R := ⟨_, rfl⟩
    have HI' : Hid (∀ (p : Option Addr) (c : Nat) (W : World), Row .i64 W p xs → Calls Try.prog 24 #[.agg #[.slice p xs.length c, .int .i64 pc, .int .i64 st], .agg (icells op r ia ib n), .int .i64 got] W (WorkP R W)) := fun p c W h => by
      have := HI p c xs pc st op r ia ib n got W h (by omega)
      rw [hR] at this
      exact this
    have HS : Hid (∀ (p : Option Addr) (c : Nat) (W : World), Row .i64 W p xs → Calls Try.prog 23 #[.agg #[.slice p xs.length c, .int .i64 pc, .int .i64 st], .agg (icells op r ia ib n), .int .i64 got] W (WorkP R W)) := fun p c W h => by
      have := specWork_any p c xs pc st op r ia ib n got W h (by omega)
      rw [hR] at this
      exact this
    rw [hR] at hLl
    obtain ⟨L, pq, sq, v⟩ := R
    have hLs : L.length ≤ 1048576 := by simp only at hLl; omega
    clear hR HI hLl
    go_enter Try.func6, Try.ntmps6
    go_wp2_with fail
    refine (szHart_small pc st a _ ca _ hsm).mono ?_
    rintro e w2 ⟨rfl, b2⟩
    replace XA := XA.below b2
    replace XI := XI.below b2
    replace B := bel_trans B b2
    clear b2
    have hd : decide ((1048576 : Int) - xs.length < 0) = false := by simp; omega
    have zw : w.heap.size + 1 < w2.heap.size := XI.lt
    go_wp2_with fail
    refine r5 hsm (HR0.out.below B) XA XI HS ?_
    intro v23 v24 v25 v26 v27 v28 v29 v30 v31 s8 s9 wc hcut
    obtain ⟨AW, aW, cW, rfl, rfl, hAW, XW, OW, bc⟩ := hcut
    have lW : Hid (∀ j, (Value.slice aW L.length cW).ownBlock = some j → w2.heap.size ≤ j ∧ j < wc.heap.size) := fun j h => OW.lt j h
    have zc := bc.size
    have zAW := XW.lt
    replace XA := XA.below bc
    replace XI := XI.below bc
    replace B := bel_trans B bc
    clear bc hd HS
    obtain ⟨m0, m1, m2, mz⟩ := XA.at3
    go_wp2_with fail
    refine (toHart_any pc st a ca xs _ hsm (HR0.out.below B)).mono ?_
    rintro e w4 ⟨v4, rfl, o4, b4⟩
    clear m0 m1 m2 mz
    have l4 : Hid (∀ j, v4.ownBlock = some j → wc.heap.size ≤ j ∧ j < w4.heap.size) := fun j h => o4.lt j h
    have z4 := b4.size
    obtain ⟨a4, c4, rfl⟩ := owns_slice o4
    replace XA := XA.below b4
    replace XI := XI.below b4
    replace XW := XW.below b4
    replace OW := owns_below OW b4
    replace B := bel_trans B b4
    clear b4
    go_wp2_with fail
    have bx := bel_alloc (Below.refl w4.heap.size w4) (.cells #[.slice a4 xs.length c4, .int .i64 pc, .int .i64 st] 27)
    have X4 := Box.new w4 #[.slice a4 xs.length c4, .int .i64 pc, .int .i64 st] 27
    replace XA := XA.below bx
    replace XI := XI.below bx
    replace XW := XW.below bx
    replace OW := owns_below OW bx
    replace o4 := owns_below o4 bx
    replace B := bel_trans B bx
    clear bx
    refine r7 hsm (owns_row' o4 (by omega)) X4 XI HI' ?_
    intro v34 v35 v36 v37 v38 v39 v40 v41 s11 s12 w5 hcut
    obtain ⟨AG, aG, cG, rfl, rfl, hAG, XG, OG, b5⟩ := hcut
    simp only [World.size_alloc] at hAG
    have lG : Hid (∀ j, (Value.slice aG L.length cG).ownBlock = some j → w4.heap.size < j ∧ j < w5.heap.size) := fun j h => by have h := OG.lt j h; simp at h; omega
    have z5 : w4.heap.size < w5.heap.size := by have h := b5.size; simp at h; omega
    have zAG := XG.lt
    replace XA := XA.below b5
    replace XI := XI.below b5
    replace XW := XW.below b5
    replace X4 := X4.below b5
    replace OW := owns_below OW b5
    replace o4 := owns_below o4 b5
    replace B := bel_trans B b5
    clear b5
    obtain ⟨y0, y1, y2, yz⟩ := XG.at3
    obtain ⟨k0, k1, k2, kz⟩ := XW.at3
    go_wp2_with fail
    refine (eqHart_any pq sq aG aW cG cW L _ (owns_row' OG (by omega)) (owns_row' OW (by omega))).mono ?_
    rintro e w6 ⟨rfl, b6⟩
    clear y0 y1 y2 yz k0 k1 k2 kz
    replace XA := XA.below b6
    replace XI := XI.below b6
    replace XW := XW.below b6
    replace X4 := X4.below b6
    replace XG := XG.below b6
    replace OW := owns_below OW b6
    replace o4 := owns_below o4 b6
    replace OG := owns_below OG b6
    replace B := bel_trans B b6
    clear b6
    obtain ⟨m0, m1, m2, mz⟩ := XA.at3
    obtain ⟨n0, n1, n2, nz⟩ := X4.at3
    have q4 := owns_row' o4 (by omega)
    have hr := HR0.out.below B
    go_wp2_with fail
    go_region_held3 (fun w' => w'.cell? ⟨w.heap.size, 0, none⟩ = some (.slice a xs.length ca) ∧ w'.cell? ⟨w.heap.size, 1, none⟩ = some (.int .i64 pc) ∧ w'.cell? ⟨w.heap.size, 2, none⟩ = some (.int .i64 st) ∧ w'.cell? ⟨w4.heap.size, 0, none⟩ = some (.slice a4 xs.length c4) ∧ w'.cell? ⟨w4.heap.size, 1, none⟩ = some (.int .i64 pc) ∧ w'.cell? ⟨w4.heap.size, 2, none⟩ = some (.int .i64 st))
      (first | (with_reducible exact keep6w b8 ‹_›) | (with_reducible exact keep6w b7 ‹_›) | go_keep)
      (first | (go_at_call 11; refine (toHart_any pc st a ca xs _ hsm ?_).mono ?_; exact hr; rintro e w7 ⟨v7, rfl, o7, b7⟩; obtain ⟨a7, c7, rfl, q7, _, _⟩ := owns_row o7 (by omega)) | (go_at_call 13; refine (eqHart_any pc st a4 a7 c4 c7 xs _ ?_ ?_).mono ?_; exact q4.below (bel_undrew b7); exact q7; rintro e w8 ⟨rfl, b8⟩))
    have b68 := bel_trans (bel_undrew b7) b8
    clear b7 b8 o7 q7 q4 m0 m1 m2 mz n0 n1 n2 nz hr
    replace XA := XA.below b68
    replace XI := XI.below b68
    replace XW := XW.below b68
    replace X4 := X4.below b68
    replace XG := XG.below b68
    replace OW := owns_below OW b68
    replace o4 := owns_below o4 b68
    replace OG := owns_below OG b68
    replace B := bel_trans B b68
    clear b68
    obtain ⟨n0, n1, n2, nz⟩ := X4.at3
    go_wp2_with fail
    refine (markHart_any pc st _ xs.length a4 c4 1 _ _ (by omega) (by omega) (by omega) o4).mono ?_
    rintro e w9 ⟨rfl, o9, g9⟩
    clear o9 o4 n0 n1 n2 nz X4
    replace XA := XA.kept g9 (fun j hj => by have := l4.out j hj; omega)
    replace XI := XI.kept g9 (fun j hj => by have := l4.out j hj; omega)
    replace XW := XW.kept g9 (fun j hj => by have := l4.out j hj; omega)
    replace XG := XG.kept g9 (fun j hj => by have := l4.out j hj; omega)
    replace OW := owns_ne OW g9 (fun j hj hr => by have := l4.out j hr; have := lW.out j hj; omega)
    replace OG := owns_ne OG g9 (fun j hj hr => by have := l4.out j hr; have := lG.out j hj; omega)
    replace B := B.grown g9 B.size (fun j hj => by have := l4.out j hj; omega)
    clear g9
    have hd : decide ((1 : Int) + xs.length < 0) = false := by simp; omega
    obtain ⟨y0, y1, y2, yz⟩ := XG.at3
    obtain ⟨k0, k1, k2, kz⟩ := XW.at3
    go_wp2_with fail
    refine (eqHart_any pq sq aG aW cG cW L _ (owns_row' OG (by omega)) (owns_row' OW (by omega))).mono ?_
    rintro e w10 ⟨rfl, b10⟩
    clear hd y0 y1 y2 yz k0 k1 k2 kz
    replace XA := XA.below b10
    replace XI := XI.below b10
    replace XW := XW.below b10
    replace XG := XG.below b10
    replace OW := owns_below OW b10
    replace OG := owns_below OG b10
    replace B := bel_trans B b10
    clear b10
    obtain ⟨y0, y1, y2, yz⟩ := XG.at3
    go_wp2_with fail
    refine (markHart_any pq sq _ L.length aG cG 1 _ _ (by omega) (by omega) (by omega) OG).mono ?_
    rintro e w11 ⟨rfl, OM, g11⟩
    clear y0 y1 y2 yz
    replace XA := XA.kept g11 (fun j hj e => by have := lG.out j hj; omega)
    replace XI := XI.kept g11 (fun j hj e => by have := lG.out j hj; omega)
    replace XW := XW.kept g11 (fun j hj e => by have := lG.out j hj; omega)
    replace XG := XG.kept g11 (fun j hj e => owns_box_ne OG XG hj e)
    replace OW := owns_ne OW g11 (fun j hj hr => by have := lG.out j hr; have := lW.out j hj; omega)
    replace B := B.grown g11 B.size (fun j hj => by have := lG.out j hj; omega)
    clear g11 OG
    have hd : decide ((1 : Int) + L.length < 0) = false := by simp; omega
    obtain ⟨y0, y1, y2, yz⟩ := XG.at3
    go_wp2_with fail
    refine (heldHart_any pq sq aG cG L.length 1 _ (by omega) (by omega) (by omega) (owns_row' OM (by rw [mki_length]; omega))).mono ?_
    rintro e w12 ⟨rfl, b12⟩
    clear y0 y1 y2 yz
    replace XA := XA.below b12
    replace XI := XI.below b12
    replace XW := XW.below b12
    replace XG := XG.below b12
    replace OW := owns_below OW b12
    replace OM := owns_below OM b12
    replace B := bel_trans B b12
    clear b12
    go_wp2_with fail
    refine r24 hsm (HR0.out.below B) XA XI HI' ?_
    intro v83 v84 v85 v86 v87 v88 v89 v90 v91 s16 s17 w13 hcut
    obtain ⟨AH, aH, cH, rfl, rfl, hAH, XH, OH, b13⟩ := hcut
    replace XA := XA.below b13
    replace XI := XI.below b13
    replace XW := XW.below b13
    replace XG := XG.below b13
    replace OW := owns_below OW b13
    replace OM := owns_below OM b13
    replace B := bel_trans B b13
    clear b13
    obtain ⟨y0, y1, y2, yz⟩ := XH.at3
    obtain ⟨k0, k1, k2, kz⟩ := XW.at3
    go_wp2_with fail
    refine (eqHart_any pq sq aH aW cH cW L _ (owns_row' OH (by omega)) (owns_row' OW (by omega))).mono ?_
    rintro e w14 ⟨rfl, b14⟩
    clear y0 y1 y2 yz k0 k1 k2 kz
    replace XA := XA.below b14
    replace XI := XI.below b14
    replace XW := XW.below b14
    replace XG := XG.below b14
    replace XH := XH.below b14
    replace OW := owns_below OW b14
    replace OM := owns_below OM b14
    replace OH := owns_below OH b14
    replace B := bel_trans B b14
    clear b14
    obtain ⟨y0, y1, y2, yz⟩ := XG.at3
    go_wp2_with fail
    refine (heldHart_any pq sq aG cG L.length 1 _ (by omega) (by omega) (by omega) (owns_row' OM (by rw [mki_length]; omega))).mono ?_
    rintro e w15 ⟨rfl, b15⟩
    replace B := bel_trans B b15
    clear b15 OM OW OH XA XI XW XG XH y0 y1 y2 yz
    go_wp2
    go_ret
    exact ⟨rfl, B⟩
end LawFnExactWork
end Go.Proofs.Ytiilgkloddflcaa
