/- For every number of nodes the law FnExactHomeNew returns true: HomeNew answers as the specification, field by field, and its answer owns its memory, behind another call too. Conditions: none. -/
import Derived.Test.YtmbfhmpafjcneabHomM
import Derived.Test.YtmbfhmpafjcneabHomN
import Derived.Test.YtmbfhmpafjcneabOpen
namespace Go.Proofs.Ytmbfhmpafjcneab
open Go.ChangeShapes Go.WideShapes Go.ChangeAt Go.RowKit
set_option linter.unusedVariables false

namespace LawFnExactHomeNew
theorem newR_le (nodes : Int) : (newR nodes).length ≤ 4 := by
  unfold newR
  cases h : inB nodes 1 4
  · simp
  · have : 1 ≤ nodes ∧ nodes ≤ 4 := by simpa [inB] using h
    simp
    omega
theorem newL_le (nodes : Int) : (newL nodes).length ≤ 4 := by
  unfold newL
  cases h : inB nodes 1 4 <;> simp

theorem at8h {w : World} {m : Nat} {t : TypeId} {c0 c1 c2 c3 c4 c5 c6 c7 : Value} (h : Box w m #[c0, c1, c2, c3, c4, c5, c6, c7] t) :
    w.cell? ⟨m, 0, none⟩ = some c0 ∧ w.cell? ⟨m, 1, none⟩ = some c1 ∧ w.cell? ⟨m, 2, none⟩ = some c2 ∧ w.cell? ⟨m, 3, none⟩ = some c3 ∧ w.cell? ⟨m, 4, none⟩ = some c4 ∧ w.cell? ⟨m, 5, none⟩ = some c5 ∧ w.cell? ⟨m, 6, none⟩ = some c6 ∧ w.cell? ⟨m, 7, none⟩ = some c7 ∧ m < w.heap.size :=
  ⟨by rw [h.cell]; rfl, by rw [h.cell]; rfl, by rw [h.cell]; rfl, by rw [h.cell]; rfl, by rw [h.cell]; rfl, by rw [h.cell]; rfl, by rw [h.cell]; rfl, by rw [h.cell]; rfl, h.lt⟩
theorem owns_row2 {w : World} {base e : Nat} {a : Option Addr} {n cap : Nat} {k : Int} (h : w.ownsRow base e 1 (.slice a n cap) n ((mki k n).map (Value.int .i64))) (hl : (mki k n).length ≤ 140737488351232) : Row .i64 w a (mki k n) := by
  have h' : w.ownsRow base e 1 (.slice a (mki k n).length cap) (mki k n).length ((mki k n).map (Value.int .i64)) := by rw [mki_length]; exact h
  exact owns_row' h' hl
theorem owns_two {w w' : World} {base e size n : Nat} {v : Value} {xs : List Value} {A B : Option Nat} (h : w.ownsRow base e size v n xs) (K : ∀ i, i < w.heap.size → A ≠ some i → B ≠ some i → w'.heap[i]? = w.heap[i]?)
    (ha : ∀ j, v.ownBlock = some j → A ≠ some j ∧ B ≠ some j) : w'.ownsRow base e size v n xs := by
  refine ⟨h.1, ?_⟩
  rcases h.2 with hn | ⟨g, cap, cur, rfl, hbg, hg, rest⟩
  · exact .inl hn
  · exact .inr ⟨g, cap, cur, rfl, hbg, (K g (Array.getElem?_eq_some_iff.1 hg).1 (ha g rfl).1 (ha g rfl).2).trans hg, rest⟩
theorem box_two {w w' : World} {m : Nat} {cs : Array Value} {t : TypeId} {A B : Option Nat} (h : Box w m cs t) (K : ∀ i, i < w.heap.size → A ≠ some i → B ≠ some i → w'.heap[i]? = w.heap[i]?) (ha : A ≠ some m) (hb : B ≠ some m) : Box w' m cs t :=
  (K m h.lt ha hb).trans h

set_option maxRecDepth 100000 in
set_option maxHeartbeats 4000000 in
theorem walk (nodes : Int) (w : World) (hw : (Lit.int .i64 nodes).wf = true) :
    Calls Try.prog 3 #[.int .i64 nodes] w fun e w' => e = .returned (.bool true) ∧ Below w.heap.size w w' := by
  obtain ⟨xs, hxs⟩ : ∃ xs, newL nodes = xs := ⟨_, rfl⟩
  obtain ⟨bs, hbs⟩ : ∃ bs, newR nodes = bs := ⟨_, rfl⟩
  obtain ⟨ow, how⟩ : ∃ ow, newO nodes = ow := ⟨_, rfl⟩
  have hxl : xs.length ≤ 4 := by rw [← hxs]; exact newL_le nodes
  have hbl : bs.length ≤ 4 := by rw [← hbs]; exact newR_le nodes
  have HP : Hid (∀ W e W', NewP nodes W e W' → ∃ al cl ar cr, e = .returned (.agg #[.slice al xs.length cl, .int .i64 ow, .slice ar bs.length cr, .bool false, .int .i64 0, .bool false, .int .i64 0, .slice none 0 0]) ∧
      W'.ownsRow W.heap.size 3 1 (.slice al xs.length cl) xs.length (xs.map (Value.int .i64)) ∧ W'.ownsRow W.heap.size 4 1 (.slice ar bs.length cr) bs.length (bv bs) ∧ Below W.heap.size W W') := fun W e W' h => by
    unfold NewP at h
    rw [hxs, hbs, how] at h
    exact h
  clear hxs hbs how
  have vnil : ∀ W : World, VRow W none (wv []) := fun W => ⟨by simp [wv], fun i v h => by simp [wv] at h⟩
  go_enter Try.func3, Try.ntmps3
  go_wp2_with fail
  refine (specHomeNew_any nodes _).mono ?_
  intro e w1 h1
  obtain ⟨al, cl, ar, cr, rfl, o1, p1, B⟩ := HP.out _ _ _ h1
  clear h1
  have L1 : Hid (∀ j, ((Value.slice al xs.length cl).ownBlock = some j ∨ (Value.slice ar bs.length cr).ownBlock = some j) → j < w1.heap.size) := fun j h => h.elim (fun h => (o1.lt j h).2) (fun h => (p1.lt j h).2)
  go_wp2_with fail
  have bx := bel_alloc (Below.refl w1.heap.size w1) (.cells #[.slice al xs.length cl, .int .i64 ow, .slice ar bs.length cr, .bool false, .int .i64 0, .bool false, .int .i64 0, .slice none 0 0] 28)
  have X1 := Box.new w1 #[.slice al xs.length cl, .int .i64 ow, .slice ar bs.length cr, .bool false, .int .i64 0, .bool false, .int .i64 0, .slice none 0 0] 28
  replace o1 := owns_below o1 bx
  replace p1 := owns_below p1 bx
  replace B := bel_trans B bx
  clear bx
  refine (implHomeNew_any nodes _).mono ?_
  intro e w2 h1
  obtain ⟨al2, cl2, ar2, cr2, rfl, o2, p2, b2⟩ := HP.out _ _ _ h1
  clear h1
  have hz1 : w.heap.size ≤ w1.heap.size + 1 := by have h1 := B.size; simp at h1; omega
  have hz2 : w1.heap.size + 1 ≤ w2.heap.size := by have h2 := b2.size; simp at h2; omega
  have L2 : Hid (∀ j, ((Value.slice al2 xs.length cl2).ownBlock = some j ∨ (Value.slice ar2 bs.length cr2).ownBlock = some j) → w1.heap.size + 1 ≤ j ∧ j < w2.heap.size) := fun j h => by
    rcases h with h | h
    · have h2 := o2.lt j h; simp at h2; exact h2
    · have h2 := p2.lt j h; simp at h2; exact h2
  replace o1 := owns_below o1 b2
  replace p1 := owns_below p1 b2
  replace X1 := X1.below b2
  replace B := bel_trans B b2
  clear b2
  obtain ⟨x0, x1, x2, x3, x4, x5, x6, x7, x8⟩ := at8h X1
  go_wp2_with fail
  have bx := bel_alloc (Below.refl w2.heap.size w2) (.cells #[.slice al2 xs.length cl2, .int .i64 ow, .slice ar2 bs.length cr2, .bool false, .int .i64 0, .bool false, .int .i64 0, .slice none 0 0] 28)
  have X2 := Box.new w2 #[.slice al2 xs.length cl2, .int .i64 ow, .slice ar2 bs.length cr2, .bool false, .int .i64 0, .bool false, .int .i64 0, .slice none 0 0] 28
  replace o1 := owns_below o1 bx
  replace p1 := owns_below p1 bx
  replace o2 := owns_below o2 bx
  replace p2 := owns_below p2 bx
  replace X1 := X1.below bx
  replace B := bel_trans B bx
  clear bx
  have r1 := owns_row' o1 (by omega)
  have s1 := owns_vrow' p1 (by rw [bv_length]; omega)
  have r2 := owns_row' o2 (by omega)
  have s2 := owns_vrow' p2 (by rw [bv_length]; omega)
  refine (eqHome_any ow 0 0 false false al2 al ar2 ar none none cl2 cl cr2 cr 0 0 xs bs [] _ r2 r1 s2 s1 (vnil _) (vnil _)).mono ?_
  rintro e w3 ⟨rfl, b3⟩
  clear r1 r2 s1 s2 x0 x1 x2 x3 x4 x5 x6 x7 x8
  replace o1 := owns_below o1 b3
  replace p1 := owns_below p1 b3
  replace o2 := owns_below o2 b3
  replace p2 := owns_below p2 b3
  replace X1 := X1.below b3
  replace X2 := X2.below b3
  replace B := bel_trans B b3
  clear b3
  obtain ⟨y0, y1, y2, y3, y4, y5, y6, y7, y8⟩ := at8h X2
  go_wp2_with fail
  refine (markHome_none ow 0 0 false false w1.heap.size xs.length bs.length al2 ar2 cl2 cr2 1 _ _ _ (by omega) (by omega) (by omega) (by omega) (owns_base o2 (by simp)) (owns_base p2 (by simp))).mono ?_
  rintro e w4 ⟨rfl, q2, t2, k1, k2, k3, k4, k5⟩
  clear o2 p2 y0 y1 y2 y3 y4 y5 y6 y7 y8
  replace o1 := owns_two o1 k5 (fun j h => ⟨fun h2 => by have := L2.out j (.inl h2); have := L1.out j (.inl h); omega, fun h2 => by have := L2.out j (.inr h2); have := L1.out j (.inl h); omega⟩)
  replace p1 := owns_two p1 k5 (fun j h => ⟨fun h2 => by have := L2.out j (.inl h2); have := L1.out j (.inr h); omega, fun h2 => by have := L2.out j (.inr h2); have := L1.out j (.inr h); omega⟩)
  replace X1 := box_two X1 k5 (fun h2 => by have := L2.out _ (.inl h2); omega) (fun h2 => by have := L2.out _ (.inr h2); omega)
  replace X2 := box_two X2 k5 (fun h2 => by have := L2.out _ (.inl h2); omega) (fun h2 => by have := L2.out _ (.inr h2); omega)
  replace B : Below w.heap.size w w4 := B.trans ⟨k1, k2, k3, k4, fun i hi => k5 i (by have := B.size; omega) (fun h2 => by have := L2.out _ (.inl h2); omega) (fun h2 => by have := L2.out _ (.inr h2); omega)⟩
  clear k1 k2 k3 k4 k5
  have o2 := q2
  have p2 := t2
  clear q2 t2
  have r2 := owns_row2 o2 (by rw [mki_length]; omega)
  have s2 := owns_vrow' p2 (by rw [bv_length, mkb_length]; omega)
  obtain ⟨y0, y1, y2, y3, y4, y5, y6, y7, y8⟩ := at8h X2
  go_wp2_with fail
  refine (heldHome_none ow 0 0 false false xs.length bs.length al2 ar2 cl2 cr2 1 _ (by omega) (by omega) (by omega) (by omega) r2 s2).mono ?_
  rintro e w5 ⟨rfl, b5⟩
  clear r2 s2 y0 y1 y2 y3 y4 y5 y6 y7 y8
  replace o1 := owns_below o1 b5
  replace p1 := owns_below p1 b5
  replace o2 := owns_below o2 b5
  replace p2 := owns_below p2 b5
  replace X1 := X1.below b5
  replace X2 := X2.below b5
  replace B := bel_trans B b5
  clear b5
  have hd : decide ((1 : Int) + (xs.length : Int) + (bs.length : Int) < 0) = false := by simp; omega
  go_wp2_with fail
  refine (implHomeNew_any nodes _).mono ?_
  intro e w6 h1
  obtain ⟨al3, cl3, ar3, cr3, rfl, o3, p3, b6⟩ := HP.out _ _ _ h1
  clear h1
  replace o1 := owns_below o1 b6
  replace p1 := owns_below p1 b6
  replace o2 := owns_below o2 b6
  replace p2 := owns_below p2 b6
  replace X1 := X1.below b6
  replace X2 := X2.below b6
  replace B := bel_trans B b6
  clear b6
  obtain ⟨x0, x1, x2, x3, x4, x5, x6, x7, x8⟩ := at8h X1
  have bx := bel_alloc (Below.refl w6.heap.size w6) (.cells #[.slice al3 xs.length cl3, .int .i64 ow, .slice ar3 bs.length cr3, .bool false, .int .i64 0, .bool false, .int .i64 0, .slice none 0 0] 28)
  have X3 := Box.new w6 #[.slice al3 xs.length cl3, .int .i64 ow, .slice ar3 bs.length cr3, .bool false, .int .i64 0, .bool false, .int .i64 0, .slice none 0 0] 28
  replace o1 := owns_below o1 bx
  replace p1 := owns_below p1 bx
  replace o2 := owns_below o2 bx
  replace p2 := owns_below p2 bx
  replace X1 := X1.below bx
  replace X2 := X2.below bx
  replace o3 := owns_below o3 bx
  replace p3 := owns_below p3 bx
  replace B := bel_trans B bx
  clear bx
  have r1 := owns_row' o1 (by omega)
  have s1 := owns_vrow' p1 (by rw [bv_length]; omega)
  have r3 := owns_row' o3 (by omega)
  have s3 := owns_vrow' p3 (by rw [bv_length]; omega)
  go_wp2_with fail
  refine (eqHome_any ow 0 0 false false al3 al ar3 ar none none cl3 cl cr3 cr 0 0 xs bs [] _ r3 r1 s3 s1 (vnil _) (vnil _)).mono ?_
  rintro e w7 ⟨rfl, b7⟩
  clear r1 r3 s1 s3 x0 x1 x2 x3 x4 x5 x6 x7 x8 o1 p1 X1 o3 p3 X3
  replace o2 := owns_below o2 b7
  replace p2 := owns_below p2 b7
  replace X2 := X2.below b7
  replace B := bel_trans B b7
  clear b7
  have r2 := owns_row2 o2 (by rw [mki_length]; omega)
  have s2 := owns_vrow' p2 (by rw [bv_length, mkb_length]; omega)
  obtain ⟨y0, y1, y2, y3, y4, y5, y6, y7, y8⟩ := at8h X2
  go_wp2_with fail
  refine (heldHome_none ow 0 0 false false xs.length bs.length al2 ar2 cl2 cr2 1 _ (by omega) (by omega) (by omega) (by omega) r2 s2).mono ?_
  rintro e w8 ⟨rfl, b8⟩
  clear r2 s2 y0 y1 y2 y3 y4 y5 y6 y7 y8 X2 o2 p2
  replace B := bel_trans B b8
  go_wp2
  go_ret
  exact ⟨rfl, B⟩

set_option maxRecDepth 100000 in
theorem lifted (os : Os) (started : os.Started) (H : Type) (enc : TypeId × Value → H) :
    ReturnsInHanded {} Try.checked os 3 .any (Rows.fnExactHomeNewSpec.pre6 enc Try.prog Try.f3 Rows.fnExactHomeNewRow.domain false) (Rows.fnExactHomeNewSpec.post enc Try.prog Try.f3 false true false false) := by
  refine returnsInHanded_of_change (C := Try.checked) own started (by kernel_rfl) Try.func3
    (ChangeSpec.witness6 (enc := enc) (C := Try.checked) false ⟨#[], #[.int .i64 0], []⟩ 8 (by kernel_rfl) (by kernel_rfl) (by kernel_rfl) (by kernel_rfl)) ?_
  intro W base args ds gs before hval0 hW hcnd _
  have hval : ∀ (j : Nat) t v, Try.f3.params[j]? = some t → args[j]? = some v → Value.okWide Try.prog W .any base t v := hval0
  have hW' := hW
  obtain ⟨p, q, hA0, hV, rfl, hfz, hnd⟩ := hW
  have hA : DataW.TrodAll enc Try.prog W 0 (fun _ => true) true Try.f3.params.toList args.toList ds p := hA0
  rw [Try.params3] at hA hval
  obtain ⟨v0, vs0, d0, ds0, p0, q0, hargs, rfl, rfl, h0, r0⟩ := trodAll_cons hA
  obtain ⟨rfl, rfl, rfl⟩ := trodAll_nil r0
  obtain rfl : args = #[v0] := by cases args; simp_all
  obtain ⟨rfl, rfl⟩ := trodVars_none hV
  obtain ⟨a0, rfl, rfl, rfl, w0⟩ := open_int Try.underlying3 (hval 0 3 v0 rfl rfl) h0
  clear hA0 hval0
  refine (walk a0 W w0).mono fun e W' ⟨he, bel⟩ => ?_
  subst he
  exact ⟨_, rfl, _, _, _, [], _, [], hW', trodAll_mk1 (shut_bool Try.underlying4 _), (trodAll_cons_mk (shut_int Try.underlying3 w0) trodAll_mk0), rfl, bel.frame _, fun h => by cases h⟩

theorem over : Rows.fnExactHomeNewRow.holds Try.pinned (OpenSpec.ofChange Rows.fnExactHomeNewSpec) :=
  OpenClaim.holds_of_wide 3 Try.f3 rfl rfl rfl rfl rfl rfl rfl ⟨rfl, rfl, rfl, rfl, rfl⟩ rfl rfl rfl rfl rfl (by kernel_rfl) Try.func3 (by kernel_rfl)
    (of_decide_eq_true (by kernel_rfl)) (by unfold Func.isWrapper; first | (rw [if_pos (by decide +kernel)]; kernel_rfl) | (rw [if_neg (by decide +kernel)]; exact ⟨rfl, rfl⟩))
    (fun os started H enc _ => lifted os started H enc)
end LawFnExactHomeNew

theorem fnExactHomeNew_holds : Rows.FnExactHomeNewSaid := LawFnExactHomeNew.over
#print axioms fnExactHomeNew_holds
end Go.Proofs.Ytmbfhmpafjcneab
