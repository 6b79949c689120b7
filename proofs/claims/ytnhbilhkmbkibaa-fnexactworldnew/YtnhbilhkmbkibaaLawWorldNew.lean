/- For every size the law FnExactWorldNew returns true: WorldNew answers as the specification, field by field, and its answer owns its memory, behind another call too. Conditions: none. -/
import Derived.Test.YtnhbilhkmbkibaaWnI
import Derived.Test.YtnhbilhkmbkibaaWnS
import Derived.Test.YtnhbilhkmbkibaaOpen
namespace Go.Proofs.Ytnhbilhkmbkibaa
open Go.ChangeShapes Go.WideShapes Go.ChangeAt Go.RowKit
set_option linter.unusedVariables false

namespace LawFnExactWorldNew
theorem wor {w : World} {a : Option Addr} {c : Nat} {d : WoD} {np : Nat → NP} (hk : d.nk = 0) (h : NsO w a c d.nn d.d np) (t : ∀ i, i < d.nn → Nti (d.d i) (np i)) (h4 : d.nn ≤ 4) : WoR w d ⟨(a, c), np, (none, 0), fun _ => (none, 0)⟩ := by
  refine ⟨NsO.nr h (by omega) (fun i hi => (t i hi).s), ?_⟩
  unfold PkR
  rw [hk]
  exact ⟨by omega, owns_vrow' (e := 58) (size := 8) (base := 0) (cap := 0) (n := 0) (World.ownsRow_nil _ _ _ _) (by simp [chunks]), fun i hi => absurd hi (Nat.not_lt_zero i)⟩

set_option maxRecDepth 100000 in
set_option maxHeartbeats 2000000 in
theorem markWorld_new (size : Int) (n : Nat) (a : Option Addr) (c : Nat) (d : Nat → ND) (p : Nat → NP) (w : World) (hn : n ≤ 4) (ht : ∀ i, i < n → Nti (d i) (p i)) (hh : NsO w a c n d p) :
    Calls Try.prog 7 #[.agg #[.int .i64 size, .slice a n c, .slice none 0 0], .int .i64 1] w fun e w' => e = .returned (.int .i64 (kt 1 (fun i => cNd (d i) (p i)) n)) ∧ MNj w' a c n n 1 d p ∧ Only w w' (RS a c n (fun i => NBs (d i) (p i))) := by
  have bA := bel_alloc (Below.refl w.heap.size w) (.cells #[.int .i64 size, .slice a n c, .slice none 0 0] 25)
  have X := Box.new w #[.int .i64 size, .slice a n c, .slice none 0 0] 25
  have HL : Hid (∀ b, RS a c n (fun i => NBs (d i) (p i)) b → b < w.heap.size) := fun b hb => Rw.slt hh hb
  have HT : Hid (∀ i, i < n → Nti (d i) (p i)) := ht
  have hh1 : NsO _ a c n d p := Rw.below hh bA
  clear ht hh
  go_enter Try.func7, Try.ntmps7
  go_wp2_with fail
  refine (markNodeS_all n a c d p 1 _ (by omega) (by omega) (by omega) HT.out hh1).mono ?_
  rintro e w1 ⟨rfl, q1, k1⟩
  have X1 := X.only k1 (fun hb => by have := HL.out _ hb; omega)
  have R : Hid (MNj w1 a c n n 1 d p ∧ Only w w1 (RS a c n (fun i => NBs (d i) (p i)))) := ⟨q1, Only.of bA k1⟩
  obtain ⟨x0, x1, x2, xz⟩ := X1.at3
  obtain ⟨K, hKe⟩ : ∃ K, kt 1 (fun i => cNd (d i) (p i)) n = K := ⟨_, rfl⟩
  have HKe : Hid (kt 1 (fun i => cNd (d i) (p i)) n = K) := hKe
  rw [hKe]
  clear hKe
  clear q1 k1 X X1 hh1 bA
  go_wp2_with fail
  refine (markPacketS_none _ _).mono ?_
  rintro e w2 ⟨rfl, h⟩
  subst h
  go_wp2
  go_ret
  exact ⟨ret_int HKe.out.symm, R.out.1, R.out.2⟩

set_option maxRecDepth 100000 in
set_option maxHeartbeats 2000000 in
theorem heldWorld_new (size : Int) (n : Nat) (a : Option Addr) (c : Nat) (d : Nat → ND) (p : Nat → NP) (w : World) (hn : n ≤ 4) (ht : ∀ i, i < n → Nti (d i) (p i)) (hh : MNj w a c n n 1 d p) (hK : decide (kt 1 (fun i => cNd (d i) (p i)) n < 0) = false) :
    Calls Try.prog 8 #[.agg #[.int .i64 size, .slice a n c, .slice none 0 0], .int .i64 1] w fun e w' => e = .returned (.int .i64 (kt 1 (fun i => cNd (d i) (p i)) n)) ∧ Below w.heap.size w w' := by
  have bA := bel_alloc (Below.refl w.heap.size w) (.cells #[.int .i64 size, .slice a n c, .slice none 0 0] 25)
  have X := Box.new w #[.int .i64 size, .slice a n c, .slice none 0 0] 25
  have HT : Hid (∀ i, i < n → Nti (d i) (p i)) := ht
  have hh1 := hh.below bA
  clear ht hh
  go_enter Try.func8, Try.ntmps8
  go_wp2_with fail
  refine (heldNodeS_all n a c d p 1 _ (by omega) (by omega) (by omega) HT.out hh1).mono ?_
  rintro e w1 ⟨rfl, b1⟩
  have X1 := X.below b1
  obtain ⟨x0, x1, x2, xz⟩ := X1.at3
  have R : Hid (Below w.heap.size w w1) := bel_trans bA b1
  obtain ⟨K, hKe⟩ : ∃ K, kt 1 (fun i => cNd (d i) (p i)) n = K := ⟨_, rfl⟩
  have HKe : Hid (kt 1 (fun i => cNd (d i) (p i)) n = K) := hKe
  rw [hKe]
  rw [hKe] at hK
  clear hKe
  clear b1 X X1 hh1 bA
  go_wp2_with fail
  refine (heldPacketS_none _ _).mono ?_
  rintro e w2 ⟨rfl, h⟩
  subst h
  go_wp2
  go_ret
  exact ⟨ret_int HKe.out.symm, R.out⟩

set_option maxRecDepth 100000 in
set_option maxHeartbeats 4000000 in
theorem walk (size : Int) (w : World) (hw0 : (Lit.int .i64 size).wf = true) :
    Calls Try.prog 3 #[.int .i64 size] w fun e w' => e = .returned (.bool true) ∧ Below w.heap.size w w' := by
  obtain ⟨d, hd⟩ : ∃ d, theWD size = d := ⟨_, rfl⟩
  obtain ⟨ok, hok⟩ : ∃ ok, inB size 1 4 = ok := ⟨_, rfl⟩
  have hk0 : d.nk = 0 := by rw [← hd]; exact theWD_nk size
  have HK0 : Hid (d.nk = 0) := hk0
  have HP : Hid (∀ W e W', WNewP size W e W' → ∃ (a : Option Addr) (c : Nat) (np : Nat → NP), e = .returned (.tuple #[.agg #[.int .i64 d.size, .slice a d.nn c, .slice none 0 0], .bool ok]) ∧ NsO W' a c d.nn d.d np ∧ (∀ i, i < d.nn → Nti (d.d i) (np i)) ∧ (∀ b, RS a c d.nn (fun i => NBs (d.d i) (np i)) b → W.heap.size ≤ b) ∧ d.nn ≤ 4 ∧ Below W.heap.size W W') := fun W e W' h => by
    unfold WNewP at h
    rw [hd, hok] at h
    exact h
  have HEQ : Hid (∀ (a a' : Option Addr) (c c' : Nat) (np np' : Nat → NP) (W : World), NsO W a c d.nn d.d np → (∀ i, i < d.nn → Nti (d.d i) (np i)) → NsO W a' c' d.nn d.d np' → (∀ i, i < d.nn → Nti (d.d i) (np' i)) → d.nn ≤ 4 → Calls Try.prog 6 #[.agg #[.int .i64 d.size, .slice a d.nn c, .slice none 0 0], .agg #[.int .i64 d.size, .slice a' d.nn c', .slice none 0 0]] W fun e w' => e = .returned (.bool true) ∧ Below W.heap.size W w') := fun a a' c c' np np' W h1 t1 h2 t2 h4 => by
    have := eqWorld_any d ⟨(a, c), np, (none, 0), fun _ => (none, 0)⟩ ⟨(a', c'), np', (none, 0), fun _ => (none, 0)⟩ W (wor hk0 h1 t1 h4) (wor hk0 h2 t2 h4)
    unfold wcells at this
    rw [hk0] at this
    exact this
  clear hd hok hk0
  obtain ⟨sz, hsz⟩ : ∃ s, d.size = s := ⟨_, rfl⟩
  rw [hsz] at HP HEQ
  clear hsz
  go_enter Try.func3, Try.ntmps3
  go_wp2_with fail
  refine (specWorldNew_any size _).mono ?_
  intro e w1 h1
  obtain ⟨a1, c1, p1, rfl, o1, t1, l1, h4, B⟩ := HP.out _ _ _ h1
  clear h1 l1
  have T1 : Hid (∀ i, i < d.nn → Nti (d.d i) (p1 i)) := t1
  have L1 : Hid (∀ b, RS a1 c1 d.nn (fun i => NBs (d.d i) (p1 i)) b → b < w1.heap.size) := fun b hb => Rw.slt o1 hb
  clear t1
  go_wp2_with fail
  have bx := bel_alloc (Below.refl w1.heap.size w1) (.cells #[.int .i64 sz, .slice a1 d.nn c1, .slice none 0 0] 25)
  have X1 := Box.new w1 #[.int .i64 sz, .slice a1 d.nn c1, .slice none 0 0] 25
  replace o1 : NsO _ a1 c1 d.nn d.d p1 := Rw.below o1 bx
  replace B := bel_trans B bx
  clear bx
  refine (implWorldNew_any size _).mono ?_
  intro e w2 h1
  obtain ⟨a2, c2, p2, rfl, o2, t2, l2, _, b2⟩ := HP.out _ _ _ h1
  clear h1
  have T2 : Hid (∀ i, i < d.nn → Nti (d.d i) (p2 i)) := t2
  have HKK : Hid (decide (kt 1 (fun i => cNd (d.d i) (p2 i)) d.nn < 0) = false) := by
    have h := kt_le (k0 := 1) (c := fun i => cNd (d.d i) (p2 i)) (C := 2000000000) (Nat.le_refl d.nn) (fun i hi => (cNd_le (t2 i hi)).2.2.2)
    show _ = _
    simp
    omega
  obtain ⟨K, hK⟩ : ∃ K, kt 1 (fun i => cNd (d.d i) (p2 i)) d.nn = K := ⟨_, rfl⟩
  have HK : Hid (kt 1 (fun i => cNd (d.d i) (p2 i)) d.nn = K) := hK
  have hk0 : decide (K < 0) = false := by rw [← hK]; exact HKK.out
  clear t2 hK
  have hz1 : w.heap.size ≤ w1.heap.size + 1 := by have h1 := B.size; simp at h1; omega
  have hz2 : w1.heap.size + 1 ≤ w2.heap.size := by have h2 := b2.size; simp at h2; omega
  have L2 : Hid (∀ b, RS a2 c2 d.nn (fun i => NBs (d.d i) (p2 i)) b → w1.heap.size + 1 ≤ b ∧ b < w2.heap.size) := fun b hb => ⟨by have h2 := l2 b hb; simp at h2; omega, Rw.slt o2 hb⟩
  replace o1 : NsO _ a1 c1 d.nn d.d p1 := Rw.below o1 b2
  replace X1 := X1.below b2
  replace B := bel_trans B b2
  clear b2 l2
  obtain ⟨x0, x1, x2, zx⟩ := X1.at3
  go_wp2_with fail
  have bx := bel_alloc (Below.refl w2.heap.size w2) (.cells #[.int .i64 sz, .slice a2 d.nn c2, .slice none 0 0] 25)
  have X2 := Box.new w2 #[.int .i64 sz, .slice a2 d.nn c2, .slice none 0 0] 25
  replace o1 : NsO _ a1 c1 d.nn d.d p1 := Rw.below o1 bx
  replace o2 : NsO _ a2 c2 d.nn d.d p2 := Rw.below o2 bx
  replace X1 := X1.below bx
  replace B := bel_trans B bx
  clear bx x0 x1 x2 zx
  refine (HEQ.out a2 a1 c2 c1 p2 p1 _ o2 T2.out o1 T1.out h4).mono ?_
  rintro e w3 ⟨rfl, b3⟩
  replace o1 : NsO _ a1 c1 d.nn d.d p1 := Rw.below o1 b3
  replace o2 : NsO _ a2 c2 d.nn d.d p2 := Rw.below o2 b3
  replace X1 := X1.below b3
  replace X2 := X2.below b3
  replace B := bel_trans B b3
  clear b3
  obtain ⟨y0, y1, y2, zy⟩ := X2.at3
  go_wp2_with fail
  refine (markWorld_new sz d.nn a2 c2 d.d p2 _ h4 T2.out o2).mono ?_
  rintro e w4 ⟨rfl, q2, k4⟩
  rw [HK.out]
  clear o2 y0 y1 y2 zy
  replace o1 : NsO _ a1 c1 d.nn d.d p1 := Rw.sm o1 (k4.sm (fun b h1 h2 => by have := L1.out b h1; have := L2.out b h2; omega))
  replace X1 := X1.only k4 (fun h2 => by have := L2.out _ h2; omega)
  replace X2 := X2.only k4 (fun h2 => by have := L2.out _ h2; omega)
  replace B : Below w.heap.size w w4 := B.trans ⟨k4.os, k4.tape, k4.output, k4.size, fun i hi => k4.block i (by have := B.size; omega) (fun h2 => by have := L2.out _ h2; omega)⟩
  clear k4
  obtain ⟨y0, y1, y2, zy⟩ := X2.at3
  go_wp2_with fail
  refine (heldWorld_new sz d.nn a2 c2 d.d p2 _ h4 T2.out q2 HKK.out).mono ?_
  rintro e w5 ⟨rfl, b5⟩
  rw [HK.out]
  replace o1 : NsO _ a1 c1 d.nn d.d p1 := Rw.below o1 b5
  replace q2 := q2.below b5
  replace X1 := X1.below b5
  replace X2 := X2.below b5
  replace B := bel_trans B b5
  clear b5 y0 y1 y2 zy
  go_wp2_with fail
  refine (implWorldNew_any size _).mono ?_
  intro e w6 h1
  obtain ⟨a3, c3, p3, rfl, o3, t3, _, _, b6⟩ := HP.out _ _ _ h1
  clear h1
  have T3 : Hid (∀ i, i < d.nn → Nti (d.d i) (p3 i)) := t3
  clear t3
  replace o1 : NsO _ a1 c1 d.nn d.d p1 := Rw.below o1 b6
  replace q2 := q2.below b6
  replace X1 := X1.below b6
  replace X2 := X2.below b6
  replace B := bel_trans B b6
  clear b6
  obtain ⟨x0, x1, x2, zx⟩ := X1.at3
  go_wp2_with fail
  have bx := bel_alloc (Below.refl w6.heap.size w6) (.cells #[.int .i64 sz, .slice a3 d.nn c3, .slice none 0 0] 25)
  replace o1 : NsO _ a1 c1 d.nn d.d p1 := Rw.below o1 bx
  replace q2 := q2.below bx
  replace o3 : NsO _ a3 c3 d.nn d.d p3 := Rw.below o3 bx
  replace X1 := X1.below bx
  replace X2 := X2.below bx
  replace B := bel_trans B bx
  clear bx x0 x1 x2 zx
  refine (HEQ.out a3 a1 c3 c1 p3 p1 _ o3 T3.out o1 T1.out h4).mono ?_
  rintro e w7 ⟨rfl, b7⟩
  replace q2 := q2.below b7
  replace X2 := X2.below b7
  replace B := bel_trans B b7
  clear b7 o1 X1 o3
  obtain ⟨y0, y1, y2, zy⟩ := X2.at3
  go_wp2_with fail
  refine (heldWorld_new sz d.nn a2 c2 d.d p2 _ h4 T2.out q2 HKK.out).mono ?_
  rintro e w8 ⟨rfl, b8⟩
  rw [HK.out]
  clear y0 y1 y2 zy X2 q2
  replace B := bel_trans B b8
  go_wp2
  go_ret
  exact ⟨rfl, B⟩

set_option maxRecDepth 100000 in
theorem lifted (os : Os) (started : os.Started) (H : Type) (enc : TypeId × Value → H) :
    ReturnsInHanded {} Try.checked os 3 .any (Rows.fnExactWorldNewSpec.pre6 enc Try.prog Try.f3 Rows.fnExactWorldNewRow.domain false) (Rows.fnExactWorldNewSpec.post enc Try.prog Try.f3 false true false false) := by
  refine returnsInHanded_of_change (C := Try.checked) own started (by kernel_rfl) Try.func3
    (ChangeSpec.witness6 (enc := enc) (C := Try.checked) false ⟨#[], #[.int .i64 0], []⟩ 8 (by kernel_rfl) (by kernel_rfl) (by kernel_rfl) (by kernel_rfl)) ?_
  intro W base args ds gs before hval0 hW hcnd _
  have hval : ∀ (j : Nat) t v, Try.f3.params[j]? = some t → args[j]? = some v → Value.okWide Try.prog W .any base t v := hval0
  have hW' := hW
  obtain ⟨p, q, hA0, hV, rfl, hfz, hnd⟩ := hW
  have hA : DataW.TrodAll enc Try.prog W 0 (fun _ => true) true Try.f3.params.toList args.toList ds p := hA0
  rw [Try.params3] at hA hval
  obtain ⟨v0, vs0, d0, ds0, p0, q0, hargs, rfl, rfl, h0, r0⟩ := trodAll_cons hA
  obtain ⟨rfl, rfl, rfl⟩ := trodAll_nil r0
  obtain rfl : args = #[v0] := by cases args; simp_all
  obtain ⟨rfl, rfl⟩ := trodVars_none hV
  obtain ⟨a0, rfl, rfl, rfl, w0⟩ := open_int Try.underlying3 (hval 0 3 v0 rfl rfl) h0
  clear hA0 hval0
  refine (walk a0 W w0).mono fun e W' ⟨he, bel⟩ => ?_
  subst he
  exact ⟨_, rfl, _, _, _, [], _, [], hW', trodAll_mk1 (shut_bool Try.underlying4 _), (trodAll_cons_mk (shut_int Try.underlying3 w0) trodAll_mk0), rfl, bel.frame _, fun h => by cases h⟩

theorem over : Rows.fnExactWorldNewRow.holds Try.pinned (OpenSpec.ofChange Rows.fnExactWorldNewSpec) :=
  OpenClaim.holds_of_wide 3 Try.f3 rfl rfl rfl rfl rfl rfl rfl ⟨rfl, rfl, rfl, rfl, rfl⟩ rfl rfl rfl rfl rfl (by kernel_rfl) Try.func3 (by kernel_rfl)
    (of_decide_eq_true (by kernel_rfl)) (by unfold Func.isWrapper; first | (rw [if_pos (by decide +kernel)]; kernel_rfl) | (rw [if_neg (by decide +kernel)]; exact ⟨rfl, rfl⟩))
    (fun os started H enc _ => lifted os started H enc)
end LawFnExactWorldNew

theorem fnExactWorldNew_holds : Rows.FnExactWorldNewSaid := LawFnExactWorldNew.over
#print axioms fnExactWorldNew_holds
end Go.Proofs.Ytnhbilhkmbkibaa
