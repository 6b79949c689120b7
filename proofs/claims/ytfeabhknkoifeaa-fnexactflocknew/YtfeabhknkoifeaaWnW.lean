/- What the law's markWorld and heldWorld do at a world whose nodes are not great and whose net is empty. -/
import Derived.Test.YtfeabhknkoifeaaWnM
import Derived.Test.YtfeabhknkoifeaaWoR
namespace Go.Proofs.Ytfeabhknkoifeaa
open Go.RowKit
set_option linter.unusedVariables false

theorem wor {w : World} {a : Option Addr} {c : Nat} {d : WoD} {np : Nat → NP} (hk : d.nk = 0) (h : NsO w a c d.nn d.d np) (t : ∀ i, i < d.nn → Nti (d.d i) (np i)) (h4 : d.nn ≤ 4) : WoR w d ⟨(a, c), np, (none, 0), fun _ => (none, 0)⟩ := by
  refine ⟨NsO.nr h (by omega) (fun i hi => (t i hi).s), ?_⟩
  unfold PkR
  rw [hk]
  exact ⟨by omega, owns_vrow' (e := 83) (size := 8) (base := 0) (cap := 0) (n := 0) (World.ownsRow_nil _ _ _ _) (by simp [chunks]), fun i hi => absurd hi (Nat.not_lt_zero i)⟩

set_option maxRecDepth 100000 in
set_option maxHeartbeats 2000000 in
theorem markWorld_new (size : Int) (n : Nat) (a : Option Addr) (c : Nat) (d : Nat → ND) (p : Nat → NP) (w : World) (hn : n ≤ 4) (ht : ∀ i, i < n → Nti (d i) (p i)) (hh : NsO w a c n d p) :
    Calls Try.prog 20 #[.agg #[.int .i64 size, .slice a n c, .slice none 0 0], .int .i64 1] w fun e w' => e = .returned (.int .i64 (kt 1 (fun i => cNd (d i) (p i)) n)) ∧ MNj w' a c n n 1 d p ∧ Only w w' (RS a c n (fun i => NBs (d i) (p i))) := by
  have bA := bel_alloc (Below.refl w.heap.size w) (.cells #[.int .i64 size, .slice a n c, .slice none 0 0] 26)
  have X := Box.new w #[.int .i64 size, .slice a n c, .slice none 0 0] 26
  have HL : Hid (∀ b, RS a c n (fun i => NBs (d i) (p i)) b → b < w.heap.size) := fun b hb => Rw.slt hh hb
  have HT : Hid (∀ i, i < n → Nti (d i) (p i)) := ht
  have hh1 : NsO _ a c n d p := Rw.below hh bA
  clear ht hh
  go_enter Try.func20, Try.ntmps20
  go_wp2_with fail
  refine (markNodeS_all n a c d p 1 _ (by omega) (by omega) (by omega) HT.out hh1).mono ?_
  rintro e w1 ⟨rfl, q1, k1⟩
  have X1 := X.only k1 (fun hb => by have := HL.out _ hb; omega)
  have R : Hid (MNj w1 a c n n 1 d p ∧ Only w w1 (RS a c n (fun i => NBs (d i) (p i)))) := ⟨q1, Only.of bA k1⟩
  obtain ⟨x0, x1, x2, xz⟩ := X1.at3
  obtain ⟨K, hKe⟩ : ∃ K, kt 1 (fun i => cNd (d i) (p i)) n = K := ⟨_, rfl⟩
  have HKe : Hid (kt 1 (fun i => cNd (d i) (p i)) n = K) := hKe
  rw [hKe]
  clear hKe
  clear q1 k1 X X1 hh1 bA
  go_wp2_with fail
  refine (markPacketS_none _ _).mono ?_
  rintro e w2 ⟨rfl, h⟩
  subst h
  go_wp2
  go_ret
  exact ⟨ret_int HKe.out.symm, R.out.1, R.out.2⟩

set_option maxRecDepth 100000 in
set_option maxHeartbeats 2000000 in
theorem heldWorld_new (size : Int) (n : Nat) (a : Option Addr) (c : Nat) (d : Nat → ND) (p : Nat → NP) (w : World) (hn : n ≤ 4) (ht : ∀ i, i < n → Nti (d i) (p i)) (hh : MNj w a c n n 1 d p) (hK : decide (kt 1 (fun i => cNd (d i) (p i)) n < 0) = false) :
    Calls Try.prog 22 #[.agg #[.int .i64 size, .slice a n c, .slice none 0 0], .int .i64 1] w fun e w' => e = .returned (.int .i64 (kt 1 (fun i => cNd (d i) (p i)) n)) ∧ Below w.heap.size w w' := by
  have bA := bel_alloc (Below.refl w.heap.size w) (.cells #[.int .i64 size, .slice a n c, .slice none 0 0] 26)
  have X := Box.new w #[.int .i64 size, .slice a n c, .slice none 0 0] 26
  have HT : Hid (∀ i, i < n → Nti (d i) (p i)) := ht
  have hh1 := hh.below bA
  clear ht hh
  go_enter Try.func22, Try.ntmps22
  go_wp2_with fail
  refine (heldNodeS_all n a c d p 1 _ (by omega) (by omega) (by omega) HT.out hh1).mono ?_
  rintro e w1 ⟨rfl, b1⟩
  have X1 := X.below b1
  obtain ⟨x0, x1, x2, xz⟩ := X1.at3
  have R : Hid (Below w.heap.size w w1) := bel_trans bA b1
  obtain ⟨K, hKe⟩ : ∃ K, kt 1 (fun i => cNd (d i) (p i)) n = K := ⟨_, rfl⟩
  have HKe : Hid (kt 1 (fun i => cNd (d i) (p i)) n = K) := hKe
  rw [hKe]
  rw [hKe] at hK
  clear hKe
  clear b1 X X1 hh1 bA
  go_wp2_with fail
  refine (heldPacketS_none _ _).mono ?_
  rintro e w2 ⟨rfl, h⟩
  subst h
  go_wp2
  go_ret
  exact ⟨ret_int HKe.out.symm, R.out⟩
end Go.Proofs.Ytfeabhknkoifeaa
