/- What impl's copyList does at the rows of a node. -/
import Derived.Test.YtcneocbadobcfaaGreatWtR
import Derived.Test.YtcneocbadobcfaaGreatCopy
namespace Go.Proofs.YtcneocbadobcfaaGreat
open Go.RowKit
set_option linter.unusedVariables false

theorem vrow_srcW {w : World} {a : Option Addr} {vs : List Value} (h : VRow w a vs) (h0 : 0 < vs.length) : ∃ b off, a = some ⟨b, off, none⟩ ∧ ∀ j v, vs[j]? = some v → w.cell? ((⟨b, off, none⟩ : Addr).add j) = some v := by
  obtain ⟨b, off, rfl, hc⟩ := h.2 0 _ (List.getElem?_eq_getElem h0)
  refine ⟨b, off, rfl, fun j v hv => ?_⟩
  obtain ⟨b', off', e, hc'⟩ := h.2 j v hv
  simp at e
  obtain ⟨rfl, rfl⟩ := e
  rw [addr_add]
  exact hc'

theorem wv_oneW (ws : List (Int × Bool)) : ∀ v ∈ wv ws, v.oneCell' = true := by
  intro v hv
  simp only [wv, List.mem_flatMap] at hv
  obtain ⟨p, _, hp⟩ := hv
  simp at hp
  rcases hp with rfl | rfl <;> rfl
theorem bv_oneW (bs : List Bool) : ∀ v ∈ bv bs, v.oneCell' = true := by
  intro v hv
  simp only [bv, List.mem_map] at hv
  obtain ⟨p, _, rfl⟩ := hv
  rfl
theorem chunks_one {n : Nat} {f : Nat → List Value} (h : ∀ i, i < n → ∀ v ∈ f i, v.oneCell' = true) : ∀ v ∈ chunks n f, v.oneCell' = true := by
  intro v hv
  simp only [chunks, List.mem_flatMap, List.mem_range] at hv
  obtain ⟨i, hi, hv⟩ := hv
  exact h i hi v hv

set_option maxRecDepth 100000 in
set_option maxHeartbeats 1000000 in
theorem copyBools_any (a : Option Addr) (ca n : Nat) (cs : List Value) (w : World) (hsm : n ≤ 1048577) (hcl : cs.length = n * 1) (hone : ∀ v ∈ cs, v.oneCell' = true) (ha : VRow w a cs) :
    Calls Tryz.prog 110 #[.slice a n ca] w fun e w' => ∃ a' c', e = .returned (.slice a' n c') ∧ w'.ownsRow w.heap.size 4 1 (.slice a' n c') n cs ∧ Below w.heap.size w w' := by
  obtain ⟨i0, hi, hz0, hz1, hz2⟩ := info_parts info_bool
  by_cases h0 : n = 0
  · subst h0
    have : cs = [] := List.length_eq_zero_iff.1 (by omega)
    subst this
    go_enter Tryz.func110, Tryz.ntmps110
    go_wp2
    go_ret
    exact ⟨_, _, rfl, World.ownsRow_nil _ _ _ _, Below.refl _ _⟩
  · have h0' : (0 : Int) < n := by omega
    have HC : Hid (cs.length = n * 1) := hcl
    clear hcl
    go_enter Tryz.func110, Tryz.ntmps110
    go_wp2_with (at_make; refine wpList_make_full _ rfl (.tmp 8) (.tmp 8) 79 rfl w.heap.size 4 i0 (.bool false) 1 Tryz.underlying79 hi hz0 hz1 .i64 .i64 _ _ n rfl rfl rfl rfl (by rw [hz2]; omega) (by unfold maxLen; omega) (Nat.le_refl _) ?_)
    intro w1 ho hg
    obtain ⟨zs, ho⟩ : ∃ zs, w1.ownsRow w.heap.size 4 1 (.slice (some ⟨w.heap.size, 0, none⟩) n n) n zs := ⟨_, ho⟩
    have hb1 : Below w.heap.size w w1 := (Below.refl _ _).grown hg (Nat.le_refl _) (fun k hk => by cases hk)
    clear hg
    obtain ⟨ba, oa, rfl, hsrc⟩ := vrow_srcW (ha.below hb1) (by have := HC.out; omega)
    clear ha
    go_wp2_with (guard_target =~ wpList _ _ _ (Oper.mk _ (Op.call ⟨Callee.builtin Builtin.copy, _, _⟩) _ _ _ _ :: _) _ _; refine wpList_copy_fullYtcneocbadobcfaaGreat rfl (.tmp 10) (.tmp 11) 79 79 rfl 4 Tryz.underlying79 1 (by rw [hi]; simp [hz1]) w.heap.size w.heap.size n ca ⟨ba, oa, none⟩ rfl rfl zs ho cs HC.out hsrc hone ?_)
    · intro w2 o2 g2
      have hb2 := hb1.grown g2 hb1.size (fun k hk => by simp at hk; omega)
      clear g2 hb1 ho hsrc hone
      go_wp2
      go_ret
      exact ⟨_, _, rfl, o2, hb2⟩

set_option maxRecDepth 100000 in
set_option maxHeartbeats 1000000 in
theorem copyWaits2_any (a : Option Addr) (ca n : Nat) (cs : List Value) (w : World) (hsm : n ≤ 1048577) (hcl : cs.length = n * 2) (hone : ∀ v ∈ cs, v.oneCell' = true) (ha : VRow w a cs) :
    Calls Tryz.prog 111 #[.slice a n ca] w fun e w' => ∃ a' c', e = .returned (.slice a' n c') ∧ w'.ownsRow w.heap.size 90 2 (.slice a' n c') n cs ∧ Below w.heap.size w w' := by
  obtain ⟨i0, hi, hz0, hz1, hz2⟩ := info_parts info_wait
  by_cases h0 : n = 0
  · subst h0
    have : cs = [] := List.length_eq_zero_iff.1 (by omega)
    subst this
    go_enter Tryz.func111, Tryz.ntmps111
    go_wp2
    go_ret
    exact ⟨_, _, rfl, World.ownsRow_nil _ _ _ _, Below.refl _ _⟩
  · have h0' : (0 : Int) < n := by omega
    have HC : Hid (cs.length = n * 2) := hcl
    clear hcl
    go_enter Tryz.func111, Tryz.ntmps111
    go_wp2_with (at_make; refine wpList_make_full _ rfl (.tmp 8) (.tmp 8) 91 rfl w.heap.size 90 i0 (.agg #[.int .i64 0, .bool false]) 2 Tryz.underlying91 hi hz0 hz1 .i64 .i64 _ _ n rfl rfl rfl rfl (by rw [hz2]; omega) (by unfold maxLen; omega) (Nat.le_refl _) ?_)
    intro w1 ho hg
    obtain ⟨zs, ho⟩ : ∃ zs, w1.ownsRow w.heap.size 90 2 (.slice (some ⟨w.heap.size, 0, none⟩) n n) n zs := ⟨_, ho⟩
    have hb1 : Below w.heap.size w w1 := (Below.refl _ _).grown hg (Nat.le_refl _) (fun k hk => by cases hk)
    clear hg
    obtain ⟨ba, oa, rfl, hsrc⟩ := vrow_srcW (ha.below hb1) (by have := HC.out; omega)
    clear ha
    go_wp2_with (guard_target =~ wpList _ _ _ (Oper.mk _ (Op.call ⟨Callee.builtin Builtin.copy, _, _⟩) _ _ _ _ :: _) _ _; refine wpList_copy_fullYtcneocbadobcfaaGreat rfl (.tmp 10) (.tmp 11) 91 91 rfl 90 Tryz.underlying91 2 (by rw [hi]; simp [hz1]) w.heap.size w.heap.size n ca ⟨ba, oa, none⟩ rfl rfl zs ho cs HC.out hsrc hone ?_)
    · intro w2 o2 g2
      have hb2 := hb1.grown g2 hb1.size (fun k hk => by simp at hk; omega)
      clear g2 hb1 ho hsrc hone
      go_wp2
      go_ret
      exact ⟨_, _, rfl, o2, hb2⟩

set_option maxRecDepth 100000 in
set_option maxHeartbeats 1000000 in
theorem copyFrames_any (a : Option Addr) (ca n : Nat) (cs : List Value) (w : World) (hsm : n ≤ 1048577) (hcl : cs.length = n * 3) (hone : ∀ v ∈ cs, v.oneCell' = true) (ha : VRow w a cs) :
    Calls Tryz.prog 107 #[.slice a n ca] w fun e w' => ∃ a' c', e = .returned (.slice a' n c') ∧ w'.ownsRow w.heap.size 50 3 (.slice a' n c') n cs ∧ Below w.heap.size w w' := by
  obtain ⟨i0, hi, hz0, hz1, hz2⟩ := info_parts info_frame2
  by_cases h0 : n = 0
  · subst h0
    have : cs = [] := List.length_eq_zero_iff.1 (by omega)
    subst this
    go_enter Tryz.func107, Tryz.ntmps107
    go_wp2
    go_ret
    exact ⟨_, _, rfl, World.ownsRow_nil _ _ _ _, Below.refl _ _⟩
  · have h0' : (0 : Int) < n := by omega
    have HC : Hid (cs.length = n * 3) := hcl
    clear hcl
    go_enter Tryz.func107, Tryz.ntmps107
    go_wp2_with (at_make; refine wpList_make_full _ rfl (.tmp 8) (.tmp 8) 29 rfl w.heap.size 50 i0 (.agg #[.int .i64 0, .slice none 0 0, .bool false]) 3 Tryz.underlying29 hi hz0 hz1 .i64 .i64 _ _ n rfl rfl rfl rfl (by rw [hz2]; omega) (by unfold maxLen; omega) (Nat.le_refl _) ?_)
    intro w1 ho hg
    obtain ⟨zs, ho⟩ : ∃ zs, w1.ownsRow w.heap.size 50 3 (.slice (some ⟨w.heap.size, 0, none⟩) n n) n zs := ⟨_, ho⟩
    have hb1 : Below w.heap.size w w1 := (Below.refl _ _).grown hg (Nat.le_refl _) (fun k hk => by cases hk)
    clear hg
    obtain ⟨ba, oa, rfl, hsrc⟩ := vrow_srcW (ha.below hb1) (by have := HC.out; omega)
    clear ha
    go_wp2_with (guard_target =~ wpList _ _ _ (Oper.mk _ (Op.call ⟨Callee.builtin Builtin.copy, _, _⟩) _ _ _ _ :: _) _ _; refine wpList_copy_fullYtcneocbadobcfaaGreat rfl (.tmp 10) (.tmp 11) 29 29 rfl 50 Tryz.underlying29 3 (by rw [hi]; simp [hz1]) w.heap.size w.heap.size n ca ⟨ba, oa, none⟩ rfl rfl zs ho cs HC.out hsrc hone ?_)
    · intro w2 o2 g2
      have hb2 := hb1.grown g2 hb1.size (fun k hk => by simp at hk; omega)
      clear g2 hb1 ho hsrc hone
      go_wp2
      go_ret
      exact ⟨_, _, rfl, o2, hb2⟩

set_option maxRecDepth 100000 in
set_option maxHeartbeats 1000000 in
theorem copyHomes_any (a : Option Addr) (ca n : Nat) (cs : List Value) (w : World) (hsm : n ≤ 1048577) (hcl : cs.length = n * 8) (hone : ∀ v ∈ cs, v.oneCell' = true) (ha : VRow w a cs) :
    Calls Tryz.prog 109 #[.slice a n ca] w fun e w' => ∃ a' c', e = .returned (.slice a' n c') ∧ w'.ownsRow w.heap.size 93 8 (.slice a' n c') n cs ∧ Below w.heap.size w w' := by
  obtain ⟨i0, hi, hz0, hz1, hz2⟩ := info_parts info_home2
  by_cases h0 : n = 0
  · subst h0
    have : cs = [] := List.length_eq_zero_iff.1 (by omega)
    subst this
    go_enter Tryz.func109, Tryz.ntmps109
    go_wp2
    go_ret
    exact ⟨_, _, rfl, World.ownsRow_nil _ _ _ _, Below.refl _ _⟩
  · have h0' : (0 : Int) < n := by omega
    have HC : Hid (cs.length = n * 8) := hcl
    clear hcl
    go_enter Tryz.func109, Tryz.ntmps109
    go_wp2_with (at_make; refine wpList_make_full _ rfl (.tmp 8) (.tmp 8) 30 rfl w.heap.size 93 i0 (.agg #[.slice none 0 0, .int .i64 0, .slice none 0 0, .bool false, .int .i64 0, .bool false, .int .i64 0, .slice none 0 0]) 8 Tryz.underlying30 hi hz0 hz1 .i64 .i64 _ _ n rfl rfl rfl rfl (by rw [hz2]; omega) (by unfold maxLen; omega) (Nat.le_refl _) ?_)
    intro w1 ho hg
    obtain ⟨zs, ho⟩ : ∃ zs, w1.ownsRow w.heap.size 93 8 (.slice (some ⟨w.heap.size, 0, none⟩) n n) n zs := ⟨_, ho⟩
    have hb1 : Below w.heap.size w w1 := (Below.refl _ _).grown hg (Nat.le_refl _) (fun k hk => by cases hk)
    clear hg
    obtain ⟨ba, oa, rfl, hsrc⟩ := vrow_srcW (ha.below hb1) (by have := HC.out; omega)
    clear ha
    go_wp2_with (guard_target =~ wpList _ _ _ (Oper.mk _ (Op.call ⟨Callee.builtin Builtin.copy, _, _⟩) _ _ _ _ :: _) _ _; refine wpList_copy_fullYtcneocbadobcfaaGreat rfl (.tmp 10) (.tmp 11) 30 30 rfl 93 Tryz.underlying30 8 (by rw [hi]; simp [hz1]) w.heap.size w.heap.size n ca ⟨ba, oa, none⟩ rfl rfl zs ho cs HC.out hsrc hone ?_)
    · intro w2 o2 g2
      have hb2 := hb1.grown g2 hb1.size (fun k hk => by simp at hk; omega)
      clear g2 hb1 ho hsrc hone
      go_wp2
      go_ret
      exact ⟨_, _, rfl, o2, hb2⟩

set_option maxRecDepth 100000 in
set_option maxHeartbeats 1000000 in
theorem copySenders_any (a : Option Addr) (ca n : Nat) (cs : List Value) (w : World) (hsm : n ≤ 1048577) (hcl : cs.length = n * 2) (hone : ∀ v ∈ cs, v.oneCell' = true) (ha : VRow w a cs) :
    Calls Tryz.prog 112 #[.slice a n ca] w fun e w' => ∃ a' c', e = .returned (.slice a' n c') ∧ w'.ownsRow w.heap.size 54 2 (.slice a' n c') n cs ∧ Below w.heap.size w w' := by
  obtain ⟨i0, hi, hz0, hz1, hz2⟩ := info_parts info_sender2
  by_cases h0 : n = 0
  · subst h0
    have : cs = [] := List.length_eq_zero_iff.1 (by omega)
    subst this
    go_enter Tryz.func112, Tryz.ntmps112
    go_wp2
    go_ret
    exact ⟨_, _, rfl, World.ownsRow_nil _ _ _ _, Below.refl _ _⟩
  · have h0' : (0 : Int) < n := by omega
    have HC : Hid (cs.length = n * 2) := hcl
    clear hcl
    go_enter Tryz.func112, Tryz.ntmps112
    go_wp2_with (at_make; refine wpList_make_full _ rfl (.tmp 8) (.tmp 8) 31 rfl w.heap.size 54 i0 (.agg #[.int .i64 0, .slice none 0 0]) 2 Tryz.underlying31 hi hz0 hz1 .i64 .i64 _ _ n rfl rfl rfl rfl (by rw [hz2]; omega) (by unfold maxLen; omega) (Nat.le_refl _) ?_)
    intro w1 ho hg
    obtain ⟨zs, ho⟩ : ∃ zs, w1.ownsRow w.heap.size 54 2 (.slice (some ⟨w.heap.size, 0, none⟩) n n) n zs := ⟨_, ho⟩
    have hb1 : Below w.heap.size w w1 := (Below.refl _ _).grown hg (Nat.le_refl _) (fun k hk => by cases hk)
    clear hg
    obtain ⟨ba, oa, rfl, hsrc⟩ := vrow_srcW (ha.below hb1) (by have := HC.out; omega)
    clear ha
    go_wp2_with (guard_target =~ wpList _ _ _ (Oper.mk _ (Op.call ⟨Callee.builtin Builtin.copy, _, _⟩) _ _ _ _ :: _) _ _; refine wpList_copy_fullYtcneocbadobcfaaGreat rfl (.tmp 10) (.tmp 11) 31 31 rfl 54 Tryz.underlying31 2 (by rw [hi]; simp [hz1]) w.heap.size w.heap.size n ca ⟨ba, oa, none⟩ rfl rfl zs ho cs HC.out hsrc hone ?_)
    · intro w2 o2 g2
      have hb2 := hb1.grown g2 hb1.size (fun k hk => by simp at hk; omega)
      clear g2 hb1 ho hsrc hone
      go_wp2
      go_ret
      exact ⟨_, _, rfl, o2, hb2⟩

set_option maxRecDepth 100000 in
set_option maxHeartbeats 1000000 in
theorem copyReceivers_any (a : Option Addr) (ca n : Nat) (cs : List Value) (w : World) (hsm : n ≤ 1048577) (hcl : cs.length = n * 1) (hone : ∀ v ∈ cs, v.oneCell' = true) (ha : VRow w a cs) :
    Calls Tryz.prog 75 #[.slice a n ca] w fun e w' => ∃ a' c', e = .returned (.slice a' n c') ∧ w'.ownsRow w.heap.size 100 1 (.slice a' n c') n cs ∧ Below w.heap.size w w' := by
  obtain ⟨i0, hi, hz0, hz1, hz2⟩ := info_parts info_receiver2
  by_cases h0 : n = 0
  · subst h0
    have : cs = [] := List.length_eq_zero_iff.1 (by omega)
    subst this
    go_enter Tryz.func75, Tryz.ntmps75
    go_wp2
    go_ret
    exact ⟨_, _, rfl, World.ownsRow_nil _ _ _ _, Below.refl _ _⟩
  · have h0' : (0 : Int) < n := by omega
    have HC : Hid (cs.length = n * 1) := hcl
    clear hcl
    go_enter Tryz.func75, Tryz.ntmps75
    go_wp2_with (at_make; refine wpList_make_full _ rfl (.tmp 8) (.tmp 8) 32 rfl w.heap.size 100 i0 (.agg #[.int .i64 0]) 1 Tryz.underlying32 hi hz0 hz1 .i64 .i64 _ _ n rfl rfl rfl rfl (by rw [hz2]; omega) (by unfold maxLen; omega) (Nat.le_refl _) ?_)
    intro w1 ho hg
    obtain ⟨zs, ho⟩ : ∃ zs, w1.ownsRow w.heap.size 100 1 (.slice (some ⟨w.heap.size, 0, none⟩) n n) n zs := ⟨_, ho⟩
    have hb1 : Below w.heap.size w w1 := (Below.refl _ _).grown hg (Nat.le_refl _) (fun k hk => by cases hk)
    clear hg
    obtain ⟨ba, oa, rfl, hsrc⟩ := vrow_srcW (ha.below hb1) (by have := HC.out; omega)
    clear ha
    go_wp2_with (guard_target =~ wpList _ _ _ (Oper.mk _ (Op.call ⟨Callee.builtin Builtin.copy, _, _⟩) _ _ _ _ :: _) _ _; refine wpList_copy_fullYtcneocbadobcfaaGreat rfl (.tmp 10) (.tmp 11) 32 32 rfl 100 Tryz.underlying32 1 (by rw [hi]; simp [hz1]) w.heap.size w.heap.size n ca ⟨ba, oa, none⟩ rfl rfl zs ho cs HC.out hsrc hone ?_)
    · intro w2 o2 g2
      have hb2 := hb1.grown g2 hb1.size (fun k hk => by simp at hk; omega)
      clear g2 hb1 ho hsrc hone
      go_wp2
      go_ret
      exact ⟨_, _, rfl, o2, hb2⟩
end Go.Proofs.YtcneocbadobcfaaGreat
