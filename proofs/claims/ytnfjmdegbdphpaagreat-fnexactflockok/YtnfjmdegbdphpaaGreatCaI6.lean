/- What impl's CacheOk answers (its closure's region written by mkca7.py). -/
import Derived.Test.YtnfjmdegbdphpaaGreatCa6
import Derived.Test.YtnfjmdegbdphpaaGreatBkJ
import Derived.Test.YtnfjmdegbdphpaaGreatBkK
import Derived.BigQuiet
namespace Go.Proofs.YtnfjmdegbdphpaaGreat
open Go.RowKit
set_option linter.unusedVariables false

set_option maxRecDepth 100000 in
set_option maxHeartbeats 4000000 in
theorem equalX_any (a : Option Addr) (c n : Nat) (d : Nat → XD) (a' : Option Addr) (c' n' : Nat) (d' : Nat → XD) (w : World) (ha : IR w a n d) (hb : IR w a' n' d') :
    Calls Tryz.prog 105 #[.slice a n c, .slice a' n' c'] w fun e w' => e = .returned (.bool (((n : Int) == (n' : Int)) && allX n d d')) ∧ Below w.heap.size w w' := by
  have hl := ha.1
  have hl' := hb.1
  by_cases hn : n = n'
  · subst hn
    have HV : Hid ((((n : Int) == (n : Int)) && allX n d d') = allX n d d') := by show _ = _; simp
    clear hl'
    go_enter Tryz.func105, Tryz.ntmps105
    go_wp2_with fail
    go_loopw [13] (fun i wr => ∃ k : Nat, k ≤ n ∧ i = .int .i64 k ∧ (∀ i, i < k → xdB (d i) (d' i) = true) ∧ (Below w.heap.size w wr ∧ IR wr a n d ∧ IR wr a' n d')) (fun i _ => n - (intOf i).toNat)
    case atStart => exact ⟨0, Nat.zero_le _, rfl, fun i hi => absurd hi (Nat.not_lt_zero i), Below.refl _ _, ha, hb⟩
    case round =>
      obtain ⟨k, hk, rfl, hE, hB, hra, hrb⟩ := hrel
      clear ha hb
      have HE : Hid (∀ i, i < k → xdB (d i) (d' i) = true) := hE
      have HQ : Hid (∀ q, Below w.heap.size w (wr.drewN q) ∧ IR (wr.drewN q) a n d ∧ IR (wr.drewN q) a' n d') := fun q => ⟨below_drewN hB q, hra.below (below_drewN (Below.refl _ _) q), hrb.below (below_drewN (Below.refl _ _) q)⟩
      by_cases hlt : k < n
      · have hi : (k : Int) < (n : Int) := by omega
        obtain ⟨b1, o1, rfl, u0, u1, u2, u3, u4⟩ := hra.at hlt
        obtain ⟨b2, o2, rfl, v0, v1, v2, v3, v4⟩ := hrb.at hlt
        cases hz : xdB (d k) (d' k)
        · have heq : ∀ W, (Op.equalIn 10000 152 (.agg (icells (d k).op (d k).r (d k).a (d k).b (d k).n)) (.agg (icells (d' k).op (d' k).r (d' k).a (d' k).b (d' k).n))).run Tryz.prog W = .ok false W := fun W => by rw [insv_eq2, hz]
          have HF : Hid ((((n : Int) == (n : Int)) && allX n d d') = false) := HV.out.trans (allX_no hlt hz)
          clear hz hE hB hra hrb HV
          go_wp2_with fail
          go_quiet (fail)
          go_wp2
          go_ret
          exact ⟨ret_bool HF.out.symm, (HQ.out _).1⟩
        · have heq : ∀ W, (Op.equalIn 10000 152 (.agg (icells (d k).op (d k).r (d k).a (d k).b (d k).n)) (.agg (icells (d' k).op (d' k).r (d' k).a (d' k).b (d' k).n))).run Tryz.prog W = .ok true W := fun W => by rw [insv_eq2, hz]
          have HE2 : Hid (∀ i, i < k + 1 → xdB (d i) (d' i) = true) := fun i hi => by
            by_cases e : i = k
            · subst e; exact hz
            · exact HE.out i (by omega)
          clear hz hE hB hra hrb
          go_wp2_with fail
          go_quiet (fail)
          go_wp2
          go_roundw
          case rel => exact ⟨k + 1, by omega, by go_num, HE2.out, (HQ.out _)⟩
          case measure => simp [intOf]; omega
      · have : k = n := by omega
        subst this
        have HF : Hid ((((k : Int) == (k : Int)) && allX k d d') = true) := HV.out.trans (allX_yes HE.out)
        have HB : Hid (Below w.heap.size w wr) := hB
        clear hE hB hra hrb HV
        go_wp2
        go_ret
        exact ⟨ret_bool HF.out.symm, HB.out⟩
  · have HF : Hid ((((n : Int) == (n' : Int)) && allX n d d') = false) := by
      show _ = _
      have : ((n : Int) == (n' : Int)) = false := by simp; omega
      rw [this]; rfl
    have hni : ((n : Int) == (n' : Int)) = false := by simp; omega
    clear ha hb
    go_enter Tryz.func105, Tryz.ntmps105
    go_wp2
    go_ret
    exact ⟨ret_bool HF.out.symm, Below.refl _ _⟩

set_option maxRecDepth 100000 in
set_option maxHeartbeats 2000000 in
theorem isSame_any (st : Int) (a : Option Addr) (c n : Nat) (d : Nat → XD) (st' : Int) (a' : Option Addr) (c' n' : Nat) (d' : Nat → XD) (w : World) (ha : IR w a n d) (hb : IR w a' n' d') :
    Calls Tryz.prog 74 #[.agg #[.int .i64 st, .slice a n c], .agg #[.int .i64 st', .slice a' n' c']] w fun e w' => e = .returned (.bool (sameKB st n d st' n' d')) ∧ Below w.heap.size w w' := by
  have bA := bel_alloc (bel_alloc (Below.refl w.heap.size w) (.cells #[.int .i64 st, .slice a n c] 119)) (.cells #[.int .i64 st', .slice a' n' c'] 119)
  obtain ⟨X0, X1⟩ := Box.two w #[.int .i64 st, .slice a n c] #[.int .i64 st', .slice a' n' c'] 119 119
  have hra := ha.below bA
  have hrb := hb.below bA
  clear ha hb
  obtain ⟨z, hz⟩ : ∃ z, (((n : Int) == (n' : Int)) && allX n d d') = z := ⟨_, rfl⟩
  have HE : Hid (∀ W, IR W a n d → IR W a' n' d' → Calls Tryz.prog 105 #[.slice a n c, .slice a' n' c'] W fun e w' => e = .returned (.bool z) ∧ Below W.heap.size W w') := fun W h1 h2 => by
    have h := equalX_any a c n d a' c' n' d' W h1 h2
    rw [hz] at h
    exact h
  by_cases hs : st = st'
  · subst hs
    have HV : Hid (sameKB st n d st n' d' = z) := by show _ = _; unfold sameKB; rw [hz]; simp
    clear hz
    go_enter Tryz.func74, Tryz.ntmps74
    go_wp2_with fail
    refine (HE.out _ hra hrb).mono ?_
    rintro e w1 ⟨rfl, b1⟩
    have B := bel_trans bA b1
    clear bA b1 X0 X1 hra hrb
    go_wp2
    go_ret
    exact ⟨ret_bool HV.out.symm, B⟩
  · have hsb : (st == st') = false := by simp [hs]
    have HV : Hid (sameKB st n d st' n' d' = false) := by show _ = _; unfold sameKB; rw [hsb]; rfl
    clear hz hra hrb
    go_enter Tryz.func74, Tryz.ntmps74
    go_wp2
    go_ret
    exact ⟨ret_bool HV.out.symm, bA⟩

set_option maxRecDepth 100000 in
set_option maxHeartbeats 4000000 in
theorem stands_any (d : KD) (a : Option Addr) (c nb : Nat) (f : Option Addr) (cf : Nat) (F : Nat → FD) (pf : Nat → Pl) (w : World) (hX : Box w nb #[.slice f 6 cf] 51) (hf : FR w f 6 F pf) (ha : IR w a d.n d.x) :
    Calls Tryz.prog 72 #[.agg #[.int .i64 d.st, .slice a d.n c], .pointer (some ⟨nb, 0, none⟩)] w fun e w' => e = .returned (.bool (keptB F d)) ∧ Below w.heap.size w w' := by
  have bx := bel_alloc (Below.refl w.heap.size w) (.cells #[.int .i64 d.st, .slice a d.n c] 119)
  have X := Box.new w #[.int .i64 d.st, .slice a d.n c] 119
  obtain ⟨W1, hW1⟩ : ∃ W, w.alloc (.cells #[.int .i64 d.st, .slice a d.n c] 119) = W := ⟨_, rfl⟩
  rw [hW1] at bx X
  obtain ⟨x0, x1, xz⟩ := X.at2
  have n0 : W1.cell? ⟨nb, 0, none⟩ = some (.slice f 6 cf) := (hX.below bx).cell 0
  have hrw := ha.below bx
  cases hb : blockB d.st d.n d.x
  · have HN : Hid (keptB F d = false) := by show _ = _; unfold keptB; rw [hb]; rfl
    have HBl : Hid (∀ W, IR W a d.n d.x → Calls Tryz.prog 73 #[.agg #[.int .i64 d.st, .slice a d.n c]] W fun e w' => e = .returned (.bool false) ∧ Below W.heap.size W w') := fun W h => by have h1 := implBlockOk_any d.st a c d.n d.x W h; rw [hb] at h1; exact h1
    clear hb hX hf ha
    go_enter Tryz.func72, Tryz.ntmps72
    go_wp2_with fail
    (try rw [hW1])
    clear hW1
    refine wp_region_held_drew (S := fun W => Below W1.heap.size W1 W) (by kernel_rfl) ?_ (fun hHeld => ?_)
    · exact below_drewN (Below.refl _ _) 1
    refine wpAnyH_take (i := 0) (oi := { dst := some 4, op := Op.load 119 (Operand.tmp 2), type := 119, pos := "l11_cache.go:45", after := #[], guard := none }) (v := ?vv1) rfl (by kernel_rfl) (by kernel_rfl) (by kernel_rfl) (fun _ _ _ h => h) (Or.inl ⟨by rfl, ?hy1⟩) (by assumption) ?rest1
    case hy1 => intro W hS; have c0 := cell_later hS x0; have c1 := cell_later hS x1; go_simp; try (with_reducible rfl)
    try simp only [Act.put, List.setIfInBounds_toArray, List.set_cons_zero, List.set_cons_succ]
    refine wpAnyH_ready (rs := [1]) (by kernel_rfl) (by simp) ?_
    refine AllReadyH.cons (o := { dst := some 5, op := Op.call { callee := Callee.value (Operand.func 73), args := #[Operand.tmp 4], argTypes := #[119] }, type := 4, pos := "l11_cache.go:45", after := #[{ on := 0, ground := Ground.data }], guard := none }) rfl (fun K2 hK2 => ?_) AllReadyH.nil
    go_simp
    refine (HBl.out _ (hrw.below hHeld)).mono ?_
    rintro e w1 ⟨rfl, b1⟩
    go_wp2_with fail
    refine hK2.out _ _ ?_ (fun hHeld2 => ?_)
    · exact bel_trans hHeld b1
    clear hK2 K2 hHeld
    have hHeld := hHeld2
    clear hHeld2
    try simp only [Act.put, List.setIfInBounds_toArray, List.set_cons_zero, List.set_cons_succ]
    refine wpAnyH_take (i := 2) (oi := { dst := some 6, op := Op.move (Operand.tmp 5), type := 4, pos := "l11_cache.go:45", after := #[{ on := 1, ground := Ground.data }, { on := 1, ground := Ground.chain }], guard := none }) (v := ?vv2) rfl (by kernel_rfl) (by kernel_rfl) (by kernel_rfl) (fun _ _ _ h => h) (Or.inl ⟨by rfl, ?hy2⟩) (by assumption) ?rest2
    case hy2 => intro W hS; go_simp; try (with_reducible rfl)
    try simp only [Act.put, List.setIfInBounds_toArray, List.set_cons_zero, List.set_cons_succ]
    refine wpAnyH_take (i := 3) (oi := { dst := some 7, op := Op.load 119 (Operand.tmp 2), type := 119, pos := "l11_cache.go:45", after := #[{ on := 2, ground := Ground.guard }], guard := some (2, true) }) (v := undef) rfl (by kernel_rfl) (by kernel_rfl) (by kernel_rfl) (fun _ _ _ h => h) (Or.inr ⟨by rfl, rfl⟩) (by assumption) ?_
    try simp only [Act.put, List.setIfInBounds_toArray, List.set_cons_zero, List.set_cons_succ]
    refine wpAnyH_take (i := 4) (oi := { dst := some 8, op := Op.load 51 (Operand.tmp 1), type := 51, pos := "l11_cache.go:45", after := #[{ on := 2, ground := Ground.guard }], guard := some (2, true) }) (v := undef) rfl (by kernel_rfl) (by kernel_rfl) (by kernel_rfl) (fun _ _ _ h => h) (Or.inr ⟨by rfl, rfl⟩) (by assumption) ?_
    try simp only [Act.put, List.setIfInBounds_toArray, List.set_cons_zero, List.set_cons_succ]
    refine wpAnyH_take (i := 5) (oi := { dst := some 9, op := Op.load 119 (Operand.tmp 2), type := 119, pos := "l11_cache.go:45", after := #[{ on := 2, ground := Ground.guard }], guard := some (2, true) }) (v := undef) rfl (by kernel_rfl) (by kernel_rfl) (by kernel_rfl) (fun _ _ _ h => h) (Or.inr ⟨by rfl, rfl⟩) (by assumption) ?_
    try simp only [Act.put, List.setIfInBounds_toArray, List.set_cons_zero, List.set_cons_succ]
    refine wpAnyH_take (i := 6) (oi := { dst := some 10, op := Op.call { callee := Callee.value (Operand.func 76), args := #[Operand.tmp 9], argTypes := #[119] }, type := 3, pos := "l11_cache.go:45", after := #[{ on := 5, ground := Ground.data }, { on := 2, ground := Ground.chain }, { on := 2, ground := Ground.guard }], guard := some (2, true) }) (v := undef) rfl (by kernel_rfl) (by kernel_rfl) (by kernel_rfl) (fun _ _ _ h => h) (Or.inr ⟨by rfl, rfl⟩) (by assumption) ?_
    try simp only [Act.put, List.setIfInBounds_toArray, List.set_cons_zero, List.set_cons_succ]
    refine wpAnyH_take (i := 7) (oi := { dst := some 11, op := Op.indexAddr 51 (Operand.tmp 8) (Operand.tmp 10), type := 0, pos := "l11_cache.go:45", after := #[{ on := 4, ground := Ground.data }, { on := 6, ground := Ground.data }, { on := 2, ground := Ground.guard }], guard := some (2, true) }) (v := undef) rfl (by kernel_rfl) (by kernel_rfl) (by kernel_rfl) (fun _ _ _ h => h) (Or.inr ⟨by rfl, rfl⟩) (by assumption) ?_
    try simp only [Act.put, List.setIfInBounds_toArray, List.set_cons_zero, List.set_cons_succ]
    refine wpAnyH_take (i := 8) (oi := { dst := some 12, op := Op.fieldAddr 101 (Operand.tmp 11) 1, type := 0, pos := "l11_cache.go:45", after := #[{ on := 7, ground := Ground.data }, { on := 2, ground := Ground.guard }], guard := some (2, true) }) (v := undef) rfl (by kernel_rfl) (by kernel_rfl) (by kernel_rfl) (fun _ _ _ h => h) (Or.inr ⟨by rfl, rfl⟩) (by assumption) ?_
    try simp only [Act.put, List.setIfInBounds_toArray, List.set_cons_zero, List.set_cons_succ]
    refine wpAnyH_take (i := 9) (oi := { dst := some 13, op := Op.load 45 (Operand.tmp 12), type := 45, pos := "l11_cache.go:45", after := #[{ on := 8, ground := Ground.data }, { on := 2, ground := Ground.guard }], guard := some (2, true) }) (v := undef) rfl (by kernel_rfl) (by kernel_rfl) (by kernel_rfl) (fun _ _ _ h => h) (Or.inr ⟨by rfl, rfl⟩) (by assumption) ?_
    try simp only [Act.put, List.setIfInBounds_toArray, List.set_cons_zero, List.set_cons_succ]
    refine wpAnyH_take (i := 10) (oi := { dst := some 14, op := Op.fieldAddr 119 (Operand.tmp 2) 0, type := 0, pos := "l11_cache.go:45", after := #[{ on := 2, ground := Ground.guard }], guard := some (2, true) }) (v := undef) rfl (by kernel_rfl) (by kernel_rfl) (by kernel_rfl) (fun _ _ _ h => h) (Or.inr ⟨by rfl, rfl⟩) (by assumption) ?_
    try simp only [Act.put, List.setIfInBounds_toArray, List.set_cons_zero, List.set_cons_succ]
    refine wpAnyH_take (i := 11) (oi := { dst := some 15, op := Op.load 3 (Operand.tmp 14), type := 3, pos := "l11_cache.go:45", after := #[{ on := 10, ground := Ground.data }, { on := 2, ground := Ground.guard }], guard := some (2, true) }) (v := undef) rfl (by kernel_rfl) (by kernel_rfl) (by kernel_rfl) (fun _ _ _ h => h) (Or.inr ⟨by rfl, rfl⟩) (by assumption) ?_
    try simp only [Act.put, List.setIfInBounds_toArray, List.set_cons_zero, List.set_cons_succ]
    refine wpAnyH_take (i := 12) (oi := { dst := some 16, op := Op.call { callee := Callee.value (Operand.func 75), args := #[Operand.tmp 13, Operand.tmp 15], argTypes := #[45, 3] }, type := 119, pos := "l11_cache.go:45", after := #[{ on := 9, ground := Ground.data }, { on := 11, ground := Ground.data }, { on := 6, ground := Ground.chain }, { on := 2, ground := Ground.guard }], guard := some (2, true) }) (v := undef) rfl (by kernel_rfl) (by kernel_rfl) (by kernel_rfl) (fun _ _ _ h => h) (Or.inr ⟨by rfl, rfl⟩) (by assumption) ?_
    try simp only [Act.put, List.setIfInBounds_toArray, List.set_cons_zero, List.set_cons_succ]
    refine wpAnyH_take (i := 13) (oi := { dst := some 17, op := Op.call { callee := Callee.value (Operand.func 74), args := #[Operand.tmp 7, Operand.tmp 16], argTypes := #[119, 119] }, type := 4, pos := "l11_cache.go:45", after := #[{ on := 3, ground := Ground.data }, { on := 12, ground := Ground.data }, { on := 12, ground := Ground.chain }, { on := 2, ground := Ground.guard }], guard := some (2, true) }) (v := undef) rfl (by kernel_rfl) (by kernel_rfl) (by kernel_rfl) (fun _ _ _ h => h) (Or.inr ⟨by rfl, rfl⟩) (by assumption) ?_
    try simp only [Act.put, List.setIfInBounds_toArray, List.set_cons_zero, List.set_cons_succ]
    refine wpAnyH_take (i := 14) (oi := { dst := some 18, op := Op.pick (Operand.tmp 6) (Operand.tmp 17) (Operand.const (Value.bool false)), type := 4, pos := "l11_cache.go:45", after := #[{ on := 2, ground := Ground.data }, { on := 13, ground := Ground.data }], guard := none }) (v := ?vv3) rfl (by kernel_rfl) (by kernel_rfl) (by kernel_rfl) (fun _ _ _ h => h) (Or.inl ⟨by rfl, ?hy3⟩) (by assumption) ?rest3
    case hy3 => intro W hS; go_simp; try (with_reducible rfl)
    try simp only [Act.put, List.setIfInBounds_toArray, List.set_cons_zero, List.set_cons_succ]
    refine wpAnyH_take (i := 15) (oi := { dst := some 3, op := Op.assign (Operand.tmp 18), type := 4, pos := "l11_cache.go:45", after := #[{ on := 14, ground := Ground.data }, { on := 13, ground := Ground.chain }, { on := 0, ground := Ground.phase }, { on := 1, ground := Ground.phase }, { on := 2, ground := Ground.phase }, { on := 3, ground := Ground.phase }, { on := 4, ground := Ground.phase }, { on := 5, ground := Ground.phase }, { on := 6, ground := Ground.phase }, { on := 7, ground := Ground.phase }, { on := 8, ground := Ground.phase }, { on := 9, ground := Ground.phase }, { on := 10, ground := Ground.phase }, { on := 11, ground := Ground.phase }, { on := 12, ground := Ground.phase }, { on := 13, ground := Ground.phase }, { on := 14, ground := Ground.phase }], guard := none }) (v := ?vv4) rfl (by kernel_rfl) (by kernel_rfl) (by kernel_rfl) (fun _ _ _ h => h) (Or.inl ⟨by rfl, ?hy4⟩) (by assumption) ?rest4
    case hy4 => intro W hS; go_simp; try (with_reducible rfl)
    try simp only [Act.put, List.setIfInBounds_toArray, List.set_cons_zero, List.set_cons_succ]
    refine wpAnyH_done (by kernel_rfl) ?_ _
    have B : Hid (Below w.heap.size w w1) := bel_trans bx hHeld
    clear hHeld b1 hrw n0 x0 x1 xz X bx
    go_wp2
    go_ret
    exact ⟨ret_bool HN.out.symm, B.out⟩
  · obtain ⟨⟨s0, s1⟩, n1, n2⟩ := blockB_st hb
    obtain ⟨pg, hpg⟩ : ∃ pg : Nat, d.st / 4 = (pg : Int) := ⟨(d.st / 4).toNat, by omega⟩
    have hpg6 : pg < 6 := by omega
    have hpgi : (pg : Int) < 6 := by omega
    have hpg0 : (0 : Int) ≤ (pg : Int) := by omega
    obtain ⟨fb, fo, rfl, z0, z1, z2⟩ := (hf.below bx).at hpg6
    have hrf := (hf.below bx).2.2 pg hpg6
    obtain ⟨xs, hxs⟩ : ∃ xs, (F pg).xs = xs := ⟨_, rfl⟩
    obtain ⟨fa, hfa⟩ : ∃ q, (pf pg).1 = q := ⟨_, rfl⟩
    obtain ⟨fc, hfc⟩ : ∃ q, (pf pg).2 = q := ⟨_, rfl⟩
    rw [hxs, hfa, hfc] at z1
    rw [hxs, hfa] at hrf
    obtain ⟨z, hz⟩ : ∃ z, sameKB d.st d.n d.x (ofS xs d.st) (ofN xs d.st) (ofD xs d.st) = z := ⟨_, rfl⟩
    have HN : Hid (keptB F d = z) := by
      show _ = _
      unfold keptB
      rw [hb, show (d.st / 4).toNat = pg by omega, hxs, hz]
      rfl
    have HBl : Hid (∀ W, IR W a d.n d.x → Calls Tryz.prog 73 #[.agg #[.int .i64 d.st, .slice a d.n c]] W fun e w' => e = .returned (.bool true) ∧ Below W.heap.size W w') := fun W h => by have h1 := implBlockOk_any d.st a c d.n d.x W h; rw [hb] at h1; exact h1
    have HPg : Hid (∀ W, IR W a d.n d.x → Calls Tryz.prog 76 #[.agg #[.int .i64 d.st, .slice a d.n c]] W fun e w' => e = .returned (.int .i64 (pg : Int)) ∧ Below W.heap.size W w') := fun W h => by
      have h1 := implPageOf_any d.st a c d.n d.x W h
      rw [hb, if_pos rfl, hpg] at h1
      exact h1
    have HOf : Hid (∀ W, Row .i64 W fa xs → Calls Tryz.prog 75 #[.slice fa xs.length fc, .int .i64 d.st] W (BlkP xs d.st W)) := fun W h => implBlockOf_any fa fc xs d.st W h
    have HSm : Hid (∀ W a2 c2, IR W a d.n d.x → IR W a2 (ofN xs d.st) (ofD xs d.st) → Calls Tryz.prog 74 #[.agg #[.int .i64 d.st, .slice a d.n c], .agg #[.int .i64 (ofS xs d.st), .slice a2 (ofN xs d.st) c2]] W fun e w' => e = .returned (.bool z) ∧ Below W.heap.size W w') := fun W a2 c2 h1 h2 => by
      have h := isSame_any d.st a c d.n d.x (ofS xs d.st) a2 c2 (ofN xs d.st) (ofD xs d.st) W h1 h2
      rw [hz] at h
      exact h
    have hof4 : ofN xs d.st ≤ 4 := ofN_le xs d.st
    clear hb hX hf ha hpg hxs hfa hfc hz z0 z2
    go_enter Tryz.func72, Tryz.ntmps72
    go_wp2_with fail
    (try rw [hW1])
    clear hW1
    refine wp_region_held_drew (S := fun W => Below W1.heap.size W1 W) (by kernel_rfl) ?_ (fun hHeld => ?_)
    · exact below_drewN (Below.refl _ _) 1
    refine wpAnyH_take (i := 0) (oi := { dst := some 4, op := Op.load 119 (Operand.tmp 2), type := 119, pos := "l11_cache.go:45", after := #[], guard := none }) (v := ?vv5) rfl (by kernel_rfl) (by kernel_rfl) (by kernel_rfl) (fun _ _ _ h => h) (Or.inl ⟨by rfl, ?hy5⟩) (by assumption) ?rest5
    case hy5 => intro W hS; have c0 := cell_later hS x0; have c1 := cell_later hS x1; go_simp; try (with_reducible rfl)
    try simp only [Act.put, List.setIfInBounds_toArray, List.set_cons_zero, List.set_cons_succ]
    refine wpAnyH_ready (rs := [1]) (by kernel_rfl) (by simp) ?_
    refine AllReadyH.cons (o := { dst := some 5, op := Op.call { callee := Callee.value (Operand.func 73), args := #[Operand.tmp 4], argTypes := #[119] }, type := 4, pos := "l11_cache.go:45", after := #[{ on := 0, ground := Ground.data }], guard := none }) rfl (fun K2 hK2 => ?_) AllReadyH.nil
    go_simp
    refine (HBl.out _ (hrw.below hHeld)).mono ?_
    rintro e w1 ⟨rfl, b1⟩
    go_wp2_with fail
    refine hK2.out _ _ ?_ (fun hHeld2 => ?_)
    · exact bel_trans hHeld b1
    clear hK2 K2 hHeld
    have hHeld := hHeld2
    clear hHeld2
    try simp only [Act.put, List.setIfInBounds_toArray, List.set_cons_zero, List.set_cons_succ]
    refine wpAnyH_take (i := 2) (oi := { dst := some 6, op := Op.move (Operand.tmp 5), type := 4, pos := "l11_cache.go:45", after := #[{ on := 1, ground := Ground.data }, { on := 1, ground := Ground.chain }], guard := none }) (v := ?vv6) rfl (by kernel_rfl) (by kernel_rfl) (by kernel_rfl) (fun _ _ _ h => h) (Or.inl ⟨by rfl, ?hy6⟩) (by assumption) ?rest6
    case hy6 => intro W hS; go_simp; try (with_reducible rfl)
    try simp only [Act.put, List.setIfInBounds_toArray, List.set_cons_zero, List.set_cons_succ]
    refine wpAnyH_take (i := 3) (oi := { dst := some 7, op := Op.load 119 (Operand.tmp 2), type := 119, pos := "l11_cache.go:45", after := #[{ on := 2, ground := Ground.guard }], guard := some (2, true) }) (v := ?vv7) rfl (by kernel_rfl) (by kernel_rfl) (by kernel_rfl) (fun _ _ _ h => h) (Or.inl ⟨by rfl, ?hy7⟩) (by assumption) ?rest7
    case hy7 => intro W hS; have c0 := cell_later hS x0; have c1 := cell_later hS x1; go_simp; try (with_reducible rfl)
    try simp only [Act.put, List.setIfInBounds_toArray, List.set_cons_zero, List.set_cons_succ]
    refine wpAnyH_take (i := 4) (oi := { dst := some 8, op := Op.load 51 (Operand.tmp 1), type := 51, pos := "l11_cache.go:45", after := #[{ on := 2, ground := Ground.guard }], guard := some (2, true) }) (v := ?vv8) rfl (by kernel_rfl) (by kernel_rfl) (by kernel_rfl) (fun _ _ _ h => h) (Or.inl ⟨by rfl, ?hy8⟩) (by assumption) ?rest8
    case hy8 => intro W hS; have c0 := cell_later hS n0; go_simp; try (with_reducible rfl)
    try simp only [Act.put, List.setIfInBounds_toArray, List.set_cons_zero, List.set_cons_succ]
    refine wpAnyH_take (i := 5) (oi := { dst := some 9, op := Op.load 119 (Operand.tmp 2), type := 119, pos := "l11_cache.go:45", after := #[{ on := 2, ground := Ground.guard }], guard := some (2, true) }) (v := ?vv9) rfl (by kernel_rfl) (by kernel_rfl) (by kernel_rfl) (fun _ _ _ h => h) (Or.inl ⟨by rfl, ?hy9⟩) (by assumption) ?rest9
    case hy9 => intro W hS; have c0 := cell_later hS x0; have c1 := cell_later hS x1; go_simp; try (with_reducible rfl)
    try simp only [Act.put, List.setIfInBounds_toArray, List.set_cons_zero, List.set_cons_succ]
    refine wpAnyH_take (i := 10) (oi := { dst := some 14, op := Op.fieldAddr 119 (Operand.tmp 2) 0, type := 0, pos := "l11_cache.go:45", after := #[{ on := 2, ground := Ground.guard }], guard := some (2, true) }) (v := ?vv10) rfl (by kernel_rfl) (by kernel_rfl) (by kernel_rfl) (fun _ _ _ h => h) (Or.inl ⟨by rfl, ?hy10⟩) (by assumption) ?rest10
    case hy10 => intro W hS; go_simp; try (with_reducible rfl)
    try simp only [Act.put, List.setIfInBounds_toArray, List.set_cons_zero, List.set_cons_succ]
    refine wpAnyH_take (i := 11) (oi := { dst := some 15, op := Op.load 3 (Operand.tmp 14), type := 3, pos := "l11_cache.go:45", after := #[{ on := 10, ground := Ground.data }, { on := 2, ground := Ground.guard }], guard := some (2, true) }) (v := ?vv11) rfl (by kernel_rfl) (by kernel_rfl) (by kernel_rfl) (fun _ _ _ h => h) (Or.inl ⟨by rfl, ?hy11⟩) (by assumption) ?rest11
    case hy11 => intro W hS; have c0 := cell_later hS x0; have c1 := cell_later hS x1; go_simp; try (with_reducible rfl)
    try simp only [Act.put, List.setIfInBounds_toArray, List.set_cons_zero, List.set_cons_succ]
    refine wpAnyH_ready (rs := [6]) (by kernel_rfl) (by simp) ?_
    refine AllReadyH.cons (o := { dst := some 10, op := Op.call { callee := Callee.value (Operand.func 76), args := #[Operand.tmp 9], argTypes := #[119] }, type := 3, pos := "l11_cache.go:45", after := #[{ on := 5, ground := Ground.data }, { on := 2, ground := Ground.chain }, { on := 2, ground := Ground.guard }], guard := some (2, true) }) rfl (fun K2 hK2 => ?_) AllReadyH.nil
    go_simp
    refine (HPg.out _ (hrw.below hHeld)).mono ?_
    rintro e w2 ⟨rfl, b2⟩
    go_wp2_with fail
    refine hK2.out _ _ ?_ (fun hHeld2 => ?_)
    · exact bel_trans hHeld b2
    clear hK2 K2 hHeld
    have hHeld := hHeld2
    clear hHeld2
    try simp only [Act.put, List.setIfInBounds_toArray, List.set_cons_zero, List.set_cons_succ]
    refine wpAnyH_take (i := 7) (oi := { dst := some 11, op := Op.indexAddr 51 (Operand.tmp 8) (Operand.tmp 10), type := 0, pos := "l11_cache.go:45", after := #[{ on := 4, ground := Ground.data }, { on := 6, ground := Ground.data }, { on := 2, ground := Ground.guard }], guard := some (2, true) }) (v := ?vv12) rfl (by kernel_rfl) (by kernel_rfl) (by kernel_rfl) (fun _ _ _ h => h) (Or.inl ⟨by rfl, ?hy12⟩) (by assumption) ?rest12
    case hy12 => intro W hS; go_simp; try (with_reducible rfl)
    try simp only [Act.put, List.setIfInBounds_toArray, List.set_cons_zero, List.set_cons_succ]
    refine wpAnyH_take (i := 8) (oi := { dst := some 12, op := Op.fieldAddr 101 (Operand.tmp 11) 1, type := 0, pos := "l11_cache.go:45", after := #[{ on := 7, ground := Ground.data }, { on := 2, ground := Ground.guard }], guard := some (2, true) }) (v := ?vv13) rfl (by kernel_rfl) (by kernel_rfl) (by kernel_rfl) (fun _ _ _ h => h) (Or.inl ⟨by rfl, ?hy13⟩) (by assumption) ?rest13
    case hy13 => intro W hS; go_simp; try (with_reducible rfl)
    try simp only [Act.put, List.setIfInBounds_toArray, List.set_cons_zero, List.set_cons_succ]
    refine wpAnyH_take (i := 9) (oi := { dst := some 13, op := Op.load 45 (Operand.tmp 12), type := 45, pos := "l11_cache.go:45", after := #[{ on := 8, ground := Ground.data }, { on := 2, ground := Ground.guard }], guard := some (2, true) }) (v := ?vv14) rfl (by kernel_rfl) (by kernel_rfl) (by kernel_rfl) (fun _ _ _ h => h) (Or.inl ⟨by rfl, ?hy14⟩) (by assumption) ?rest14
    case hy14 => intro W hS; have c0 := cell_later hS z1; go_simp; try (with_reducible rfl)
    try simp only [Act.put, List.setIfInBounds_toArray, List.set_cons_zero, List.set_cons_succ]
    refine wpAnyH_ready (rs := [12]) (by kernel_rfl) (by simp) ?_
    refine AllReadyH.cons (o := { dst := some 16, op := Op.call { callee := Callee.value (Operand.func 75), args := #[Operand.tmp 13, Operand.tmp 15], argTypes := #[45, 3] }, type := 119, pos := "l11_cache.go:45", after := #[{ on := 9, ground := Ground.data }, { on := 11, ground := Ground.data }, { on := 6, ground := Ground.chain }, { on := 2, ground := Ground.guard }], guard := some (2, true) }) rfl (fun K2 hK2 => ?_) AllReadyH.nil
    go_simp
    refine (HOf.out _ (hrf.below hHeld)).mono ?_
    rintro e w3 ⟨a2, c2, rfl, o3, b3⟩
    have i3 := o3.ir (by omega)
    go_wp2_with fail
    refine hK2.out _ _ ?_ (fun hHeld2 => ?_)
    · exact bel_trans hHeld b3
    clear hK2 K2 hHeld
    have hHeld := hHeld2
    clear hHeld2
    try simp only [Act.put, List.setIfInBounds_toArray, List.set_cons_zero, List.set_cons_succ]
    refine wpAnyH_ready (rs := [13]) (by kernel_rfl) (by simp) ?_
    refine AllReadyH.cons (o := { dst := some 17, op := Op.call { callee := Callee.value (Operand.func 74), args := #[Operand.tmp 7, Operand.tmp 16], argTypes := #[119, 119] }, type := 4, pos := "l11_cache.go:45", after := #[{ on := 3, ground := Ground.data }, { on := 12, ground := Ground.data }, { on := 12, ground := Ground.chain }, { on := 2, ground := Ground.guard }], guard := some (2, true) }) rfl (fun K2 hK2 => ?_) AllReadyH.nil
    go_simp
    refine (HSm.out _ a2 c2 (hrw.below hHeld) i3).mono ?_
    rintro e w4 ⟨rfl, b4⟩
    go_wp2_with fail
    refine hK2.out _ _ ?_ (fun hHeld2 => ?_)
    · exact bel_trans hHeld b4
    clear hK2 K2 hHeld
    have hHeld := hHeld2
    clear hHeld2
    try simp only [Act.put, List.setIfInBounds_toArray, List.set_cons_zero, List.set_cons_succ]
    refine wpAnyH_take (i := 14) (oi := { dst := some 18, op := Op.pick (Operand.tmp 6) (Operand.tmp 17) (Operand.const (Value.bool false)), type := 4, pos := "l11_cache.go:45", after := #[{ on := 2, ground := Ground.data }, { on := 13, ground := Ground.data }], guard := none }) (v := ?vv15) rfl (by kernel_rfl) (by kernel_rfl) (by kernel_rfl) (fun _ _ _ h => h) (Or.inl ⟨by rfl, ?hy15⟩) (by assumption) ?rest15
    case hy15 => intro W hS; go_simp; try (with_reducible rfl)
    try simp only [Act.put, List.setIfInBounds_toArray, List.set_cons_zero, List.set_cons_succ]
    refine wpAnyH_take (i := 15) (oi := { dst := some 3, op := Op.assign (Operand.tmp 18), type := 4, pos := "l11_cache.go:45", after := #[{ on := 14, ground := Ground.data }, { on := 13, ground := Ground.chain }, { on := 0, ground := Ground.phase }, { on := 1, ground := Ground.phase }, { on := 2, ground := Ground.phase }, { on := 3, ground := Ground.phase }, { on := 4, ground := Ground.phase }, { on := 5, ground := Ground.phase }, { on := 6, ground := Ground.phase }, { on := 7, ground := Ground.phase }, { on := 8, ground := Ground.phase }, { on := 9, ground := Ground.phase }, { on := 10, ground := Ground.phase }, { on := 11, ground := Ground.phase }, { on := 12, ground := Ground.phase }, { on := 13, ground := Ground.phase }, { on := 14, ground := Ground.phase }], guard := none }) (v := ?vv16) rfl (by kernel_rfl) (by kernel_rfl) (by kernel_rfl) (fun _ _ _ h => h) (Or.inl ⟨by rfl, ?hy16⟩) (by assumption) ?rest16
    case hy16 => intro W hS; go_simp; try (with_reducible rfl)
    try simp only [Act.put, List.setIfInBounds_toArray, List.set_cons_zero, List.set_cons_succ]
    refine wpAnyH_done (by kernel_rfl) ?_ _
    have B : Hid (Below w.heap.size w w4) := bel_trans bx hHeld
    clear hHeld b1 b2 b3 b4 i3 o3 hrw hrf n0 x0 x1 xz X bx z1
    go_wp2
    go_ret
    exact ⟨ret_bool HN.out.symm, B.out⟩

set_option maxRecDepth 100000 in
set_option maxHeartbeats 1000000 in
theorem allOkFK_any (a : Option Addr) (c : Nat) (F : Nat → FD) (p : Nat → Pl) (w : World) (ha : FR w a 6 F p) :
    Calls Tryz.prog 61 #[.slice a 6 c, .func (.func 62) #[] #[]] w fun e w' => e = .returned (.bool (frsB F)) ∧ Below w.heap.size w w' := by
  go_enter Tryz.func61, Tryz.ntmps61
  go_wp2
  go_loopw [9] (fun i wr => ∃ k : Nat, k ≤ 6 ∧ i = .int .i64 k ∧ (∀ i, i < k → frameOkB (F i).s (F i).xs = true) ∧ FR wr a 6 F p ∧ Below w.heap.size w wr) (fun i _ => 6 - (intOf i).toNat)
  case atStart => exact ⟨0, Nat.zero_le _, rfl, fun i hi => absurd hi (Nat.not_lt_zero i), ha, Below.refl _ _⟩
  case round =>
    obtain ⟨k, hk, rfl, hall, hma, hB⟩ := hrel
    have HA : Hid (∀ i, i < k → frameOkB (F i).s (F i).xs = true) := hall
    clear hall ha
    by_cases hlt : k < 6
    · have hi : (k : Int) < 6 := by omega
      obtain ⟨ba, oa, rfl, y0, y1, y2⟩ := hma.at hlt
      have ra := hma.2.2 k hlt
      have bx := bel_alloc (Below.refl wr.heap.size wr) (.cells #[.int .i64 (F k).s, .slice (p k).1 (F k).xs.length (p k).2, .bool (F k).q] 101)
      go_wp2_with fail
      refine (frameOk_any (F k).s (F k).q (p k).1 (p k).2 (F k).xs _ (ra.below bx)).mono ?_
      rintro e w1 ⟨rfl, b1⟩
      have hma1 := hma.below (bel_trans bx b1)
      have hB1 := bel_trans hB (bel_trans bx b1)
      clear hma hB b1 y0 y1 y2 ra bx
      cases hf : frameOkB (F k).s (F k).xs
      · have HF : Hid (frsB F = false) := frsB_no hlt hf
        clear hf
        go_wp2
        go_ret
        exact ⟨ret_bool HF.out.symm, hB1⟩
      · have HT : Hid (∀ i, i < k + 1 → frameOkB (F i).s (F i).xs = true) := fun i hi => by
          by_cases e : i = k
          · subst e; exact hf
          · exact HA.out i (by omega)
        clear hf
        go_wp2
        go_roundw
        case rel => exact ⟨k + 1, by omega, by go_num, HT.out, hma1, hB1⟩
        case measure => simp [intOf]; omega
    · obtain rfl : k = 6 := by omega
      have HT : Hid (frsB F = true) := frsB_yes HA.out
      clear hma
      go_wp2
      go_ret
      exact ⟨ret_bool HT.out.symm, hB⟩

set_option maxRecDepth 100000 in
set_option maxHeartbeats 1000000 in
theorem allOkK_any (a : Option Addr) (c n nb : Nat) (d : Nat → KD) (p : Nat → Pl) (f : Option Addr) (cf : Nat) (F : Nat → FD) (pf : Nat → Pl) (w : World) (hX : Box w nb #[.slice f 6 cf] 51) (hf : FR w f 6 F pf) (ha : KR w a n d p) :
    Calls Tryz.prog 77 #[.slice a n c, .func (.func 72) #[] #[.pointer (some ⟨nb, 0, none⟩)]] w fun e w' => e = .returned (.bool (kepB F n d)) ∧ Below w.heap.size w w' := by
  have hl : n ≤ 1048577 := ha.1
  have HF : Hid (Box w nb #[.slice f 6 cf] 51 ∧ FR w f 6 F pf ∧ KR w a n d p) := ⟨hX, hf, ha⟩
  clear hX hf ha
  go_enter Tryz.func77, Tryz.ntmps77
  go_wp2
  go_loopw [9] (fun i wr => ∃ k : Nat, k ≤ n ∧ i = .int .i64 k ∧ (∀ i, i < k → keptB F (d i) = true) ∧ Below w.heap.size w wr) (fun i _ => n - (intOf i).toNat)
  case atStart => exact ⟨0, Nat.zero_le _, rfl, fun i hi => absurd hi (Nat.not_lt_zero i), Below.refl _ _⟩
  case round =>
    obtain ⟨k, hk, rfl, hall, hB⟩ := hrel
    have HA : Hid (∀ i, i < k → keptB F (d i) = true) := hall
    clear hall
    by_cases hlt : k < n
    · have hi : (k : Int) < (n : Int) := by omega
      have hma := HF.out.2.2.below hB
      obtain ⟨ba, oa, rfl, y0, y1⟩ := hma.at hlt
      have ra := hma.2.2 k hlt
      have bx := bel_alloc (Below.refl wr.heap.size wr) (.cells #[.int .i64 (d k).st, .slice (p k).1 (d k).n (p k).2] 119)
      have hX2 := (HF.out.1.below hB).below bx
      have hf2 := (HF.out.2.1.below hB).below bx
      have r2 := ra.below bx
      clear ra hma
      go_wp2_with fail
      refine (stands_any (d k) (p k).1 (p k).2 nb f cf F pf _ hX2 hf2 r2).mono ?_
      rintro e w1 ⟨rfl, b1⟩
      have hB1 := bel_trans hB (bel_trans bx b1)
      clear hB b1 y0 y1 r2 bx hX2 hf2
      cases hf : keptB F (d k)
      · have HN : Hid (kepB F n d = false) := kepB_no hlt hf
        clear hf
        go_wp2
        go_ret
        exact ⟨ret_bool HN.out.symm, hB1⟩
      · have HT : Hid (∀ i, i < k + 1 → keptB F (d i) = true) := fun i hi => by
          by_cases e : i = k
          · subst e; exact hf
          · exact HA.out i (by omega)
        clear hf
        go_wp2
        go_roundw
        case rel => exact ⟨k + 1, by omega, by go_num, HT.out, hB1⟩
        case measure => simp [intOf]; omega
    · have : k = n := by omega
      subst this
      have HT : Hid (kepB F k d = true) := kepB_yes HA.out
      go_wp2
      go_ret
      exact ⟨ret_bool HT.out.symm, hB⟩

set_option maxRecDepth 100000 in
set_option maxHeartbeats 4000000 in
theorem implCacheOk_any (a : Option Addr) (c n : Nat) (d : Nat → KD) (p : Nat → Pl) (f : Option Addr) (cf nf : Nat) (F : Nat → FD) (pf : Nat → Pl) (w : World) (ha : KR w a n d p) (hf : FR w f nf F pf) :
    Calls Tryz.prog 36 #[.slice a n c, .slice f nf cf] w fun e w' => e = .returned (.bool (cacheB n d nf F)) ∧ Below w.heap.size w w' := by
  have hl := ha.1
  have hlf := hf.1
  have bA := bel_alloc (Below.refl w.heap.size w) (.cells #[.slice f nf cf] 51)
  have XA := Box.new w #[.slice f nf cf] 51
  by_cases h5 : n ≤ 5
  case neg =>
    have HN : Hid (cacheB n d nf F = false) := by show _ = _; unfold cacheB; simp [h5]
    have h5' : (5 : Int) < (n : Int) := by omega
    clear ha hf
    go_enter Tryz.func36, Tryz.ntmps36
    go_wp2
    go_ret
    exact ⟨ret_bool HN.out.symm, bA⟩
  have h5' : ¬ ((5 : Int) < (n : Int)) := by omega
  by_cases h6 : nf = 6
  case neg =>
    have HN : Hid (cacheB n d nf F = false) := by show _ = _; unfold cacheB; simp [h6]
    have h6' : ((nf : Int) == 6) = false := by simp; omega
    clear ha hf
    go_enter Tryz.func36, Tryz.ntmps36
    go_wp2
    go_ret
    exact ⟨ret_bool HN.out.symm, bA⟩
  subst h6
  have HV : Hid (cacheB n d 6 F = (frsB F && kepB F n d)) := by show _ = _; unfold cacheB; simp [h5]
  have HA : Hid (KR w a n d p ∧ FR w f 6 F pf) := ⟨ha, hf⟩
  have hfa := hf.below bA
  obtain ⟨z, hz⟩ : ∃ z, frsB F = z := ⟨_, rfl⟩
  have HFs : Hid (∀ W, FR W f 6 F pf → Calls Tryz.prog 61 #[.slice f 6 cf, .func (.func 62) #[] #[]] W fun e w' => e = .returned (.bool z) ∧ Below W.heap.size W w') := fun W h => by
    have h1 := allOkFK_any f cf F pf W h
    rw [hz] at h1
    exact h1
  have HZ : Hid (frsB F = z) := hz
  clear ha hf hz
  go_enter Tryz.func36, Tryz.ntmps36
  go_wp2_with fail
  refine (HFs.out _ hfa).mono ?_
  rintro e w1 ⟨rfl, b1⟩
  have B1 := bel_trans bA b1
  have hX1 := XA.below b1
  have hf1 := HA.out.2.below B1
  have ha1 := HA.out.1.below B1
  clear bA b1 XA hfa
  cases z
  · have HN : Hid (cacheB n d 6 F = false) := by show _ = _; rw [HV.out, HZ.out]; rfl
    clear hX1 hf1 ha1
    go_wp2
    go_ret
    exact ⟨ret_bool HN.out.symm, B1⟩
  · have HN : Hid (cacheB n d 6 F = kepB F n d) := by show _ = _; rw [HV.out, HZ.out]; rfl
    go_wp2_with fail
    refine (allOkK_any a c n w.heap.size d p f cf F pf _ hX1 hf1 ha1).mono ?_
    rintro e w2 ⟨rfl, b2⟩
    have B2 := bel_trans B1 b2
    clear hX1 hf1 ha1 b2 B1
    go_wp2
    go_ret
    exact ⟨ret_bool HN.out.symm, B2⟩
end Go.Proofs.YtnfjmdegbdphpaaGreat
