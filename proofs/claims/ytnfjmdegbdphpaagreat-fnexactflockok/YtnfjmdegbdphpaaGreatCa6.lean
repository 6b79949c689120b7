/- What the specification's CacheOk answers. -/
import Derived.Test.YtnfjmdegbdphpaaGreatCa5
import Derived.Test.YtnfjmdegbdphpaaGreatBk4
import Derived.Test.YtnfjmdegbdphpaaGreatFmR
import Derived.Test.YtnfjmdegbdphpaaGreatFrmR
namespace Go.Proofs.YtnfjmdegbdphpaaGreat
open Go.RowKit
set_option linter.unusedVariables false

def keptB (F : Nat → FD) (k : KD) : Bool := blockB k.st k.n k.x && sameKB k.st k.n k.x (ofS (F (k.st / 4).toNat).xs k.st) (ofN (F (k.st / 4).toNat).xs k.st) (ofD (F (k.st / 4).toNat).xs k.st)
def frsB (F : Nat → FD) : Bool := (List.range 6).all fun i => frameOkB (F i).s (F i).xs
def kepB (F : Nat → FD) (n : Nat) (d : Nat → KD) : Bool := (List.range n).all fun i => keptB F (d i)
def cacheB (n : Nat) (d : Nat → KD) (nf : Nat) (F : Nat → FD) : Bool := decide (n ≤ 5) && (decide (nf = 6) && (frsB F && kepB F n d))
theorem frsB_no {F : Nat → FD} {k : Nat} (hk : k < 6) (h : frameOkB (F k).s (F k).xs = false) : frsB F = false := by
  unfold frsB
  rw [List.all_eq_false]
  exact ⟨k, by simpa using hk, by rw [h]; simp⟩
theorem frsB_yes {F : Nat → FD} (h : ∀ i, i < 6 → frameOkB (F i).s (F i).xs = true) : frsB F = true := by
  unfold frsB
  rw [List.all_eq_true]
  exact fun i hi => h i (by simpa using hi)
theorem kepB_no {F : Nat → FD} {n k : Nat} {d : Nat → KD} (hk : k < n) (h : keptB F (d k) = false) : kepB F n d = false := by
  unfold kepB
  rw [List.all_eq_false]
  exact ⟨k, by simpa using hk, by rw [h]; simp⟩
theorem kepB_yes {F : Nat → FD} {n : Nat} {d : Nat → KD} (h : ∀ i, i < n → keptB F (d i) = true) : kepB F n d = true := by
  unfold kepB
  rw [List.all_eq_true]
  exact fun i hi => h i (by simpa using hi)
/-- Rows, in one piece. -/
structure IRw (W : World) (a : Option Addr) (n : Nat) (d : Nat → XD) : Prop where
  r : IR W a n d
structure RWs (W : World) (a : Option Addr) (xs : List Int) : Prop where
  r : Row .i64 W a xs
theorem keep2b {W W' : World} (b : Below W.heap.size W W') {a0 a1 : Addr} {u0 u1 : Value} (h : W.cell? a0 = some u0 ∧ W.cell? a1 = some u1) : W'.cell? a0 = some u0 ∧ W'.cell? a1 = some u1 := ⟨cell_later b h.1, cell_later b h.2⟩
theorem keep5c {W W' : World} (b : Below W.heap.size W W') {a0 a1 b0 : Addr} {u0 u1 v0 : Value} {p q : Option Addr} {n : Nat} {d : Nat → XD} {xs : List Int}
    (h : W.cell? a0 = some u0 ∧ W.cell? a1 = some u1 ∧ W.cell? b0 = some v0 ∧ IRw W p n d ∧ RWs W q xs) :
    W'.cell? a0 = some u0 ∧ W'.cell? a1 = some u1 ∧ W'.cell? b0 = some v0 ∧ IRw W' p n d ∧ RWs W' q xs := by
  obtain ⟨h0, h1, h2, h3, h4⟩ := h
  exact ⟨cell_later b h0, cell_later b h1, cell_later b h2, ⟨h3.r.below b⟩, ⟨h4.r.below b⟩⟩
theorem got5 {W : World} {a0 a1 b0 : Addr} {u0 u1 v0 : Value} {p q : Option Addr} {n : Nat} {d : Nat → XD} {xs : List Int}
    (h : W.cell? a0 = some u0 ∧ W.cell? a1 = some u1 ∧ W.cell? b0 = some v0 ∧ IRw W p n d ∧ RWs W q xs) : IR W p n d ∧ Row .i64 W q xs := ⟨h.2.2.2.1.r, h.2.2.2.2.r⟩

set_option maxRecDepth 100000 in
set_option maxHeartbeats 8000000 in
theorem specCacheOk_any (a : Option Addr) (c n : Nat) (d : Nat → KD) (p : Nat → Pl) (af : Option Addr) (cf nf : Nat) (F : Nat → FD) (pf : Nat → Pl) (w : World) (ha : KR w a n d p) (hf : FR w af nf F pf) :
    Calls Tryz.prog 26 #[.slice a n c, .slice af nf cf] w fun e w' => e = .returned (.bool (cacheB n d nf F)) ∧ Below w.heap.size w w' := by
  have hl := ha.1
  have hlf := hf.1
  by_cases h5 : n ≤ 5
  · by_cases h6 : nf = 6
    · subst h6
      have h5' : ¬ ((5 : Int) < (n : Int)) := by omega
      have HV : Hid (cacheB n d 6 F = (frsB F && kepB F n d)) := by show _ = _; unfold cacheB; simp [h5]
      have HA : Hid (KR w a n d p) := ha
      have HF : Hid (FR w af 6 F pf) := hf
      clear ha hf
      go_enter Tryz.func26, Tryz.ntmps26
      go_wp2_with fail
      go_loopw [5] (fun i wr => ∃ k : Nat, k ≤ 6 ∧ i = .int .i64 k ∧ (∀ i, i < k → frameOkB (F i).s (F i).xs = true) ∧ Below w.heap.size w wr) (fun i _ => 6 - (intOf i).toNat)
      case atStart => exact ⟨0, Nat.zero_le _, rfl, fun i hi => absurd hi (Nat.not_lt_zero i), Below.refl _ _⟩
      case round =>
        obtain ⟨k, hk, rfl, hE, hB⟩ := hrel
        have HE : Hid (∀ i, i < k → frameOkB (F i).s (F i).xs = true) := hE
        have HB : Hid (Below w.heap.size w wr) := hB
        by_cases hlt : k < 6
        · have hi : (k : Int) < 6 := by omega
          obtain ⟨b, off, rfl, y0, y1, y2⟩ := (HF.out.below hB).at hlt
          have hrow := (HF.out.below hB).2.2 k hlt
          obtain ⟨z, hz⟩ : ∃ z, frameOkB (F k).s (F k).xs = z := ⟨_, rfl⟩
          have HZ : Hid (frameOkB (F k).s (F k).xs = z) := hz
          clear hE hB hz
          go_wp2_with fail
          refine (specFrameOk_any (F k).s (F k).q (pf k).1 (pf k).2 (F k).xs _ hrow).mono ?_
          rintro e w1 ⟨rfl, b1⟩
          rw [HZ.out]
          have HB1 : Hid (Below w.heap.size w w1) := bel_trans HB.out b1
          clear b1 y0 y1 y2 hrow
          cases z
          · have HN : Hid (cacheB n d 6 F = false) := by show _ = _; rw [HV.out, frsB_no hlt HZ.out]; rfl
            go_wp2
            go_ret
            exact ⟨ret_bool HN.out.symm, HB1.out⟩
          · have HE2 : Hid (∀ i, i < k + 1 → frameOkB (F i).s (F i).xs = true) := fun i hi => by
              by_cases e : i = k
              · subst e; exact HZ.out
              · exact HE.out i (by omega)
            go_wp2
            go_roundw
            case rel => exact ⟨k + 1, by omega, by go_num, HE2.out, HB1.out⟩
            case measure => simp [intOf]; omega
        · have hk6 : ¬ ((k : Int) < 6) := by omega
          have HV2 : Hid (cacheB n d 6 F = kepB F n d) := by show _ = _; rw [HV.out, frsB_yes (fun i hi => hE i (by omega))]; rfl
          clear hE hB HE
          go_wp2_with fail
          go_loopw [6] (fun i wr => ∃ k : Nat, k ≤ n ∧ i = .int .i64 k ∧ (∀ i, i < k → keptB F (d i) = true) ∧ Below w.heap.size w wr) (fun i _ => n - (intOf i).toNat)
          case atStart => exact ⟨0, Nat.zero_le _, rfl, fun i hi => absurd hi (Nat.not_lt_zero i), HB.out⟩
          case round =>
            obtain ⟨k, hk, rfl, hE, hB⟩ := hrel
            have HE : Hid (∀ i, i < k → keptB F (d i) = true) := hE
            have HB : Hid (Below w.heap.size w wr) := hB
            by_cases hlt : k < n
            · have hi : (k : Int) < (n : Int) := by omega
              obtain ⟨b, off, rfl, y0, y1⟩ := (HA.out.below hB).at hlt
              have hrow := (HA.out.below hB).2.2 k hlt
              have bx := bel_alloc (Below.refl wr.heap.size wr) (.cells #[.int .i64 (d k).st, .slice (p k).1 (d k).n (p k).2] 119)
              have X := Box.new wr #[.int .i64 (d k).st, .slice (p k).1 (d k).n (p k).2] 119
              obtain ⟨W1, hW1⟩ : ∃ W, wr.alloc (.cells #[.int .i64 (d k).st, .slice (p k).1 (d k).n (p k).2] 119) = W := ⟨_, rfl⟩
              rw [hW1] at bx X
              obtain ⟨x0, x1, xz⟩ := X.at2
              have bd1 : Below W1.heap.size W1 W1.drew := below_drewN (Below.refl _ _) 1
              have bdr := bel_trans bx bd1
              have hrd := hrow.below bdr
              cases hb : blockB (d k).st (d k).n (d k).x
              · have HN : Hid (cacheB n d 6 F = false) := by show _ = _; rw [HV2.out]; exact kepB_no hlt (by unfold keptB; rw [hb]; rfl)
                have HBl : Hid (∀ W, IR W (p k).1 (d k).n (d k).x → Calls Tryz.prog 49 #[.agg #[.int .i64 (d k).st, .slice (p k).1 (d k).n (p k).2]] W fun e w' => e = .returned (.bool false) ∧ Below W.heap.size W w') := fun W h => by have h1 := specBlockOk_any (d k).st (p k).1 (p k).2 (d k).n (d k).x W h; rw [hb] at h1; exact h1
                have HBd : Hid (Below w.heap.size w _) := bel_trans HB.out bdr
                clear hE hB hb bdr
                go_wp2_with fail
                (try rw [hW1])
                refine wp_region_held_drew (S := fun W => W.cell? ⟨wr.heap.size, 0, none⟩ = some (.int .i64 (d k).st) ∧ W.cell? ⟨wr.heap.size, 1, none⟩ = some (.slice (p k).1 (d k).n (p k).2)) (by kernel_rfl) ?_ (fun hHeld => ?_)
                · exact keep2b bd1 ⟨x0, x1⟩
                refine wpAnyH_take (i := 0) (oi := { dst := some 36, op := Op.load 119 (Operand.tmp 7), type := 119, pos := "l11_cache.go:29", after := #[], guard := none }) (v := ?r1_v0) rfl (by kernel_rfl) (by kernel_rfl) (by kernel_rfl) (fun _ _ _ h => h) (Or.inl ⟨by rfl, ?r1_hy0⟩) (by assumption) ?r1_rest0
                case r1_hy0 => intro w hSw; (try dsimp only at hSw); go_simp; try (with_reducible rfl)
                simp only [Act.put, List.setIfInBounds_toArray, List.set_cons_zero, List.set_cons_succ]
                refine wpAnyH_ready (rs := [1]) (by kernel_rfl) (by simp) ?_
                refine AllReadyH.cons (o := { dst := some 37, op := Op.call { callee := Callee.value (Operand.func 49), args := #[Operand.tmp 36], argTypes := #[119] }, type := 4, pos := "l11_cache.go:29", after := #[{ on := 0, ground := Ground.data }], guard := none }) rfl (fun K2 hK2 => ?_) AllReadyH.nil
                go_simp
                refine (HBl.out _ hrd).mono ?_
                rintro e w1 ⟨rfl, b1⟩
                refine hK2.out _ _ ?_ (fun hHeld2 => ?_)
                · exact keep2b b1 hHeld
                clear hK2 K2 hHeld
                have hHeld := hHeld2
                clear hHeld2
                try simp only [Act.put, List.setIfInBounds_toArray, List.set_cons_zero, List.set_cons_succ]
                refine wpAnyH_take (i := 2) (oi := { dst := some 38, op := Op.unOp UnOp.not 4 (Operand.tmp 37), type := 4, pos := "l11_cache.go:29", after := #[{ on := 1, ground := Ground.data }], guard := none }) (v := ?r1_v2) rfl (by kernel_rfl) (by kernel_rfl) (by kernel_rfl) (fun _ _ _ h => h) (Or.inl ⟨by rfl, ?r1_hy2⟩) (by assumption) ?r1_rest2
                case r1_hy2 => intro w hSw; (try dsimp only at hSw); go_simp; try (with_reducible rfl)
                simp only [Act.put, List.setIfInBounds_toArray, List.set_cons_zero, List.set_cons_succ]
                refine wpAnyH_take (i := 3) (oi := { dst := some 39, op := Op.move (Operand.tmp 38), type := 4, pos := "l11_cache.go:29", after := #[{ on := 2, ground := Ground.data }, { on := 1, ground := Ground.chain }], guard := none }) (v := ?r1_v3) rfl (by kernel_rfl) (by kernel_rfl) (by kernel_rfl) (fun _ _ _ h => h) (Or.inl ⟨by rfl, ?r1_hy3⟩) (by assumption) ?r1_rest3
                case r1_hy3 => intro w hSw; (try dsimp only at hSw); go_simp; try (with_reducible rfl)
                simp only [Act.put, List.setIfInBounds_toArray, List.set_cons_zero, List.set_cons_succ]
                refine wpAnyH_take (i := 4) (oi := { dst := some 40, op := Op.load 119 (Operand.tmp 7), type := 119, pos := "l11_cache.go:29", after := #[{ on := 3, ground := Ground.guard }], guard := some (3, false) }) (v := undef) rfl (by kernel_rfl) (by kernel_rfl) (by kernel_rfl) (fun _ _ _ h => h) (Or.inr ⟨by rfl, rfl⟩) (by assumption) ?_
                simp only [Act.put, List.setIfInBounds_toArray, List.set_cons_zero, List.set_cons_succ]
                refine wpAnyH_take (i := 5) (oi := { dst := some 41, op := Op.move (Operand.tmp 1), type := 51, pos := "l11_cache.go:29", after := #[{ on := 3, ground := Ground.guard }], guard := some (3, false) }) (v := undef) rfl (by kernel_rfl) (by kernel_rfl) (by kernel_rfl) (fun _ _ _ h => h) (Or.inr ⟨by rfl, rfl⟩) (by assumption) ?_
                simp only [Act.put, List.setIfInBounds_toArray, List.set_cons_zero, List.set_cons_succ]
                refine wpAnyH_take (i := 6) (oi := { dst := some 42, op := Op.fieldAddr 119 (Operand.tmp 7) 0, type := 0, pos := "l11_cache.go:29", after := #[{ on := 3, ground := Ground.guard }], guard := some (3, false) }) (v := undef) rfl (by kernel_rfl) (by kernel_rfl) (by kernel_rfl) (fun _ _ _ h => h) (Or.inr ⟨by rfl, rfl⟩) (by assumption) ?_
                simp only [Act.put, List.setIfInBounds_toArray, List.set_cons_zero, List.set_cons_succ]
                refine wpAnyH_take (i := 7) (oi := { dst := some 43, op := Op.load 3 (Operand.tmp 42), type := 3, pos := "l11_cache.go:29", after := #[{ on := 6, ground := Ground.data }, { on := 3, ground := Ground.guard }], guard := some (3, false) }) (v := undef) rfl (by kernel_rfl) (by kernel_rfl) (by kernel_rfl) (fun _ _ _ h => h) (Or.inr ⟨by rfl, rfl⟩) (by assumption) ?_
                simp only [Act.put, List.setIfInBounds_toArray, List.set_cons_zero, List.set_cons_succ]
                refine wpAnyH_take (i := 8) (oi := { dst := some 44, op := Op.binOp BinOp.quo 3 (Operand.tmp 43) (Operand.const (Value.int IntKind.i64 4)) 3, type := 3, pos := "l11_cache.go:29", after := #[{ on := 7, ground := Ground.data }, { on := 3, ground := Ground.guard }], guard := some (3, false) }) (v := undef) rfl (by kernel_rfl) (by kernel_rfl) (by kernel_rfl) (fun _ _ _ h => h) (Or.inr ⟨by rfl, rfl⟩) (by assumption) ?_
                simp only [Act.put, List.setIfInBounds_toArray, List.set_cons_zero, List.set_cons_succ]
                refine wpAnyH_take (i := 9) (oi := { dst := some 45, op := Op.indexAddr 51 (Operand.tmp 41) (Operand.tmp 44), type := 0, pos := "l11_cache.go:29", after := #[{ on := 5, ground := Ground.data }, { on := 8, ground := Ground.data }, { on := 3, ground := Ground.guard }], guard := some (3, false) }) (v := undef) rfl (by kernel_rfl) (by kernel_rfl) (by kernel_rfl) (fun _ _ _ h => h) (Or.inr ⟨by rfl, rfl⟩) (by assumption) ?_
                simp only [Act.put, List.setIfInBounds_toArray, List.set_cons_zero, List.set_cons_succ]
                refine wpAnyH_take (i := 10) (oi := { dst := some 46, op := Op.fieldAddr 101 (Operand.tmp 45) 1, type := 0, pos := "l11_cache.go:29", after := #[{ on := 9, ground := Ground.data }, { on := 3, ground := Ground.guard }], guard := some (3, false) }) (v := undef) rfl (by kernel_rfl) (by kernel_rfl) (by kernel_rfl) (fun _ _ _ h => h) (Or.inr ⟨by rfl, rfl⟩) (by assumption) ?_
                simp only [Act.put, List.setIfInBounds_toArray, List.set_cons_zero, List.set_cons_succ]
                refine wpAnyH_take (i := 11) (oi := { dst := some 47, op := Op.load 45 (Operand.tmp 46), type := 45, pos := "l11_cache.go:29", after := #[{ on := 10, ground := Ground.data }, { on := 3, ground := Ground.guard }], guard := some (3, false) }) (v := undef) rfl (by kernel_rfl) (by kernel_rfl) (by kernel_rfl) (fun _ _ _ h => h) (Or.inr ⟨by rfl, rfl⟩) (by assumption) ?_
                simp only [Act.put, List.setIfInBounds_toArray, List.set_cons_zero, List.set_cons_succ]
                refine wpAnyH_take (i := 12) (oi := { dst := some 48, op := Op.fieldAddr 119 (Operand.tmp 7) 0, type := 0, pos := "l11_cache.go:29", after := #[{ on := 3, ground := Ground.guard }], guard := some (3, false) }) (v := undef) rfl (by kernel_rfl) (by kernel_rfl) (by kernel_rfl) (fun _ _ _ h => h) (Or.inr ⟨by rfl, rfl⟩) (by assumption) ?_
                simp only [Act.put, List.setIfInBounds_toArray, List.set_cons_zero, List.set_cons_succ]
                refine wpAnyH_take (i := 13) (oi := { dst := some 49, op := Op.load 3 (Operand.tmp 48), type := 3, pos := "l11_cache.go:29", after := #[{ on := 12, ground := Ground.data }, { on := 3, ground := Ground.guard }], guard := some (3, false) }) (v := undef) rfl (by kernel_rfl) (by kernel_rfl) (by kernel_rfl) (fun _ _ _ h => h) (Or.inr ⟨by rfl, rfl⟩) (by assumption) ?_
                simp only [Act.put, List.setIfInBounds_toArray, List.set_cons_zero, List.set_cons_succ]
                refine wpAnyH_take (i := 14) (oi := { dst := some 50, op := Op.call { callee := Callee.value (Operand.func 51), args := #[Operand.tmp 47, Operand.tmp 49], argTypes := #[45, 3] }, type := 119, pos := "l11_cache.go:29", after := #[{ on := 11, ground := Ground.data }, { on := 13, ground := Ground.data }, { on := 3, ground := Ground.chain }, { on := 3, ground := Ground.guard }], guard := some (3, false) }) (v := undef) rfl (by kernel_rfl) (by kernel_rfl) (by kernel_rfl) (fun _ _ _ h => h) (Or.inr ⟨by rfl, rfl⟩) (by assumption) ?_
                simp only [Act.put, List.setIfInBounds_toArray, List.set_cons_zero, List.set_cons_succ]
                refine wpAnyH_take (i := 15) (oi := { dst := some 51, op := Op.call { callee := Callee.value (Operand.func 50), args := #[Operand.tmp 40, Operand.tmp 50], argTypes := #[119, 119] }, type := 4, pos := "l11_cache.go:29", after := #[{ on := 4, ground := Ground.data }, { on := 14, ground := Ground.data }, { on := 14, ground := Ground.chain }, { on := 3, ground := Ground.guard }], guard := some (3, false) }) (v := undef) rfl (by kernel_rfl) (by kernel_rfl) (by kernel_rfl) (fun _ _ _ h => h) (Or.inr ⟨by rfl, rfl⟩) (by assumption) ?_
                simp only [Act.put, List.setIfInBounds_toArray, List.set_cons_zero, List.set_cons_succ]
                refine wpAnyH_take (i := 16) (oi := { dst := some 52, op := Op.unOp UnOp.not 4 (Operand.tmp 51), type := 4, pos := "l11_cache.go:29", after := #[{ on := 15, ground := Ground.data }, { on := 3, ground := Ground.guard }], guard := some (3, false) }) (v := undef) rfl (by kernel_rfl) (by kernel_rfl) (by kernel_rfl) (fun _ _ _ h => h) (Or.inr ⟨by rfl, rfl⟩) (by assumption) ?_
                simp only [Act.put, List.setIfInBounds_toArray, List.set_cons_zero, List.set_cons_succ]
                refine wpAnyH_take (i := 17) (oi := { dst := some 53, op := Op.pick (Operand.tmp 39) (Operand.const (Value.bool true)) (Operand.tmp 52), type := 4, pos := "l11_cache.go:29", after := #[{ on := 3, ground := Ground.data }, { on := 16, ground := Ground.data }], guard := none }) (v := ?r1_v17) rfl (by kernel_rfl) (by kernel_rfl) (by kernel_rfl) (fun _ _ _ h => h) (Or.inl ⟨by rfl, ?r1_hy17⟩) (by assumption) ?r1_rest17
                case r1_hy17 => intro w hSw; (try dsimp only at hSw); go_simp; try (with_reducible rfl)
                simp only [Act.put, List.setIfInBounds_toArray, List.set_cons_zero, List.set_cons_succ]
                refine wpAnyH_done (by kernel_rfl) ?_ _
                have HB1 : Hid (Below w.heap.size w w1) := bel_trans HBd.out b1
                clear b1
                go_wp2
                go_ret
                exact ⟨ret_bool HN.out.symm, HB1.out⟩
              · obtain ⟨⟨s0, s1⟩, n1, n2⟩ := blockB_st hb
                have hn4 : (d k).n ≤ 4 := by omega
                obtain ⟨pg, hpg⟩ : ∃ pg : Nat, (d k).st / 4 = (pg : Int) := ⟨((d k).st / 4).toNat, by omega⟩
                have hpg6 : pg < 6 := by omega
                have hpgi : (pg : Int) < 6 := by omega
                have hpg0 : (0 : Int) ≤ (pg : Int) := by omega
                have hq0 : (0 : Int) ≤ (d k).st / 4 := by omega
                have hq6 : (d k).st / 4 < 6 := by omega
                have hqn : ((d k).st / 4).toNat = pg := by omega
                have hqt : IntKind.i64.wrap ((d k).st.tdiv 4) = (pg : Int) := by rw [Int.tdiv_eq_ediv_of_nonneg s0, hpg, IntKind.wrap_i64]; omega
                obtain ⟨fb, fo, rfl, z0, z1, z2⟩ := (HF.out.below hB).at hpg6
                have hrf := (HF.out.below hB).2.2 pg hpg6
                obtain ⟨xs, hxs⟩ : ∃ xs, (F pg).xs = xs := ⟨_, rfl⟩
                obtain ⟨fa, hfa⟩ : ∃ q, (pf pg).1 = q := ⟨_, rfl⟩
                obtain ⟨fc, hfc⟩ : ∃ q, (pf pg).2 = q := ⟨_, rfl⟩
                rw [hxs, hfa] at hrf
                rw [hxs, hfa, hfc] at z1
                obtain ⟨z, hz⟩ : ∃ z, sameKB (d k).st (d k).n (d k).x (ofS xs (d k).st) (ofN xs (d k).st) (ofD xs (d k).st) = z := ⟨_, rfl⟩
                have HZ : Hid (keptB F (d k) = z) := by
                  show _ = _
                  unfold keptB
                  rw [hb, show ((d k).st / 4).toNat = pg by omega, hxs, hz]
                  rfl
                have HBl : Hid (∀ W, IR W (p k).1 (d k).n (d k).x → Calls Tryz.prog 49 #[.agg #[.int .i64 (d k).st, .slice (p k).1 (d k).n (p k).2]] W fun e w' => e = .returned (.bool true) ∧ Below W.heap.size W w') := fun W h => by have h1 := specBlockOk_any (d k).st (p k).1 (p k).2 (d k).n (d k).x W h; rw [hb] at h1; exact h1
                have HOf : Hid (∀ W, Row .i64 W fa xs → Calls Tryz.prog 51 #[.slice fa xs.length fc, .int .i64 (d k).st] W (BlkP xs (d k).st W)) := fun W h => specBlockOf_any fa fc xs (d k).st W h
                have HSm : Hid (∀ W a2 c2, IR W (p k).1 (d k).n (d k).x → IR W a2 (ofN xs (d k).st) (ofD xs (d k).st) → Calls Tryz.prog 50 #[.agg #[.int .i64 (d k).st, .slice (p k).1 (d k).n (p k).2], .agg #[.int .i64 (ofS xs (d k).st), .slice a2 (ofN xs (d k).st) c2]] W fun e w' => e = .returned (.bool z) ∧ Below W.heap.size W w') := fun W a2 c2 h1 h2 => by
                  have h3 := l11Same_any (d k).st (p k).1 (p k).2 (d k).n (d k).x (ofS xs (d k).st) a2 c2 (ofN xs (d k).st) (ofD xs (d k).st) W h1 h2
                  rw [hz] at h3
                  exact h3
                have HBd : Hid (Below w.heap.size w _) := bel_trans HB.out bdr
                have hN := ofN_le xs (d k).st
                have hk0 := keep5c bd1 ⟨x0, x1, cell_later bx z1, ⟨hrow.below bx⟩, ⟨hrf.below bx⟩⟩
                have z1' := cell_later bx z1
                clear hE hB hb bdr hz hxs hfa hfc z0 z2 hrf hrow hrd
                go_wp2_with fail
                (try rw [hW1])
                refine wp_region_held_drew (S := fun W => W.cell? ⟨wr.heap.size, 0, none⟩ = some (.int .i64 (d k).st) ∧ W.cell? ⟨wr.heap.size, 1, none⟩ = some (.slice (p k).1 (d k).n (p k).2) ∧ W.cell? ⟨fb, fo + pg * 3 + 1, none⟩ = some (.slice fa xs.length fc) ∧ IRw W (p k).1 (d k).n (d k).x ∧ RWs W fa xs) (by kernel_rfl) ?_ (fun hHeld => ?_)
                · exact hk0
                refine wpAnyH_take (i := 0) (oi := { dst := some 36, op := Op.load 119 (Operand.tmp 7), type := 119, pos := "l11_cache.go:29", after := #[], guard := none }) (v := ?r5_v0) rfl (by kernel_rfl) (by kernel_rfl) (by kernel_rfl) (fun _ _ _ h => h) (Or.inl ⟨by rfl, ?r5_hy0⟩) (by assumption) ?r5_rest0
                case r5_hy0 => intro w hSw; (try dsimp only at hSw); go_simp; try (with_reducible rfl)
                simp only [Act.put, List.setIfInBounds_toArray, List.set_cons_zero, List.set_cons_succ]
                refine wpAnyH_ready (rs := [1]) (by kernel_rfl) (by simp) ?_
                refine AllReadyH.cons (o := { dst := some 37, op := Op.call { callee := Callee.value (Operand.func 49), args := #[Operand.tmp 36], argTypes := #[119] }, type := 4, pos := "l11_cache.go:29", after := #[{ on := 0, ground := Ground.data }], guard := none }) rfl (fun K2 hK2 => ?_) AllReadyH.nil
                go_simp
                refine (HBl.out _ (got5 hHeld).1).mono ?_
                rintro e w1 ⟨rfl, b1⟩
                refine hK2.out _ _ ?_ (fun hHeld2 => ?_)
                · exact keep5c b1 hHeld
                clear hK2 K2 hHeld
                have hHeld := hHeld2
                clear hHeld2
                try simp only [Act.put, List.setIfInBounds_toArray, List.set_cons_zero, List.set_cons_succ]
                refine wpAnyH_take (i := 2) (oi := { dst := some 38, op := Op.unOp UnOp.not 4 (Operand.tmp 37), type := 4, pos := "l11_cache.go:29", after := #[{ on := 1, ground := Ground.data }], guard := none }) (v := ?r5_v2) rfl (by kernel_rfl) (by kernel_rfl) (by kernel_rfl) (fun _ _ _ h => h) (Or.inl ⟨by rfl, ?r5_hy2⟩) (by assumption) ?r5_rest2
                case r5_hy2 => intro w hSw; (try dsimp only at hSw); go_simp; try (with_reducible rfl)
                simp only [Act.put, List.setIfInBounds_toArray, List.set_cons_zero, List.set_cons_succ]
                refine wpAnyH_take (i := 3) (oi := { dst := some 39, op := Op.move (Operand.tmp 38), type := 4, pos := "l11_cache.go:29", after := #[{ on := 2, ground := Ground.data }, { on := 1, ground := Ground.chain }], guard := none }) (v := ?r5_v3) rfl (by kernel_rfl) (by kernel_rfl) (by kernel_rfl) (fun _ _ _ h => h) (Or.inl ⟨by rfl, ?r5_hy3⟩) (by assumption) ?r5_rest3
                case r5_hy3 => intro w hSw; (try dsimp only at hSw); go_simp; try (with_reducible rfl)
                simp only [Act.put, List.setIfInBounds_toArray, List.set_cons_zero, List.set_cons_succ]
                refine wpAnyH_take (i := 4) (oi := { dst := some 40, op := Op.load 119 (Operand.tmp 7), type := 119, pos := "l11_cache.go:29", after := #[{ on := 3, ground := Ground.guard }], guard := some (3, false) }) (v := ?r5_v4) rfl (by kernel_rfl) (by kernel_rfl) (by kernel_rfl) (fun _ _ _ h => h) (Or.inl ⟨by rfl, ?r5_hy4⟩) (by assumption) ?r5_rest4
                case r5_hy4 => intro w hSw; (try dsimp only at hSw); go_simp; try (with_reducible rfl)
                simp only [Act.put, List.setIfInBounds_toArray, List.set_cons_zero, List.set_cons_succ]
                refine wpAnyH_take (i := 5) (oi := { dst := some 41, op := Op.move (Operand.tmp 1), type := 51, pos := "l11_cache.go:29", after := #[{ on := 3, ground := Ground.guard }], guard := some (3, false) }) (v := ?r5_v5) rfl (by kernel_rfl) (by kernel_rfl) (by kernel_rfl) (fun _ _ _ h => h) (Or.inl ⟨by rfl, ?r5_hy5⟩) (by assumption) ?r5_rest5
                case r5_hy5 => intro w hSw; (try dsimp only at hSw); go_simp; try (with_reducible rfl)
                simp only [Act.put, List.setIfInBounds_toArray, List.set_cons_zero, List.set_cons_succ]
                refine wpAnyH_take (i := 6) (oi := { dst := some 42, op := Op.fieldAddr 119 (Operand.tmp 7) 0, type := 0, pos := "l11_cache.go:29", after := #[{ on := 3, ground := Ground.guard }], guard := some (3, false) }) (v := ?r5_v6) rfl (by kernel_rfl) (by kernel_rfl) (by kernel_rfl) (fun _ _ _ h => h) (Or.inl ⟨by rfl, ?r5_hy6⟩) (by assumption) ?r5_rest6
                case r5_hy6 => intro w hSw; (try dsimp only at hSw); go_simp; try (with_reducible rfl)
                simp only [Act.put, List.setIfInBounds_toArray, List.set_cons_zero, List.set_cons_succ]
                refine wpAnyH_take (i := 7) (oi := { dst := some 43, op := Op.load 3 (Operand.tmp 42), type := 3, pos := "l11_cache.go:29", after := #[{ on := 6, ground := Ground.data }, { on := 3, ground := Ground.guard }], guard := some (3, false) }) (v := ?r5_v7) rfl (by kernel_rfl) (by kernel_rfl) (by kernel_rfl) (fun _ _ _ h => h) (Or.inl ⟨by rfl, ?r5_hy7⟩) (by assumption) ?r5_rest7
                case r5_hy7 => intro w hSw; (try dsimp only at hSw); go_simp; try (with_reducible rfl)
                simp only [Act.put, List.setIfInBounds_toArray, List.set_cons_zero, List.set_cons_succ]
                refine wpAnyH_take (i := 8) (oi := { dst := some 44, op := Op.binOp BinOp.quo 3 (Operand.tmp 43) (Operand.const (Value.int IntKind.i64 4)) 3, type := 3, pos := "l11_cache.go:29", after := #[{ on := 7, ground := Ground.data }, { on := 3, ground := Ground.guard }], guard := some (3, false) }) (v := ?r5_v8) rfl (by kernel_rfl) (by kernel_rfl) (by kernel_rfl) (fun _ _ _ h => h) (Or.inl ⟨by rfl, ?r5_hy8⟩) (by assumption) ?r5_rest8
                case r5_hy8 => intro w hSw; (try dsimp only at hSw); go_simp; try (with_reducible rfl)
                simp only [Act.put, List.setIfInBounds_toArray, List.set_cons_zero, List.set_cons_succ]
                refine wpAnyH_take (i := 9) (oi := { dst := some 45, op := Op.indexAddr 51 (Operand.tmp 41) (Operand.tmp 44), type := 0, pos := "l11_cache.go:29", after := #[{ on := 5, ground := Ground.data }, { on := 8, ground := Ground.data }, { on := 3, ground := Ground.guard }], guard := some (3, false) }) (v := ?r5_v9) rfl (by kernel_rfl) (by kernel_rfl) (by kernel_rfl) (fun _ _ _ h => h) (Or.inl ⟨by rfl, ?r5_hy9⟩) (by assumption) ?r5_rest9
                case r5_hy9 => intro w hSw; (try dsimp only at hSw); go_simp; try (with_reducible rfl)
                simp only [Act.put, List.setIfInBounds_toArray, List.set_cons_zero, List.set_cons_succ]
                refine wpAnyH_take (i := 10) (oi := { dst := some 46, op := Op.fieldAddr 101 (Operand.tmp 45) 1, type := 0, pos := "l11_cache.go:29", after := #[{ on := 9, ground := Ground.data }, { on := 3, ground := Ground.guard }], guard := some (3, false) }) (v := ?r5_v10) rfl (by kernel_rfl) (by kernel_rfl) (by kernel_rfl) (fun _ _ _ h => h) (Or.inl ⟨by rfl, ?r5_hy10⟩) (by assumption) ?r5_rest10
                case r5_hy10 => intro w hSw; (try dsimp only at hSw); go_simp; try (with_reducible rfl)
                simp only [Act.put, List.setIfInBounds_toArray, List.set_cons_zero, List.set_cons_succ]
                refine wpAnyH_take (i := 11) (oi := { dst := some 47, op := Op.load 45 (Operand.tmp 46), type := 45, pos := "l11_cache.go:29", after := #[{ on := 10, ground := Ground.data }, { on := 3, ground := Ground.guard }], guard := some (3, false) }) (v := ?r5_v11) rfl (by kernel_rfl) (by kernel_rfl) (by kernel_rfl) (fun _ _ _ h => h) (Or.inl ⟨by rfl, ?r5_hy11⟩) (by assumption) ?r5_rest11
                case r5_hy11 => intro w hSw; (try dsimp only at hSw); go_simp; try (with_reducible rfl)
                simp only [Act.put, List.setIfInBounds_toArray, List.set_cons_zero, List.set_cons_succ]
                refine wpAnyH_take (i := 12) (oi := { dst := some 48, op := Op.fieldAddr 119 (Operand.tmp 7) 0, type := 0, pos := "l11_cache.go:29", after := #[{ on := 3, ground := Ground.guard }], guard := some (3, false) }) (v := ?r5_v12) rfl (by kernel_rfl) (by kernel_rfl) (by kernel_rfl) (fun _ _ _ h => h) (Or.inl ⟨by rfl, ?r5_hy12⟩) (by assumption) ?r5_rest12
                case r5_hy12 => intro w hSw; (try dsimp only at hSw); go_simp; try (with_reducible rfl)
                simp only [Act.put, List.setIfInBounds_toArray, List.set_cons_zero, List.set_cons_succ]
                refine wpAnyH_take (i := 13) (oi := { dst := some 49, op := Op.load 3 (Operand.tmp 48), type := 3, pos := "l11_cache.go:29", after := #[{ on := 12, ground := Ground.data }, { on := 3, ground := Ground.guard }], guard := some (3, false) }) (v := ?r5_v13) rfl (by kernel_rfl) (by kernel_rfl) (by kernel_rfl) (fun _ _ _ h => h) (Or.inl ⟨by rfl, ?r5_hy13⟩) (by assumption) ?r5_rest13
                case r5_hy13 => intro w hSw; (try dsimp only at hSw); go_simp; try (with_reducible rfl)
                simp only [Act.put, List.setIfInBounds_toArray, List.set_cons_zero, List.set_cons_succ]
                refine wpAnyH_ready (rs := [14]) (by kernel_rfl) (by simp) ?_
                refine AllReadyH.cons (o := { dst := some 50, op := Op.call { callee := Callee.value (Operand.func 51), args := #[Operand.tmp 47, Operand.tmp 49], argTypes := #[45, 3] }, type := 119, pos := "l11_cache.go:29", after := #[{ on := 11, ground := Ground.data }, { on := 13, ground := Ground.data }, { on := 3, ground := Ground.chain }, { on := 3, ground := Ground.guard }], guard := some (3, false) }) rfl (fun K2 hK2 => ?_) AllReadyH.nil
                go_simp
                refine (HOf.out _ (got5 hHeld).2).mono ?_
                rintro e w2 ⟨a2, c2, rfl, o2, b2⟩
                have i2 := o2.ir (by omega)
                refine hK2.out _ _ ?_ (fun hHeld2 => ?_)
                · exact keep5c b2 hHeld
                clear hK2 K2 hHeld
                have hHeld := hHeld2
                clear hHeld2
                try simp only [Act.put, List.setIfInBounds_toArray, List.set_cons_zero, List.set_cons_succ]
                refine wpAnyH_ready (rs := [15]) (by kernel_rfl) (by simp) ?_
                refine AllReadyH.cons (o := { dst := some 51, op := Op.call { callee := Callee.value (Operand.func 50), args := #[Operand.tmp 40, Operand.tmp 50], argTypes := #[119, 119] }, type := 4, pos := "l11_cache.go:29", after := #[{ on := 4, ground := Ground.data }, { on := 14, ground := Ground.data }, { on := 14, ground := Ground.chain }, { on := 3, ground := Ground.guard }], guard := some (3, false) }) rfl (fun K2 hK2 => ?_) AllReadyH.nil
                go_simp
                refine (HSm.out _ a2 c2 (got5 hHeld).1 i2).mono ?_
                rintro e w3 ⟨rfl, b3⟩
                refine hK2.out _ _ ?_ (fun hHeld2 => ?_)
                · exact keep5c b3 hHeld
                clear hK2 K2 hHeld
                have hHeld := hHeld2
                clear hHeld2
                try simp only [Act.put, List.setIfInBounds_toArray, List.set_cons_zero, List.set_cons_succ]
                refine wpAnyH_take (i := 16) (oi := { dst := some 52, op := Op.unOp UnOp.not 4 (Operand.tmp 51), type := 4, pos := "l11_cache.go:29", after := #[{ on := 15, ground := Ground.data }, { on := 3, ground := Ground.guard }], guard := some (3, false) }) (v := ?r5_v16) rfl (by kernel_rfl) (by kernel_rfl) (by kernel_rfl) (fun _ _ _ h => h) (Or.inl ⟨by rfl, ?r5_hy16⟩) (by assumption) ?r5_rest16
                case r5_hy16 => intro w hSw; (try dsimp only at hSw); go_simp; try (with_reducible rfl)
                simp only [Act.put, List.setIfInBounds_toArray, List.set_cons_zero, List.set_cons_succ]
                refine wpAnyH_take (i := 17) (oi := { dst := some 53, op := Op.pick (Operand.tmp 39) (Operand.const (Value.bool true)) (Operand.tmp 52), type := 4, pos := "l11_cache.go:29", after := #[{ on := 3, ground := Ground.data }, { on := 16, ground := Ground.data }], guard := none }) (v := ?r5_v17) rfl (by kernel_rfl) (by kernel_rfl) (by kernel_rfl) (fun _ _ _ h => h) (Or.inl ⟨by rfl, ?r5_hy17⟩) (by assumption) ?r5_rest17
                case r5_hy17 => intro w hSw; (try dsimp only at hSw); go_simp; try (with_reducible rfl)
                simp only [Act.put, List.setIfInBounds_toArray, List.set_cons_zero, List.set_cons_succ]
                refine wpAnyH_done (by kernel_rfl) ?_ _
                have HB3 : Hid (Below w.heap.size w w3) := bel_trans (bel_trans (bel_trans HBd.out b1) b2) b3
                clear b1 b2 b3 o2 i2 hHeld hk0 z1 z1' x0 x1 xz y0 y1
                cases z
                · have HN : Hid (cacheB n d 6 F = false) := by show _ = _; rw [HV2.out]; exact kepB_no hlt HZ.out
                  go_wp2
                  go_ret
                  exact ⟨ret_bool HN.out.symm, HB3.out⟩
                · have HE2 : Hid (∀ i, i < k + 1 → keptB F (d i) = true) := fun i hi => by
                    by_cases e : i = k
                    · subst e; exact HZ.out
                    · exact HE.out i (by omega)
                  go_wp2
                  go_roundw
                  case rel => exact ⟨k + 1, by omega, by go_num, HE2.out, HB3.out⟩
                  case measure => simp [intOf]; omega
            · have : k = n := by omega
              subst this
              have HN : Hid (cacheB k d 6 F = true) := by show _ = _; rw [HV2.out]; exact kepB_yes hE
              clear hE hB
              go_wp2
              go_ret
              exact ⟨ret_bool HN.out.symm, HB.out⟩
    · have HN : Hid (cacheB n d nf F = false) := by show _ = _; unfold cacheB; simp [h6]
      have h5' : ¬ ((5 : Int) < (n : Int)) := by omega
      have h6' : ((nf : Int) == 6) = false := by simp; omega
      clear ha hf
      go_enter Tryz.func26, Tryz.ntmps26
      go_wp2
      go_ret
      exact ⟨ret_bool HN.out.symm, Below.refl _ _⟩
  · have HN : Hid (cacheB n d nf F = false) := by show _ = _; unfold cacheB; simp [h5]
    have h5' : (5 : Int) < (n : Int) := by omega
    clear ha hf
    go_enter Tryz.func26, Tryz.ntmps26
    go_wp2
    go_ret
    exact ⟨ret_bool HN.out.symm, Below.refl _ _⟩
end Go.Proofs.YtnfjmdegbdphpaaGreat
