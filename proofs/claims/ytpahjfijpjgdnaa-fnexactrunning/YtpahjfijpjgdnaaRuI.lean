/- Fk3 and RuI: see the heads of the parts. -/
import Derived.Test.YtpahjfijpjgdnaaFk1
/- What the specification's Running answers. -/
namespace Go.Proofs.Ytpahjfijpjgdnaa
open Go.RowKit
set_option linter.unusedVariables false

/-- How many of the first k harts run. -/
def runN (d : FkD) (k : Nat) : Nat := sumN (fun i => if (d.c i).h.st = 0 then 1 else 0) k
theorem runN_le (d : FkD) (k : Nat) : runN d k ≤ k := by
  have := sumN_le (c := fun i => if (d.c i).h.st = 0 then 1 else 0) (C := 1) (j := k) (fun i _ => by split <;> omega)
  unfold runN
  omega

theorem l1Bit_c (b : Bool) (w : World) : Calls Try.prog 11 #[.bool b] w fun e w' => e = .returned (.int .i64 (if b then 1 else 0)) ∧ w' = w := by
  cases b
  · go_enter Try.func11, Try.ntmps11
    go_wp2
    go_ret
    exact ⟨rfl, rfl⟩
  · go_enter Try.func11, Try.ntmps11
    go_wp2
    go_ret
    exact ⟨rfl, rfl⟩

set_option maxRecDepth 100000 in
set_option maxHeartbeats 2000000 in
theorem specRunning_any (d : FkD) (p : FkP) (w : World) (hR : FkR w d p) :
    Calls Try.prog 5 #[.agg (fkcells d p)] w fun e w' => e = .returned (.int .i64 (runN d d.n : Nat)) ∧ Below w.heap.size w w' := by
  have B := bel_alloc (Below.refl w.heap.size w) (.cells (fkcells d p) 37)
  have X := Box.new w (fkcells d p) 37
  have HR : Hid (FkR w d p) := hR
  have hn := hR.c.1
  have hX : Hid (Box (w.alloc (.cells (fkcells d p) 37)) w.heap.size (fkcells d p) 37) := X
  have HB : Hid (Below w.heap.size w (w.alloc (.cells (fkcells d p) 37))) := B
  clear hR X B
  go_enter Try.func5, Try.ntmps5
  go_wp2
  go_loopw [3, 4] (fun v i wr => ∃ k : Nat, k ≤ d.n ∧ i = .int .i64 k ∧ v = .int .i64 (runN d k : Nat) ∧ Box wr w.heap.size (fkcells d p) 37 ∧ Below w.heap.size w wr) (fun _ i _ => d.n - (intOf i).toNat)
  case atStart => exact ⟨0, Nat.zero_le _, rfl, rfl, hX.out, HB.out⟩
  case round =>
    obtain ⟨k, hk, rfl, rfl, X, B⟩ := hrel
    clear hX HB
    obtain ⟨x0, x1, x2, x3, xz⟩ := X.at4
    by_cases hkn : k < d.n
    · have hi : (k : Int) < (d.n : Int) := by omega
      have hr := HR.out.below B
      obtain ⟨ba, oa, ea, y0, y1, y2, y3⟩ := hr.c.at hkn
      rw [ea] at x3
      clear ea
      have hm := runN_le d k
      obtain ⟨m, em⟩ : ∃ m, runN d k = m := ⟨_, rfl⟩
      have HM : Hid (runN d (k + 1) = m + (if (d.c k).h.st = 0 then 1 else 0)) := by show _ = _; rw [← em]; rfl
      rw [em] at hm ⊢
      clear hr em
      go_wp2_with fail
      refine (l1Bit_c _ _).mono ?_
      rintro e w1 ⟨rfl, h⟩
      subst h
      obtain ⟨t, et⟩ : ∃ t : Nat, (if (d.c k).h.st = 0 then 1 else 0) = t := ⟨_, rfl⟩
      have ht : (if ((d.c k).h.st == 0) = true then (1 : Int) else 0) = (t : Int) := by
        rw [← et]
        by_cases h : (d.c k).h.st = 0
        · simp [h]
        · simp [h]
      have ht1 : t ≤ 1 := by rw [← et]; split <;> omega
      rw [et] at HM
      rw [ht]
      clear ht et x0 x1 x2 x3 xz y0 y1 y2 y3
      go_wp2
      go_roundw
      case rel => exact ⟨k + 1, by omega, by go_num, by rw [HM.out]; go_num, X, B⟩
      case measure => simp [intOf]; omega
    · have hkk : k = d.n := by omega
      subst hkk
      clear X
      go_wp2
      go_ret
      exact ⟨rfl, B⟩
end Go.Proofs.Ytpahjfijpjgdnaa

/- What impl.Running answers. -/
namespace Go.Proofs.Ytpahjfijpjgdnaa
open Go.RowKit
set_option linter.unusedVariables false

set_option maxRecDepth 100000 in
set_option maxHeartbeats 2000000 in
theorem implRunning_any (d : FkD) (p : FkP) (w : World) (hR : FkR w d p) :
    Calls Try.prog 7 #[.agg (fkcells d p)] w fun e w' => e = .returned (.int .i64 (runN d d.n : Nat)) ∧ Below w.heap.size w w' := by
  obtain ⟨pw, ⟨pc, cc⟩, q⟩ := p
  have B := bel_alloc (Below.refl w.heap.size w) (.cells (fkcells d ⟨pw, (pc, cc), q⟩) 37)
  have X := Box.new w (fkcells d ⟨pw, (pc, cc), q⟩) 37
  have HR : Hid (FkR w d ⟨pw, (pc, cc), q⟩) := hR
  have hn := hR.c.1
  have HB : Hid (Below w.heap.size w (w.alloc (.cells (fkcells d ⟨pw, (pc, cc), q⟩) 37))) := B
  obtain ⟨x0, x1, x2, x3, xz⟩ := X.at4
  clear hR B X
  go_enter Try.func7, Try.ntmps7
  go_wp2
  clear x0 x1 x2 x3 xz
  go_loopw [3, 9] (fun v i wr => ∃ k : Nat, k ≤ d.n ∧ i = .int .i64 k ∧ v = .int .i64 (runN d k : Nat) ∧ Below w.heap.size w wr) (fun _ i _ => d.n - (intOf i).toNat)
  case atStart => exact ⟨0, Nat.zero_le _, rfl, rfl, HB.out⟩
  case round =>
    obtain ⟨k, hk, rfl, rfl, B⟩ := hrel
    clear HB
    by_cases hkn : k < d.n
    · have hi : (k : Int) < (d.n : Int) := by omega
      have hr := HR.out.below B
      obtain ⟨ba, oa, rfl, y0, y1, y2, y3⟩ := hr.c.at hkn
      have hm := runN_le d k
      obtain ⟨m, em⟩ : ∃ m, runN d k = m := ⟨_, rfl⟩
      have HM : Hid (runN d (k + 1) = m + (if (d.c k).h.st = 0 then 1 else 0)) := by show _ = _; rw [← em]; rfl
      rw [em] at hm ⊢
      clear hr em
      have bx := bel_alloc (Below.refl wr.heap.size wr) (.cells (ccells (d.c k) (q k)) 49)
      have XC := Box.new wr (ccells (d.c k) (q k)) 49
      obtain ⟨W5, hW5⟩ : ∃ W5, wr.alloc (.cells (ccells (d.c k) (q k)) 49) = W5 := ⟨_, rfl⟩
      rw [hW5] at bx XC
      replace B := bel_trans B bx
      clear bx
      obtain ⟨c0, c1, c2, c3, cz⟩ := XC.at4
      by_cases hst : (d.c k).h.st = 0
      · have hb : ((d.c k).h.st == 0) = true := by simp [hst]
        have HT : Hid (runN d (k + 1) = m + 1) := by show _ = _; rw [HM.out, if_pos hst]
        clear HM hst
        go_wp2
        go_roundw
        case rel => exact ⟨k + 1, by omega, by go_num, by rw [HT.out]; go_num, B⟩
        case measure => simp [intOf]; omega
      · have hb : ((d.c k).h.st == 0) = false := by simp [hst]
        have HT : Hid (runN d (k + 1) = m) := by show _ = _; rw [HM.out, if_neg hst]; rfl
        clear HM hst
        go_wp2
        go_roundw
        case rel => exact ⟨k + 1, by omega, by go_num, by rw [HT.out], B⟩
        case measure => simp [intOf]; omega
    · have hkk : k = d.n := by omega
      subst hkk
      go_wp2
      go_ret
      exact ⟨rfl, B⟩
end Go.Proofs.Ytpahjfijpjgdnaa
