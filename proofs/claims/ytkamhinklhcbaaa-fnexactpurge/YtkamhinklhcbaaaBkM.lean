/- What the law's markBlockS and heldBlockS do at rows of blocks that are owned. -/
import Derived.Test.YtkamhinklhcbaaaBkR
namespace Go.Proofs.Ytkamhinklhcbaaa
open Go.RowKit
set_option linter.unusedVariables false

def cK (d : KD) : Nat := 1 + 5 * d.n
def mK (k : Int) (d : KD) : KD := ⟨k, d.n, mI (k + 1)⟩

/-- The block at place j is marked. -/
theorem block_step {wr w2 : World} {g c n j : Nat} {d : Nat → KD} {p : Nat → Pl} {k : Int} (h : KO wr (some ⟨g, 0, none⟩) c n d p) (hj : j < n)
    (o2 : IOw w2 0 (p j).1 (p j).2 (d j).n (mI (k + 1))) (k2 : Only (wr.setCell ⟨g, j * 2, none⟩ (.int .i64 k)) w2 (fun b => blk (p j) = some b)) :
    KO w2 (some ⟨g, 0, none⟩) c n (fun i => if i = j then mK k (d j) else d i) p ∧ Only wr w2 (fun b => b = g ∨ QK (p j) b) := by
  have hf : ∀ i, i < n → ((fun i => bkcells (d i) (p i)) i).length = 2 := fun i _ => rfl
  have ne : ¬ blk (p j) = some g := fun e => h.out j hj g rfl e
  have r1 := owns_stored h.row hf hj (j := 0) (by decide) (.int .i64 k)
  have r2 := owns_sm r1 (k2.sm (P := fun b => b = g) (fun b hb e => ne (by rw [← hb]; exact e))) (fun b hb => by simp [Value.ownBlock] at hb; exact hb.symm)
  have on : Only wr w2 (fun b => b = g ∨ QK (p j) b) := ((Only.refl wr _).setCell ⟨g, j * 2, none⟩ (.int .i64 k) (.inl rfl)).trans (k2.more (fun b hb => .inr hb))
  refine ⟨(Rw.turn h hj on r2 (E' := EK (mK k (d j)) (p j)) o2 (fix_k _ _)).congr (fun i hi => ?_) (fun i hi => rfl) (fun i hi => ?_), on⟩
  · by_cases e : i = j
    · subst e
      simp [bkcells, mK]
    · simp [e]
  · by_cases e : i = j
    · subst e; simp
    · simp [e]

set_option maxRecDepth 100000 in
set_option maxHeartbeats 2000000 in
theorem markBlockS_all (S : Nat → Prop) (n : Nat) (a : Option Addr) (c : Nat) (d : Nat → KD) (p : Nat → Pl) (k0 : Int) (w : World) (h0 : 0 ≤ k0) (h1 : k0 ≤ 1000000000000000000) (hn : n ≤ 1048576) (hx : ∀ i, i < n → (d i).n ≤ 1048576) (hF : KO w a c n d p) (hS : ∀ b, RS a c n (fun i => QK (p i)) b → S b) :
    Calls Try.prog 33 #[.slice a n c, .int .i64 k0] w fun e w' => e = .returned (.int .i64 (kt k0 (fun i => cK (d i)) n)) ∧ KO w' a c n (fun i => mK (kt k0 (fun i => cK (d i)) i) (d i)) p ∧ Only w w' S := by
  have KL : Hid (∀ j, j ≤ n → k0 ≤ kt k0 (fun i => cK (d i)) j ∧ kt k0 (fun i => cK (d i)) j ≤ k0 + ((1048576 * 5242881 : Nat) : Int)) := fun j hj => by
    have h1 := kt_le (k0 := k0) (c := fun i => cK (d i)) (C := 5242881) hj (fun i hi => by have := hx i hi; unfold cK; omega)
    have h2 : n * 5242881 ≤ 1048576 * 5242881 := Nat.mul_le_mul_right _ hn
    exact ⟨h1.1, Int.le_trans h1.2 (by omega)⟩
  have HX : Hid (∀ i, i < n → (d i).n ≤ 1048576) := hx
  have HS : Hid (∀ b, RS a c n (fun i => QK (p i)) b → S b) := hS
  clear hx hS
  go_enter Try.func33, Try.ntmps33
  go_wp2
  go_loopw [1, 5] (fun q i wr => ∃ j : Nat, j ≤ n ∧ i = .int .i64 j ∧ q = .int .i64 (kt k0 (fun i => cK (d i)) j) ∧ KO wr a c n (fun i => if i < j then mK (kt k0 (fun i => cK (d i)) i) (d i) else d i) p ∧ Only w wr S) (fun _ i _ => n - (intOf i).toNat)
  case atStart => exact ⟨0, Nat.zero_le _, rfl, by rw [kt_zero], by simpa using hF, Only.refl _ _⟩
  case round =>
    obtain ⟨j, hj, rfl, rfl, hH, hK⟩ := hrel
    obtain ⟨k, hk⟩ : ∃ k, kt k0 (fun i => cK (d i)) j = k := ⟨_, rfl⟩
    have hkb := KL.out j hj
    rw [hk] at hkb
    obtain ⟨hk0, hk1⟩ := hkb
    have HKj : Hid (kt k0 (fun i => cK (d i)) j = k) := hk
    rw [hk]
    clear hk
    by_cases hlt : j < n
    · have hi' : (j : Int) < (n : Int) := by omega
      obtain ⟨g, rfl⟩ := owns_addr hH.row (by omega)
      have hL := HX.out j hlt
      obtain ⟨L, eL⟩ : ∃ L, (d j).n = L := ⟨_, rfl⟩
      have HL : Hid ((d j).n = L) := eL
      rw [eL] at hL
      have hf : ∀ i, i < n → ((fun i => bkcells ((fun i => if i < j then mK (kt k0 (fun i => cK (d i)) i) (d i) else d i) i) (p i)) i).length = 2 := fun i _ => rfl
      have cc : ∀ t, t < 2 → wr.cell? ⟨g, j * 2 + t, none⟩ = (bkcells (d j) (p j))[t]? := fun t ht => by
        have := owns_chunk hH.row hf hlt ht
        simpa using this
      have c0 : wr.cell? ⟨g, j * 2, none⟩ = some (.int .i64 (d j).st) := by have := cc 0 (by decide); simpa [bkcells] using this
      have c1 : wr.cell? ⟨g, j * 2 + 1, none⟩ = some (.slice (p j).1 L (p j).2) := by have := cc 1 (by decide); simpa [bkcells, eL] using this
      have hne : ∀ b, (Value.slice (p j).1 L (p j).2).ownBlock = some b → b ≠ g := fun b hb e => hH.out j hlt g rfl (by rw [← e]; exact blk_eq hb)
      have ol : IOw (wr.setCell ⟨g, j * 2, none⟩ (.int .i64 k)) 0 (p j).1 (p j).2 L (d j).x := by
        have h := hH.el j hlt
        simp only [Nat.lt_irrefl, if_false, EK] at h
        rw [eL] at h
        exact owns_setCell h (fun b hb e => hne b hb e.symm) _
      have z0 := hH.row.frozenAt (j * 2)
      have HH : Hid (KO wr (some ⟨g, 0, none⟩) c n (fun i => if i < j then mK (kt k0 (fun i => cK (d i)) i) (d i) else d i) p) := hH
      clear hH hF hf cc eL hne
      go_wp2_with fail
      refine (markInsS_any 0 L (p j).1 (p j).2 (d j).x (k + 1) _ (by omega) (by omega) (by omega) ol).mono ?_
      rintro e w2 ⟨rfl, o2, g2⟩
      have ST0 := block_step (k := k) HH.out hlt (by simp only [Nat.lt_irrefl, if_false]; rw [HL.out]; exact o2) g2
      simp only [Nat.lt_irrefl, if_false] at ST0
      have ST : Hid _ := ST0
      clear ST0 c0 c1 z0 ol o2 g2
      go_wp2_with fail
      go_roundw
      case rel =>
        refine ⟨j + 1, by omega, by go_num, ?_, ?_, hK.trans (ST.out.2.more (fun b hb => ?_))⟩
        · have := kt_succ k0 (fun i => cK (d i)) j
          rw [HKj.out] at this
          rw [this]
          have e2 : cK (d j) = 1 + 5 * L := by unfold cK; rw [HL.out]
          simp only [e2]
          congr 1
          omega
        · refine ST.out.1.congr (fun i hi => ?_) (fun i hi => rfl) (fun i hi => ?_)
          all_goals
            have := upto (fun i => mK (kt k0 (fun i => cK (d i)) i) (d i)) d j i
            simp only [HKj.out] at this
            simp only [this]
        · rcases hb with rfl | hb
          · exact HS.out _ (.inl rfl)
          · exact HS.out _ (.inr ⟨j, hlt, hb⟩)
      case measure => simp [intOf]; omega
    · have : j = n := by omega
      subst this
      have R' : Hid (KO wr a c j (fun i => mK (kt k0 (fun i => cK (d i)) i) (d i)) p) := hH.congr (fun i hi => by simp [hi]) (fun i hi => rfl) (fun i hi => by simp [hi])
      clear hH hF
      go_wp2
      go_ret
      exact ⟨ret_int HKj.out.symm, R'.out, hK⟩

set_option maxRecDepth 100000 in
set_option maxHeartbeats 1000000 in
theorem heldBlockS_all (n : Nat) (a : Option Addr) (c : Nat) (d : Nat → KD) (p : Nat → Pl) (k0 : Int) (w : World) (h0 : 0 ≤ k0) (h1 : k0 ≤ 1000000000000000000) (hn : n ≤ 1048576) (hx : ∀ i, i < n → (d i).n ≤ 1048576) (hF : KO w a c n (fun i => mK (kt k0 (fun i => cK (d i)) i) (d i)) p) :
    Calls Try.prog 35 #[.slice a n c, .int .i64 k0] w fun e w' => e = .returned (.int .i64 (kt k0 (fun i => cK (d i)) n)) ∧ Below w.heap.size w w' := by
  have KL : Hid (∀ j, j ≤ n → k0 ≤ kt k0 (fun i => cK (d i)) j ∧ kt k0 (fun i => cK (d i)) j ≤ k0 + ((1048576 * 5242881 : Nat) : Int)) := fun j hj => by
    have h1 := kt_le (k0 := k0) (c := fun i => cK (d i)) (C := 5242881) hj (fun i hi => by have := hx i hi; unfold cK; omega)
    have h2 : n * 5242881 ≤ 1048576 * 5242881 := Nat.mul_le_mul_right _ hn
    exact ⟨h1.1, Int.le_trans h1.2 (by omega)⟩
  have ha := hF.kr (by omega) (fun i hi => by have := hx i hi; simp only [mK]; omega)
  have HX : Hid (∀ i, i < n → (d i).n ≤ 1048576) := hx
  clear hx hF
  go_enter Try.func35, Try.ntmps35
  go_wp2
  go_loopw [1, 5] (fun q i wr => ∃ j : Nat, j ≤ n ∧ i = .int .i64 j ∧ q = .int .i64 (kt k0 (fun i => cK (d i)) j) ∧ Below w.heap.size w wr) (fun _ i _ => n - (intOf i).toNat)
  case atStart => exact ⟨0, Nat.zero_le _, rfl, by rw [kt_zero], Below.refl _ _⟩
  case round =>
    obtain ⟨j, hj, rfl, rfl, hB⟩ := hrel
    obtain ⟨k, hk⟩ : ∃ k, kt k0 (fun i => cK (d i)) j = k := ⟨_, rfl⟩
    have hkb := KL.out j hj
    rw [hk] at hkb
    obtain ⟨hk0, hk1⟩ := hkb
    have HKj : Hid (kt k0 (fun i => cK (d i)) j = k) := hk
    rw [hk]
    clear hk
    by_cases hlt : j < n
    · have hi' : (j : Int) < (n : Int) := by omega
      have har := ha.below hB
      obtain ⟨b, off, rfl, y0, y1⟩ := har.at hlt
      have hr := har.2.2 j hlt
      have hL := HX.out j hlt
      obtain ⟨L, eL⟩ : ∃ L, (d j).n = L := ⟨_, rfl⟩
      have HL : Hid ((d j).n = L) := eL
      simp only [HKj.out, mK, eL] at y0 y1 hr
      rw [eL] at hL
      have hd : decide (k + 1 + 5 * (L : Int) < 0) = false := by simp; omega
      clear har eL ha
      go_wp2_with fail
      refine (heldInsS_any _ _ L (k + 1) _ (by omega) (by omega) hr).mono ?_
      rintro e w1 ⟨rfl, b1⟩
      have hB1 := bel_trans hB b1
      clear hB b1 y0 y1 hr
      go_wp2
      go_roundw
      case rel =>
        refine ⟨j + 1, by omega, by go_num, ?_, hB1⟩
        have := kt_succ k0 (fun i => cK (d i)) j
        rw [HKj.out] at this
        rw [this]
        have e2 : cK (d j) = 1 + 5 * L := by unfold cK; rw [HL.out]
        simp only [e2]
        congr 1
        omega
      case measure => simp [intOf]; omega
    · have : j = n := by omega
      subst this
      clear ha
      go_wp2
      go_ret
      exact ⟨ret_int HKj.out.symm, hB⟩
end Go.Proofs.Ytkamhinklhcbaaa
