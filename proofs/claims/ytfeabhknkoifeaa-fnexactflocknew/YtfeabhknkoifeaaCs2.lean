/- What the law's markCoreS and heldCoreS do at rows of cores that are owned and not great. -/
import Derived.Test.YtfeabhknkoifeaaCs1
namespace Go.Proofs.Ytfeabhknkoifeaa
open Go.RowKit
set_option linter.unusedVariables false

/-- A core that is not great. -/
structure Cti (d : CoD) : Prop where
  x : d.h.xs.length ≤ 1000
  n : d.n ≤ 1000
  k : ∀ i, i < d.n → (d.k i).n ≤ 1000
theorem Cti.s {d : CoD} (h : Cti d) : CoS d := ⟨by have := h.x; omega, by have := h.n; omega, fun i hi => by have := h.k i hi; omega⟩
def cCo (d : CoD) : Nat := 2 + d.h.xs.length + sumN (fun i => cK (d.k i)) d.n
def mCr (k : Int) (d : CoD) : CoD := ⟨⟨mki k d.h.xs.length, k + d.h.xs.length, k + d.h.xs.length + 1⟩, d.n, fun i => mK (kt (k + d.h.xs.length + 2) (fun i => cK (d.k i)) i) (d.k i)⟩
theorem cCo_le {d : CoD} (h : Cti d) : cCo d ≤ 10000000 := by
  have h1 := sumN_le (c := fun i => cK (d.k i)) (C := 5001) (j := d.n) (fun i hi => by have := h.k i hi; unfold cK; omega)
  have h2 : d.n * 5001 ≤ 1000 * 5001 := Nat.mul_le_mul_right _ h.n
  have h3 := h.x
  unfold cCo
  omega
theorem Cti.mark {d : CoD} (h : Cti d) (k : Int) : CoS (mCr k d) := ⟨by show (mki k d.h.xs.length).length ≤ _; rw [mki_length]; have := h.x; omega, by show d.n ≤ _; have := h.n; omega, fun i hi => by have := h.k i hi; show (d.k i).n ≤ _; omega⟩

/-- The core at place j is marked. -/
theorem core_step {wr w1 w3 : World} {g c n j : Nat} {d : Nat → CoD} {p : Nat → CoP} {k : Int} (h : CsO wr (some ⟨g, 0, none⟩) c n d p) (hj : j < n)
    (o1 : w1.ownsRow 0 3 1 (.slice (p j).r.1 (d j).h.xs.length (p j).r.2) (d j).h.xs.length ((mki k (d j).h.xs.length).map (Value.int .i64))) (g1 : wr.grownBy w1 (Value.slice (p j).r.1 (d j).h.xs.length (p j).r.2).ownBlock)
    (o3 : KO w3 (p j).c.1 (p j).c.2 (d j).n (mCr k (d j)).k (p j).q) (k3 : Only ((w1.setCell ⟨g, j * 4 + 1, none⟩ (.int .i64 (k + (d j).h.xs.length))).setCell ⟨g, j * 4 + 2, none⟩ (.int .i64 (k + (d j).h.xs.length + 1))) w3 (fun b => RS (p j).c.1 (p j).c.2 (d j).n (fun i => QK ((p j).q i)) b)) :
    CsO w3 (some ⟨g, 0, none⟩) c n (fun i => if i = j then mCr k (d j) else d i) p ∧ Only wr w3 (fun b => b = g ∨ QCo (d j) (p j) b) := by
  have hf : ∀ i, i < n → ((fun i => clist (d i) (p i)) i).length = 4 := fun i _ => rfl
  have ne : ∀ b, (Value.slice (p j).r.1 (d j).h.xs.length (p j).r.2).ownBlock = some b → b ≠ g := fun b hb e => h.out j hj g rfl (by rw [← e]; exact .inl (blk_eq hb))
  have nk : ¬ RS (p j).c.1 (p j).c.2 (d j).n (fun i => QK ((p j).q i)) g := fun e => h.out j hj g rfl (.inr e)
  have r0 := owns_ne h.row g1 (fun b hb he => ne b he (by simpa [Value.ownBlock] using hb.symm))
  have r1 := owns_stored r0 hf hj (j := 1) (by decide) (.int .i64 (k + (d j).h.xs.length))
  have r2 := owns_stored r1 (set_len hf _ _ _) hj (j := 2) (by decide) (.int .i64 (k + (d j).h.xs.length + 1))
  have r3 := owns_sm r2 (k3.sm (P := fun b => b = g) (fun b hb e => nk (by rw [← hb]; exact e))) (fun b hb => by simp [Value.ownBlock] at hb; exact hb.symm)
  have on : Only wr w3 (fun b => b = g ∨ QCo (d j) (p j) b) :=
    ((((Only.refl wr _).grown g1 (fun b hb => .inr (.inl (blk_eq hb)))).setCell ⟨g, j * 4 + 1, none⟩ _ (.inl rfl)).setCell ⟨g, j * 4 + 2, none⟩ _ (.inl rfl)).trans (k3.more (fun b hb => .inr (.inr hb)))
  have he : ECo (mCr k (d j)) (p j) w3 := by
    have h1 := owns_setCell (owns_setCell o1 (a := ⟨g, j * 4 + 1, none⟩) (fun b hb e => ne b hb e.symm) (.int .i64 (k + (d j).h.xs.length))) (a := ⟨g, j * 4 + 2, none⟩) (fun b hb e => ne b hb e.symm) (.int .i64 (k + (d j).h.xs.length + 1))
    have h2 := owns_only h1 k3 (fun b hb e => (h.el j hj).ap b (blk_eq hb) e)
    refine ⟨?_, o3, (h.el j hj).ap⟩
    exact owns_cast h2 (by simp [mCr, mki_length]) (by simp [mCr, mki_length]) rfl
  refine ⟨(Rw.turn h hj on r3 he (fix_co (mCr k (d j)) (p j))).congr (fun i hi => ?_) (fun i hi => ?_) (fun i hi => ?_), on⟩
  · by_cases e : i = j
    · subst e
      simp [clist, mCr, mki_length]
    · simp [e]
  · by_cases e : i = j
    · subst e
      simp only [if_pos]
      rfl
    · simp [e]
  · by_cases e : i = j
    · subst e; simp
    · simp [e]

set_option maxRecDepth 100000 in
set_option maxHeartbeats 2000000 in
theorem markCoreS_all (S : Nat → Prop) (n : Nat) (a : Option Addr) (c : Nat) (d : Nat → CoD) (p : Nat → CoP) (k0 : Int) (w : World) (h0 : 0 ≤ k0) (h1 : k0 ≤ 100000000000000000) (hn : n ≤ 1000) (hx : ∀ i, i < n → Cti (d i)) (hF : CsO w a c n d p) (hS : ∀ b, RS a c n (fun i => QCo (d i) (p i)) b → S b) :
    Calls Try.prog 21 #[.slice a n c, .int .i64 k0] w fun e w' => e = .returned (.int .i64 (kt k0 (fun i => cCo (d i)) n)) ∧ CsO w' a c n (fun i => mCr (kt k0 (fun i => cCo (d i)) i) (d i)) p ∧ Only w w' S := by
  have KL : Hid (∀ j, j ≤ n → k0 ≤ kt k0 (fun i => cCo (d i)) j ∧ kt k0 (fun i => cCo (d i)) j ≤ k0 + ((1000 * 10000000 : Nat) : Int)) := fun j hj => by
    have h1 := kt_le (k0 := k0) (c := fun i => cCo (d i)) (C := 10000000) hj (fun i hi => cCo_le (hx i hi))
    have h2 : n * 10000000 ≤ 1000 * 10000000 := Nat.mul_le_mul_right _ hn
    exact ⟨h1.1, Int.le_trans h1.2 (by omega)⟩
  have HX : Hid (∀ i, i < n → Cti (d i)) := hx
  have HS : Hid (∀ b, RS a c n (fun i => QCo (d i) (p i)) b → S b) := hS
  clear hx hS
  go_enter Try.func21, Try.ntmps21
  go_wp2
  go_loopw [1, 5] (fun q i wr => ∃ j : Nat, j ≤ n ∧ i = .int .i64 j ∧ q = .int .i64 (kt k0 (fun i => cCo (d i)) j) ∧ CsO wr a c n (fun i => if i < j then mCr (kt k0 (fun i => cCo (d i)) i) (d i) else d i) p ∧ Only w wr S) (fun _ i _ => n - (intOf i).toNat)
  case atStart => exact ⟨0, Nat.zero_le _, rfl, by rw [kt_zero], by simpa using hF, Only.refl _ _⟩
  case round =>
    obtain ⟨j, hj, rfl, rfl, hH, hK⟩ := hrel
    obtain ⟨k, hk⟩ : ∃ k, kt k0 (fun i => cCo (d i)) j = k := ⟨_, rfl⟩
    have hkb := KL.out j hj
    rw [hk] at hkb
    obtain ⟨hk0, hk1⟩ := hkb
    have HKj : Hid (kt k0 (fun i => cCo (d i)) j = k) := hk
    rw [hk]
    clear hk
    by_cases hlt : j < n
    · have hi' : (j : Int) < (n : Int) := by omega
      obtain ⟨g, rfl⟩ := owns_addr hH.row (by omega)
      have hL := (HX.out j hlt).x
      have hM := (HX.out j hlt).n
      obtain ⟨L, eL⟩ : ∃ L, (d j).h.xs.length = L := ⟨_, rfl⟩
      obtain ⟨M, eM⟩ : ∃ M, (d j).n = M := ⟨_, rfl⟩
      have HL : Hid ((d j).h.xs.length = L) := eL
      have HM : Hid ((d j).n = M) := eM
      rw [eL] at hL
      rw [eM] at hM
      have hf : ∀ i, i < n → ((fun i => clist ((fun i => if i < j then mCr (kt k0 (fun i => cCo (d i)) i) (d i) else d i) i) (p i)) i).length = 4 := fun i _ => rfl
      have cc : ∀ t, t < 4 → wr.cell? ⟨g, j * 4 + t, none⟩ = (clist (d j) (p j))[t]? := fun t ht => by
        have := owns_chunk hH.row hf hlt ht
        simpa using this
      have c0 : wr.cell? ⟨g, j * 4, none⟩ = some (.slice (p j).r.1 L (p j).r.2) := by have := cc 0 (by decide); simpa [clist, eL] using this
      have c1 : wr.cell? ⟨g, j * 4 + 1, none⟩ = some (.int .i64 (d j).h.pc) := by have := cc 1 (by decide); simpa [clist] using this
      have c2 : wr.cell? ⟨g, j * 4 + 2, none⟩ = some (.int .i64 (d j).h.st) := by have := cc 2 (by decide); simpa [clist] using this
      have c3 : wr.cell? ⟨g, j * 4 + 3, none⟩ = some (.slice (p j).c.1 M (p j).c.2) := by have := cc 3 (by decide); simpa [clist, eM] using this
      have hgl : Hid (g < wr.heap.size) := (hH.row.lt g rfl).2
      have hE := hH.el j hlt
      simp only [Nat.lt_irrefl, if_false] at hE
      have hne : Hid (∀ b, (Value.slice (p j).r.1 L (p j).r.2).ownBlock = some b → b ≠ g) := fun b hb e => hH.out j hlt g rfl (by simp only [Nat.lt_irrefl, if_false]; rw [← e]; exact .inl (blk_eq hb))
      have hnk : Hid (¬ RS (p j).c.1 (p j).c.2 M (fun i => QK ((p j).q i)) g) := fun e => hH.out j hlt g rfl (by simp only [Nat.lt_irrefl, if_false]; rw [← eM] at e; exact .inr e)
      have ol : wr.ownsRow 0 3 1 (.slice (p j).r.1 L (p j).r.2) L ((d j).h.xs.map (Value.int .i64)) := by
        have h := hE.r
        rw [eL] at h
        exact h
      have HE : Hid (ECo (d j) (p j) wr) := hE
      have z1 := hH.row.frozenAt (j * 4 + 1)
      have z2 := hH.row.frozenAt (j * 4 + 2)
      have HH : Hid (CsO wr (some ⟨g, 0, none⟩) c n (fun i => if i < j then mCr (kt k0 (fun i => cCo (d i)) i) (d i) else d i) p) := hH
      clear hH hF hf cc eL eM hE
      go_wp2_with fail
      refine (markIntS_any 0 L _ k _ _ (by omega) (by omega) (by omega) ol).mono ?_
      rintro e w1 ⟨rfl, o1, g1⟩
      have d1 : w1.cell? ⟨g, j * 4 + 1, none⟩ = some (.int .i64 (d j).h.pc) := (cell_kept g1 hgl.out (fun e => hne.out g e rfl) _).trans c1
      have d2 : w1.cell? ⟨g, j * 4 + 2, none⟩ = some (.int .i64 (d j).h.st) := (cell_kept g1 hgl.out (fun e => hne.out g e rfl) _).trans c2
      have d3 : w1.cell? ⟨g, j * 4 + 3, none⟩ = some (.slice (p j).c.1 M (p j).c.2) := (cell_kept g1 hgl.out (fun e => hne.out g e rfl) _).trans c3
      have f1 : w1.frozen? ⟨g, j * 4 + 1, none⟩ = false := (frozen_kept g1 hgl.out (fun e => hne.out g e rfl) _).trans z1
      have f2 : w1.frozen? ⟨g, j * 4 + 2, none⟩ = false := (frozen_kept g1 hgl.out (fun e => hne.out g e rfl) _).trans z2
      have G1 : Hid (w1.ownsRow 0 3 1 (.slice (p j).r.1 L (p j).r.2) L ((mki k L).map (Value.int .i64)) ∧ wr.grownBy w1 (Value.slice (p j).r.1 L (p j).r.2).ownBlock) := ⟨o1, g1⟩
      clear c0 c1 c2 c3 z1 z2 ol o1 g1
      go_wp2_with fail
      have KB : KO ((w1.setCell ⟨g, j * 4 + 1, none⟩ (.int .i64 (k + (L : Int)))).setCell ⟨g, j * 4 + 2, none⟩ (.int .i64 (k + (L : Int) + 1))) (p j).c.1 (p j).c.2 M (d j).k (p j).q := by
        have e := HE.out.k
        rw [HM.out] at e
        have on1 : Only wr w1 (fun b => (Value.slice (p j).r.1 L (p j).r.2).ownBlock = some b) := (Only.refl wr _).grown G1.out.2 (fun b hb => hb)
        have q1 : KO w1 (p j).c.1 (p j).c.2 M (d j).k (p j).q := Rw.sm e (on1.sm (fun b hb e => HE.out.ap b (blk_eq e) (by rw [HM.out]; exact hb)))
        exact Rw.sm q1 ((((Only.refl w1 (fun b => b = g)).setCell ⟨g, j * 4 + 1, none⟩ (.int .i64 (k + (L : Int))) rfl).setCell ⟨g, j * 4 + 2, none⟩ (.int .i64 (k + (L : Int) + 1)) rfl).sm (fun b hb e => hnk.out (by rw [← e]; exact hb)))
      refine (markBlockS_all (fun b => RS (p j).c.1 (p j).c.2 M (fun i => QK ((p j).q i)) b) M (p j).c.1 (p j).c.2 (d j).k (p j).q _ _ (by omega) (by omega) (by omega) (fun i hi => by have := (HX.out j hlt).k i (by rw [HM.out]; exact hi); omega) KB (fun b hb => hb)).mono ?_
      rintro e w3 ⟨rfl, o3, k3⟩
      have e1 : k + (L : Int) + 1 + 1 = k + (L : Int) + 2 := by omega
      rw [e1] at o3
      have ST0 := core_step (k := k) HH.out hlt (w1 := w1) (w3 := w3) (by simp only [Nat.lt_irrefl, if_false]; rw [HL.out]; exact G1.out.1) (by simp only [Nat.lt_irrefl, if_false]; rw [HL.out]; exact G1.out.2) (by simp only [Nat.lt_irrefl, if_false, mCr]; rw [HL.out, HM.out]; exact o3) (by simp only [Nat.lt_irrefl, if_false]; rw [HL.out, HM.out]; exact k3)
      simp only [Nat.lt_irrefl, if_false] at ST0
      have ST : Hid _ := ST0
      obtain ⟨K, hKe⟩ : ∃ K, kt (k + (L : Int) + 1 + 1) (fun i => cK ((d j).k i)) M = K := ⟨_, rfl⟩
      have HKe : Hid (kt (k + (L : Int) + 1 + 1) (fun i => cK ((d j).k i)) M = K) := hKe
      rw [hKe]
      clear ST0 d1 d2 d3 f1 f2 KB o3 k3 hKe e1
      go_wp2_with fail
      go_roundw
      case rel =>
        refine ⟨j + 1, by omega, by go_num, ?_, ?_, hK.trans (ST.out.2.more (fun b hb => ?_))⟩
        · have := kt_succ k0 (fun i => cCo (d i)) j
          rw [HKj.out] at this
          rw [this, ← HKe.out]
          have e2 : cCo (d j) = 2 + L + sumN (fun i => cK ((d j).k i)) M := by unfold cCo; rw [HL.out, HM.out]
          simp only [e2]
          unfold kt
          congr 1
          omega
        · refine ST.out.1.congr (fun i hi => ?_) (fun i hi => ?_) (fun i hi => ?_)
          all_goals
            have := upto (fun i => mCr (kt k0 (fun i => cCo (d i)) i) (d i)) d j i
            simp only [HKj.out] at this
            simp only [this]
        · rcases hb with rfl | hb
          · exact HS.out _ (.inl rfl)
          · exact HS.out _ (.inr ⟨j, hlt, hb⟩)
      case measure => simp [intOf]; omega
    · have : j = n := by omega
      subst this
      have R' : Hid (CsO wr a c j (fun i => mCr (kt k0 (fun i => cCo (d i)) i) (d i)) p) := hH.congr (fun i hi => by simp [hi]) (fun i hi => by simp [hi]) (fun i hi => by simp [hi])
      clear hH hF
      go_wp2
      go_ret
      exact ⟨ret_int HKj.out.symm, R'.out, hK⟩

set_option maxRecDepth 100000 in
set_option maxHeartbeats 1000000 in
theorem heldCoreS_all (n : Nat) (a : Option Addr) (c : Nat) (d : Nat → CoD) (p : Nat → CoP) (k0 : Int) (w : World) (h0 : 0 ≤ k0) (h1 : k0 ≤ 100000000000000000) (hn : n ≤ 1000) (hx : ∀ i, i < n → Cti (d i)) (hF : CsO w a c n (fun i => mCr (kt k0 (fun i => cCo (d i)) i) (d i)) p) :
    Calls Try.prog 23 #[.slice a n c, .int .i64 k0] w fun e w' => e = .returned (.int .i64 (kt k0 (fun i => cCo (d i)) n)) ∧ Below w.heap.size w w' := by
  have KL : Hid (∀ j, j ≤ n → k0 ≤ kt k0 (fun i => cCo (d i)) j ∧ kt k0 (fun i => cCo (d i)) j ≤ k0 + ((1000 * 10000000 : Nat) : Int)) := fun j hj => by
    have h1 := kt_le (k0 := k0) (c := fun i => cCo (d i)) (C := 10000000) hj (fun i hi => cCo_le (hx i hi))
    have h2 : n * 10000000 ≤ 1000 * 10000000 := Nat.mul_le_mul_right _ hn
    exact ⟨h1.1, Int.le_trans h1.2 (by omega)⟩
  have HX : Hid (∀ i, i < n → Cti (d i)) := hx
  have ha : CsR w a n (fun i => mCr (kt k0 (fun i => cCo (d i)) i) (d i)) p := CsO.cr hF (by omega) (fun i hi => (hx i hi).mark _)
  have HF : Hid (CsO w a c n (fun i => mCr (kt k0 (fun i => cCo (d i)) i) (d i)) p) := hF
  clear hx hF
  go_enter Try.func23, Try.ntmps23
  go_wp2
  go_loopw [1, 5] (fun q i wr => ∃ j : Nat, j ≤ n ∧ i = .int .i64 j ∧ q = .int .i64 (kt k0 (fun i => cCo (d i)) j) ∧ Below w.heap.size w wr) (fun _ i _ => n - (intOf i).toNat)
  case atStart => exact ⟨0, Nat.zero_le _, rfl, by rw [kt_zero], Below.refl _ _⟩
  case round =>
    obtain ⟨j, hj, rfl, rfl, hB⟩ := hrel
    obtain ⟨k, hk⟩ : ∃ k, kt k0 (fun i => cCo (d i)) j = k := ⟨_, rfl⟩
    have hkb := KL.out j hj
    rw [hk] at hkb
    obtain ⟨hk0, hk1⟩ := hkb
    have HKj : Hid (kt k0 (fun i => cCo (d i)) j = k) := hk
    rw [hk]
    clear hk
    by_cases hlt : j < n
    · have hi' : (j : Int) < (n : Int) := by omega
      have har := ha.below hB
      obtain ⟨b, off, rfl, y0, y1, y2, y3⟩ := har.at hlt
      have hr := (har.2.2 j hlt).r
      have hL := (HX.out j hlt).x
      have hM := (HX.out j hlt).n
      obtain ⟨L, eL⟩ : ∃ L, (d j).h.xs.length = L := ⟨_, rfl⟩
      obtain ⟨M, eM⟩ : ∃ M, (d j).n = M := ⟨_, rfl⟩
      have HL : Hid ((d j).h.xs.length = L) := eL
      have HM : Hid ((d j).n = M) := eM
      have HK : Hid (KO wr (p j).c.1 (p j).c.2 M (fun i => mK (kt (k + (L : Int) + 2) (fun i => cK ((d j).k i)) i) ((d j).k i)) (p j).q) := by
        have h := ((HF.out.el j hlt).below hB).k
        simp only [HKj.out, mCr, eL, eM] at h
        exact h
      simp only [HKj.out, mCr, mki_length, eL, eM] at y0 y1 y2 y3 hr
      rw [eL] at hL
      rw [eM] at hM
      have hd : decide (k + (L : Int) < 0) = false := by simp; omega
      clear har eL eM ha
      go_wp2_with fail
      refine (heldIntS_any _ _ L k _ (by omega) (by omega) hr).mono ?_
      rintro e w1 ⟨rfl, h⟩
      subst h
      go_wp2_with fail
      have e1 : k + (L : Int) + 1 + 1 = k + (L : Int) + 2 := by omega
      refine (heldBlockS_all M (p j).c.1 (p j).c.2 (d j).k (p j).q _ _ (by omega) (by omega) (by omega) (fun i hi => by have := (HX.out j hlt).k i (by rw [HM.out]; exact hi); omega) (by rw [e1]; exact HK.out)).mono ?_
      rintro e w2 ⟨rfl, b2⟩
      have hkk : kt (k + (L : Int) + 1 + 1) (fun i => cK ((d j).k i)) M = kt k0 (fun i => cCo (d i)) (j + 1) := by
        have := kt_succ k0 (fun i => cCo (d i)) j
        rw [HKj.out] at this
        rw [this]
        have e2 : cCo (d j) = 2 + L + sumN (fun i => cK ((d j).k i)) M := by unfold cCo; rw [HL.out, HM.out]
        simp only [e2]
        unfold kt
        omega
      obtain ⟨K, hKe⟩ : ∃ K, kt (k + (L : Int) + 1 + 1) (fun i => cK ((d j).k i)) M = K := ⟨_, rfl⟩
      have hd2 : decide (K < 0) = false := by
        have := (KL.out (j + 1) (by omega)).1
        rw [← hkk, hKe] at this
        simp
        omega
      rw [hKe] at hkk ⊢
      have HKK : Hid (K = kt k0 (fun i => cCo (d i)) (j + 1)) := hkk
      have hB2 := bel_trans hB b2
      clear y0 y1 y2 y3 hr hKe hkk e1 b2 hB
      go_wp2
      go_roundw
      case rel => exact ⟨j + 1, by omega, by go_num, by rw [HKK.out], hB2⟩
      case measure => simp [intOf]; omega
    · have : j = n := by omega
      subst this
      clear ha
      go_wp2
      go_ret
      exact ⟨ret_int HKj.out.symm, hB⟩
end Go.Proofs.Ytfeabhknkoifeaa
