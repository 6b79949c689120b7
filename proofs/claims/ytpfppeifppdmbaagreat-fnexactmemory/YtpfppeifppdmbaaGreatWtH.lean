/- WtM and WtH: see the heads of the parts. -/
import Derived.Test.YtpfppeifppdmbaaGreatPgI
import Derived.Test.YtpfppeifppdmbaaGreatMark2
/- What the law's markWaitS, markFrameS, markSenderS and the like of 'held' do at any owned rows. -/
namespace Go.Proofs.YtpfppeifppdmbaaGreat
open Go.RowKit
set_option linter.unusedVariables false

/-- What is marked: so many who wait, counted on from k. -/
def mkw (k : Int) (n : Nat) : List (Int × Bool) := (List.range n).map fun (i : Nat) => (k + 2 * (i : Int), (k + 2 * (i : Int) + 1) % 3 == 0)
theorem mkw_length (k : Int) (n : Nat) : (mkw k n).length = n := by simp [mkw]
theorem mkw_get (k : Int) (n i : Nat) (h : i < n) : (mkw k n).getD i (0, false) = (k + 2 * (i : Int), (k + 2 * (i : Int) + 1) % 3 == 0) := by
  simp [mkw, h]
theorem mkw_succ (k : Int) (n : Nat) : mkw k (n + 1) = mkw k n ++ [(k + 2 * (n : Int), (k + 2 * (n : Int) + 1) % 3 == 0)] := by
  simp [mkw, List.range_succ]

set_option maxRecDepth 100000 in
set_option maxHeartbeats 1000000 in
theorem markWaitS_any (base n : Nat) (v : Value) (k0 : Int) (xs : List Value) (w : World) (h0 : 0 ≤ k0) (h1 : k0 ≤ 4611686018427387904) (hn : n ≤ 140737488351232) (hown : w.ownsRow base 90 2 v n xs) :
    Calls Tryz.prog 66 #[v, .int .i64 k0] w fun e w' => e = .returned (.int .i64 (k0 + 2 * (n : Int))) ∧ w'.ownsRow base 90 2 v n (wv (mkw k0 n)) ∧ w.grownBy w' v.ownBlock := by
  have hxs : Hid (xs.length = n * 2) := hown.1
  obtain ⟨a, cap, rfl⟩ := owns_slice hown
  go_enter Tryz.func66, Tryz.ntmps66
  go_wp2
  go_loopw [1, 5] (fun q i wr => ∃ k : Nat, k ≤ n ∧ i = .int .i64 k ∧ q = .int .i64 (k0 + 2 * (k : Int)) ∧ wr.ownsRow base 90 2 (.slice a n cap) n (wv (mkw k0 k) ++ xs.drop (k * 2)) ∧ w.grownBy wr (Value.slice a n cap).ownBlock) (fun _ i _ => n - (intOf i).toNat)
  case atStart => exact ⟨0, Nat.zero_le _, rfl, by simp, by simpa [mkw, wv] using hown, World.grownBy.refl _ _⟩
  case round =>
    obtain ⟨k, hk, rfl, rfl, hr, hgr⟩ := hrel
    by_cases hlt : k < n
    · obtain ⟨g, rfl⟩ := owns_addr hr (by omega)
      have R : Hid (((wr.setCell ⟨g, k * 2, none⟩ (.int .i64 (k0 + 2 * (k : Int)))).setCell ⟨g, k * 2 + 1, none⟩ (.bool ((k0 + 2 * (k : Int) + 1) % 3 == 0))).ownsRow base 90 2 (.slice (some ⟨g, 0, none⟩) n cap) n (wv (mkw k0 (k + 1)) ++ xs.drop ((k + 1) * 2)) ∧ w.grownBy ((wr.setCell ⟨g, k * 2, none⟩ (.int .i64 (k0 + 2 * (k : Int)))).setCell ⟨g, k * 2 + 1, none⟩ (.bool ((k0 + 2 * (k : Int) + 1) % 3 == 0))) (Value.slice (some ⟨g, 0, none⟩) n cap).ownBlock) := by
        refine ⟨?_, grown_set (grown_set hgr hr _ _) (hr.stored _ _).1 _ _⟩
        rw [mkw_succ, wv_append]
        exact stored2 _ _ hr (by rw [wv_length, mkw_length]) hxs.out hlt
      have z0 := hr.frozenAt (k * 2)
      have z1 := hr.frozenAt (k * 2 + 1)
      obtain ⟨u0, e0⟩ := cell_rowN hr (show k * 2 < n * 2 by omega)
      obtain ⟨u1, e1⟩ := cell_rowN hr (show k * 2 + 1 < n * 2 by omega)
      have hi : (k : Int) < (n : Int) := by omega
      clear hr hgr hown
      go_wp2
      go_roundw
      case rel => exact ⟨k + 1, by omega, by go_num, by go_num, R.out.1, R.out.2⟩
      case measure => simp [intOf]; omega
    · go_wp2
      go_ret
      have : k = n := by omega
      subst this
      refine ⟨rfl, ?_, hgr⟩
      have hd : xs.drop (k * 2) = [] := List.drop_eq_nil_of_le (by have := hxs.out; omega)
      rw [hd, List.append_nil] at hr
      exact hr


def cF (d : FD) : Nat := 2 + d.xs.length
def mF (k : Int) (d : FD) : FD := ⟨k, mki (k + 1) d.xs.length, (k + 1 + d.xs.length) % 3 == 0⟩

/-- The frame at place j is marked. -/
theorem frame_step {wr w1 : World} {g c n j : Nat} {d : Nat → FD} {p : Nat → Pl} {k : Int} (h : FO wr (some ⟨g, 0, none⟩) c n d p) (hj : j < n)
    (o1 : w1.ownsRow 0 3 1 (.slice (p j).1 (d j).xs.length (p j).2) (d j).xs.length ((mki (k + 1) (d j).xs.length).map (Value.int .i64))) (g1 : (wr.setCell ⟨g, j * 3, none⟩ (.int .i64 k)).grownBy w1 (Value.slice (p j).1 (d j).xs.length (p j).2).ownBlock) :
    FO (w1.setCell ⟨g, j * 3 + 2, none⟩ (.bool ((k + 1 + (d j).xs.length) % 3 == 0))) (some ⟨g, 0, none⟩) c n (fun i => if i = j then mF k (d j) else d i) p ∧ Only wr (w1.setCell ⟨g, j * 3 + 2, none⟩ (.bool ((k + 1 + (d j).xs.length) % 3 == 0))) (fun b => b = g ∨ QF (p j) b) := by
  have hf : ∀ i, i < n → ((fun i => fcells (d i) (p i)) i).length = 3 := fun i _ => rfl
  have ne : ∀ b, (Value.slice (p j).1 (d j).xs.length (p j).2).ownBlock = some b → b ≠ g := fun b hb e => h.out j hj g rfl (by rw [← e]; exact blk_eq hb)
  have r0 := owns_stored h.row hf hj (j := 0) (by decide) (.int .i64 k)
  have r1 := owns_ne r0 g1 (fun b hb he => ne b he (by simpa [Value.ownBlock] using hb.symm))
  have r2 := owns_stored r1 (set_len hf _ _ _) hj (j := 2) (by decide) (.bool ((k + 1 + (d j).xs.length) % 3 == 0))
  have on : Only wr (w1.setCell ⟨g, j * 3 + 2, none⟩ (.bool ((k + 1 + (d j).xs.length) % 3 == 0))) (fun b => b = g ∨ QF (p j) b) :=
    (((Only.refl wr _).setCell ⟨g, j * 3, none⟩ (.int .i64 k) (.inl rfl)).grown g1 (fun b hb => .inr (blk_eq hb))).setCell ⟨g, j * 3 + 2, none⟩ _ (.inl rfl)
  have he : EF (mF k (d j)) (p j) (w1.setCell ⟨g, j * 3 + 2, none⟩ (.bool ((k + 1 + (d j).xs.length) % 3 == 0))) := by
    have := owns_setCell o1 (a := ⟨g, j * 3 + 2, none⟩) (fun b hb e => ne b hb e.symm) (.bool ((k + 1 + (d j).xs.length) % 3 == 0))
    exact owns_cast this (by simp [mF, mki_length]) (by simp [mF, mki_length]) rfl
  refine ⟨(Rw.turn h hj on r2 he (fix_f _ _)).congr (fun i hi => ?_) (fun i hi => rfl) (fun i hi => ?_), on⟩
  · by_cases e : i = j
    · subst e
      simp [fcells, mF, mki_length]
    · simp [e]
  · by_cases e : i = j
    · subst e; simp
    · simp [e]

set_option maxRecDepth 100000 in
set_option maxHeartbeats 2000000 in
theorem markFrameS_all (S : Nat → Prop) (n : Nat) (a : Option Addr) (c : Nat) (d : Nat → FD) (p : Nat → Pl) (k0 : Int) (w : World) (h0 : 0 ≤ k0) (h1 : k0 ≤ 1000000000000000000) (hn : n ≤ 1048576) (hx : ∀ i, i < n → (d i).xs.length ≤ 1048576) (hF : FO w a c n d p) (hS : ∀ b, RS a c n (fun i => QF (p i)) b → S b) :
    Calls Tryz.prog 36 #[.slice a n c, .int .i64 k0] w fun e w' => e = .returned (.int .i64 (kt k0 (fun i => cF (d i)) n)) ∧ FO w' a c n (fun i => mF (kt k0 (fun i => cF (d i)) i) (d i)) p ∧ Only w w' S := by
  have KL : Hid (∀ j, j ≤ n → k0 ≤ kt k0 (fun i => cF (d i)) j ∧ kt k0 (fun i => cF (d i)) j ≤ k0 + ((1048576 * 1048578 : Nat) : Int)) := fun j hj => by
    have h1 := kt_le (k0 := k0) (c := fun i => cF (d i)) (C := 1048578) hj (fun i hi => by have := hx i hi; unfold cF; omega)
    have h2 : n * 1048578 ≤ 1048576 * 1048578 := Nat.mul_le_mul_right _ hn
    exact ⟨h1.1, Int.le_trans h1.2 (by omega)⟩
  have HX : Hid (∀ i, i < n → (d i).xs.length ≤ 1048576) := hx
  have HS : Hid (∀ b, RS a c n (fun i => QF (p i)) b → S b) := hS
  clear hx hS
  go_enter Tryz.func36, Tryz.ntmps36
  go_wp2
  go_loopw [1, 5] (fun q i wr => ∃ j : Nat, j ≤ n ∧ i = .int .i64 j ∧ q = .int .i64 (kt k0 (fun i => cF (d i)) j) ∧ FO wr a c n (fun i => if i < j then mF (kt k0 (fun i => cF (d i)) i) (d i) else d i) p ∧ Only w wr S) (fun _ i _ => n - (intOf i).toNat)
  case atStart => exact ⟨0, Nat.zero_le _, rfl, by rw [kt_zero], by simpa using hF, Only.refl _ _⟩
  case round =>
    obtain ⟨j, hj, rfl, rfl, hH, hK⟩ := hrel
    obtain ⟨k, hk⟩ : ∃ k, kt k0 (fun i => cF (d i)) j = k := ⟨_, rfl⟩
    have hkb := KL.out j hj
    rw [hk] at hkb
    obtain ⟨hk0, hk1⟩ := hkb
    have HKj : Hid (kt k0 (fun i => cF (d i)) j = k) := hk
    rw [hk]
    clear hk
    by_cases hlt : j < n
    · have hi' : (j : Int) < (n : Int) := by omega
      obtain ⟨g, rfl⟩ := owns_addr hH.row (by omega)
      have hL := HX.out j hlt
      obtain ⟨L, eL⟩ : ∃ L, (d j).xs.length = L := ⟨_, rfl⟩
      have HL : Hid ((d j).xs.length = L) := eL
      rw [eL] at hL
      have hf : ∀ i, i < n → ((fun i => fcells ((fun i => if i < j then mF (kt k0 (fun i => cF (d i)) i) (d i) else d i) i) (p i)) i).length = 3 := fun i _ => rfl
      have cc : ∀ t, t < 3 → wr.cell? ⟨g, j * 3 + t, none⟩ = (fcells (d j) (p j))[t]? := fun t ht => by
        have := owns_chunk hH.row hf hlt ht
        simpa using this
      have c0 : wr.cell? ⟨g, j * 3, none⟩ = some (.int .i64 (d j).s) := by have := cc 0 (by decide); simpa [fcells] using this
      have c1 : wr.cell? ⟨g, j * 3 + 1, none⟩ = some (.slice (p j).1 L (p j).2) := by have := cc 1 (by decide); simpa [fcells, eL] using this
      have c2 : wr.cell? ⟨g, j * 3 + 2, none⟩ = some (.bool (d j).q) := by have := cc 2 (by decide); simpa [fcells] using this
      have hgl : Hid (g < wr.heap.size) := (hH.row.lt g rfl).2
      have hne : Hid (∀ b, (Value.slice (p j).1 L (p j).2).ownBlock = some b → b ≠ g) := fun b hb e => hH.out j hlt g rfl (by rw [← e]; exact blk_eq hb)
      have ol0 : wr.ownsRow 0 3 1 (.slice (p j).1 L (p j).2) L ((d j).xs.map (Value.int .i64)) := by
        have h := hH.el j hlt
        simp only [Nat.lt_irrefl, if_false, EF] at h
        rw [eL] at h
        exact h
      have ol := owns_setCell ol0 (a := ⟨g, j * 3, none⟩) (fun b hb e => hne.out b hb e.symm) (.int .i64 k)
      have z0 := hH.row.frozenAt (j * 3)
      have z2 := hH.row.frozenAt (j * 3 + 2)
      have HH : Hid (FO wr (some ⟨g, 0, none⟩) c n (fun i => if i < j then mF (kt k0 (fun i => cF (d i)) i) (d i) else d i) p) := hH
      clear hH hF hf cc ol0 eL
      go_wp2_with fail
      refine (markIntS_any 0 L _ (k + 1) _ _ (by omega) (by omega) (by omega) ol).mono ?_
      rintro e w1 ⟨rfl, o1, g1⟩
      have d2 : w1.cell? ⟨g, j * 3 + 2, none⟩ = some (.bool (d j).q) := (cell_kept g1 (by simpa using hgl.out) (fun e => hne.out g e rfl) _).trans ((World.cell?_setCell_other _ _ _ _ (fun e => by simp only [Addr.mk.injEq, true_and, and_true] at e; omega)).trans c2)
      have f2 : w1.frozen? ⟨g, j * 3 + 2, none⟩ = false := (frozen_kept g1 (by simpa using hgl.out) (fun e => hne.out g e rfl) _).trans (by simpa using z2)
      have ST0 := frame_step (k := k) HH.out hlt (by simp only [Nat.lt_irrefl, if_false]; rw [HL.out]; exact o1) (by simp only [Nat.lt_irrefl, if_false]; rw [HL.out]; exact g1)
      simp only [Nat.lt_irrefl, if_false] at ST0
      rw [HL.out] at ST0
      have ST : Hid _ := ST0
      clear ST0 c0 c1 c2 z0 z2 ol o1 g1
      go_wp2_with fail
      go_roundw
      case rel =>
        refine ⟨j + 1, by omega, by go_num, ?_, ?_, hK.trans (ST.out.2.more (fun b hb => ?_))⟩
        · have := kt_succ k0 (fun i => cF (d i)) j
          rw [HKj.out] at this
          rw [this]
          have e2 : cF (d j) = 2 + L := by unfold cF; rw [HL.out]
          simp only [e2]
          congr 1
          omega
        · refine ST.out.1.congr (fun i hi => ?_) (fun i hi => rfl) (fun i hi => ?_)
          all_goals
            have := upto (fun i => mF (kt k0 (fun i => cF (d i)) i) (d i)) d j i
            simp only [HKj.out] at this
            simp only [this]
        · rcases hb with rfl | hb
          · exact HS.out _ (.inl rfl)
          · exact HS.out _ (.inr ⟨j, hlt, hb⟩)
      case measure => simp [intOf]; omega
    · have : j = n := by omega
      subst this
      have R' : Hid (FO wr a c j (fun i => mF (kt k0 (fun i => cF (d i)) i) (d i)) p) := hH.congr (fun i hi => by simp [hi]) (fun i hi => rfl) (fun i hi => by simp [hi])
      clear hH hF
      go_wp2
      go_ret
      exact ⟨ret_int HKj.out.symm, R'.out, hK⟩
end Go.Proofs.YtpfppeifppdmbaaGreat

/- What the law's markHomeS does at any owned row of homes. -/
namespace Go.Proofs.YtpfppeifppdmbaaGreat
open Go.RowKit
set_option linter.unusedVariables false

def cH (d : HD) : Nat := 5 + d.xs.length + d.bs.length + 2 * d.ws.length
def mHo (k : Int) (d : HD) : HD := ⟨mki k d.xs.length, k + d.xs.length, mkb (k + d.xs.length + 1) d.bs.length, (k + d.xs.length + 1 + d.bs.length) % 3 == 0, k + d.xs.length + 1 + d.bs.length + 1, (k + d.xs.length + 1 + d.bs.length + 1 + 1) % 3 == 0, k + d.xs.length + 1 + d.bs.length + 1 + 1 + 1, mkw (k + d.xs.length + 1 + d.bs.length + 1 + 1 + 1 + 1) d.ws.length⟩

/-- Cells 3 to 6 of the home at place j are written. -/
def set4 (w : World) (g j : Nat) (u3 u4 u5 u6 : Value) : World := (((w.setCell ⟨g, j * 8 + 3, none⟩ u3).setCell ⟨g, j * 8 + 4, none⟩ u4).setCell ⟨g, j * 8 + 5, none⟩ u5).setCell ⟨g, j * 8 + 6, none⟩ u6
theorem owns_set4 {w : World} {g j lo e s n : Nat} {v : Value} {xs : List Value} {u3 u4 u5 u6 : Value} (h : w.ownsRow lo e s v n xs) (ne : ∀ b, v.ownBlock = some b → g ≠ b) : (set4 w g j u3 u4 u5 u6).ownsRow lo e s v n xs := by
  unfold set4
  exact owns_setCell (owns_setCell (owns_setCell (owns_setCell h ne _) ne _) ne _) ne _

theorem home_stepG {wr w1 w2 w3 : World} {g c n j L R W : Nat} {d : Nat → HD} {p : Nat → HP} {k : Int} (h : HOw wr (some ⟨g, 0, none⟩) c n d p) (hj : j < n) (hL : (d j).xs.length = L) (hR : (d j).bs.length = R) (hW : (d j).ws.length = W)
    (o1 : w1.ownsRow 0 3 1 (.slice (p j).l.1 L (p j).l.2) L ((mki k L).map (Value.int .i64))) (g1 : wr.grownBy w1 (Value.slice (p j).l.1 L (p j).l.2).ownBlock)
    (o2 : w2.ownsRow 0 4 1 (.slice (p j).r.1 R (p j).r.2) R (bv (mkb (k + L + 1) R))) (g2 : (w1.setCell ⟨g, j * 8 + 1, none⟩ (.int .i64 (k + L))).grownBy w2 (Value.slice (p j).r.1 R (p j).r.2).ownBlock)
    (o3 : w3.ownsRow 0 90 2 (.slice (p j).q.1 W (p j).q.2) W (wv (mkw (k + L + 1 + R + 1 + 1 + 1 + 1) W))) (g3 : (set4 w2 g j (.bool ((k + L + 1 + R) % 3 == 0)) (.int .i64 (k + L + 1 + R + 1)) (.bool ((k + L + 1 + R + 1 + 1) % 3 == 0)) (.int .i64 (k + L + 1 + R + 1 + 1 + 1))).grownBy w3 (Value.slice (p j).q.1 W (p j).q.2).ownBlock) :
    HOw w3 (some ⟨g, 0, none⟩) c n (fun i => if i = j then mHo k (d j) else d i) p ∧ Only wr w3 (fun b => b = g ∨ QH (p j) b) := by
  have hf : ∀ i, i < n → ((fun i => hcells (d i) (p i)) i).length = 8 := fun i _ => rfl
  have nl : ∀ {m : Nat} b, (Value.slice (p j).l.1 m (p j).l.2).ownBlock = some b → g ≠ b := fun b hb e => h.out j hj g rfl (.inl (by rw [e]; exact blk_eq hb))
  have nr : ∀ {m : Nat} b, (Value.slice (p j).r.1 m (p j).r.2).ownBlock = some b → g ≠ b := fun b hb e => h.out j hj g rfl (.inr (.inl (by rw [e]; exact blk_eq hb)))
  have nq : ∀ {m : Nat} b, (Value.slice (p j).q.1 m (p j).q.2).ownBlock = some b → g ≠ b := fun b hb e => h.out j hj g rfl (.inr (.inr (by rw [e]; exact blk_eq hb)))
  have og : ∀ {m cc : Nat} b, (Value.slice (some ⟨g, 0, none⟩) m cc).ownBlock = some b → g = b := fun b hb => by simpa [Value.ownBlock] using hb
  have r1 := owns_ne h.row g1 (fun b hb he => nl b he (og b hb))
  have r2 := owns_stored r1 hf hj (j := 1) (by decide) (.int .i64 (k + L))
  have r3 := owns_ne r2 g2 (fun b hb he => nr b he (og b hb))
  have r4 := owns_stored r3 (set_len hf _ _ _) hj (j := 3) (by decide) (.bool ((k + L + 1 + R) % 3 == 0))
  have r5 := owns_stored r4 (set_len (set_len hf _ _ _) _ _ _) hj (j := 4) (by decide) (.int .i64 (k + L + 1 + R + 1))
  have r6 := owns_stored r5 (set_len (set_len (set_len hf _ _ _) _ _ _) _ _ _) hj (j := 5) (by decide) (.bool ((k + L + 1 + R + 1 + 1) % 3 == 0))
  have r7 := owns_stored r6 (set_len (set_len (set_len (set_len hf _ _ _) _ _ _) _ _ _) _ _ _) hj (j := 6) (by decide) (.int .i64 (k + L + 1 + R + 1 + 1 + 1))
  have r8 := owns_ne r7 g3 (fun b hb he => nq b he (og b hb))
  have or0 := h.el j hj
  have or1 : (w1.setCell ⟨g, j * 8 + 1, none⟩ (.int .i64 (k + L))).ownsRow 0 4 1 (.slice (p j).r.1 R (p j).r.2) R (bv (d j).bs) := by
    have a := or0.2.1
    rw [hR] at a
    have a0 := or0.1
    rw [hL] at a0
    exact owns_setCell (owns_ne a g1 (fun b hb he => owns_kinds a0 a (by decide) he hb)) nr _
  have oq1 : w1.ownsRow 0 90 2 (.slice (p j).q.1 W (p j).q.2) W (wv (d j).ws) := by
    have a := or0.2.2
    rw [hW] at a
    have a0 := or0.1
    rw [hL] at a0
    exact owns_ne a g1 (fun b hb he => owns_kinds a0 a (by decide) he hb)
  have oq2 : (set4 w2 g j (.bool ((k + L + 1 + R) % 3 == 0)) (.int .i64 (k + L + 1 + R + 1)) (.bool ((k + L + 1 + R + 1 + 1) % 3 == 0)) (.int .i64 (k + L + 1 + R + 1 + 1 + 1))).ownsRow 0 90 2 (.slice (p j).q.1 W (p j).q.2) W (wv (d j).ws) := by
    have a := owns_setCell oq1 (a := ⟨g, j * 8 + 1, none⟩) nq (.int .i64 (k + L))
    exact owns_set4 (owns_ne a g2 (fun b hb he => owns_kinds or1 a (by decide) he hb)) nq
  have el : w3.ownsRow 0 3 1 (.slice (p j).l.1 L (p j).l.2) L ((mki k L).map (Value.int .i64)) := by
    have a := owns_setCell o1 (a := ⟨g, j * 8 + 1, none⟩) nl (.int .i64 (k + L))
    have b := owns_set4 (u3 := .bool ((k + L + 1 + R) % 3 == 0)) (u4 := .int .i64 (k + L + 1 + R + 1)) (u5 := .bool ((k + L + 1 + R + 1 + 1) % 3 == 0)) (u6 := .int .i64 (k + L + 1 + R + 1 + 1 + 1)) (j := j) (owns_ne a g2 (fun b hb he => owns_kinds or1 a (by decide) he hb)) nl
    exact owns_ne b g3 (fun x hb he => owns_kinds oq2 b (by decide) he hb)
  have er : w3.ownsRow 0 4 1 (.slice (p j).r.1 R (p j).r.2) R (bv (mkb (k + L + 1) R)) := by
    have b := owns_set4 (u3 := .bool ((k + L + 1 + R) % 3 == 0)) (u4 := .int .i64 (k + L + 1 + R + 1)) (u5 := .bool ((k + L + 1 + R + 1 + 1) % 3 == 0)) (u6 := .int .i64 (k + L + 1 + R + 1 + 1 + 1)) (j := j) o2 nr
    exact owns_ne b g3 (fun x hb he => owns_kinds oq2 b (by decide) he hb)
  have on : Only wr w3 (fun b => b = g ∨ QH (p j) b) := by
    have a1 := ((Only.refl wr (fun b => b = g ∨ QH (p j) b)).grown g1 (fun b hb => .inr (.inl (blk_eq hb)))).setCell ⟨g, j * 8 + 1, none⟩ (.int .i64 (k + L)) (.inl rfl)
    have a2 := a1.grown g2 (fun b hb => .inr (.inr (.inl (blk_eq hb))))
    have a3 : Only wr (set4 w2 g j (.bool ((k + L + 1 + R) % 3 == 0)) (.int .i64 (k + L + 1 + R + 1)) (.bool ((k + L + 1 + R + 1 + 1) % 3 == 0)) (.int .i64 (k + L + 1 + R + 1 + 1 + 1))) (fun b => b = g ∨ QH (p j) b) := (((a2.setCell ⟨g, j * 8 + 3, none⟩ _ (.inl rfl)).setCell ⟨g, j * 8 + 4, none⟩ _ (.inl rfl)).setCell ⟨g, j * 8 + 5, none⟩ _ (.inl rfl)).setCell ⟨g, j * 8 + 6, none⟩ _ (.inl rfl)
    exact a3.grown g3 (fun b hb => .inr (.inr (.inr (blk_eq hb))))
  have he : EH (mHo k (d j)) (p j) w3 := by
    refine ⟨owns_cast el ?_ ?_ ?_, owns_cast er ?_ ?_ ?_, owns_cast o3 ?_ ?_ ?_⟩ <;> simp [mHo, mki_length, mkb_length, mkw_length, hL, hR, hW]
  refine ⟨(Rw.turn h hj on r8 he (fix_h _ _)).congr (fun i hi => ?_) (fun i hi => rfl) (fun i hi => ?_), on⟩
  · by_cases e : i = j
    · subst e
      simp [hcells, mHo, hL, hR, hW, mki_length, mkb_length, mkw_length]
    · simp [e]
  · by_cases e : i = j
    · subst e; simp
    · simp [e]

set_option maxRecDepth 100000 in
set_option maxHeartbeats 4000000 in
theorem markHomeS_all (S : Nat → Prop) (n : Nat) (a : Option Addr) (c : Nat) (d : Nat → HD) (p : Nat → HP) (k0 : Int) (w : World) (h0 : 0 ≤ k0) (h1 : k0 ≤ 1000000000000000000) (hn : n ≤ 1048576) (hx : ∀ i, i < n → (d i).xs.length ≤ 1048576 ∧ (d i).bs.length ≤ 1048576 ∧ (d i).ws.length ≤ 1048576) (hh : HOw w a c n d p) (hS : ∀ b, RS a c n (fun i => QH (p i)) b → S b) :
    Calls Tryz.prog 37 #[.slice a n c, .int .i64 k0] w fun e w' => e = .returned (.int .i64 (kt k0 (fun i => cH (d i)) n)) ∧ HOw w' a c n (fun i => mHo (kt k0 (fun i => cH (d i)) i) (d i)) p ∧ Only w w' S := by
  have KL : Hid (∀ j, j ≤ n → k0 ≤ kt k0 (fun i => cH (d i)) j ∧ kt k0 (fun i => cH (d i)) j ≤ k0 + ((1048576 * 4194309 : Nat) : Int)) := fun j hj => by
    have h1 := kt_le (k0 := k0) (c := fun i => cH (d i)) (C := 4194309) hj (fun i hi => by have := hx i hi; unfold cH; omega)
    have h2 : n * 4194309 ≤ 1048576 * 4194309 := Nat.mul_le_mul_right _ hn
    exact ⟨h1.1, Int.le_trans h1.2 (by omega)⟩
  have HX : Hid (∀ i, i < n → (d i).xs.length ≤ 1048576 ∧ (d i).bs.length ≤ 1048576 ∧ (d i).ws.length ≤ 1048576) := hx
  have HS : Hid (∀ b, RS a c n (fun i => QH (p i)) b → S b) := hS
  clear hx hS
  go_enter Tryz.func37, Tryz.ntmps37
  go_wp2
  go_loopw [1, 5] (fun q i wr => ∃ j : Nat, j ≤ n ∧ i = .int .i64 j ∧ q = .int .i64 (kt k0 (fun i => cH (d i)) j) ∧ HOw wr a c n (fun i => if i < j then mHo (kt k0 (fun i => cH (d i)) i) (d i) else d i) p ∧ Only w wr S) (fun _ i _ => n - (intOf i).toNat)
  case atStart => exact ⟨0, Nat.zero_le _, rfl, by rw [kt_zero], by simpa using hh, Only.refl _ _⟩
  case round =>
    obtain ⟨j, hj, rfl, rfl, hH, hK⟩ := hrel
    obtain ⟨k, hk⟩ : ∃ k, kt k0 (fun i => cH (d i)) j = k := ⟨_, rfl⟩
    have hkb := KL.out j hj
    rw [hk] at hkb
    obtain ⟨hk0, hk1⟩ := hkb
    have HKj : Hid (kt k0 (fun i => cH (d i)) j = k) := hk
    rw [hk]
    clear hk
    by_cases hlt : j < n
    · have hi' : (j : Int) < (n : Int) := by omega
      obtain ⟨g, rfl⟩ := owns_addr hH.row (by omega)
      obtain ⟨hL, hR, hW⟩ := HX.out j hlt
      obtain ⟨L, eL⟩ : ∃ L, (d j).xs.length = L := ⟨_, rfl⟩
      obtain ⟨R, eR⟩ : ∃ L, (d j).bs.length = L := ⟨_, rfl⟩
      obtain ⟨W, eW⟩ : ∃ L, (d j).ws.length = L := ⟨_, rfl⟩
      have E : Hid ((d j).xs.length = L ∧ (d j).bs.length = R ∧ (d j).ws.length = W) := ⟨eL, eR, eW⟩
      rw [eL] at hL
      rw [eR] at hR
      rw [eW] at hW
      have hf : ∀ i, i < n → ((fun i => hcells ((fun i => if i < j then mHo (kt k0 (fun i => cH (d i)) i) (d i) else d i) i) (p i)) i).length = 8 := fun i _ => rfl
      have cc : ∀ t, t < 8 → wr.cell? ⟨g, j * 8 + t, none⟩ = (hcells (d j) (p j))[t]? := fun t ht => by
        have := owns_chunk hH.row hf hlt ht
        simpa using this
      have c0 : wr.cell? ⟨g, j * 8, none⟩ = some (.slice (p j).l.1 L (p j).l.2) := by have := cc 0 (by decide); simpa [hcells, eL] using this
      have c1 : wr.cell? ⟨g, j * 8 + 1, none⟩ = some (.int .i64 (d j).ow) := by have := cc 1 (by decide); simpa [hcells] using this
      have c2 : wr.cell? ⟨g, j * 8 + 2, none⟩ = some (.slice (p j).r.1 R (p j).r.2) := by have := cc 2 (by decide); simpa [hcells, eR] using this
      have c3 : wr.cell? ⟨g, j * 8 + 3, none⟩ = some (.bool (d j).bz) := by have := cc 3 (by decide); simpa [hcells] using this
      have c4 : wr.cell? ⟨g, j * 8 + 4, none⟩ = some (.int .i64 (d j).wh) := by have := cc 4 (by decide); simpa [hcells] using this
      have c5 : wr.cell? ⟨g, j * 8 + 5, none⟩ = some (.bool (d j).wo) := by have := cc 5 (by decide); simpa [hcells] using this
      have c6 : wr.cell? ⟨g, j * 8 + 6, none⟩ = some (.int .i64 (d j).ak) := by have := cc 6 (by decide); simpa [hcells] using this
      have c7 : wr.cell? ⟨g, j * 8 + 7, none⟩ = some (.slice (p j).q.1 W (p j).q.2) := by have := cc 7 (by decide); simpa [hcells, eW] using this
      have hE := hH.el j hlt
      simp only [Nat.lt_irrefl, if_false, EH] at hE
      rw [eL, eR, eW] at hE
      obtain ⟨ol, or', oq⟩ := hE
      have HH : Hid (HOw wr (some ⟨g, 0, none⟩) c n (fun i => if i < j then mHo (kt k0 (fun i => cH (d i)) i) (d i) else d i) p) := hH
      have HR : Hid (g < wr.heap.size) := (hH.row.lt g rfl).2
      have HLg : Hid (∀ b, (Value.slice (p j).l.1 L (p j).l.2).ownBlock = some b → b ≠ g) := fun b hb he => hH.out j hlt g rfl (.inl (by rw [← he]; exact blk_eq hb))
      have HRg : Hid (∀ b, (Value.slice (p j).r.1 R (p j).r.2).ownBlock = some b → b ≠ g) := fun b hb he => hH.out j hlt g rfl (.inr (.inl (by rw [← he]; exact blk_eq hb)))
      have HQg : Hid (∀ b, (Value.slice (p j).q.1 W (p j).q.2).ownBlock = some b → b ≠ g) := fun b hb he => hH.out j hlt g rfl (.inr (.inr (by rw [← he]; exact blk_eq hb)))
      have HLR : Hid (∀ b, (Value.slice (p j).r.1 R (p j).r.2).ownBlock = some b → (Value.slice (p j).l.1 L (p j).l.2).ownBlock ≠ some b) := fun b hb he => owns_kinds ol or' (by decide) he hb
      have HLQ : Hid (∀ b, (Value.slice (p j).q.1 W (p j).q.2).ownBlock = some b → (Value.slice (p j).l.1 L (p j).l.2).ownBlock ≠ some b) := fun b hb he => owns_kinds ol oq (by decide) he hb
      have HRQ : Hid (∀ b, (Value.slice (p j).q.1 W (p j).q.2).ownBlock = some b → (Value.slice (p j).r.1 R (p j).r.2).ownBlock ≠ some b) := fun b hb he => owns_kinds or' oq (by decide) he hb
      have z : ∀ t, wr.frozen? ⟨g, t, none⟩ = false := fun t => hH.row.frozenAt t
      clear hH hh hf cc eL eR eW
      go_wp2_with fail
      refine (markIntS_any 0 L _ k _ _ (by omega) (by omega) (by omega) ol).mono ?_
      rintro e w1 ⟨rfl, o1, g1⟩
      have ne1 : ∀ t, w1.cell? ⟨g, t, none⟩ = wr.cell? ⟨g, t, none⟩ := fun t => cell_kept g1 HR.out (fun e => HLg.out g e rfl) t
      have nf1 : ∀ t, w1.frozen? ⟨g, t, none⟩ = false := fun t => (frozen_kept g1 HR.out (fun e => HLg.out g e rfl) t).trans (z t)
      have d1 := (ne1 (j * 8 + 1)).trans c1
      have d2 := (ne1 (j * 8 + 2)).trans c2
      have d3 := (ne1 (j * 8 + 3)).trans c3
      have d4 := (ne1 (j * 8 + 4)).trans c4
      have d5 := (ne1 (j * 8 + 5)).trans c5
      have d6 := (ne1 (j * 8 + 6)).trans c6
      have d7 := (ne1 (j * 8 + 7)).trans c7
      have or1 := owns_setCell (owns_ne or' g1 HLR.out) (a := ⟨g, j * 8 + 1, none⟩) (fun b hb he => HRg.out b hb he.symm) (.int .i64 (k + L))
      have oq1 := owns_setCell (owns_ne oq g1 HLQ.out) (a := ⟨g, j * 8 + 1, none⟩) (fun b hb he => HQg.out b hb he.symm) (.int .i64 (k + L))
      have O1 : Hid (w1.ownsRow 0 3 1 (.slice (p j).l.1 L (p j).l.2) L ((mki k L).map (Value.int .i64))) := o1
      have G1 : Hid (wr.grownBy w1 (Value.slice (p j).l.1 L (p j).l.2).ownBlock) := g1
      have s1 : Hid (g < w1.heap.size) := Nat.lt_of_lt_of_le HR.out g1.size
      have OQ1 : Hid _ := oq1
      clear c0 c1 c2 c3 c4 c5 c6 c7 z ol or' oq o1 g1 ne1 oq1
      go_wp2_with fail
      refine (markBoolS_any 0 R _ (k + L + 1) _ _ (by omega) (by omega) (by omega) or1).mono ?_
      rintro e w2 ⟨rfl, o2, g2⟩
      have ne2 : ∀ t, t ≠ j * 8 + 1 → w2.cell? ⟨g, t, none⟩ = w1.cell? ⟨g, t, none⟩ := fun t ht => (cell_kept g2 (by simpa using s1.out) (fun e => HRg.out g e rfl) t).trans (World.cell?_setCell_other _ _ _ _ (fun e => by simp only [Addr.mk.injEq, true_and, and_true] at e; exact ht e.symm))
      have nf2 : ∀ t, w2.frozen? ⟨g, t, none⟩ = false := fun t => (frozen_kept g2 (by simpa using s1.out) (fun e => HRg.out g e rfl) t).trans (by simpa using nf1 t)
      have f3 := (ne2 (j * 8 + 3) (by omega)).trans d3
      have f4 := (ne2 (j * 8 + 4) (by omega)).trans d4
      have f5 := (ne2 (j * 8 + 5) (by omega)).trans d5
      have f6 := (ne2 (j * 8 + 6) (by omega)).trans d6
      have f7 := (ne2 (j * 8 + 7) (by omega)).trans d7
      have oq2 : (set4 w2 g j (.bool ((k + L + 1 + R) % 3 == 0)) (.int .i64 (k + L + 1 + R + 1)) (.bool ((k + L + 1 + R + 1 + 1) % 3 == 0)) (.int .i64 (k + L + 1 + R + 1 + 1 + 1))).ownsRow 0 90 2 (.slice (p j).q.1 W (p j).q.2) W (wv (d j).ws) := owns_set4 (owns_ne OQ1.out g2 HRQ.out) (fun b hb he => HQg.out b hb he.symm)
      have O2 : Hid (w2.ownsRow 0 4 1 (.slice (p j).r.1 R (p j).r.2) R (bv (mkb (k + L + 1) R))) := o2
      have G2 : Hid ((w1.setCell ⟨g, j * 8 + 1, none⟩ (.int .i64 (k + L))).grownBy w2 (Value.slice (p j).r.1 R (p j).r.2).ownBlock) := g2
      clear or1 o2 g2 ne2 d1 d2 d3 d4 d5 d6 d7 nf1
      go_wp2_with fail
      refine (markWaitS_any 0 W _ (k + L + 1 + R + 1 + 1 + 1 + 1) _ _ (by omega) (by omega) (by omega) oq2).mono ?_
      rintro e w3 ⟨rfl, o3, g3⟩
      have ST0 := home_stepG (k := k) (L := L) (R := R) (W := W) HH.out hlt (by simpa using E.out.1) (by simpa using E.out.2.1) (by simpa using E.out.2.2) O1.out G1.out O2.out G2.out o3 g3
      simp only [Nat.lt_irrefl, if_false] at ST0
      have ST : Hid _ := ST0
      clear ST0 oq2 o3 g3 f3 f4 f5 f6 f7 nf2
      go_wp2
      go_roundw
      case rel =>
        refine ⟨j + 1, by omega, by go_num, ?_, ?_, hK.trans (ST.out.2.more (fun b hb => ?_))⟩
        · have := kt_succ k0 (fun i => cH (d i)) j
          rw [HKj.out] at this
          rw [this]
          have e2 : cH (d j) = 5 + L + R + 2 * W := by unfold cH; rw [E.out.1, E.out.2.1, E.out.2.2]
          simp only [e2]
          congr 1
          omega
        · refine ST.out.1.congr (fun i hi => ?_) (fun i hi => rfl) (fun i hi => ?_)
          all_goals
            have := upto (fun i => mHo (kt k0 (fun i => cH (d i)) i) (d i)) d j i
            simp only [HKj.out] at this
            simp only [this]
        · rcases hb with rfl | hb
          · exact HS.out _ (.inl rfl)
          · exact HS.out _ (.inr ⟨j, hlt, hb⟩)
      case measure => simp [intOf]; omega
    · have : j = n := by omega
      subst this
      have R' : Hid (HOw wr a c j (fun i => mHo (kt k0 (fun i => cH (d i)) i) (d i)) p) := hH.congr (fun i hi => by simp [hi]) (fun i hi => rfl) (fun i hi => by simp [hi])
      clear hH hh
      go_wp2
      go_ret
      exact ⟨ret_int HKj.out.symm, R'.out, hK⟩
end Go.Proofs.YtpfppeifppdmbaaGreat
