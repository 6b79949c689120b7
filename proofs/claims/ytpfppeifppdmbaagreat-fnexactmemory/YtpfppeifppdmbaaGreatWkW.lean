/- WkM and WkW: see the heads of the parts. -/
import Derived.Test.YtpfppeifppdmbaaGreatWnM
import Derived.Test.YtpfppeifppdmbaaGreatWzT
/- What the law's markNodeS, markPacketS and markWorld do at any owned world (written by mkwk.py). -/
namespace Go.Proofs.YtpfppeifppdmbaaGreat
open Go.RowKit
set_option linter.unusedVariables false

theorem sumN_mono {c : Nat → Nat} {j n : Nat} (h : j ≤ n) : sumN c j ≤ sumN c n := by
  induction n with
  | zero => have : j = 0 := by omega
            subst this; exact Nat.le_refl _
  | succ n ih =>
    by_cases e : j = n + 1
    · subst e; exact Nat.le_refl _
    · have := ih (by omega)
      simp only [sumN]
      omega
/-- A node that can be marked. -/
structure Nmk (d : ND) (p : NP) : Prop where
  s : Nsm d
  o : ∀ i, i < d.no → (p.ms i).length ≤ 1048577 ∧ ∀ m ∈ p.ms i, m.xs.length ≤ 1048577

set_option maxRecDepth 100000 in
set_option maxHeartbeats 4000000 in
theorem markNodeS_gen (n : Nat) (a : Option Addr) (c : Nat) (d : Nat → ND) (p : Nat → NP) (k0 : Int) (w : World) (h0 : 0 ≤ k0) (h1 : k0 + (sumN (fun i => cNd (d i) (p i)) n : Nat) ≤ 1000000000000000) (hn : n ≤ 1048576) (ht : ∀ i, i < n → Nmk (d i) (p i)) (hh : NsO w a c n d p) :
    Calls Tryz.prog 21 #[.slice a n c, .int .i64 k0] w fun e w' => e = .returned (.int .i64 (kt k0 (fun i => cNd (d i) (p i)) n)) ∧ MNj w' a c n n k0 d p ∧ Only w w' (RS a c n (fun i => NBs (d i) (p i))) := by
  have KL : Hid (∀ j, j ≤ n → k0 ≤ kt k0 (fun i => cNd (d i) (p i)) j ∧ kt k0 (fun i => cNd (d i) (p i)) j ≤ 1000000000000000) := fun j hj => by
    have h2 := sumN_mono (c := fun i => cNd (d i) (p i)) hj
    unfold kt
    omega
  have KC : Hid (∀ j, j < n → kt k0 (fun i => cNd (d i) (p i)) j + (cNd (d j) (p j) : Nat) ≤ 1000000000000000) := fun j hj => by
    have h2 := sumN_mono (c := fun i => cNd (d i) (p i)) (show j + 1 ≤ n from hj)
    simp only [sumN] at h2
    unfold kt
    omega
  have HT : Hid (∀ i, i < n → Nmk (d i) (p i)) := ht
  clear ht
  have hh0 := MNj.start (k0 := k0) hh
  clear hh
  go_enter Tryz.func21, Tryz.ntmps21
  go_wp2
  go_loopw [1, 5] (fun q i wr => ∃ j : Nat, j ≤ n ∧ i = .int .i64 j ∧ q = .int .i64 (kt k0 (fun i => cNd (d i) (p i)) j) ∧ MNj wr a c n j k0 d p ∧ Only w wr (RS a c n (fun i => NBs (d i) (p i)))) (fun _ i _ => n - (intOf i).toNat)
  case atStart => exact ⟨0, Nat.zero_le _, rfl, by rw [kt_zero], hh0, Only.refl _ _⟩
  case round =>
    obtain ⟨j, hj, rfl, rfl, hH, hK⟩ := hrel
    obtain ⟨k, hk⟩ : ∃ k, kt k0 (fun i => cNd (d i) (p i)) j = k := ⟨_, rfl⟩
    have hkb := KL.out j hj
    rw [hk] at hkb
    obtain ⟨hk0, hk1⟩ := hkb
    have HKj : Hid (kt k0 (fun i => cNd (d i) (p i)) j = k) := hk
    rw [hk]
    clear hk hh0
    by_cases hlt : j < n
    · have hi' : (j : Int) < (n : Int) := by omega
      obtain ⟨g, rfl⟩ := owns_addr hH.row (by omega)
      have hti := HT.out j hlt
      have HTi : Hid (Nmk (d j) (p j)) := hti
      obtain ⟨q1, q2, q3⟩ := kn_eq (k + 1) (d j) (p j)
      have u1 := KC.out j hlt
      rw [HKj.out] at u1
      unfold cNd at u1
      obtain ⟨k1, e1⟩ : ∃ x, kn1 (k + 1) (d j) = x := ⟨_, rfl⟩
      obtain ⟨k2, e2⟩ : ∃ x, kn2 (k + 1) (d j) = x := ⟨_, rfl⟩
      obtain ⟨k3, e3⟩ : ∃ x, kn3 (k + 1) (d j) (p j) = x := ⟨_, rfl⟩
      have HE : Hid (kn1 (k + 1) (d j) = k1 ∧ kn2 (k + 1) (d j) = k2 ∧ kn3 (k + 1) (d j) (p j) = k3) := ⟨e1, e2, e3⟩
      rw [e1] at q1
      rw [e2] at q2
      rw [e3] at q3
      have b1 : 0 ≤ k1 ∧ k1 ≤ 10000000000000000 := by omega
      have b2 : 0 ≤ k2 ∧ k2 ≤ 10000000000000000 := by omega
      have b3 : 0 ≤ k3 ∧ k3 ≤ 10000000000000000 := by omega
      have hni : (d j).ni ≤ 1048577 := by have := hti.s.i; omega
      have HO : Hid (NOw wr (d j) (p j)) := by
        have := hH.el j hlt
        simp only [Nat.lt_irrefl, if_false] at this
        exact this
      have HG : Hid (∀ b, NBs (d j) (p j) b → b ≠ g) := fun b hb e => hH.out j hlt g rfl (by rw [← e]; exact hb)
      have HF : Hid (∀ i, i < n → (if i < j then nlist { d i with id := kt k0 (fun i => cNd (d i) (p i)) i } (p i) else nlist (d i) (p i)).length = 5) := fun i _ => by dsimp only; split <;> rfl
      have HR : Hid (MNj wr (some ⟨g, 0, none⟩) c n j k0 d p) := hH
      have row0 := hH.row
      have z : wr.frozen? ⟨g, j * 5, none⟩ = false := hH.row.frozenAt _
      obtain ⟨c0, c1, c2, c3, c4⟩ := node_at5 (v0 := .int .i64 (d j).id) (v1 := .slice (p j).f.1 (d j).nf (p j).f.2) (v2 := .slice (p j).h.1 (d j).nh (p j).h.2) (v3 := .slice (p j).o.1 (d j).no (p j).o.2) (v4 := .slice (p j).i.1 (d j).ni (p j).i.2) row0 HF.out hlt (by simp [nlist])
      have on1 : Only wr (wr.setCell ⟨g, j * 5, none⟩ (.int .i64 k)) (fun b => b = g ∨ NBs (d j) (p j) b) := (Only.refl _ _).setCell _ _ (.inl rfl)
      have on1' : Only wr (wr.setCell ⟨g, j * 5, none⟩ (.int .i64 k)) (fun b => b = g) := (Only.refl _ _).setCell _ _ rfl
      have row1 := owns_stored row0 HF.out hlt (j := 0) (by decide) (.int .i64 k)
      simp only [Nat.add_zero] at row1
      have hO1 := HO.out.sm (on1'.sm (fun b hb e => HG.out b hb e))
      have qf := hO1.f
      have qh := hO1.h
      have qo := hO1.o
      have qi := hO1.i
      clear hH q1 q2 q3 e1 e2 e3 u1 hti row0 on1' hO1
      have R1 : Hid _ := row1
      have ON : Hid (Only wr (wr.setCell ⟨g, j * 5, none⟩ (.int .i64 k)) (fun b => b = g ∨ NBs (d j) (p j) b)) := on1
      clear row1 on1
      go_wp2_with fail
      refine (markFrameS_all (RS (p j).f.1 (p j).f.2 (d j).nf (fun i => QF ((p j).fp i))) (d j).nf (p j).f.1 (p j).f.2 (d j).f (p j).fp (k + 1) _ (by omega) (by omega) HTi.out.s.f.1 HTi.out.s.f.2 qf (fun b hb => hb)).mono ?_
      rintro e w1 ⟨rfl, pf, g1⟩
      rw [show kt (k + 1) (fun i => cF ((d j).f i)) (d j).nf = k1 from HE.out.1]
      replace qh := Rw.sm qh (g1.sm (fun b hb hs => HO.out.fh b hs hb))
      replace qo := Rw.sm qo (g1.sm (fun b hb hs => HO.out.fo b hs hb))
      replace qi := qi.sm (P := fun b => blk (p j).i = some b) (g1.sm (fun b hb hs => HO.out.fi b hs hb)) (fun b hb => hb)
      replace R1 : Hid _ := owns_only R1.out g1 (fun b hb hs => HG.out b (.inl hs) (by simp [Value.ownBlock] at hb; exact hb.symm))
      replace ON : Hid (Only wr w1 (fun b => b = g ∨ NBs (d j) (p j) b)) := ON.out.trans (g1.more (fun b hb => .inr (.inl hb)))
      clear g1 qf c0 c1 c2 c3 c4 z
      obtain ⟨c0, c1, c2, c3, c4⟩ := node_at5 (v0 := .int .i64 k) (v1 := .slice (p j).f.1 (d j).nf (p j).f.2) (v2 := .slice (p j).h.1 (d j).nh (p j).h.2) (v3 := .slice (p j).o.1 (d j).no (p j).o.2) (v4 := .slice (p j).i.1 (d j).ni (p j).i.2) R1.out (set_len HF.out _ _ _) hlt (by simp [nlist])
      go_wp2_with fail
      refine (markHomeS_all (RS (p j).h.1 (p j).h.2 (d j).nh (fun i => QH ((p j).hp i))) (d j).nh (p j).h.1 (p j).h.2 (d j).h (p j).hp k1 _ (by omega) (by omega) HTi.out.s.h.1 HTi.out.s.h.2 qh (fun b hb => hb)).mono ?_
      rintro e w2 ⟨rfl, ph, g1⟩
      rw [show kt k1 (fun i => cH ((d j).h i)) (d j).nh = k2 from by rw [← HE.out.1]; exact HE.out.2.1]
      replace pf := Rw.sm pf (g1.sm (fun b hb hs => HO.out.fh b hb hs))
      replace qo := Rw.sm qo (g1.sm (fun b hb hs => HO.out.ho b hs hb))
      replace qi := qi.sm (P := fun b => blk (p j).i = some b) (g1.sm (fun b hb hs => HO.out.hi b hs hb)) (fun b hb => hb)
      replace R1 : Hid _ := owns_only R1.out g1 (fun b hb hs => HG.out b (.inr (.inl hs)) (by simp [Value.ownBlock] at hb; exact hb.symm))
      replace ON : Hid (Only wr w2 (fun b => b = g ∨ NBs (d j) (p j) b)) := ON.out.trans (g1.more (fun b hb => .inr (.inr (.inl hb))))
      clear g1 qh c0 c1 c2 c3 c4
      obtain ⟨c0, c1, c2, c3, c4⟩ := node_at5 (v0 := .int .i64 k) (v1 := .slice (p j).f.1 (d j).nf (p j).f.2) (v2 := .slice (p j).h.1 (d j).nh (p j).h.2) (v3 := .slice (p j).o.1 (d j).no (p j).o.2) (v4 := .slice (p j).i.1 (d j).ni (p j).i.2) R1.out (set_len HF.out _ _ _) hlt (by simp [nlist])
      go_wp2_with fail
      refine (markSenderS_all (RS (p j).o.1 (p j).o.2 (d j).no (fun i => QS ((p j).op i) ((p j).ms i))) (d j).no (p j).o.1 (p j).o.2 (d j).b (p j).op (p j).ms k2 _ (by omega) (by omega) HTi.out.s.o.1 HTi.out.o qo (fun b hb => hb)).mono ?_
      rintro e w3 ⟨rfl, po, g1⟩
      rw [show kt k2 (fun i => cS ((p j).ms i)) (d j).no = k3 from by rw [← HE.out.2.1]; exact HE.out.2.2]
      replace pf := Rw.sm pf (g1.sm (fun b hb hs => HO.out.fo b hb hs))
      replace ph := Rw.sm ph (g1.sm (fun b hb hs => HO.out.ho b hb hs))
      replace qi := qi.sm (P := fun b => blk (p j).i = some b) (g1.sm (fun b hb hs => HO.out.oi b hs hb)) (fun b hb => hb)
      replace R1 : Hid _ := owns_only R1.out g1 (fun b hb hs => HG.out b (.inr (.inr (.inl hs))) (by simp [Value.ownBlock] at hb; exact hb.symm))
      replace ON : Hid (Only wr w3 (fun b => b = g ∨ NBs (d j) (p j) b)) := ON.out.trans (g1.more (fun b hb => .inr (.inr (.inr (.inl hb)))))
      clear g1 qo c0 c1 c2 c3 c4
      obtain ⟨c0, c1, c2, c3, c4⟩ := node_at5 (v0 := .int .i64 k) (v1 := .slice (p j).f.1 (d j).nf (p j).f.2) (v2 := .slice (p j).h.1 (d j).nh (p j).h.2) (v3 := .slice (p j).o.1 (d j).no (p j).o.2) (v4 := .slice (p j).i.1 (d j).ni (p j).i.2) R1.out (set_len HF.out _ _ _) hlt (by simp [nlist])
      go_wp2_with fail
      refine (markReceiverS_any 0 (d j).ni (p j).i.1 (p j).i.2 (d j).g k3 _ (by omega) (by omega) hni qi).mono ?_
      rintro e w4 ⟨rfl, pi, g4⟩
      have G4 : Only w3 w4 (fun b => blk (p j).i = some b) := (Only.refl _ _).grown g4 (fun j hj => blk_eq hj)
      replace pf := Rw.sm pf (G4.sm (fun b hb hs => HO.out.fi b hb hs))
      replace ph := Rw.sm ph (G4.sm (fun b hb hs => HO.out.hi b hb hs))
      replace po := Rw.sm po (G4.sm (fun b hb hs => HO.out.oi b (by
        rcases hb with hb | ⟨i, hi, hb⟩
        · exact .inl hb
        · rw [QS_mark] at hb
          exact .inr ⟨i, hi, hb⟩) hs))
      replace R1 : Hid _ := owns_only R1.out G4 (fun b hb hs => HG.out b (.inr (.inr (.inr hs))) (by simp [Value.ownBlock] at hb; exact hb.symm))
      replace ON : Hid (Only wr w4 (fun b => b = g ∨ NBs (d j) (p j) b)) := ON.out.trans (G4.more (fun b hb => .inr (.inr (.inr (.inr hb)))))
      have HM : Hid (MkN w4 (k + 1) (d j) (p j)) := by
        refine ⟨pf, ?_, ?_, ?_⟩
        · rw [HE.out.1]; exact ph
        · rw [HE.out.2.1]; exact po
        · rw [HE.out.2.2]; exact pi
      clear g4 G4 qi c0 c1 c2 c3 c4 pf ph po pi
      have ST : Hid (MNj w4 (some ⟨g, 0, none⟩) c n (j + 1) k0 d p) := by
        refine (Rw.turn HR.out hlt ON.out R1.out HM.out (fix_mk _ _ _)).congr (fun i hi => ?_) (fun i hi => rfl) (fun i hi => ?_)
        · by_cases e : i = j
          · subst e; simp [nlist, HKj.out]
          · by_cases h2 : i < j
            · simp [e, h2, show i < j + 1 by omega]
            · simp [e, h2, show ¬ i < j + 1 by omega]
        · funext w
          by_cases e : i = j
          · subst e; simp [HKj.out]
          · by_cases h2 : i < j
            · simp [e, h2, show i < j + 1 by omega]
            · simp [e, h2, show ¬ i < j + 1 by omega]
      go_wp2
      go_roundw
      case rel =>
        refine ⟨j + 1, by omega, by go_num, ?_, ST.out, hK.trans (ON.out.more (fun b hb => ?_))⟩
        · have := kt_succ k0 (fun i => cNd (d i) (p i)) j
          rw [HKj.out] at this
          rw [this]
          have e2 := kEnd_eq k (d j) (p j)
          unfold kEnd at e2
          rw [HE.out.2.2] at e2
          rw [e2]
        · rcases hb with rfl | hb
          · exact .inl rfl
          · exact .inr ⟨j, hlt, hb⟩
      case measure => simp [intOf]; omega
    · have : j = n := by omega
      subst this
      have HR : Hid (MNj wr a c j j k0 d p) := hH
      clear hH
      go_wp2
      go_ret
      exact ⟨ret_int HKj.out.symm, HR.out, hK⟩


def cPk (d : PkD) : Nat := 7 + d.xs.length
def mPk (k : Int) (d : PkD) : PkD := ⟨k, k + 1, (k + 1 + 1) % 3 == 0, k + 1 + 1 + 1, k + 1 + 1 + 1 + 1, k + 1 + 1 + 1 + 1 + 1, (k + 1 + 1 + 1 + 1 + 1 + 1) % 3 == 0, mki (k + 1 + 1 + 1 + 1 + 1 + 1 + 1) d.xs.length⟩
/-- Seven cells of the packet at place j are written. -/
def set7 (w : World) (g j : Nat) (k : Int) : World := ((((((w.setCell ⟨g, j * 8, none⟩ (.int .i64 k)).setCell ⟨g, j * 8 + 1, none⟩ (.int .i64 (k + 1))).setCell ⟨g, j * 8 + 2, none⟩ (.bool ((k + 1 + 1) % 3 == 0))).setCell ⟨g, j * 8 + 3, none⟩ (.int .i64 (k + 1 + 1 + 1))).setCell ⟨g, j * 8 + 4, none⟩ (.int .i64 (k + 1 + 1 + 1 + 1))).setCell ⟨g, j * 8 + 5, none⟩ (.int .i64 (k + 1 + 1 + 1 + 1 + 1))).setCell ⟨g, j * 8 + 6, none⟩ (.bool ((k + 1 + 1 + 1 + 1 + 1 + 1) % 3 == 0))
theorem set7_only {w : World} {g j : Nat} {k : Int} : Only w (set7 w g j k) (fun b => b = g) := by
  unfold set7
  exact (((((((Only.refl w (fun b => b = g)).setCell _ _ rfl).setCell _ _ rfl).setCell _ _ rfl).setCell _ _ rfl).setCell _ _ rfl).setCell _ _ rfl).setCell _ _ rfl
theorem packet_step {wr w1 : World} {g c n j : Nat} {d : Nat → PkD} {p : Nat → Pl} {k : Int} (h : PkO wr (some ⟨g, 0, none⟩) c n d p) (hj : j < n)
    (o1 : w1.ownsRow 0 3 1 (.slice (p j).1 (d j).xs.length (p j).2) (d j).xs.length ((mki (k + 1 + 1 + 1 + 1 + 1 + 1 + 1) (d j).xs.length).map (Value.int .i64))) (g1 : (set7 wr g j k).grownBy w1 (Value.slice (p j).1 (d j).xs.length (p j).2).ownBlock) :
    PkO w1 (some ⟨g, 0, none⟩) c n (fun i => if i = j then mPk k (d j) else d i) p ∧ Only wr w1 (fun b => b = g ∨ QF (p j) b) := by
  have hf : ∀ i, i < n → ((fun i => pkcells (d i) (p i)) i).length = 8 := fun i _ => rfl
  have nl : ∀ b, (Value.slice (p j).1 (d j).xs.length (p j).2).ownBlock = some b → g ≠ b := fun b hb e => h.out j hj g rfl (by rw [e]; exact blk_eq hb)
  have r0 := owns_stored h.row hf hj (j := 0) (by decide) (.int .i64 k)
  have r1 := owns_stored r0 (set_len hf _ _ _) hj (j := 1) (by decide) (.int .i64 (k + 1))
  have r2 := owns_stored r1 (set_len (set_len hf _ _ _) _ _ _) hj (j := 2) (by decide) (.bool ((k + 1 + 1) % 3 == 0))
  have r3 := owns_stored r2 (set_len (set_len (set_len hf _ _ _) _ _ _) _ _ _) hj (j := 3) (by decide) (.int .i64 (k + 1 + 1 + 1))
  have r4 := owns_stored r3 (set_len (set_len (set_len (set_len hf _ _ _) _ _ _) _ _ _) _ _ _) hj (j := 4) (by decide) (.int .i64 (k + 1 + 1 + 1 + 1))
  have r5 := owns_stored r4 (set_len (set_len (set_len (set_len (set_len hf _ _ _) _ _ _) _ _ _) _ _ _) _ _ _) hj (j := 5) (by decide) (.int .i64 (k + 1 + 1 + 1 + 1 + 1))
  have r6 := owns_stored r5 (set_len (set_len (set_len (set_len (set_len (set_len hf _ _ _) _ _ _) _ _ _) _ _ _) _ _ _) _ _ _) hj (j := 6) (by decide) (.bool ((k + 1 + 1 + 1 + 1 + 1 + 1) % 3 == 0))
  simp only [Nat.add_zero] at r6
  have r7 := owns_ne (w' := w1) r6 g1 (fun b hb he => nl b he (by simpa [Value.ownBlock] using hb))
  have on : Only wr w1 (fun b => b = g ∨ QF (p j) b) := (set7_only.more (fun b hb => .inl hb)).grown g1 (fun b hb => .inr (blk_eq hb))
  have he : EPk (mPk k (d j)) (p j) w1 := by
    refine owns_cast o1 ?_ ?_ ?_ <;> simp [mPk, mki_length]
  refine ⟨(Rw.turn h hj on r7 he (fix_pk _ _)).congr (fun i hi => ?_) (fun i hi => rfl) (fun i hi => ?_), on⟩
  · by_cases e : i = j
    · subst e
      simp [pkcells, mPk, mki_length]
    · simp [e]
  · by_cases e : i = j
    · subst e; simp
    · simp [e]

set_option maxRecDepth 100000 in
set_option maxHeartbeats 4000000 in
theorem markPacketS_gen (n : Nat) (a : Option Addr) (c : Nat) (d : Nat → PkD) (p : Nat → Pl) (k0 : Int) (w : World) (h0 : 0 ≤ k0) (h1 : k0 + (sumN (fun i => cPk (d i)) n : Nat) ≤ 1000000000000000) (hx : ∀ i, i < n → (d i).xs.length ≤ 1048576) (hn : n ≤ 1048576) (hF : PkO w a c n d p) :
    Calls Tryz.prog 22 #[.slice a n c, .int .i64 k0] w fun e w' => e = .returned (.int .i64 (kt k0 (fun i => cPk (d i)) n)) ∧ PkO w' a c n (fun i => mPk (kt k0 (fun i => cPk (d i)) i) (d i)) p ∧ Only w w' (RS a c n (fun i => QF (p i))) := by
  have KL : Hid (∀ j, j ≤ n → k0 ≤ kt k0 (fun i => cPk (d i)) j ∧ kt k0 (fun i => cPk (d i)) j ≤ 1000000000000000) := fun j hj => by
    have h2 := sumN_mono (c := fun i => cPk (d i)) hj
    unfold kt
    omega
  have HX : Hid (∀ i, i < n → (d i).xs.length ≤ 1048576) := hx
  clear hx
  go_enter Tryz.func22, Tryz.ntmps22
  go_wp2
  go_loopw [1, 5] (fun q i wr => ∃ j : Nat, j ≤ n ∧ i = .int .i64 j ∧ q = .int .i64 (kt k0 (fun i => cPk (d i)) j) ∧ PkO wr a c n (fun i => if i < j then mPk (kt k0 (fun i => cPk (d i)) i) (d i) else d i) p ∧ Only w wr (RS a c n (fun i => QF (p i)))) (fun _ i _ => n - (intOf i).toNat)
  case atStart => exact ⟨0, Nat.zero_le _, rfl, by rw [kt_zero], by simpa using hF, Only.refl _ _⟩
  case round =>
    obtain ⟨j, hj, rfl, rfl, hH, hK⟩ := hrel
    obtain ⟨k, hk⟩ : ∃ k, kt k0 (fun i => cPk (d i)) j = k := ⟨_, rfl⟩
    have hkb := KL.out j hj
    rw [hk] at hkb
    obtain ⟨hk0, hk1⟩ := hkb
    have HKj : Hid (kt k0 (fun i => cPk (d i)) j = k) := hk
    rw [hk]
    clear hk
    by_cases hlt : j < n
    · have hi' : (j : Int) < (n : Int) := by omega
      obtain ⟨g, rfl⟩ := owns_addr hH.row (by omega)
      have hL := HX.out j hlt
      obtain ⟨L, eL⟩ : ∃ L, (d j).xs.length = L := ⟨_, rfl⟩
      have HL : Hid ((d j).xs.length = L) := eL
      rw [eL] at hL
      have hf : ∀ i, i < n → ((fun i => pkcells ((fun i => if i < j then mPk (kt k0 (fun i => cPk (d i)) i) (d i) else d i) i) (p i)) i).length = 8 := fun i _ => rfl
      have cc : ∀ t, t < 8 → wr.cell? ⟨g, j * 8 + t, none⟩ = (pkcells (d j) (p j))[t]? := fun t ht => by
        have := owns_chunk hH.row hf hlt ht
        simpa using this
      have c0 : wr.cell? ⟨g, j * 8, none⟩ = some (.int .i64 (d j).f) := by have := cc 0 (by decide); simpa [pkcells] using this
      have c1 : wr.cell? ⟨g, j * 8 + 1, none⟩ = some (.int .i64 (d j).t) := by have := cc 1 (by decide); simpa [pkcells] using this
      have c2 : wr.cell? ⟨g, j * 8 + 2, none⟩ = some (.bool (d j).a) := by have := cc 2 (by decide); simpa [pkcells] using this
      have c3 : wr.cell? ⟨g, j * 8 + 3, none⟩ = some (.int .i64 (d j).n) := by have := cc 3 (by decide); simpa [pkcells] using this
      have c4 : wr.cell? ⟨g, j * 8 + 4, none⟩ = some (.int .i64 (d j).k) := by have := cc 4 (by decide); simpa [pkcells] using this
      have c5 : wr.cell? ⟨g, j * 8 + 5, none⟩ = some (.int .i64 (d j).p) := by have := cc 5 (by decide); simpa [pkcells] using this
      have c6 : wr.cell? ⟨g, j * 8 + 6, none⟩ = some (.bool (d j).o) := by have := cc 6 (by decide); simpa [pkcells] using this
      have c7 : wr.cell? ⟨g, j * 8 + 7, none⟩ = some (.slice (p j).1 L (p j).2) := by have := cc 7 (by decide); simpa [pkcells, eL] using this
      have hne : Hid (∀ b, QF (p j) b → b ≠ g) := fun b hb e => hH.out j hlt g rfl (by rw [← e]; exact hb)
      have ol0 : wr.ownsRow 0 3 1 (.slice (p j).1 L (p j).2) L ((d j).xs.map (Value.int .i64)) := by
        have h := hH.el j hlt
        simp only [Nat.lt_irrefl, if_false, EPk] at h
        rw [eL] at h
        exact h
      have ol : (set7 wr g j k).ownsRow 0 3 1 (.slice (p j).1 L (p j).2) L ((d j).xs.map (Value.int .i64)) := owns_only ol0 set7_only (fun b hb e => hne.out b (blk_eq hb) e)
      unfold set7 at ol
      have z : ∀ t, wr.frozen? ⟨g, t, none⟩ = false := fun t => hH.row.frozenAt t
      have z0 := z (j * 8)
      have z1 := z (j * 8 + 1)
      have z2 := z (j * 8 + 2)
      have z3 := z (j * 8 + 3)
      have z4 := z (j * 8 + 4)
      have z5 := z (j * 8 + 5)
      have z6 := z (j * 8 + 6)
      have HH : Hid (PkO wr (some ⟨g, 0, none⟩) c n (fun i => if i < j then mPk (kt k0 (fun i => cPk (d i)) i) (d i) else d i) p) := hH
      clear hH hF hf cc ol0 eL z
      go_wp2_with fail
      refine (markIntS_any 0 L _ (k + 1 + 1 + 1 + 1 + 1 + 1 + 1) _ _ (by omega) (by omega) (by omega) ol).mono ?_
      rintro e w1 ⟨rfl, o1, g1⟩
      have ST0 := packet_step (k := k) HH.out hlt (by simp only [Nat.lt_irrefl, if_false]; rw [HL.out]; exact o1) (by simp only [Nat.lt_irrefl, if_false, set7]; rw [HL.out]; exact g1)
      simp only [Nat.lt_irrefl, if_false] at ST0
      have ST : Hid _ := ST0
      clear ST0 c0 c1 c2 c3 c4 c5 c6 c7 z0 z1 z2 z3 z4 z5 z6 ol o1 g1
      go_wp2_with fail
      go_roundw
      case rel =>
        refine ⟨j + 1, by omega, by go_num, ?_, ?_, hK.trans (ST.out.2.more (fun b hb => ?_))⟩
        · have := kt_succ k0 (fun i => cPk (d i)) j
          rw [HKj.out] at this
          rw [this]
          have e2 : cPk (d j) = 7 + L := by unfold cPk; rw [HL.out]
          simp only [e2]
          congr 1
          omega
        · refine ST.out.1.congr (fun i hi => ?_) (fun i hi => rfl) (fun i hi => ?_)
          all_goals
            have := upto (fun i => mPk (kt k0 (fun i => cPk (d i)) i) (d i)) d j i
            simp only [HKj.out] at this
            simp only [this]
        · rcases hb with rfl | hb
          · exact .inl rfl
          · exact .inr ⟨j, hlt, hb⟩
      case measure => simp [intOf]; omega
    · have : j = n := by omega
      subst this
      have R' : Hid (PkO wr a c j (fun i => mPk (kt k0 (fun i => cPk (d i)) i) (d i)) p) := hH.congr (fun i hi => by simp [hi]) (fun i hi => rfl) (fun i hi => by simp [hi])
      clear hH hF
      go_wp2
      go_ret
      exact ⟨ret_int HKj.out.symm, R'.out, hK⟩
end Go.Proofs.YtpfppeifppdmbaaGreat

/- What the law's markWorld does at any owned world that is not too great. -/
namespace Go.Proofs.YtpfppeifppdmbaaGreat
open Go.RowKit
set_option linter.unusedVariables false

theorem sumN_le8 {c c' : Nat → Nat} : ∀ {n : Nat}, (∀ i, i < n → c i ≤ 8 + 8 * c' i) → sumN c n ≤ 8 * n + 8 * sumN c' n
  | 0, _ => by simp [sumN]
  | n + 1, h => by
    have h1 := sumN_le8 (c := c) (c' := c') (n := n) (fun i hi => h i (by omega))
    have h2 := h n (by omega)
    simp only [sumN]
    omega
theorem mlen_eq (ms : List M) : mlen ms = 3 * ms.length + ySum (ms.map M.say) := by
  induction ms with
  | nil => simp [mlen, ySum]
  | cons m ms ih =>
    simp only [mlen, List.length_cons, List.map_cons, ySum, List.sum_cons, M.say] at ih ⊢
    omega
theorem cNd_le8 {d : ND} {p : NP} (he : ∀ i, i < d.no → (p.ms i).map M.say = d.y i) : cNd d p ≤ 8 + 8 * nZ d := by
  have h1 := sumN_le8 (c := fun i => cF (d.f i)) (c' := fun i => fZ (d.f i)) (n := d.nf) (fun i hi => by simp only [cF, fZ]; omega)
  have h2 := sumN_le8 (c := fun i => cH (d.h i)) (c' := fun i => hZ (d.h i)) (n := d.nh) (fun i hi => by simp only [cH, hZ]; omega)
  have h3 := sumN_le8 (c := fun i => cS (p.ms i)) (c' := fun i => sZ (d.y i)) (n := d.no) (fun i hi => by
    have h4 := mlen_eq (p.ms i)
    have h5 := congrArg List.length (he i hi)
    rw [List.length_map] at h5
    rw [he i hi] at h4
    simp only [cS, sZ]
    omega)
  unfold cNd nZ
  omega

set_option maxRecDepth 100000 in
set_option maxHeartbeats 2000000 in
theorem markWorld_gen (d : WoD) (p : WoP) (w : World) (hz : wZ d ≤ 1048576) (hO : WoO w d p) :
    Calls Tryz.prog 10 #[.agg (wcells d p), .int .i64 1] w fun e w' => ∃ K, e = .returned (.int .i64 K) ∧ 0 ≤ K ∧ Only w w' (WBs d p) := by
  have bA := bel_alloc (Below.refl w.heap.size w) (.cells (wcells d p) 32)
  have X := Box.new w (wcells d p) 32
  have HL : Hid (∀ b, WBs d p b → b < w.heap.size) := fun b hb => hO.lt hb
  have s := wZ_sm hz
  have HS : Hid (Wsm d) := s
  have c1 := sumN_le8 (c := fun i => cNd (d.d i) (p.np i)) (c' := fun i => nZ (d.d i)) (n := d.nn) (fun i hi => cNd_le8 (hO.n.el i hi).e)
  have c2 := sumN_le8 (c := fun i => cPk (d.k i)) (c' := fun i => kZ (d.k i)) (n := d.nk) (fun i hi => by simp only [cPk, kZ]; omega)
  have HC : Hid (sumN (fun i => cNd (d.d i) (p.np i)) d.nn + sumN (fun i => cPk (d.k i)) d.nk ≤ 8388608) := by
    show _ ≤ _
    unfold wZ at hz
    omega
  have HM : Hid (∀ i, i < d.nn → Nmk (d.d i) (p.np i)) := fun i hi => ⟨s.n.2 i hi, (hO.n.el i hi).msm (s.n.2 i hi)⟩
  have HNK : Hid _ := hO.nk
  have hO1 := hO.below bA
  clear c1 c2 s hO hz
  have hn := HS.out.n.1
  have hk := HS.out.k.1
  go_enter Tryz.func10, Tryz.ntmps10
  go_wp2_with fail
  refine (markNodeS_gen d.nn p.n.1 p.n.2 d.d p.np 1 _ (by omega) (by have := HC.out; omega) hn HM.out hO1.n).mono ?_
  rintro e w1 ⟨rfl, q1, k1⟩
  have X1 := X.only k1 (fun hb => by have := HL.out _ (.inl hb); omega)
  have qk := Rw.sm hO1.k (k1.sm (fun b hb hs => HNK.out b hs hb))
  obtain ⟨x0, x1, x2, xz⟩ := X1.at3
  obtain ⟨K, hKe⟩ : ∃ K, kt 1 (fun i => cNd (d.d i) (p.np i)) d.nn = K := ⟨_, rfl⟩
  have HK : Hid (1 ≤ K ∧ K + (sumN (fun i => cPk (d.k i)) d.nk : Nat) ≤ 1000000000000000) := by
    have h1 := HC.out
    have h2 : kt 1 (fun i => cNd (d.d i) (p.np i)) d.nn = 1 + (sumN (fun i => cNd (d.d i) (p.np i)) d.nn : Nat) := rfl
    rw [hKe] at h2
    show _ ∧ _
    omega
  rw [hKe]
  have G1 : Hid (Only w w1 (WBs d p)) := Only.of bA (k1.more (fun b hb => .inl hb))
  clear hKe q1 k1 X X1 bA hO1
  go_wp2_with fail
  refine (markPacketS_gen d.nk p.k.1 p.k.2 d.k p.kp K _ (by have := HK.out; omega) HK.out.2 HS.out.k.2 hk qk).mono ?_
  rintro e w2 ⟨rfl, q2, k2⟩
  have G2 : Hid (Only w w2 (WBs d p)) := G1.out.trans (k2.more (fun b hb => .inr hb))
  have HK2 : Hid (0 ≤ kt K (fun i => cPk (d.k i)) d.nk) := by
    have h1 := HK.out
    show _ ≤ _
    unfold kt
    omega
  obtain ⟨K2, hK2⟩ : ∃ K2, kt K (fun i => cPk (d.k i)) d.nk = K2 := ⟨_, rfl⟩
  rw [hK2]
  rw [hK2] at HK2
  clear hK2 q2 k2 qk x0 x1 x2 xz
  go_wp2
  go_ret
  exact ⟨_, rfl, HK2.out, G2.out⟩
end Go.Proofs.YtpfppeifppdmbaaGreat
