/- WtS and WtD and WtN: see the heads of the parts. -/
import Derived.Test.YtcneocbadobcfaaGreatWtH
/- What the law's markSenderS does at any owned row of senders. -/
namespace Go.Proofs.YtcneocbadobcfaaGreat
open Go.RowKit
set_option linter.unusedVariables false

def mlen : List M → Nat
  | [] => 0
  | m :: ms => 3 + m.xs.length + mlen ms
theorem markEnd_eq (k : Int) (ms : List M) : markEnd k ms = k + (mlen ms : Nat) := by
  induction ms generalizing k with
  | nil => simp [markEnd, mlen]
  | cons m ms ih => simp only [markEnd, mlen, ih]; omega
theorem mlen_le {ms : List M} {L : Nat} (h : ∀ m ∈ ms, m.xs.length ≤ L) : mlen ms ≤ ms.length * (3 + L) := by
  induction ms with
  | nil => simp [mlen]
  | cons m ms ih =>
    have h1 := ih (fun x hx => h x (List.mem_cons_of_mem _ hx))
    have h2 := h m (List.mem_cons_self ..)
    simp only [mlen, List.length_cons, Nat.succ_mul]
    omega
theorem markMs_mem {k : Int} {ms : List M} {x : M} (h : x ∈ markMs k ms) : ∃ m ∈ ms, m.v = x.v ∧ m.xs.length = x.xs.length := by
  induction ms generalizing k with
  | nil => simp [markMs] at h
  | cons m ms ih =>
    simp only [markMs, List.mem_cons] at h
    rcases h with rfl | h
    · exact ⟨m, by simp, (markM_v _ _).symm, by simp [markM, mki_length]⟩
    · obtain ⟨y, hy, e⟩ := ih h
      exact ⟨y, by simp [hy], e⟩
theorem mem_markMs {k : Int} {ms : List M} {m : M} (h : m ∈ ms) : ∃ x ∈ markMs k ms, x.v = m.v := by
  induction ms generalizing k with
  | nil => simp at h
  | cons y ms ih =>
    simp only [List.mem_cons] at h
    rcases h with rfl | h
    · exact ⟨markM k m, by simp [markMs], markM_v _ _⟩
    · obtain ⟨x, hx, e⟩ := ih (k := k + 1 + 1 + 1 + y.xs.length) h
      exact ⟨x, by simp [markMs, hx], e⟩
theorem QS_mark (p : Pl) (k : Int) (ms : List M) : QS p (markMs k ms) = QS p ms := by
  funext b
  apply propext
  constructor
  · rintro (h | ⟨x, hx, hb⟩)
    · exact .inl h
    · obtain ⟨m, hm, e, _⟩ := markMs_mem hx
      exact .inr ⟨m, hm, by rw [e]; exact hb⟩
  · rintro (h | ⟨m, hm, hb⟩)
    · exact .inl h
    · obtain ⟨x, hx, e⟩ := mem_markMs (k := k) hm
      exact .inr ⟨x, hx, by rw [e]; exact hb⟩

def cS (ms : List M) : Nat := 1 + mlen ms

/-- The sender at place j is marked. -/
theorem sender_step {wr w2 : World} {g c n j : Nat} {b : Nat → Int} {p : Nat → Pl} {ms : Nat → List M} {k : Int} (h : SO wr (some ⟨g, 0, none⟩) c n b p ms) (hj : j < n)
    (o2 : Deep w2 0 (p j).1 (p j).2 (markMs (k + 1) (ms j))) (k2 : Only (wr.setCell ⟨g, j * 2, none⟩ (.int .i64 k)) w2 (QS (p j) (ms j))) :
    SO w2 (some ⟨g, 0, none⟩) c n (fun i => if i = j then k else b i) p (fun i => if i = j then markMs (k + 1) (ms j) else ms i) ∧ Only wr w2 (fun b => b = g ∨ QS (p j) (ms j) b) := by
  have hf : ∀ i, i < n → ((fun i => scells (b i) (p i) (ms i).length) i).length = 2 := fun i _ => rfl
  have r0 := owns_stored h.row hf hj (j := 0) (by decide) (.int .i64 k)
  have r1 := owns_only r0 k2 (fun x hx hq => by
    have : g = x := by simpa [Value.ownBlock] using hx
    subst this
    exact h.out j hj g rfl hq)
  have on : Only wr w2 (fun b => b = g ∨ QS (p j) (ms j) b) := ((Only.refl wr _).setCell ⟨g, j * 2, none⟩ (.int .i64 k) (.inl rfl)).trans (k2.more (fun b hb => .inr hb))
  refine ⟨(Rw.turn h hj on r1 (E' := ES (p j) (markMs (k + 1) (ms j))) o2 ?_).congr (fun i hi => ?_) (fun i hi => ?_) (fun i hi => ?_), on⟩
  · have := fix_s (p j) (markMs (k + 1) (ms j))
    rw [QS_mark] at this
    exact this
  · by_cases e : i = j
    · subst e
      simp [scells, markMs_length]
    · simp [e]
  · by_cases e : i = j
    · subst e
      simp [QS_mark]
    · simp [e]
  · by_cases e : i = j
    · subst e; simp
    · simp [e]

set_option maxRecDepth 100000 in
set_option maxHeartbeats 2000000 in
theorem markSenderS_all (S : Nat → Prop) (n : Nat) (a : Option Addr) (c : Nat) (b : Nat → Int) (p : Nat → Pl) (ms : Nat → List M) (k0 : Int) (w : World) (h0 : 0 ≤ k0) (h1 : k0 ≤ 1000000000000000000) (hn : n ≤ 1048576) (hx : ∀ i, i < n → (ms i).length ≤ 1048577 ∧ ∀ m ∈ ms i, m.xs.length ≤ 1048577) (hh : SO w a c n b p ms) (hS : ∀ b, RS a c n (fun i => QS (p i) (ms i)) b → S b) :
    Calls Tryz.prog 37 #[.slice a n c, .int .i64 k0] w fun e w' => e = .returned (.int .i64 (kt k0 (fun i => cS (ms i)) n)) ∧ SO w' a c n (fun i => kt k0 (fun i => cS (ms i)) i) p (fun i => markMs (kt k0 (fun i => cS (ms i)) i + 1) (ms i)) ∧ Only w w' S := by
  have KL : Hid (∀ j, j ≤ n → k0 ≤ kt k0 (fun i => cS (ms i)) j ∧ kt k0 (fun i => cS (ms i)) j ≤ k0 + 1152929300000000000) := fun j hj => by
    have h1 := kt_le (k0 := k0) (c := fun i => cS (ms i)) (C := 1 + 1048577 * (3 + 1048577)) hj (fun i hi => by
      have h2 := mlen_le (hx i hi).2
      have h3 := Nat.mul_le_mul_right (3 + 1048577) (hx i hi).1
      unfold cS
      omega)
    have h2 : n * (1 + 1048577 * (3 + 1048577)) ≤ 1048576 * (1 + 1048577 * (3 + 1048577)) := Nat.mul_le_mul_right _ hn
    exact ⟨h1.1, Int.le_trans h1.2 (by omega)⟩
  have HX : Hid (∀ i, i < n → (ms i).length ≤ 1048577 ∧ ∀ m ∈ ms i, m.xs.length ≤ 1048577) := hx
  have HS : Hid (∀ b, RS a c n (fun i => QS (p i) (ms i)) b → S b) := hS
  clear hx hS
  go_enter Tryz.func37, Tryz.ntmps37
  go_wp2
  go_loopw [1, 5] (fun q i wr => ∃ j : Nat, j ≤ n ∧ i = .int .i64 j ∧ q = .int .i64 (kt k0 (fun i => cS (ms i)) j) ∧ SO wr a c n (fun i => if i < j then kt k0 (fun i => cS (ms i)) i else b i) p (fun i => if i < j then markMs (kt k0 (fun i => cS (ms i)) i + 1) (ms i) else ms i) ∧ Only w wr S) (fun _ i _ => n - (intOf i).toNat)
  case atStart => exact ⟨0, Nat.zero_le _, rfl, by rw [kt_zero], by simpa using hh, Only.refl _ _⟩
  case round =>
    obtain ⟨j, hj, rfl, rfl, hH, hK⟩ := hrel
    obtain ⟨k, hk⟩ : ∃ k, kt k0 (fun i => cS (ms i)) j = k := ⟨_, rfl⟩
    have hkb := KL.out j hj
    rw [hk] at hkb
    obtain ⟨hk0, hk1⟩ := hkb
    have HKj : Hid (kt k0 (fun i => cS (ms i)) j = k) := hk
    rw [hk]
    clear hk
    by_cases hlt : j < n
    · have hi' : (j : Int) < (n : Int) := by omega
      obtain ⟨g, rfl⟩ := owns_addr hH.row (by omega)
      have hf : ∀ i, i < n → ((fun i => scells ((fun i => if i < j then kt k0 (fun i => cS (ms i)) i else b i) i) (p i) ((fun i => if i < j then markMs (kt k0 (fun i => cS (ms i)) i + 1) (ms i) else ms i) i).length) i).length = 2 := fun i _ => rfl
      have cc : ∀ t, t < 2 → wr.cell? ⟨g, j * 2 + t, none⟩ = (scells (b j) (p j) (ms j).length)[t]? := fun t ht => by
        have := owns_chunk hH.row hf hlt ht
        simpa using this
      have c0 : wr.cell? ⟨g, j * 2, none⟩ = some (.int .i64 (b j)) := by have := cc 0 (by decide); simpa [scells] using this
      have c1 : wr.cell? ⟨g, j * 2 + 1, none⟩ = some (.slice (p j).1 (ms j).length (p j).2) := by have := cc 1 (by decide); simpa [scells] using this
      have oD : Deep wr 0 (p j).1 (p j).2 (ms j) := by
        have h := hH.el j hlt
        simp only [Nat.lt_irrefl, if_false, ES] at h
        exact h
      have hne : ∀ x, QS (p j) (ms j) x → g ≠ x := fun x hx e => by
        subst e
        have := hH.out j hlt g rfl
        simp only [Nat.lt_irrefl, if_false] at this
        exact this hx
      have oD1 : Deep (wr.setCell ⟨g, j * 2, none⟩ (.int .i64 k)) 0 (p j).1 (p j).2 (ms j) :=
        ⟨owns_setCell oD.row (fun x hx => hne x (.inl (blk_eq hx))) _, oD.lists.far _ _ (fun m hm x hx => hne x (.inr ⟨m, hm, hx⟩))⟩
      have z0 := hH.row.frozenAt (j * 2)
      have HH : Hid (SO wr (some ⟨g, 0, none⟩) c n (fun i => if i < j then kt k0 (fun i => cS (ms i)) i else b i) p (fun i => if i < j then markMs (kt k0 (fun i => cS (ms i)) i + 1) (ms i) else ms i)) := hH
      obtain ⟨hxa, hxb⟩ := HX.out j hlt
      have HL : Hid (markEnd (k + 1) (ms j) = kt k0 (fun i => cS (ms i)) (j + 1)) := by
        show _ = _
        rw [markEnd_eq, kt_succ, HKj.out]
        unfold cS
        omega
      clear hH hh hf cc oD hne
      go_wp2_with fail
      refine (markMsgS_only (QS (p j) (ms j)) 0 (p j).1 (p j).2 (ms j) (k + 1) _ (by omega) (by omega) hxa hxb oD1 ⟨fun x hx => .inl (blk_eq hx), fun m hm x hx => .inr ⟨m, hm, hx⟩⟩).mono ?_
      rintro e w2 ⟨rfl, o2, k2⟩
      have ST0 := sender_step (k := k) HH.out hlt (by simp only [Nat.lt_irrefl, if_false]; exact o2) (by simp only [Nat.lt_irrefl, if_false]; exact k2)
      simp only [Nat.lt_irrefl, if_false] at ST0
      have ST : Hid _ := ST0
      rw [HL.out]
      clear ST0 c0 c1 z0 oD1 o2 k2 hxa hxb
      go_wp2
      go_roundw
      case rel =>
        refine ⟨j + 1, by omega, by go_num, rfl, ?_, hK.trans (ST.out.2.more (fun b hb => ?_))⟩
        · refine ST.out.1.congr (fun i hi => ?_) (fun i hi => ?_) (fun i hi => ?_)
          all_goals
            have e1 := upto (fun i => kt k0 (fun i => cS (ms i)) i) b j i
            have e2 := upto (fun i => markMs (kt k0 (fun i => cS (ms i)) i + 1) (ms i)) ms j i
            simp only [HKj.out] at e1 e2
            simp only [e1, e2]
        · rcases hb with rfl | hb
          · exact HS.out _ (.inl rfl)
          · exact HS.out _ (.inr ⟨j, hlt, hb⟩)
      case measure => simp [intOf]; omega
    · have : j = n := by omega
      subst this
      have R' : Hid (SO wr a c j (fun i => kt k0 (fun i => cS (ms i)) i) p (fun i => markMs (kt k0 (fun i => cS (ms i)) i + 1) (ms i))) := hH.congr (fun i hi => by simp [hi]) (fun i hi => by simp [hi]) (fun i hi => by simp [hi])
      clear hH hh
      go_wp2
      go_ret
      exact ⟨ret_int HKj.out.symm, R'.out, hK⟩
end Go.Proofs.YtcneocbadobcfaaGreat

/- What the law's heldFrameS, heldHomeS and heldSenderS do at marked rows. -/
namespace Go.Proofs.YtcneocbadobcfaaGreat
open Go.RowKit
set_option linter.unusedVariables false

set_option maxRecDepth 100000 in
set_option maxHeartbeats 1000000 in
theorem heldFrameS_all (n : Nat) (a : Option Addr) (c : Nat) (d : Nat → FD) (p : Nat → Pl) (k0 : Int) (w : World) (h0 : 0 ≤ k0) (h1 : k0 ≤ 1000000000000000000) (hn : n ≤ 1048576) (hx : ∀ i, i < n → (d i).xs.length ≤ 1048576) (hF : FO w a c n (fun i => mF (kt k0 (fun i => cF (d i)) i) (d i)) p) :
    Calls Tryz.prog 39 #[.slice a n c, .int .i64 k0] w fun e w' => e = .returned (.int .i64 (kt k0 (fun i => cF (d i)) n)) ∧ Below w.heap.size w w' := by
  have KL : Hid (∀ j, j ≤ n → k0 ≤ kt k0 (fun i => cF (d i)) j ∧ kt k0 (fun i => cF (d i)) j ≤ k0 + ((1048576 * 1048578 : Nat) : Int)) := fun j hj => by
    have h1 := kt_le (k0 := k0) (c := fun i => cF (d i)) (C := 1048578) hj (fun i hi => by have := hx i hi; unfold cF; omega)
    have h2 : n * 1048578 ≤ 1048576 * 1048578 := Nat.mul_le_mul_right _ hn
    exact ⟨h1.1, Int.le_trans h1.2 (by omega)⟩
  have ha := hF.fr hn (fun i hi => by simp only [mF, mki_length]; exact hx i hi)
  have HX : Hid (∀ i, i < n → (d i).xs.length ≤ 1048576) := hx
  clear hx hF
  go_enter Tryz.func39, Tryz.ntmps39
  go_wp2
  go_loopw [1, 5] (fun q i wr => ∃ j : Nat, j ≤ n ∧ i = .int .i64 j ∧ q = .int .i64 (kt k0 (fun i => cF (d i)) j) ∧ Below w.heap.size w wr) (fun _ i _ => n - (intOf i).toNat)
  case atStart => exact ⟨0, Nat.zero_le _, rfl, by rw [kt_zero], Below.refl _ _⟩
  case round =>
    obtain ⟨j, hj, rfl, rfl, hB⟩ := hrel
    obtain ⟨k, hk⟩ : ∃ k, kt k0 (fun i => cF (d i)) j = k := ⟨_, rfl⟩
    have hkb := KL.out j hj
    rw [hk] at hkb
    obtain ⟨hk0, hk1⟩ := hkb
    have HKj : Hid (kt k0 (fun i => cF (d i)) j = k) := hk
    rw [hk]
    clear hk
    by_cases hlt : j < n
    · have hi' : (j : Int) < (n : Int) := by omega
      have har := ha.below hB
      obtain ⟨b, off, rfl, y0, y1, y2⟩ := har.at hlt
      have hr := har.2.2 j hlt
      have hL := HX.out j hlt
      obtain ⟨L, eL⟩ : ∃ L, (d j).xs.length = L := ⟨_, rfl⟩
      have HL : Hid ((d j).xs.length = L) := eL
      simp only [HKj.out, mF, mki_length, eL] at y0 y1 y2 hr
      rw [eL] at hL
      have hd : decide (k + 1 + (L : Int) < 0) = false := by simp; omega
      clear har eL ha
      go_wp2_with fail
      refine (heldIntS_any _ _ L (k + 1) _ (by omega) (by omega) hr).mono ?_
      rintro e w1 ⟨rfl, h⟩
      subst h
      go_wp2
      go_roundw
      case rel =>
        refine ⟨j + 1, by omega, by go_num, ?_, hB⟩
        have := kt_succ k0 (fun i => cF (d i)) j
        rw [HKj.out] at this
        rw [this]
        have e2 : cF (d j) = 2 + L := by unfold cF; rw [HL.out]
        simp only [e2]
        congr 1
        omega
      case measure => simp [intOf]; omega
    · have : j = n := by omega
      subst this
      clear ha
      go_wp2
      go_ret
      exact ⟨ret_int HKj.out.symm, hB⟩

set_option maxRecDepth 100000 in
set_option maxHeartbeats 2000000 in
theorem heldHomeS_all (n : Nat) (a : Option Addr) (c : Nat) (d : Nat → HD) (p : Nat → HP) (k0 : Int) (w : World) (h0 : 0 ≤ k0) (h1 : k0 ≤ 1000000000000000000) (hn : n ≤ 1048576) (hx : ∀ i, i < n → (d i).xs.length ≤ 1048576 ∧ (d i).bs.length ≤ 1048576 ∧ (d i).ws.length ≤ 1048576) (hF : HOw w a c n (fun i => mHo (kt k0 (fun i => cH (d i)) i) (d i)) p) :
    Calls Tryz.prog 40 #[.slice a n c, .int .i64 k0] w fun e w' => e = .returned (.int .i64 (kt k0 (fun i => cH (d i)) n)) ∧ Below w.heap.size w w' := by
  have KL : Hid (∀ j, j ≤ n → k0 ≤ kt k0 (fun i => cH (d i)) j ∧ kt k0 (fun i => cH (d i)) j ≤ k0 + ((1048576 * 4194309 : Nat) : Int)) := fun j hj => by
    have h1 := kt_le (k0 := k0) (c := fun i => cH (d i)) (C := 4194309) hj (fun i hi => by have := hx i hi; unfold cH; omega)
    have h2 : n * 4194309 ≤ 1048576 * 4194309 := Nat.mul_le_mul_right _ hn
    exact ⟨h1.1, Int.le_trans h1.2 (by omega)⟩
  have ha := hF.hr hn (fun i hi => by simp only [mHo, mki_length, mkb_length, mkw_length]; exact hx i hi)
  have HX : Hid (∀ i, i < n → (d i).xs.length ≤ 1048576 ∧ (d i).bs.length ≤ 1048576 ∧ (d i).ws.length ≤ 1048576) := hx
  clear hx hF
  go_enter Tryz.func40, Tryz.ntmps40
  go_wp2
  go_loopw [1, 5] (fun q i wr => ∃ j : Nat, j ≤ n ∧ i = .int .i64 j ∧ q = .int .i64 (kt k0 (fun i => cH (d i)) j) ∧ Below w.heap.size w wr) (fun _ i _ => n - (intOf i).toNat)
  case atStart => exact ⟨0, Nat.zero_le _, rfl, by rw [kt_zero], Below.refl _ _⟩
  case round =>
    obtain ⟨j, hj, rfl, rfl, hB⟩ := hrel
    obtain ⟨k, hk⟩ : ∃ k, kt k0 (fun i => cH (d i)) j = k := ⟨_, rfl⟩
    have hkb := KL.out j hj
    rw [hk] at hkb
    obtain ⟨hk0, hk1⟩ := hkb
    have HKj : Hid (kt k0 (fun i => cH (d i)) j = k) := hk
    rw [hk]
    clear hk
    by_cases hlt : j < n
    · have hi' : (j : Int) < (n : Int) := by omega
      have har := ha.below hB
      obtain ⟨b, off, rfl, y0, y1, y2, y3, y4, y5, y6, y7⟩ := har.at hlt
      obtain ⟨hr, hrb, hrw⟩ := har.2.2 j hlt
      obtain ⟨hL, hR, hW⟩ := HX.out j hlt
      obtain ⟨L, eL⟩ : ∃ L, (d j).xs.length = L := ⟨_, rfl⟩
      obtain ⟨R, eR⟩ : ∃ L, (d j).bs.length = L := ⟨_, rfl⟩
      obtain ⟨W, eW⟩ : ∃ L, (d j).ws.length = L := ⟨_, rfl⟩
      have E : Hid ((d j).xs.length = L ∧ (d j).bs.length = R ∧ (d j).ws.length = W) := ⟨eL, eR, eW⟩
      simp only [HKj.out, mHo, mki_length, mkb_length, mkw_length, eL, eR, eW] at y0 y1 y2 y3 y4 y5 y6 y7 hr hrb hrw
      rw [eL] at hL
      rw [eR] at hR
      rw [eW] at hW
      have hd : decide (k + (L : Int) < 0) = false := by simp; omega
      clear har eL eR eW ha
      go_wp2_with fail
      refine (heldIntS_any _ _ L k _ (by omega) (by omega) hr).mono ?_
      rintro e w1 ⟨rfl, h⟩
      subst h
      have hd2 : decide (k + (L : Int) + 1 + R < 0) = false := by simp; omega
      go_wp2_with fail
      refine (heldBoolS_any _ _ R (k + L + 1) _ (by omega) (by omega) hrb).mono ?_
      rintro e w1 ⟨rfl, dd, h⟩
      subst h
      have hd3 : decide (k + (L : Int) + 1 + R + 1 + 1 + 1 + 1 + 2 * (W : Int) < 0) = false := by simp; omega
      go_wp2_with fail
      refine (heldWaitS_any _ _ W (k + L + 1 + R + 1 + 1 + 1 + 1) _ (by omega) (by omega) (by omega) (hrw.below (below_drewN (Below.refl _ _) dd))).mono ?_
      rintro e w2 ⟨rfl, b2⟩
      have hB2 := bel_trans (below_drewN hB dd) b2
      clear y0 y1 y2 y3 y4 y5 y6 y7 hr hrb hrw b2 hB
      go_wp2
      go_roundw
      case rel =>
        refine ⟨j + 1, by omega, by go_num, ?_, hB2⟩
        have := kt_succ k0 (fun i => cH (d i)) j
        rw [HKj.out] at this
        rw [this]
        have e2 : cH (d j) = 5 + L + R + 2 * W := by unfold cH; rw [E.out.1, E.out.2.1, E.out.2.2]
        simp only [e2]
        congr 1
        omega
      case measure => simp [intOf]; omega
    · have : j = n := by omega
      subst this
      clear ha
      go_wp2
      go_ret
      exact ⟨ret_int HKj.out.symm, hB⟩

set_option maxRecDepth 100000 in
set_option maxHeartbeats 1000000 in
theorem heldSenderS_all (n : Nat) (a : Option Addr) (c : Nat) (p : Nat → Pl) (ms : Nat → List M) (k0 : Int) (w : World) (h0 : 0 ≤ k0) (h1 : k0 ≤ 1000000000000000000) (hn : n ≤ 1048576) (hx : ∀ i, i < n → (ms i).length ≤ 1048577 ∧ ∀ m ∈ ms i, m.xs.length ≤ 1048577) (hF : SO w a c n (fun i => kt k0 (fun i => cS (ms i)) i) p (fun i => markMs (kt k0 (fun i => cS (ms i)) i + 1) (ms i))) :
    Calls Tryz.prog 41 #[.slice a n c, .int .i64 k0] w fun e w' => e = .returned (.int .i64 (kt k0 (fun i => cS (ms i)) n)) ∧ Below w.heap.size w w' := by
  have KL : Hid (∀ j, j ≤ n → k0 ≤ kt k0 (fun i => cS (ms i)) j ∧ kt k0 (fun i => cS (ms i)) j ≤ k0 + 1152929300000000000) := fun j hj => by
    have h1 := kt_le (k0 := k0) (c := fun i => cS (ms i)) (C := 1 + 1048577 * (3 + 1048577)) hj (fun i hi => by
      have h2 := mlen_le (hx i hi).2
      have h3 := Nat.mul_le_mul_right (3 + 1048577) (hx i hi).1
      unfold cS
      omega)
    have h2 : n * (1 + 1048577 * (3 + 1048577)) ≤ 1048576 * (1 + 1048577 * (3 + 1048577)) := Nat.mul_le_mul_right _ hn
    exact ⟨h1.1, Int.le_trans h1.2 (by omega)⟩
  have HX : Hid (∀ i, i < n → (ms i).length ≤ 1048577 ∧ ∀ m ∈ ms i, m.xs.length ≤ 1048577) := hx
  clear hx
  go_enter Tryz.func41, Tryz.ntmps41
  go_wp2
  go_loopw [1, 5] (fun q i wr => ∃ j : Nat, j ≤ n ∧ i = .int .i64 j ∧ q = .int .i64 (kt k0 (fun i => cS (ms i)) j) ∧ SO wr a c n (fun i => kt k0 (fun i => cS (ms i)) i) p (fun i => markMs (kt k0 (fun i => cS (ms i)) i + 1) (ms i)) ∧ Below w.heap.size w wr) (fun _ i _ => n - (intOf i).toNat)
  case atStart => exact ⟨0, Nat.zero_le _, rfl, by rw [kt_zero], hF, Below.refl _ _⟩
  case round =>
    obtain ⟨j, hj, rfl, rfl, hH, hB⟩ := hrel
    obtain ⟨k, hk⟩ : ∃ k, kt k0 (fun i => cS (ms i)) j = k := ⟨_, rfl⟩
    have hkb := KL.out j hj
    rw [hk] at hkb
    obtain ⟨hk0, hk1⟩ := hkb
    have HKj : Hid (kt k0 (fun i => cS (ms i)) j = k) := hk
    rw [hk]
    clear hk
    by_cases hlt : j < n
    · have hi' : (j : Int) < (n : Int) := by omega
      obtain ⟨g, rfl⟩ := owns_addr hH.row (by omega)
      have cc : ∀ t, t < 2 → wr.cell? ⟨g, j * 2 + t, none⟩ = (scells k (p j) (ms j).length)[t]? := fun t ht => by
        have := owns_chunk hH.row (fun i _ => rfl) hlt ht
        simp only [HKj.out, markMs_length] at this
        exact this
      have c0 : wr.cell? ⟨g, j * 2, none⟩ = some (.int .i64 k) := by have := cc 0 (by decide); simpa [scells] using this
      have c1 : wr.cell? ⟨g, j * 2 + 1, none⟩ = some (.slice (p j).1 (ms j).length (p j).2) := by have := cc 1 (by decide); simpa [scells] using this
      have oD : Deep wr 0 (p j).1 (p j).2 (markMs (k + 1) (ms j)) := by
        have h := hH.el j hlt
        simp only [HKj.out, ES] at h
        exact h
      obtain ⟨hxa, hxb⟩ := HX.out j hlt
      have HL : Hid (markEnd (k + 1) (ms j) = kt k0 (fun i => cS (ms i)) (j + 1)) := by
        show _ = _
        rw [markEnd_eq, kt_succ, HKj.out]
        unfold cS
        omega
      obtain ⟨k', hk'⟩ : ∃ k', kt k0 (fun i => cS (ms i)) (j + 1) = k' := ⟨_, rfl⟩
      have hd : decide (k' < 0) = false := by have := (KL.out (j + 1) hlt).1; rw [hk'] at this; simp; omega
      have HK' : Hid (kt k0 (fun i => cS (ms i)) (j + 1) = k') := hk'
      have HH : Hid (SO wr (some ⟨g, 0, none⟩) c n (fun i => kt k0 (fun i => cS (ms i)) i) p (fun i => markMs (kt k0 (fun i => cS (ms i)) i + 1) (ms i))) := hH
      clear hH hF cc hk'
      go_wp2_with fail
      refine (heldMsgS_any 0 (p j).1 (p j).2 (ms j) (k + 1) _ (by omega) (by omega) hxa hxb oD).mono ?_
      rintro e w2 ⟨rfl, b2⟩
      have R : Hid (SO w2 (some ⟨g, 0, none⟩) c n (fun i => kt k0 (fun i => cS (ms i)) i) p (fun i => markMs (kt k0 (fun i => cS (ms i)) i + 1) (ms i))) := HH.out.below b2
      have hB2 := bel_trans hB b2
      rw [HL.out, HK'.out]
      clear c0 c1 oD hxa hxb b2 hB
      go_wp2
      go_roundw
      case rel => exact ⟨j + 1, by omega, by go_num, by rw [HK'.out], R.out, hB2⟩
      case measure => simp [intOf]; omega
    · have : j = n := by omega
      subst this
      clear hH hF
      go_wp2
      go_ret
      exact ⟨ret_int HKj.out.symm, hB⟩
end Go.Proofs.YtcneocbadobcfaaGreat

/- What the law's markNode and heldNode do at any owned node. -/
namespace Go.Proofs.YtcneocbadobcfaaGreat
open Go.RowKit
set_option linter.unusedVariables false

def kn1 (k0 : Int) (d : ND) : Int := kt k0 (fun i => cF (d.f i)) d.nf
def kn2 (k0 : Int) (d : ND) : Int := kt (kn1 k0 d) (fun i => cH (d.h i)) d.nh
def kn3 (k0 : Int) (d : ND) (p : NP) : Int := kt (kn2 k0 d) (fun i => cS (p.ms i)) d.no
def kEnd (k0 : Int) (d : ND) (p : NP) : Int := kn3 k0 d p + d.ni

/-- A marked node. -/
structure MkN (w : World) (k0 : Int) (d : ND) (p : NP) : Prop where
  f : FO w p.f.1 p.f.2 d.nf (fun i => mF (kt k0 (fun i => cF (d.f i)) i) (d.f i)) p.fp
  h : HOw w p.h.1 p.h.2 d.nh (fun i => mHo (kt (kn1 k0 d) (fun i => cH (d.h i)) i) (d.h i)) p.hp
  o : SO w p.o.1 p.o.2 d.no (fun i => kt (kn2 k0 d) (fun i => cS (p.ms i)) i) p.op (fun i => markMs (kt (kn2 k0 d) (fun i => cS (p.ms i)) i + 1) (p.ms i))
  i : w.ownsRow 0 100 1 (.slice p.i.1 d.ni p.i.2) d.ni (chunks d.ni (mg (kn3 k0 d p)))
theorem MkN.below {w w' : World} {k0 : Int} {d : ND} {p : NP} (h : MkN w k0 d p) (b : Below w.heap.size w w') : MkN w' k0 d p := ⟨h.f.below b, h.h.below b, h.o.below b, owns_below h.i b⟩

theorem kn_le {d : ND} {p : NP} (s : Nsm d) (hm : ∀ i, i < d.no → (p.ms i).length ≤ 1048577 ∧ ∀ m ∈ p.ms i, m.xs.length ≤ 1048577) :
    (1 ≤ kn1 1 d ∧ kn1 1 d ≤ 2000000000000) ∧ (1 ≤ kn2 1 d ∧ kn2 1 d ≤ 9000000000000) ∧ (1 ≤ kn3 1 d p ∧ kn3 1 d p ≤ 1153000000000000000) ∧ 1 ≤ kEnd 1 d p := by
  have h1 := kt_le (k0 := 1) (c := fun i => cF (d.f i)) (C := 1048578) (Nat.le_refl d.nf) (fun i hi => by have := s.f.2 i hi; unfold cF; omega)
  have g1 : d.nf * 1048578 ≤ 1048576 * 1048578 := Nat.mul_le_mul_right _ s.f.1
  have h2 := kt_le (k0 := kn1 1 d) (c := fun i => cH (d.h i)) (C := 4194309) (Nat.le_refl d.nh) (fun i hi => by have := s.h.2 i hi; unfold cH; omega)
  have g2 : d.nh * 4194309 ≤ 1048576 * 4194309 := Nat.mul_le_mul_right _ s.h.1
  have h3 := kt_le (k0 := kn2 1 d) (c := fun i => cS (p.ms i)) (C := 1 + 1048577 * (3 + 1048577)) (Nat.le_refl d.no) (fun i hi => by
      have h2 := mlen_le (hm i hi).2
      have h3 := Nat.mul_le_mul_right (3 + 1048577) (hm i hi).1
      unfold cS
      omega)
  have g3 : d.no * (1 + 1048577 * (3 + 1048577)) ≤ 1048576 * (1 + 1048577 * (3 + 1048577)) := Nat.mul_le_mul_right _ s.o.1
  have e1 : kn1 1 d = kt 1 (fun i => cF (d.f i)) d.nf := rfl
  have e2 : kn2 1 d = kt (kn1 1 d) (fun i => cH (d.h i)) d.nh := rfl
  have e3 : kn3 1 d p = kt (kn2 1 d) (fun i => cS (p.ms i)) d.no := rfl
  have e4 : kEnd 1 d p = kn3 1 d p + d.ni := rfl
  omega

theorem NOw.msm {w : World} {d : ND} {p : NP} (h : NOw w d p) (s : Nsm d) : ∀ i, i < d.no → (p.ms i).length ≤ 1048577 ∧ ∀ m ∈ p.ms i, m.xs.length ≤ 1048577 := fun i hi => by
  have h1 := s.o.2 i hi
  have h2 := h.e i hi
  refine ⟨?_, fun m hm => ?_⟩
  · have := congrArg List.length h2
    rw [List.length_map] at this
    omega
  · have h3 : m.say ∈ d.y i := by rw [← h2]; exact List.mem_map_of_mem hm
    have := h1.2 _ h3
    simp only [M.say] at this
    omega

set_option maxRecDepth 100000 in
set_option maxHeartbeats 4000000 in
theorem markNode_all (d : ND) (p : NP) (w : World) (hs : Nsm d) (hN : NOw w d p) :
    Calls Tryz.prog 9 #[.agg (ncells d p), .int .i64 1] w fun e w' => e = .returned (.int .i64 (kEnd 1 d p)) ∧ MkN w' 1 d p ∧ Only w w' (NBs d p) := by
  have bA := bel_alloc (Below.refl w.heap.size w) (.cells (ncells d p) 34)
  have X := Box.new w (ncells d p) 34
  have HNB : Hid (∀ j, NBs d p j → j < w.heap.size) := fun j hj => hN.lt hj
  have HN : Hid (NOw w d p) := hN
  have HSm : Hid (Nsm d) := hs
  have hm := hN.msm hs
  have HM : Hid (∀ i, i < d.no → (p.ms i).length ≤ 1048577 ∧ ∀ m ∈ p.ms i, m.xs.length ≤ 1048577) := hm
  obtain ⟨⟨a1, a2⟩, ⟨a3, a4⟩, ⟨a5, a6⟩, a7⟩ := kn_le hs hm
  have hNb := hN.below bA
  have qf := hNb.f
  have qh := hNb.h
  have qo := hNb.o
  have qi := hNb.i
  clear hN hs hm hNb
  go_enter Tryz.func9, Tryz.ntmps9
  go_wp2_with fail
  refine (markFrameS_all (RS p.f.1 p.f.2 d.nf (fun i => QF (p.fp i))) d.nf p.f.1 p.f.2 d.f p.fp 1 _ (by omega) (by omega) HSm.out.f.1 HSm.out.f.2 qf (fun b hb => hb)).mono ?_
  rintro e w1 ⟨rfl, pf, g1⟩
  replace qh := Rw.sm qh (g1.sm (fun b hb hs => HN.out.fh b hs hb))
  replace qo := Rw.sm qo (g1.sm (fun b hb hs => HN.out.fo b hs hb))
  replace qi := qi.sm (P := fun b => blk p.i = some b) (g1.sm (fun b hb hs => HN.out.fi b hs hb)) (fun b hb => hb)
  replace X := X.only g1 (fun hb => by have := HNB.out _ (.inl hb); omega)
  have K := (Only.of (S := NBs d p) bA (Only.refl _ _)).trans (g1.more (fun b hb => .inl hb))
  clear g1 qf bA
  obtain ⟨x0, x1, x2, x3, x4, zx⟩ := X.at5
  rw [show kt 1 (fun i => cF (d.f i)) d.nf = kn1 1 d from rfl]
  go_wp2_with fail
  refine (markHomeS_all (RS p.h.1 p.h.2 d.nh (fun i => QH (p.hp i))) d.nh p.h.1 p.h.2 d.h p.hp (kn1 1 d) _ (by omega) (by omega) HSm.out.h.1 HSm.out.h.2 qh (fun b hb => hb)).mono ?_
  rintro e w2 ⟨rfl, ph, g2⟩
  replace pf := Rw.sm pf (g2.sm (fun b hb hs => HN.out.fh b hb hs))
  replace qo := Rw.sm qo (g2.sm (fun b hb hs => HN.out.ho b hs hb))
  replace qi := qi.sm (P := fun b => blk p.i = some b) (g2.sm (fun b hb hs => HN.out.hi b hs hb)) (fun b hb => hb)
  replace X := X.only g2 (fun hb => by have := HNB.out _ (.inr (.inl hb)); omega)
  replace K := K.trans (g2.more (fun b hb => .inr (.inl hb)))
  clear g2 qh x0 x1 x2 x3 x4 zx
  obtain ⟨x0, x1, x2, x3, x4, zx⟩ := X.at5
  rw [show kt (kn1 1 d) (fun i => cH (d.h i)) d.nh = kn2 1 d from rfl]
  go_wp2_with fail
  refine (markSenderS_all (RS p.o.1 p.o.2 d.no (fun i => QS (p.op i) (p.ms i))) d.no p.o.1 p.o.2 d.b p.op p.ms (kn2 1 d) _ (by omega) (by omega) HSm.out.o.1 HM.out qo (fun b hb => hb)).mono ?_
  rintro e w3 ⟨rfl, po, g3⟩
  replace pf := Rw.sm pf (g3.sm (fun b hb hs => HN.out.fo b hb hs))
  replace ph := Rw.sm ph (g3.sm (fun b hb hs => HN.out.ho b hb hs))
  replace qi := qi.sm (P := fun b => blk p.i = some b) (g3.sm (fun b hb hs => HN.out.oi b hs hb)) (fun b hb => hb)
  replace X := X.only g3 (fun hb => by have := HNB.out _ (.inr (.inr (.inl hb))); omega)
  replace K := K.trans (g3.more (fun b hb => .inr (.inr (.inl hb))))
  clear g3 qo x0 x1 x2 x3 x4 zx
  obtain ⟨x0, x1, x2, x3, x4, zx⟩ := X.at5
  rw [show kt (kn2 1 d) (fun i => cS (p.ms i)) d.no = kn3 1 d p from rfl]
  have hni : d.ni ≤ 1048577 := by have := HSm.out.i; omega
  go_wp2_with fail
  refine (markReceiverS_any 0 d.ni p.i.1 p.i.2 d.g (kn3 1 d p) _ (by omega) (by omega) hni qi).mono ?_
  rintro e w4 ⟨rfl, pi, g4⟩
  have G4 : Only w3 w4 (fun b => blk p.i = some b) := (Only.refl _ _).grown g4 (fun j hj => blk_eq hj)
  replace pf := Rw.sm pf (G4.sm (fun b hb hs => HN.out.fi b hb hs))
  replace ph := Rw.sm ph (G4.sm (fun b hb hs => HN.out.hi b hb hs))
  replace po := Rw.sm po (G4.sm (fun b hb hs => HN.out.oi b (by
    rcases hb with hb | ⟨i, hi, hb⟩
    · exact .inl hb
    · rw [QS_mark] at hb
      exact .inr ⟨i, hi, hb⟩) hs))
  replace K := K.trans (G4.more (fun b hb => .inr (.inr (.inr hb))))
  clear g4 G4 qi x0 x1 x2 x3 x4 zx X
  have R : Hid (MkN w4 1 d p) := ⟨pf, ph, po, pi⟩
  clear pf ph po pi
  go_wp2
  go_ret
  exact ⟨ret_int rfl, R.out, K⟩

set_option maxRecDepth 100000 in
set_option maxHeartbeats 4000000 in
theorem heldNode_all (d : ND) (p : NP) (w : World) (hs : Nsm d) (hm : ∀ i, i < d.no → (p.ms i).length ≤ 1048577 ∧ ∀ m ∈ p.ms i, m.xs.length ≤ 1048577) (hN : MkN w 1 d p) :
    Calls Tryz.prog 10 #[.agg (ncells d p), .int .i64 1] w fun e w' => e = .returned (.int .i64 (kEnd 1 d p)) ∧ Below w.heap.size w w' := by
  have bA := bel_alloc (Below.refl w.heap.size w) (.cells (ncells d p) 34)
  have X := Box.new w (ncells d p) 34
  have HSm : Hid (Nsm d) := hs
  have HM : Hid (∀ i, i < d.no → (p.ms i).length ≤ 1048577 ∧ ∀ m ∈ p.ms i, m.xs.length ≤ 1048577) := hm
  obtain ⟨⟨a1, a2⟩, ⟨a3, a4⟩, ⟨a5, a6⟩, a7⟩ := kn_le hs hm
  have hni : d.ni ≤ 1048577 := by have := hs.i; omega
  replace hN := hN.below bA
  have q1 : decide (kn1 1 d < 0) = false := by simp; omega
  have q2 : decide (kn2 1 d < 0) = false := by simp; omega
  have q3 : decide (kn3 1 d p < 0) = false := by simp; omega
  have q4 : decide (kn3 1 d p + (d.ni : Int) < 0) = false := by simp; omega
  clear hs hm
  go_enter Tryz.func10, Tryz.ntmps10
  go_wp2_with fail
  refine (heldFrameS_all d.nf p.f.1 p.f.2 d.f p.fp 1 _ (by omega) (by omega) HSm.out.f.1 HSm.out.f.2 hN.f).mono ?_
  rintro e w1 ⟨rfl, b1⟩
  replace hN := hN.below b1
  replace X := X.below b1
  replace bA := bel_trans bA b1
  clear b1
  obtain ⟨x0, x1, x2, x3, x4, zx⟩ := X.at5
  rw [show kt 1 (fun i => cF (d.f i)) d.nf = kn1 1 d from rfl]
  go_wp2_with fail
  refine (heldHomeS_all d.nh p.h.1 p.h.2 d.h p.hp (kn1 1 d) _ (by omega) (by omega) HSm.out.h.1 HSm.out.h.2 hN.h).mono ?_
  rintro e w2 ⟨rfl, b1⟩
  replace hN := hN.below b1
  replace X := X.below b1
  replace bA := bel_trans bA b1
  clear b1 x0 x1 x2 x3 x4 zx
  obtain ⟨x0, x1, x2, x3, x4, zx⟩ := X.at5
  rw [show kt (kn1 1 d) (fun i => cH (d.h i)) d.nh = kn2 1 d from rfl]
  go_wp2_with fail
  refine (heldSenderS_all d.no p.o.1 p.o.2 p.op p.ms (kn2 1 d) _ (by omega) (by omega) HSm.out.o.1 HM.out hN.o).mono ?_
  rintro e w3 ⟨rfl, b1⟩
  replace hN := hN.below b1
  replace X := X.below b1
  replace bA := bel_trans bA b1
  clear b1 x0 x1 x2 x3 x4 zx
  obtain ⟨x0, x1, x2, x3, x4, zx⟩ := X.at5
  rw [show kt (kn2 1 d) (fun i => cS (p.ms i)) d.no = kn3 1 d p from rfl]
  have vi : VRow w3 p.i.1 (chunks d.ni (mg (kn3 1 d p))) := owns_vrow' hN.i (by rw [chunks_length (s := 1) d.ni (fun i _ => rfl)]; omega)
  go_wp2_with fail
  refine (heldReceiverS_any d.ni p.i.1 p.i.2 (kn3 1 d p) _ (by omega) (by omega) hni vi).mono ?_
  rintro e w4 ⟨rfl, h⟩
  subst h
  clear vi hN x0 x1 x2 x3 x4 zx X
  go_wp2
  go_ret
  exact ⟨ret_int rfl, bA⟩
end Go.Proofs.YtcneocbadobcfaaGreat
