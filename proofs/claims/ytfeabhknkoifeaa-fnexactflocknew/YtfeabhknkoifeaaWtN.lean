/- WtD and WtN: see the heads of the parts. -/
import Derived.Test.YtfeabhknkoifeaaWtH
import Derived.Test.YtfeabhknkoifeaaWtS
/- What the law's heldFrameS, heldHomeS and heldSenderS do at marked rows. -/
namespace Go.Proofs.Ytfeabhknkoifeaa
open Go.RowKit
set_option linter.unusedVariables false

set_option maxRecDepth 100000 in
set_option maxHeartbeats 1000000 in
theorem heldFrameS_all (n : Nat) (a : Option Addr) (c : Nat) (d : Nat → FD) (p : Nat → Pl) (k0 : Int) (w : World) (h0 : 0 ≤ k0) (h1 : k0 ≤ 1000000000000000000) (hn : n ≤ 1048576) (hx : ∀ i, i < n → (d i).xs.length ≤ 1048576) (hF : FO w a c n (fun i => mF (kt k0 (fun i => cF (d i)) i) (d i)) p) :
    Calls Try.prog 54 #[.slice a n c, .int .i64 k0] w fun e w' => e = .returned (.int .i64 (kt k0 (fun i => cF (d i)) n)) ∧ Below w.heap.size w w' := by
  have KL : Hid (∀ j, j ≤ n → k0 ≤ kt k0 (fun i => cF (d i)) j ∧ kt k0 (fun i => cF (d i)) j ≤ k0 + ((1048576 * 1048578 : Nat) : Int)) := fun j hj => by
    have h1 := kt_le (k0 := k0) (c := fun i => cF (d i)) (C := 1048578) hj (fun i hi => by have := hx i hi; unfold cF; omega)
    have h2 : n * 1048578 ≤ 1048576 * 1048578 := Nat.mul_le_mul_right _ hn
    exact ⟨h1.1, Int.le_trans h1.2 (by omega)⟩
  have ha := hF.fr hn (fun i hi => by simp only [mF, mki_length]; exact hx i hi)
  have HX : Hid (∀ i, i < n → (d i).xs.length ≤ 1048576) := hx
  clear hx hF
  go_enter Try.func54, Try.ntmps54
  go_wp2
  go_loopw [1, 5] (fun q i wr => ∃ j : Nat, j ≤ n ∧ i = .int .i64 j ∧ q = .int .i64 (kt k0 (fun i => cF (d i)) j) ∧ Below w.heap.size w wr) (fun _ i _ => n - (intOf i).toNat)
  case atStart => exact ⟨0, Nat.zero_le _, rfl, by rw [kt_zero], Below.refl _ _⟩
  case round =>
    obtain ⟨j, hj, rfl, rfl, hB⟩ := hrel
    obtain ⟨k, hk⟩ : ∃ k, kt k0 (fun i => cF (d i)) j = k := ⟨_, rfl⟩
    have hkb := KL.out j hj
    rw [hk] at hkb
    obtain ⟨hk0, hk1⟩ := hkb
    have HKj : Hid (kt k0 (fun i => cF (d i)) j = k) := hk
    rw [hk]
    clear hk
    by_cases hlt : j < n
    · have hi' : (j : Int) < (n : Int) := by omega
      have har := ha.below hB
      obtain ⟨b, off, rfl, y0, y1, y2⟩ := har.at hlt
      have hr := har.2.2 j hlt
      have hL := HX.out j hlt
      obtain ⟨L, eL⟩ : ∃ L, (d j).xs.length = L := ⟨_, rfl⟩
      have HL : Hid ((d j).xs.length = L) := eL
      simp only [HKj.out, mF, mki_length, eL] at y0 y1 y2 hr
      rw [eL] at hL
      have hd : decide (k + 1 + (L : Int) < 0) = false := by simp; omega
      clear har eL ha
      go_wp2_with fail
      refine (heldIntS_any _ _ L (k + 1) _ (by omega) (by omega) hr).mono ?_
      rintro e w1 ⟨rfl, h⟩
      subst h
      go_wp2
      go_roundw
      case rel =>
        refine ⟨j + 1, by omega, by go_num, ?_, hB⟩
        have := kt_succ k0 (fun i => cF (d i)) j
        rw [HKj.out] at this
        rw [this]
        have e2 : cF (d j) = 2 + L := by unfold cF; rw [HL.out]
        simp only [e2]
        congr 1
        omega
      case measure => simp [intOf]; omega
    · have : j = n := by omega
      subst this
      clear ha
      go_wp2
      go_ret
      exact ⟨ret_int HKj.out.symm, hB⟩

set_option maxRecDepth 100000 in
set_option maxHeartbeats 2000000 in
theorem heldHomeS_all (n : Nat) (a : Option Addr) (c : Nat) (d : Nat → HD) (p : Nat → HP) (k0 : Int) (w : World) (h0 : 0 ≤ k0) (h1 : k0 ≤ 1000000000000000000) (hn : n ≤ 1048576) (hx : ∀ i, i < n → (d i).xs.length ≤ 1048576 ∧ (d i).bs.length ≤ 1048576 ∧ (d i).ws.length ≤ 1048576) (hF : HOw w a c n (fun i => mHo (kt k0 (fun i => cH (d i)) i) (d i)) p) :
    Calls Try.prog 55 #[.slice a n c, .int .i64 k0] w fun e w' => e = .returned (.int .i64 (kt k0 (fun i => cH (d i)) n)) ∧ Below w.heap.size w w' := by
  have KL : Hid (∀ j, j ≤ n → k0 ≤ kt k0 (fun i => cH (d i)) j ∧ kt k0 (fun i => cH (d i)) j ≤ k0 + ((1048576 * 4194309 : Nat) : Int)) := fun j hj => by
    have h1 := kt_le (k0 := k0) (c := fun i => cH (d i)) (C := 4194309) hj (fun i hi => by have := hx i hi; unfold cH; omega)
    have h2 : n * 4194309 ≤ 1048576 * 4194309 := Nat.mul_le_mul_right _ hn
    exact ⟨h1.1, Int.le_trans h1.2 (by omega)⟩
  have ha := hF.hr hn (fun i hi => by simp only [mHo, mki_length, mkb_length, mkw_length]; exact hx i hi)
  have HX : Hid (∀ i, i < n → (d i).xs.length ≤ 1048576 ∧ (d i).bs.length ≤ 1048576 ∧ (d i).ws.length ≤ 1048576) := hx
  clear hx hF
  go_enter Try.func55, Try.ntmps55
  go_wp2
  go_loopw [1, 5] (fun q i wr => ∃ j : Nat, j ≤ n ∧ i = .int .i64 j ∧ q = .int .i64 (kt k0 (fun i => cH (d i)) j) ∧ Below w.heap.size w wr) (fun _ i _ => n - (intOf i).toNat)
  case atStart => exact ⟨0, Nat.zero_le _, rfl, by rw [kt_zero], Below.refl _ _⟩
  case round =>
    obtain ⟨j, hj, rfl, rfl, hB⟩ := hrel
    obtain ⟨k, hk⟩ : ∃ k, kt k0 (fun i => cH (d i)) j = k := ⟨_, rfl⟩
    have hkb := KL.out j hj
    rw [hk] at hkb
    obtain ⟨hk0, hk1⟩ := hkb
    have HKj : Hid (kt k0 (fun i => cH (d i)) j = k) := hk
    rw [hk]
    clear hk
    by_cases hlt : j < n
    · have hi' : (j : Int) < (n : Int) := by omega
      have har := ha.below hB
      obtain ⟨b, off, rfl, y0, y1, y2, y3, y4, y5, y6, y7⟩ := har.at hlt
      obtain ⟨hr, hrb, hrw⟩ := har.2.2 j hlt
      obtain ⟨hL, hR, hW⟩ := HX.out j hlt
      obtain ⟨L, eL⟩ : ∃ L, (d j).xs.length = L := ⟨_, rfl⟩
      obtain ⟨R, eR⟩ : ∃ L, (d j).bs.length = L := ⟨_, rfl⟩
      obtain ⟨W, eW⟩ : ∃ L, (d j).ws.length = L := ⟨_, rfl⟩
      have E : Hid ((d j).xs.length = L ∧ (d j).bs.length = R ∧ (d j).ws.length = W) := ⟨eL, eR, eW⟩
      simp only [HKj.out, mHo, mki_length, mkb_length, mkw_length, eL, eR, eW] at y0 y1 y2 y3 y4 y5 y6 y7 hr hrb hrw
      rw [eL] at hL
      rw [eR] at hR
      rw [eW] at hW
      have hd : decide (k + (L : Int) < 0) = false := by simp; omega
      clear har eL eR eW ha
      go_wp2_with fail
      refine (heldIntS_any _ _ L k _ (by omega) (by omega) hr).mono ?_
      rintro e w1 ⟨rfl, h⟩
      subst h
      have hd2 : decide (k + (L : Int) + 1 + R < 0) = false := by simp; omega
      go_wp2_with fail
      refine (heldBoolS_any _ _ R (k + L + 1) _ (by omega) (by omega) hrb).mono ?_
      rintro e w1 ⟨rfl, dd, h⟩
      subst h
      have hd3 : decide (k + (L : Int) + 1 + R + 1 + 1 + 1 + 1 + 2 * (W : Int) < 0) = false := by simp; omega
      go_wp2_with fail
      refine (heldWaitS_any _ _ W (k + L + 1 + R + 1 + 1 + 1 + 1) _ (by omega) (by omega) (by omega) (hrw.below (below_drewN (Below.refl _ _) dd))).mono ?_
      rintro e w2 ⟨rfl, b2⟩
      have hB2 := bel_trans (below_drewN hB dd) b2
      clear y0 y1 y2 y3 y4 y5 y6 y7 hr hrb hrw b2 hB
      go_wp2
      go_roundw
      case rel =>
        refine ⟨j + 1, by omega, by go_num, ?_, hB2⟩
        have := kt_succ k0 (fun i => cH (d i)) j
        rw [HKj.out] at this
        rw [this]
        have e2 : cH (d j) = 5 + L + R + 2 * W := by unfold cH; rw [E.out.1, E.out.2.1, E.out.2.2]
        simp only [e2]
        congr 1
        omega
      case measure => simp [intOf]; omega
    · have : j = n := by omega
      subst this
      clear ha
      go_wp2
      go_ret
      exact ⟨ret_int HKj.out.symm, hB⟩

set_option maxRecDepth 100000 in
set_option maxHeartbeats 1000000 in
theorem heldSenderS_all (n : Nat) (a : Option Addr) (c : Nat) (p : Nat → Pl) (ms : Nat → List M) (k0 : Int) (w : World) (h0 : 0 ≤ k0) (h1 : k0 ≤ 1000000000000000000) (hn : n ≤ 1048576) (hx : ∀ i, i < n → (ms i).length ≤ 1048577 ∧ ∀ m ∈ ms i, m.xs.length ≤ 1048577) (hF : SO w a c n (fun i => kt k0 (fun i => cS (ms i)) i) p (fun i => markMs (kt k0 (fun i => cS (ms i)) i + 1) (ms i))) :
    Calls Try.prog 56 #[.slice a n c, .int .i64 k0] w fun e w' => e = .returned (.int .i64 (kt k0 (fun i => cS (ms i)) n)) ∧ Below w.heap.size w w' := by
  have KL : Hid (∀ j, j ≤ n → k0 ≤ kt k0 (fun i => cS (ms i)) j ∧ kt k0 (fun i => cS (ms i)) j ≤ k0 + 1152929300000000000) := fun j hj => by
    have h1 := kt_le (k0 := k0) (c := fun i => cS (ms i)) (C := 1 + 1048577 * (3 + 1048577)) hj (fun i hi => by
      have h2 := mlen_le (hx i hi).2
      have h3 := Nat.mul_le_mul_right (3 + 1048577) (hx i hi).1
      unfold cS
      omega)
    have h2 : n * (1 + 1048577 * (3 + 1048577)) ≤ 1048576 * (1 + 1048577 * (3 + 1048577)) := Nat.mul_le_mul_right _ hn
    exact ⟨h1.1, Int.le_trans h1.2 (by omega)⟩
  have HX : Hid (∀ i, i < n → (ms i).length ≤ 1048577 ∧ ∀ m ∈ ms i, m.xs.length ≤ 1048577) := hx
  clear hx
  go_enter Try.func56, Try.ntmps56
  go_wp2
  go_loopw [1, 5] (fun q i wr => ∃ j : Nat, j ≤ n ∧ i = .int .i64 j ∧ q = .int .i64 (kt k0 (fun i => cS (ms i)) j) ∧ SO wr a c n (fun i => kt k0 (fun i => cS (ms i)) i) p (fun i => markMs (kt k0 (fun i => cS (ms i)) i + 1) (ms i)) ∧ Below w.heap.size w wr) (fun _ i _ => n - (intOf i).toNat)
  case atStart => exact ⟨0, Nat.zero_le _, rfl, by rw [kt_zero], hF, Below.refl _ _⟩
  case round =>
    obtain ⟨j, hj, rfl, rfl, hH, hB⟩ := hrel
    obtain ⟨k, hk⟩ : ∃ k, kt k0 (fun i => cS (ms i)) j = k := ⟨_, rfl⟩
    have hkb := KL.out j hj
    rw [hk] at hkb
    obtain ⟨hk0, hk1⟩ := hkb
    have HKj : Hid (kt k0 (fun i => cS (ms i)) j = k) := hk
    rw [hk]
    clear hk
    by_cases hlt : j < n
    · have hi' : (j : Int) < (n : Int) := by omega
      obtain ⟨g, rfl⟩ := owns_addr hH.row (by omega)
      have cc : ∀ t, t < 2 → wr.cell? ⟨g, j * 2 + t, none⟩ = (scells k (p j) (ms j).length)[t]? := fun t ht => by
        have := owns_chunk hH.row (fun i _ => rfl) hlt ht
        simp only [HKj.out, markMs_length] at this
        exact this
      have c0 : wr.cell? ⟨g, j * 2, none⟩ = some (.int .i64 k) := by have := cc 0 (by decide); simpa [scells] using this
      have c1 : wr.cell? ⟨g, j * 2 + 1, none⟩ = some (.slice (p j).1 (ms j).length (p j).2) := by have := cc 1 (by decide); simpa [scells] using this
      have oD : Deep wr 0 (p j).1 (p j).2 (markMs (k + 1) (ms j)) := by
        have h := hH.el j hlt
        simp only [HKj.out, ES] at h
        exact h
      obtain ⟨hxa, hxb⟩ := HX.out j hlt
      have HL : Hid (markEnd (k + 1) (ms j) = kt k0 (fun i => cS (ms i)) (j + 1)) := by
        show _ = _
        rw [markEnd_eq, kt_succ, HKj.out]
        unfold cS
        omega
      obtain ⟨k', hk'⟩ : ∃ k', kt k0 (fun i => cS (ms i)) (j + 1) = k' := ⟨_, rfl⟩
      have hd : decide (k' < 0) = false := by have := (KL.out (j + 1) hlt).1; rw [hk'] at this; simp; omega
      have HK' : Hid (kt k0 (fun i => cS (ms i)) (j + 1) = k') := hk'
      have HH : Hid (SO wr (some ⟨g, 0, none⟩) c n (fun i => kt k0 (fun i => cS (ms i)) i) p (fun i => markMs (kt k0 (fun i => cS (ms i)) i + 1) (ms i))) := hH
      clear hH hF cc hk'
      go_wp2_with fail
      refine (heldMsgS_any 0 (p j).1 (p j).2 (ms j) (k + 1) _ (by omega) (by omega) hxa hxb oD).mono ?_
      rintro e w2 ⟨rfl, b2⟩
      have R : Hid (SO w2 (some ⟨g, 0, none⟩) c n (fun i => kt k0 (fun i => cS (ms i)) i) p (fun i => markMs (kt k0 (fun i => cS (ms i)) i + 1) (ms i))) := HH.out.below b2
      have hB2 := bel_trans hB b2
      rw [HL.out, HK'.out]
      clear c0 c1 oD hxa hxb b2 hB
      go_wp2
      go_roundw
      case rel => exact ⟨j + 1, by omega, by go_num, by rw [HK'.out], R.out, hB2⟩
      case measure => simp [intOf]; omega
    · have : j = n := by omega
      subst this
      clear hH hF
      go_wp2
      go_ret
      exact ⟨ret_int HKj.out.symm, hB⟩
end Go.Proofs.Ytfeabhknkoifeaa

/- What the law's markNode and heldNode do at any owned node. -/
namespace Go.Proofs.Ytfeabhknkoifeaa
open Go.RowKit
set_option linter.unusedVariables false

def kn1 (k0 : Int) (d : ND) : Int := kt k0 (fun i => cF (d.f i)) d.nf
def kn2 (k0 : Int) (d : ND) : Int := kt (kn1 k0 d) (fun i => cH (d.h i)) d.nh
def kn3 (k0 : Int) (d : ND) (p : NP) : Int := kt (kn2 k0 d) (fun i => cS (p.ms i)) d.no
def kEnd (k0 : Int) (d : ND) (p : NP) : Int := kn3 k0 d p + d.ni

/-- A marked node. -/
structure MkN (w : World) (k0 : Int) (d : ND) (p : NP) : Prop where
  f : FO w p.f.1 p.f.2 d.nf (fun i => mF (kt k0 (fun i => cF (d.f i)) i) (d.f i)) p.fp
  h : HOw w p.h.1 p.h.2 d.nh (fun i => mHo (kt (kn1 k0 d) (fun i => cH (d.h i)) i) (d.h i)) p.hp
  o : SO w p.o.1 p.o.2 d.no (fun i => kt (kn2 k0 d) (fun i => cS (p.ms i)) i) p.op (fun i => markMs (kt (kn2 k0 d) (fun i => cS (p.ms i)) i + 1) (p.ms i))
  i : w.ownsRow 0 109 1 (.slice p.i.1 d.ni p.i.2) d.ni (chunks d.ni (mg (kn3 k0 d p)))
theorem MkN.below {w w' : World} {k0 : Int} {d : ND} {p : NP} (h : MkN w k0 d p) (b : Below w.heap.size w w') : MkN w' k0 d p := ⟨h.f.below b, h.h.below b, h.o.below b, owns_below h.i b⟩

theorem kn_le {d : ND} {p : NP} (s : Nsm d) (hm : ∀ i, i < d.no → (p.ms i).length ≤ 1048577 ∧ ∀ m ∈ p.ms i, m.xs.length ≤ 1048577) :
    (1 ≤ kn1 1 d ∧ kn1 1 d ≤ 2000000000000) ∧ (1 ≤ kn2 1 d ∧ kn2 1 d ≤ 9000000000000) ∧ (1 ≤ kn3 1 d p ∧ kn3 1 d p ≤ 1153000000000000000) ∧ 1 ≤ kEnd 1 d p := by
  have h1 := kt_le (k0 := 1) (c := fun i => cF (d.f i)) (C := 1048578) (Nat.le_refl d.nf) (fun i hi => by have := s.f.2 i hi; unfold cF; omega)
  have g1 : d.nf * 1048578 ≤ 1048576 * 1048578 := Nat.mul_le_mul_right _ s.f.1
  have h2 := kt_le (k0 := kn1 1 d) (c := fun i => cH (d.h i)) (C := 4194309) (Nat.le_refl d.nh) (fun i hi => by have := s.h.2 i hi; unfold cH; omega)
  have g2 : d.nh * 4194309 ≤ 1048576 * 4194309 := Nat.mul_le_mul_right _ s.h.1
  have h3 := kt_le (k0 := kn2 1 d) (c := fun i => cS (p.ms i)) (C := 1 + 1048577 * (3 + 1048577)) (Nat.le_refl d.no) (fun i hi => by
      have h2 := mlen_le (hm i hi).2
      have h3 := Nat.mul_le_mul_right (3 + 1048577) (hm i hi).1
      unfold cS
      omega)
  have g3 : d.no * (1 + 1048577 * (3 + 1048577)) ≤ 1048576 * (1 + 1048577 * (3 + 1048577)) := Nat.mul_le_mul_right _ s.o.1
  have e1 : kn1 1 d = kt 1 (fun i => cF (d.f i)) d.nf := rfl
  have e2 : kn2 1 d = kt (kn1 1 d) (fun i => cH (d.h i)) d.nh := rfl
  have e3 : kn3 1 d p = kt (kn2 1 d) (fun i => cS (p.ms i)) d.no := rfl
  have e4 : kEnd 1 d p = kn3 1 d p + d.ni := rfl
  omega

theorem NOw.msm {w : World} {d : ND} {p : NP} (h : NOw w d p) (s : Nsm d) : ∀ i, i < d.no → (p.ms i).length ≤ 1048577 ∧ ∀ m ∈ p.ms i, m.xs.length ≤ 1048577 := fun i hi => by
  have h1 := s.o.2 i hi
  have h2 := h.e i hi
  refine ⟨?_, fun m hm => ?_⟩
  · have := congrArg List.length h2
    rw [List.length_map] at this
    omega
  · have h3 : m.say ∈ d.y i := by rw [← h2]; exact List.mem_map_of_mem hm
    have := h1.2 _ h3
    simp only [M.say] at this
    omega


end Go.Proofs.Ytfeabhknkoifeaa
