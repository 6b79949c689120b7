/- WtM and WtS: see the heads of the parts. -/
import Derived.Test.YtfeabhknkoifeaaWtR
import Derived.Test.YtfeabhknkoifeaaMark2
/- What the law's markWaitS, markFrameS, markSenderS and the like of 'held' do at any owned rows. -/
namespace Go.Proofs.Ytfeabhknkoifeaa
open Go.RowKit
set_option linter.unusedVariables false

/-- What is marked: so many who wait, counted on from k. -/
def mkw (k : Int) (n : Nat) : List (Int × Bool) := (List.range n).map fun (i : Nat) => (k + 2 * (i : Int), (k + 2 * (i : Int) + 1) % 3 == 0)
theorem mkw_length (k : Int) (n : Nat) : (mkw k n).length = n := by simp [mkw]
theorem mkw_get (k : Int) (n i : Nat) (h : i < n) : (mkw k n).getD i (0, false) = (k + 2 * (i : Int), (k + 2 * (i : Int) + 1) % 3 == 0) := by
  simp [mkw, h]
theorem mkw_succ (k : Int) (n : Nat) : mkw k (n + 1) = mkw k n ++ [(k + 2 * (n : Int), (k + 2 * (n : Int) + 1) % 3 == 0)] := by
  simp [mkw, List.range_succ]

set_option maxRecDepth 100000 in
set_option maxHeartbeats 1000000 in
theorem markWaitS_any (base n : Nat) (v : Value) (k0 : Int) (xs : List Value) (w : World) (h0 : 0 ≤ k0) (h1 : k0 ≤ 4611686018427387904) (hn : n ≤ 140737488351232) (hown : w.ownsRow base 43 2 v n xs) :
    Calls Try.prog 66 #[v, .int .i64 k0] w fun e w' => e = .returned (.int .i64 (k0 + 2 * (n : Int))) ∧ w'.ownsRow base 43 2 v n (wv (mkw k0 n)) ∧ w.grownBy w' v.ownBlock := by
  have hxs : Hid (xs.length = n * 2) := hown.1
  obtain ⟨a, cap, rfl⟩ := owns_slice hown
  go_enter Try.func66, Try.ntmps66
  go_wp2
  go_loopw [1, 5] (fun q i wr => ∃ k : Nat, k ≤ n ∧ i = .int .i64 k ∧ q = .int .i64 (k0 + 2 * (k : Int)) ∧ wr.ownsRow base 43 2 (.slice a n cap) n (wv (mkw k0 k) ++ xs.drop (k * 2)) ∧ w.grownBy wr (Value.slice a n cap).ownBlock) (fun _ i _ => n - (intOf i).toNat)
  case atStart => exact ⟨0, Nat.zero_le _, rfl, by simp, by simpa [mkw, wv] using hown, World.grownBy.refl _ _⟩
  case round =>
    obtain ⟨k, hk, rfl, rfl, hr, hgr⟩ := hrel
    by_cases hlt : k < n
    · obtain ⟨g, rfl⟩ := owns_addr hr (by omega)
      have R : Hid (((wr.setCell ⟨g, k * 2, none⟩ (.int .i64 (k0 + 2 * (k : Int)))).setCell ⟨g, k * 2 + 1, none⟩ (.bool ((k0 + 2 * (k : Int) + 1) % 3 == 0))).ownsRow base 43 2 (.slice (some ⟨g, 0, none⟩) n cap) n (wv (mkw k0 (k + 1)) ++ xs.drop ((k + 1) * 2)) ∧ w.grownBy ((wr.setCell ⟨g, k * 2, none⟩ (.int .i64 (k0 + 2 * (k : Int)))).setCell ⟨g, k * 2 + 1, none⟩ (.bool ((k0 + 2 * (k : Int) + 1) % 3 == 0))) (Value.slice (some ⟨g, 0, none⟩) n cap).ownBlock) := by
        refine ⟨?_, grown_set (grown_set hgr hr _ _) (hr.stored _ _).1 _ _⟩
        rw [mkw_succ, wv_append]
        exact stored2 _ _ hr (by rw [wv_length, mkw_length]) hxs.out hlt
      have z0 := hr.frozenAt (k * 2)
      have z1 := hr.frozenAt (k * 2 + 1)
      obtain ⟨u0, e0⟩ := cell_rowN hr (show k * 2 < n * 2 by omega)
      obtain ⟨u1, e1⟩ := cell_rowN hr (show k * 2 + 1 < n * 2 by omega)
      have hi : (k : Int) < (n : Int) := by omega
      clear hr hgr hown
      go_wp2
      go_roundw
      case rel => exact ⟨k + 1, by omega, by go_num, by go_num, R.out.1, R.out.2⟩
      case measure => simp [intOf]; omega
    · go_wp2
      go_ret
      have : k = n := by omega
      subst this
      refine ⟨rfl, ?_, hgr⟩
      have hd : xs.drop (k * 2) = [] := List.drop_eq_nil_of_le (by have := hxs.out; omega)
      rw [hd, List.append_nil] at hr
      exact hr

set_option maxRecDepth 100000 in
set_option maxHeartbeats 1000000 in
theorem heldWaitS_any (a : Option Addr) (ca n : Nat) (k0 : Int) (w : World) (h0 : 0 ≤ k0) (h1 : k0 ≤ 4611686018427387904) (hl : n ≤ 140737488351232) (ha : VRow w a (wv (mkw k0 n))) :
    Calls Try.prog 69 #[.slice a n ca, .int .i64 k0] w fun e w' => e = .returned (.int .i64 (k0 + 2 * (n : Int))) ∧ Below w.heap.size w w' := by
  replace ha := ha.wait
  rw [mkw_length] at ha
  go_enter Try.func69, Try.ntmps69
  go_wp2
  go_loopw [1, 5] (fun q i wr => ∃ k d : Nat, k ≤ n ∧ i = .int .i64 k ∧ q = .int .i64 (k0 + 2 * (k : Int)) ∧ wr = w.drewN d) (fun _ i _ => n - (intOf i).toNat)
  case atStart => exact ⟨0, 0, Nat.zero_le _, rfl, by simp, rfl⟩
  case round =>
    obtain ⟨k, d, hk, rfl, rfl, rfl⟩ := hrel
    by_cases hlt : k < n
    · obtain ⟨ba, oa, rfl, y0, y1⟩ := ha k hlt
      rw [mkw_get k0 n k hlt] at y0 y1
      have hi : (k : Int) < (n : Int) := by omega
      clear ha
      go_wp2
      go_roundw
      case rel => exact ⟨k + 1, d, by omega, by go_num, by go_num, rfl⟩
      case measure => simp [intOf]; omega
    · go_wp2
      go_ret
      have : k = n := by omega
      exact ⟨ret_int (by rw [this]), below_drewN (Below.refl _ _) d⟩

def cF (d : FD) : Nat := 2 + d.xs.length
def mF (k : Int) (d : FD) : FD := ⟨k, mki (k + 1) d.xs.length, (k + 1 + d.xs.length) % 3 == 0⟩

/-- The frame at place j is marked. -/
theorem frame_step {wr w1 : World} {g c n j : Nat} {d : Nat → FD} {p : Nat → Pl} {k : Int} (h : FO wr (some ⟨g, 0, none⟩) c n d p) (hj : j < n)
    (o1 : w1.ownsRow 0 3 1 (.slice (p j).1 (d j).xs.length (p j).2) (d j).xs.length ((mki (k + 1) (d j).xs.length).map (Value.int .i64))) (g1 : (wr.setCell ⟨g, j * 3, none⟩ (.int .i64 k)).grownBy w1 (Value.slice (p j).1 (d j).xs.length (p j).2).ownBlock) :
    FO (w1.setCell ⟨g, j * 3 + 2, none⟩ (.bool ((k + 1 + (d j).xs.length) % 3 == 0))) (some ⟨g, 0, none⟩) c n (fun i => if i = j then mF k (d j) else d i) p ∧ Only wr (w1.setCell ⟨g, j * 3 + 2, none⟩ (.bool ((k + 1 + (d j).xs.length) % 3 == 0))) (fun b => b = g ∨ QF (p j) b) := by
  have hf : ∀ i, i < n → ((fun i => fcells (d i) (p i)) i).length = 3 := fun i _ => rfl
  have ne : ∀ b, (Value.slice (p j).1 (d j).xs.length (p j).2).ownBlock = some b → b ≠ g := fun b hb e => h.out j hj g rfl (by rw [← e]; exact blk_eq hb)
  have r0 := owns_stored h.row hf hj (j := 0) (by decide) (.int .i64 k)
  have r1 := owns_ne r0 g1 (fun b hb he => ne b he (by simpa [Value.ownBlock] using hb.symm))
  have r2 := owns_stored r1 (set_len hf _ _ _) hj (j := 2) (by decide) (.bool ((k + 1 + (d j).xs.length) % 3 == 0))
  have on : Only wr (w1.setCell ⟨g, j * 3 + 2, none⟩ (.bool ((k + 1 + (d j).xs.length) % 3 == 0))) (fun b => b = g ∨ QF (p j) b) :=
    (((Only.refl wr _).setCell ⟨g, j * 3, none⟩ (.int .i64 k) (.inl rfl)).grown g1 (fun b hb => .inr (blk_eq hb))).setCell ⟨g, j * 3 + 2, none⟩ _ (.inl rfl)
  have he : EF (mF k (d j)) (p j) (w1.setCell ⟨g, j * 3 + 2, none⟩ (.bool ((k + 1 + (d j).xs.length) % 3 == 0))) := by
    have := owns_setCell o1 (a := ⟨g, j * 3 + 2, none⟩) (fun b hb e => ne b hb e.symm) (.bool ((k + 1 + (d j).xs.length) % 3 == 0))
    exact owns_cast this (by simp [mF, mki_length]) (by simp [mF, mki_length]) rfl
  refine ⟨(Rw.turn h hj on r2 he (fix_f _ _)).congr (fun i hi => ?_) (fun i hi => rfl) (fun i hi => ?_), on⟩
  · by_cases e : i = j
    · subst e
      simp [fcells, mF, mki_length]
    · simp [e]
  · by_cases e : i = j
    · subst e; simp
    · simp [e]

set_option maxRecDepth 100000 in
set_option maxHeartbeats 2000000 in
theorem markFrameS_all (S : Nat → Prop) (n : Nat) (a : Option Addr) (c : Nat) (d : Nat → FD) (p : Nat → Pl) (k0 : Int) (w : World) (h0 : 0 ≤ k0) (h1 : k0 ≤ 1000000000000000000) (hn : n ≤ 1048576) (hx : ∀ i, i < n → (d i).xs.length ≤ 1048576) (hF : FO w a c n d p) (hS : ∀ b, RS a c n (fun i => QF (p i)) b → S b) :
    Calls Try.prog 49 #[.slice a n c, .int .i64 k0] w fun e w' => e = .returned (.int .i64 (kt k0 (fun i => cF (d i)) n)) ∧ FO w' a c n (fun i => mF (kt k0 (fun i => cF (d i)) i) (d i)) p ∧ Only w w' S := by
  have KL : Hid (∀ j, j ≤ n → k0 ≤ kt k0 (fun i => cF (d i)) j ∧ kt k0 (fun i => cF (d i)) j ≤ k0 + ((1048576 * 1048578 : Nat) : Int)) := fun j hj => by
    have h1 := kt_le (k0 := k0) (c := fun i => cF (d i)) (C := 1048578) hj (fun i hi => by have := hx i hi; unfold cF; omega)
    have h2 : n * 1048578 ≤ 1048576 * 1048578 := Nat.mul_le_mul_right _ hn
    exact ⟨h1.1, Int.le_trans h1.2 (by omega)⟩
  have HX : Hid (∀ i, i < n → (d i).xs.length ≤ 1048576) := hx
  have HS : Hid (∀ b, RS a c n (fun i => QF (p i)) b → S b) := hS
  clear hx hS
  go_enter Try.func49, Try.ntmps49
  go_wp2
  go_loopw [1, 5] (fun q i wr => ∃ j : Nat, j ≤ n ∧ i = .int .i64 j ∧ q = .int .i64 (kt k0 (fun i => cF (d i)) j) ∧ FO wr a c n (fun i => if i < j then mF (kt k0 (fun i => cF (d i)) i) (d i) else d i) p ∧ Only w wr S) (fun _ i _ => n - (intOf i).toNat)
  case atStart => exact ⟨0, Nat.zero_le _, rfl, by rw [kt_zero], by simpa using hF, Only.refl _ _⟩
  case round =>
    obtain ⟨j, hj, rfl, rfl, hH, hK⟩ := hrel
    obtain ⟨k, hk⟩ : ∃ k, kt k0 (fun i => cF (d i)) j = k := ⟨_, rfl⟩
    have hkb := KL.out j hj
    rw [hk] at hkb
    obtain ⟨hk0, hk1⟩ := hkb
    have HKj : Hid (kt k0 (fun i => cF (d i)) j = k) := hk
    rw [hk]
    clear hk
    by_cases hlt : j < n
    · have hi' : (j : Int) < (n : Int) := by omega
      obtain ⟨g, rfl⟩ := owns_addr hH.row (by omega)
      have hL := HX.out j hlt
      obtain ⟨L, eL⟩ : ∃ L, (d j).xs.length = L := ⟨_, rfl⟩
      have HL : Hid ((d j).xs.length = L) := eL
      rw [eL] at hL
      have hf : ∀ i, i < n → ((fun i => fcells ((fun i => if i < j then mF (kt k0 (fun i => cF (d i)) i) (d i) else d i) i) (p i)) i).length = 3 := fun i _ => rfl
      have cc : ∀ t, t < 3 → wr.cell? ⟨g, j * 3 + t, none⟩ = (fcells (d j) (p j))[t]? := fun t ht => by
        have := owns_chunk hH.row hf hlt ht
        simpa using this
      have c0 : wr.cell? ⟨g, j * 3, none⟩ = some (.int .i64 (d j).s) := by have := cc 0 (by decide); simpa [fcells] using this
      have c1 : wr.cell? ⟨g, j * 3 + 1, none⟩ = some (.slice (p j).1 L (p j).2) := by have := cc 1 (by decide); simpa [fcells, eL] using this
      have c2 : wr.cell? ⟨g, j * 3 + 2, none⟩ = some (.bool (d j).q) := by have := cc 2 (by decide); simpa [fcells] using this
      have hgl : Hid (g < wr.heap.size) := (hH.row.lt g rfl).2
      have hne : Hid (∀ b, (Value.slice (p j).1 L (p j).2).ownBlock = some b → b ≠ g) := fun b hb e => hH.out j hlt g rfl (by rw [← e]; exact blk_eq hb)
      have ol0 : wr.ownsRow 0 3 1 (.slice (p j).1 L (p j).2) L ((d j).xs.map (Value.int .i64)) := by
        have h := hH.el j hlt
        simp only [Nat.lt_irrefl, if_false, EF] at h
        rw [eL] at h
        exact h
      have ol := owns_setCell ol0 (a := ⟨g, j * 3, none⟩) (fun b hb e => hne.out b hb e.symm) (.int .i64 k)
      have z0 := hH.row.frozenAt (j * 3)
      have z2 := hH.row.frozenAt (j * 3 + 2)
      have HH : Hid (FO wr (some ⟨g, 0, none⟩) c n (fun i => if i < j then mF (kt k0 (fun i => cF (d i)) i) (d i) else d i) p) := hH
      clear hH hF hf cc ol0 eL
      go_wp2_with fail
      refine (markIntS_any 0 L _ (k + 1) _ _ (by omega) (by omega) (by omega) ol).mono ?_
      rintro e w1 ⟨rfl, o1, g1⟩
      have d2 : w1.cell? ⟨g, j * 3 + 2, none⟩ = some (.bool (d j).q) := (cell_kept g1 (by simpa using hgl.out) (fun e => hne.out g e rfl) _).trans ((World.cell?_setCell_other _ _ _ _ (fun e => by simp only [Addr.mk.injEq, true_and, and_true] at e; omega)).trans c2)
      have f2 : w1.frozen? ⟨g, j * 3 + 2, none⟩ = false := (frozen_kept g1 (by simpa using hgl.out) (fun e => hne.out g e rfl) _).trans (by simpa using z2)
      have ST0 := frame_step (k := k) HH.out hlt (by simp only [Nat.lt_irrefl, if_false]; rw [HL.out]; exact o1) (by simp only [Nat.lt_irrefl, if_false]; rw [HL.out]; exact g1)
      simp only [Nat.lt_irrefl, if_false] at ST0
      rw [HL.out] at ST0
      have ST : Hid _ := ST0
      clear ST0 c0 c1 c2 z0 z2 ol o1 g1
      go_wp2_with fail
      go_roundw
      case rel =>
        refine ⟨j + 1, by omega, by go_num, ?_, ?_, hK.trans (ST.out.2.more (fun b hb => ?_))⟩
        · have := kt_succ k0 (fun i => cF (d i)) j
          rw [HKj.out] at this
          rw [this]
          have e2 : cF (d j) = 2 + L := by unfold cF; rw [HL.out]
          simp only [e2]
          congr 1
          omega
        · refine ST.out.1.congr (fun i hi => ?_) (fun i hi => rfl) (fun i hi => ?_)
          all_goals
            have := upto (fun i => mF (kt k0 (fun i => cF (d i)) i) (d i)) d j i
            simp only [HKj.out] at this
            simp only [this]
        · rcases hb with rfl | hb
          · exact HS.out _ (.inl rfl)
          · exact HS.out _ (.inr ⟨j, hlt, hb⟩)
      case measure => simp [intOf]; omega
    · have : j = n := by omega
      subst this
      have R' : Hid (FO wr a c j (fun i => mF (kt k0 (fun i => cF (d i)) i) (d i)) p) := hH.congr (fun i hi => by simp [hi]) (fun i hi => rfl) (fun i hi => by simp [hi])
      clear hH hF
      go_wp2
      go_ret
      exact ⟨ret_int HKj.out.symm, R'.out, hK⟩
end Go.Proofs.Ytfeabhknkoifeaa

/- What the law's markSenderS does at any owned row of senders. -/
namespace Go.Proofs.Ytfeabhknkoifeaa
open Go.RowKit
set_option linter.unusedVariables false

def mlen : List M → Nat
  | [] => 0
  | m :: ms => 3 + m.xs.length + mlen ms
theorem markEnd_eq (k : Int) (ms : List M) : markEnd k ms = k + (mlen ms : Nat) := by
  induction ms generalizing k with
  | nil => simp [markEnd, mlen]
  | cons m ms ih => simp only [markEnd, mlen, ih]; omega
theorem mlen_le {ms : List M} {L : Nat} (h : ∀ m ∈ ms, m.xs.length ≤ L) : mlen ms ≤ ms.length * (3 + L) := by
  induction ms with
  | nil => simp [mlen]
  | cons m ms ih =>
    have h1 := ih (fun x hx => h x (List.mem_cons_of_mem _ hx))
    have h2 := h m (List.mem_cons_self ..)
    simp only [mlen, List.length_cons, Nat.succ_mul]
    omega
theorem markMs_mem {k : Int} {ms : List M} {x : M} (h : x ∈ markMs k ms) : ∃ m ∈ ms, m.v = x.v ∧ m.xs.length = x.xs.length := by
  induction ms generalizing k with
  | nil => simp [markMs] at h
  | cons m ms ih =>
    simp only [markMs, List.mem_cons] at h
    rcases h with rfl | h
    · exact ⟨m, by simp, (markM_v _ _).symm, by simp [markM, mki_length]⟩
    · obtain ⟨y, hy, e⟩ := ih h
      exact ⟨y, by simp [hy], e⟩
theorem mem_markMs {k : Int} {ms : List M} {m : M} (h : m ∈ ms) : ∃ x ∈ markMs k ms, x.v = m.v := by
  induction ms generalizing k with
  | nil => simp at h
  | cons y ms ih =>
    simp only [List.mem_cons] at h
    rcases h with rfl | h
    · exact ⟨markM k m, by simp [markMs], markM_v _ _⟩
    · obtain ⟨x, hx, e⟩ := ih (k := k + 1 + 1 + 1 + y.xs.length) h
      exact ⟨x, by simp [markMs, hx], e⟩
theorem QS_mark (p : Pl) (k : Int) (ms : List M) : QS p (markMs k ms) = QS p ms := by
  funext b
  apply propext
  constructor
  · rintro (h | ⟨x, hx, hb⟩)
    · exact .inl h
    · obtain ⟨m, hm, e, _⟩ := markMs_mem hx
      exact .inr ⟨m, hm, by rw [e]; exact hb⟩
  · rintro (h | ⟨m, hm, hb⟩)
    · exact .inl h
    · obtain ⟨x, hx, e⟩ := mem_markMs (k := k) hm
      exact .inr ⟨x, hx, by rw [e]; exact hb⟩

def cS (ms : List M) : Nat := 1 + mlen ms

/-- The sender at place j is marked. -/
theorem sender_step {wr w2 : World} {g c n j : Nat} {b : Nat → Int} {p : Nat → Pl} {ms : Nat → List M} {k : Int} (h : SO wr (some ⟨g, 0, none⟩) c n b p ms) (hj : j < n)
    (o2 : Deep w2 0 (p j).1 (p j).2 (markMs (k + 1) (ms j))) (k2 : Only (wr.setCell ⟨g, j * 2, none⟩ (.int .i64 k)) w2 (QS (p j) (ms j))) :
    SO w2 (some ⟨g, 0, none⟩) c n (fun i => if i = j then k else b i) p (fun i => if i = j then markMs (k + 1) (ms j) else ms i) ∧ Only wr w2 (fun b => b = g ∨ QS (p j) (ms j) b) := by
  have hf : ∀ i, i < n → ((fun i => scells (b i) (p i) (ms i).length) i).length = 2 := fun i _ => rfl
  have r0 := owns_stored h.row hf hj (j := 0) (by decide) (.int .i64 k)
  have r1 := owns_only r0 k2 (fun x hx hq => by
    have : g = x := by simpa [Value.ownBlock] using hx
    subst this
    exact h.out j hj g rfl hq)
  have on : Only wr w2 (fun b => b = g ∨ QS (p j) (ms j) b) := ((Only.refl wr _).setCell ⟨g, j * 2, none⟩ (.int .i64 k) (.inl rfl)).trans (k2.more (fun b hb => .inr hb))
  refine ⟨(Rw.turn h hj on r1 (E' := ES (p j) (markMs (k + 1) (ms j))) o2 ?_).congr (fun i hi => ?_) (fun i hi => ?_) (fun i hi => ?_), on⟩
  · have := fix_s (p j) (markMs (k + 1) (ms j))
    rw [QS_mark] at this
    exact this
  · by_cases e : i = j
    · subst e
      simp [scells, markMs_length]
    · simp [e]
  · by_cases e : i = j
    · subst e
      simp [QS_mark]
    · simp [e]
  · by_cases e : i = j
    · subst e; simp
    · simp [e]

set_option maxRecDepth 100000 in
set_option maxHeartbeats 2000000 in
theorem markSenderS_all (S : Nat → Prop) (n : Nat) (a : Option Addr) (c : Nat) (b : Nat → Int) (p : Nat → Pl) (ms : Nat → List M) (k0 : Int) (w : World) (h0 : 0 ≤ k0) (h1 : k0 ≤ 1000000000000000000) (hn : n ≤ 1048576) (hx : ∀ i, i < n → (ms i).length ≤ 1048577 ∧ ∀ m ∈ ms i, m.xs.length ≤ 1048577) (hh : SO w a c n b p ms) (hS : ∀ b, RS a c n (fun i => QS (p i) (ms i)) b → S b) :
    Calls Try.prog 51 #[.slice a n c, .int .i64 k0] w fun e w' => e = .returned (.int .i64 (kt k0 (fun i => cS (ms i)) n)) ∧ SO w' a c n (fun i => kt k0 (fun i => cS (ms i)) i) p (fun i => markMs (kt k0 (fun i => cS (ms i)) i + 1) (ms i)) ∧ Only w w' S := by
  have KL : Hid (∀ j, j ≤ n → k0 ≤ kt k0 (fun i => cS (ms i)) j ∧ kt k0 (fun i => cS (ms i)) j ≤ k0 + 1152929300000000000) := fun j hj => by
    have h1 := kt_le (k0 := k0) (c := fun i => cS (ms i)) (C := 1 + 1048577 * (3 + 1048577)) hj (fun i hi => by
      have h2 := mlen_le (hx i hi).2
      have h3 := Nat.mul_le_mul_right (3 + 1048577) (hx i hi).1
      unfold cS
      omega)
    have h2 : n * (1 + 1048577 * (3 + 1048577)) ≤ 1048576 * (1 + 1048577 * (3 + 1048577)) := Nat.mul_le_mul_right _ hn
    exact ⟨h1.1, Int.le_trans h1.2 (by omega)⟩
  have HX : Hid (∀ i, i < n → (ms i).length ≤ 1048577 ∧ ∀ m ∈ ms i, m.xs.length ≤ 1048577) := hx
  have HS : Hid (∀ b, RS a c n (fun i => QS (p i) (ms i)) b → S b) := hS
  clear hx hS
  go_enter Try.func51, Try.ntmps51
  go_wp2
  go_loopw [1, 5] (fun q i wr => ∃ j : Nat, j ≤ n ∧ i = .int .i64 j ∧ q = .int .i64 (kt k0 (fun i => cS (ms i)) j) ∧ SO wr a c n (fun i => if i < j then kt k0 (fun i => cS (ms i)) i else b i) p (fun i => if i < j then markMs (kt k0 (fun i => cS (ms i)) i + 1) (ms i) else ms i) ∧ Only w wr S) (fun _ i _ => n - (intOf i).toNat)
  case atStart => exact ⟨0, Nat.zero_le _, rfl, by rw [kt_zero], by simpa using hh, Only.refl _ _⟩
  case round =>
    obtain ⟨j, hj, rfl, rfl, hH, hK⟩ := hrel
    obtain ⟨k, hk⟩ : ∃ k, kt k0 (fun i => cS (ms i)) j = k := ⟨_, rfl⟩
    have hkb := KL.out j hj
    rw [hk] at hkb
    obtain ⟨hk0, hk1⟩ := hkb
    have HKj : Hid (kt k0 (fun i => cS (ms i)) j = k) := hk
    rw [hk]
    clear hk
    by_cases hlt : j < n
    · have hi' : (j : Int) < (n : Int) := by omega
      obtain ⟨g, rfl⟩ := owns_addr hH.row (by omega)
      have hf : ∀ i, i < n → ((fun i => scells ((fun i => if i < j then kt k0 (fun i => cS (ms i)) i else b i) i) (p i) ((fun i => if i < j then markMs (kt k0 (fun i => cS (ms i)) i + 1) (ms i) else ms i) i).length) i).length = 2 := fun i _ => rfl
      have cc : ∀ t, t < 2 → wr.cell? ⟨g, j * 2 + t, none⟩ = (scells (b j) (p j) (ms j).length)[t]? := fun t ht => by
        have := owns_chunk hH.row hf hlt ht
        simpa using this
      have c0 : wr.cell? ⟨g, j * 2, none⟩ = some (.int .i64 (b j)) := by have := cc 0 (by decide); simpa [scells] using this
      have c1 : wr.cell? ⟨g, j * 2 + 1, none⟩ = some (.slice (p j).1 (ms j).length (p j).2) := by have := cc 1 (by decide); simpa [scells] using this
      have oD : Deep wr 0 (p j).1 (p j).2 (ms j) := by
        have h := hH.el j hlt
        simp only [Nat.lt_irrefl, if_false, ES] at h
        exact h
      have hne : ∀ x, QS (p j) (ms j) x → g ≠ x := fun x hx e => by
        subst e
        have := hH.out j hlt g rfl
        simp only [Nat.lt_irrefl, if_false] at this
        exact this hx
      have oD1 : Deep (wr.setCell ⟨g, j * 2, none⟩ (.int .i64 k)) 0 (p j).1 (p j).2 (ms j) :=
        ⟨owns_setCell oD.row (fun x hx => hne x (.inl (blk_eq hx))) _, oD.lists.far _ _ (fun m hm x hx => hne x (.inr ⟨m, hm, hx⟩))⟩
      have z0 := hH.row.frozenAt (j * 2)
      have HH : Hid (SO wr (some ⟨g, 0, none⟩) c n (fun i => if i < j then kt k0 (fun i => cS (ms i)) i else b i) p (fun i => if i < j then markMs (kt k0 (fun i => cS (ms i)) i + 1) (ms i) else ms i)) := hH
      obtain ⟨hxa, hxb⟩ := HX.out j hlt
      have HL : Hid (markEnd (k + 1) (ms j) = kt k0 (fun i => cS (ms i)) (j + 1)) := by
        show _ = _
        rw [markEnd_eq, kt_succ, HKj.out]
        unfold cS
        omega
      clear hH hh hf cc oD hne
      go_wp2_with fail
      refine (markMsgS_only (QS (p j) (ms j)) 0 (p j).1 (p j).2 (ms j) (k + 1) _ (by omega) (by omega) hxa hxb oD1 ⟨fun x hx => .inl (blk_eq hx), fun m hm x hx => .inr ⟨m, hm, hx⟩⟩).mono ?_
      rintro e w2 ⟨rfl, o2, k2⟩
      have ST0 := sender_step (k := k) HH.out hlt (by simp only [Nat.lt_irrefl, if_false]; exact o2) (by simp only [Nat.lt_irrefl, if_false]; exact k2)
      simp only [Nat.lt_irrefl, if_false] at ST0
      have ST : Hid _ := ST0
      rw [HL.out]
      clear ST0 c0 c1 z0 oD1 o2 k2 hxa hxb
      go_wp2
      go_roundw
      case rel =>
        refine ⟨j + 1, by omega, by go_num, rfl, ?_, hK.trans (ST.out.2.more (fun b hb => ?_))⟩
        · refine ST.out.1.congr (fun i hi => ?_) (fun i hi => ?_) (fun i hi => ?_)
          all_goals
            have e1 := upto (fun i => kt k0 (fun i => cS (ms i)) i) b j i
            have e2 := upto (fun i => markMs (kt k0 (fun i => cS (ms i)) i + 1) (ms i)) ms j i
            simp only [HKj.out] at e1 e2
            simp only [e1, e2]
        · rcases hb with rfl | hb
          · exact HS.out _ (.inl rfl)
          · exact HS.out _ (.inr ⟨j, hlt, hb⟩)
      case measure => simp [intOf]; omega
    · have : j = n := by omega
      subst this
      have R' : Hid (SO wr a c j (fun i => kt k0 (fun i => cS (ms i)) i) p (fun i => markMs (kt k0 (fun i => cS (ms i)) i + 1) (ms i))) := hH.congr (fun i hi => by simp [hi]) (fun i hi => by simp [hi]) (fun i hi => by simp [hi])
      clear hH hh
      go_wp2
      go_ret
      exact ⟨ret_int HKj.out.symm, R'.out, hK⟩
end Go.Proofs.Ytfeabhknkoifeaa
