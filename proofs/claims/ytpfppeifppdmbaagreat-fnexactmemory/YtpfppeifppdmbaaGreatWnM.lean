/- WtS and WtD and WtN and WnM: see the heads of the parts. -/
import Derived.Test.YtpfppeifppdmbaaGreatWtH
import Derived.Test.YtpfppeifppdmbaaGreatWoT
/- What the law's markSenderS does at any owned row of senders. -/
namespace Go.Proofs.YtpfppeifppdmbaaGreat
open Go.RowKit
set_option linter.unusedVariables false

def mlen : List M → Nat
  | [] => 0
  | m :: ms => 3 + m.xs.length + mlen ms
theorem markEnd_eq (k : Int) (ms : List M) : markEnd k ms = k + (mlen ms : Nat) := by
  induction ms generalizing k with
  | nil => simp [markEnd, mlen]
  | cons m ms ih => simp only [markEnd, mlen, ih]; omega
theorem mlen_le {ms : List M} {L : Nat} (h : ∀ m ∈ ms, m.xs.length ≤ L) : mlen ms ≤ ms.length * (3 + L) := by
  induction ms with
  | nil => simp [mlen]
  | cons m ms ih =>
    have h1 := ih (fun x hx => h x (List.mem_cons_of_mem _ hx))
    have h2 := h m (List.mem_cons_self ..)
    simp only [mlen, List.length_cons, Nat.succ_mul]
    omega
theorem markMs_mem {k : Int} {ms : List M} {x : M} (h : x ∈ markMs k ms) : ∃ m ∈ ms, m.v = x.v ∧ m.xs.length = x.xs.length := by
  induction ms generalizing k with
  | nil => simp [markMs] at h
  | cons m ms ih =>
    simp only [markMs, List.mem_cons] at h
    rcases h with rfl | h
    · exact ⟨m, by simp, (markM_v _ _).symm, by simp [markM, mki_length]⟩
    · obtain ⟨y, hy, e⟩ := ih h
      exact ⟨y, by simp [hy], e⟩
theorem mem_markMs {k : Int} {ms : List M} {m : M} (h : m ∈ ms) : ∃ x ∈ markMs k ms, x.v = m.v := by
  induction ms generalizing k with
  | nil => simp at h
  | cons y ms ih =>
    simp only [List.mem_cons] at h
    rcases h with rfl | h
    · exact ⟨markM k m, by simp [markMs], markM_v _ _⟩
    · obtain ⟨x, hx, e⟩ := ih (k := k + 1 + 1 + 1 + y.xs.length) h
      exact ⟨x, by simp [markMs, hx], e⟩
theorem QS_mark (p : Pl) (k : Int) (ms : List M) : QS p (markMs k ms) = QS p ms := by
  funext b
  apply propext
  constructor
  · rintro (h | ⟨x, hx, hb⟩)
    · exact .inl h
    · obtain ⟨m, hm, e, _⟩ := markMs_mem hx
      exact .inr ⟨m, hm, by rw [e]; exact hb⟩
  · rintro (h | ⟨m, hm, hb⟩)
    · exact .inl h
    · obtain ⟨x, hx, e⟩ := mem_markMs (k := k) hm
      exact .inr ⟨x, hx, by rw [e]; exact hb⟩

def cS (ms : List M) : Nat := 1 + mlen ms

/-- The sender at place j is marked. -/
theorem sender_step {wr w2 : World} {g c n j : Nat} {b : Nat → Int} {p : Nat → Pl} {ms : Nat → List M} {k : Int} (h : SO wr (some ⟨g, 0, none⟩) c n b p ms) (hj : j < n)
    (o2 : Deep w2 0 (p j).1 (p j).2 (markMs (k + 1) (ms j))) (k2 : Only (wr.setCell ⟨g, j * 2, none⟩ (.int .i64 k)) w2 (QS (p j) (ms j))) :
    SO w2 (some ⟨g, 0, none⟩) c n (fun i => if i = j then k else b i) p (fun i => if i = j then markMs (k + 1) (ms j) else ms i) ∧ Only wr w2 (fun b => b = g ∨ QS (p j) (ms j) b) := by
  have hf : ∀ i, i < n → ((fun i => scells (b i) (p i) (ms i).length) i).length = 2 := fun i _ => rfl
  have r0 := owns_stored h.row hf hj (j := 0) (by decide) (.int .i64 k)
  have r1 := owns_only r0 k2 (fun x hx hq => by
    have : g = x := by simpa [Value.ownBlock] using hx
    subst this
    exact h.out j hj g rfl hq)
  have on : Only wr w2 (fun b => b = g ∨ QS (p j) (ms j) b) := ((Only.refl wr _).setCell ⟨g, j * 2, none⟩ (.int .i64 k) (.inl rfl)).trans (k2.more (fun b hb => .inr hb))
  refine ⟨(Rw.turn h hj on r1 (E' := ES (p j) (markMs (k + 1) (ms j))) o2 ?_).congr (fun i hi => ?_) (fun i hi => ?_) (fun i hi => ?_), on⟩
  · have := fix_s (p j) (markMs (k + 1) (ms j))
    rw [QS_mark] at this
    exact this
  · by_cases e : i = j
    · subst e
      simp [scells, markMs_length]
    · simp [e]
  · by_cases e : i = j
    · subst e
      simp [QS_mark]
    · simp [e]
  · by_cases e : i = j
    · subst e; simp
    · simp [e]

set_option maxRecDepth 100000 in
set_option maxHeartbeats 2000000 in
theorem markSenderS_all (S : Nat → Prop) (n : Nat) (a : Option Addr) (c : Nat) (b : Nat → Int) (p : Nat → Pl) (ms : Nat → List M) (k0 : Int) (w : World) (h0 : 0 ≤ k0) (h1 : k0 ≤ 1000000000000000000) (hn : n ≤ 1048576) (hx : ∀ i, i < n → (ms i).length ≤ 1048577 ∧ ∀ m ∈ ms i, m.xs.length ≤ 1048577) (hh : SO w a c n b p ms) (hS : ∀ b, RS a c n (fun i => QS (p i) (ms i)) b → S b) :
    Calls Tryz.prog 38 #[.slice a n c, .int .i64 k0] w fun e w' => e = .returned (.int .i64 (kt k0 (fun i => cS (ms i)) n)) ∧ SO w' a c n (fun i => kt k0 (fun i => cS (ms i)) i) p (fun i => markMs (kt k0 (fun i => cS (ms i)) i + 1) (ms i)) ∧ Only w w' S := by
  have KL : Hid (∀ j, j ≤ n → k0 ≤ kt k0 (fun i => cS (ms i)) j ∧ kt k0 (fun i => cS (ms i)) j ≤ k0 + 1152929300000000000) := fun j hj => by
    have h1 := kt_le (k0 := k0) (c := fun i => cS (ms i)) (C := 1 + 1048577 * (3 + 1048577)) hj (fun i hi => by
      have h2 := mlen_le (hx i hi).2
      have h3 := Nat.mul_le_mul_right (3 + 1048577) (hx i hi).1
      unfold cS
      omega)
    have h2 : n * (1 + 1048577 * (3 + 1048577)) ≤ 1048576 * (1 + 1048577 * (3 + 1048577)) := Nat.mul_le_mul_right _ hn
    exact ⟨h1.1, Int.le_trans h1.2 (by omega)⟩
  have HX : Hid (∀ i, i < n → (ms i).length ≤ 1048577 ∧ ∀ m ∈ ms i, m.xs.length ≤ 1048577) := hx
  have HS : Hid (∀ b, RS a c n (fun i => QS (p i) (ms i)) b → S b) := hS
  clear hx hS
  go_enter Tryz.func38, Tryz.ntmps38
  go_wp2
  go_loopw [1, 5] (fun q i wr => ∃ j : Nat, j ≤ n ∧ i = .int .i64 j ∧ q = .int .i64 (kt k0 (fun i => cS (ms i)) j) ∧ SO wr a c n (fun i => if i < j then kt k0 (fun i => cS (ms i)) i else b i) p (fun i => if i < j then markMs (kt k0 (fun i => cS (ms i)) i + 1) (ms i) else ms i) ∧ Only w wr S) (fun _ i _ => n - (intOf i).toNat)
  case atStart => exact ⟨0, Nat.zero_le _, rfl, by rw [kt_zero], by simpa using hh, Only.refl _ _⟩
  case round =>
    obtain ⟨j, hj, rfl, rfl, hH, hK⟩ := hrel
    obtain ⟨k, hk⟩ : ∃ k, kt k0 (fun i => cS (ms i)) j = k := ⟨_, rfl⟩
    have hkb := KL.out j hj
    rw [hk] at hkb
    obtain ⟨hk0, hk1⟩ := hkb
    have HKj : Hid (kt k0 (fun i => cS (ms i)) j = k) := hk
    rw [hk]
    clear hk
    by_cases hlt : j < n
    · have hi' : (j : Int) < (n : Int) := by omega
      obtain ⟨g, rfl⟩ := owns_addr hH.row (by omega)
      have hf : ∀ i, i < n → ((fun i => scells ((fun i => if i < j then kt k0 (fun i => cS (ms i)) i else b i) i) (p i) ((fun i => if i < j then markMs (kt k0 (fun i => cS (ms i)) i + 1) (ms i) else ms i) i).length) i).length = 2 := fun i _ => rfl
      have cc : ∀ t, t < 2 → wr.cell? ⟨g, j * 2 + t, none⟩ = (scells (b j) (p j) (ms j).length)[t]? := fun t ht => by
        have := owns_chunk hH.row hf hlt ht
        simpa using this
      have c0 : wr.cell? ⟨g, j * 2, none⟩ = some (.int .i64 (b j)) := by have := cc 0 (by decide); simpa [scells] using this
      have c1 : wr.cell? ⟨g, j * 2 + 1, none⟩ = some (.slice (p j).1 (ms j).length (p j).2) := by have := cc 1 (by decide); simpa [scells] using this
      have oD : Deep wr 0 (p j).1 (p j).2 (ms j) := by
        have h := hH.el j hlt
        simp only [Nat.lt_irrefl, if_false, ES] at h
        exact h
      have hne : ∀ x, QS (p j) (ms j) x → g ≠ x := fun x hx e => by
        subst e
        have := hH.out j hlt g rfl
        simp only [Nat.lt_irrefl, if_false] at this
        exact this hx
      have oD1 : Deep (wr.setCell ⟨g, j * 2, none⟩ (.int .i64 k)) 0 (p j).1 (p j).2 (ms j) :=
        ⟨owns_setCell oD.row (fun x hx => hne x (.inl (blk_eq hx))) _, oD.lists.far _ _ (fun m hm x hx => hne x (.inr ⟨m, hm, hx⟩))⟩
      have z0 := hH.row.frozenAt (j * 2)
      have HH : Hid (SO wr (some ⟨g, 0, none⟩) c n (fun i => if i < j then kt k0 (fun i => cS (ms i)) i else b i) p (fun i => if i < j then markMs (kt k0 (fun i => cS (ms i)) i + 1) (ms i) else ms i)) := hH
      obtain ⟨hxa, hxb⟩ := HX.out j hlt
      have HL : Hid (markEnd (k + 1) (ms j) = kt k0 (fun i => cS (ms i)) (j + 1)) := by
        show _ = _
        rw [markEnd_eq, kt_succ, HKj.out]
        unfold cS
        omega
      clear hH hh hf cc oD hne
      go_wp2_with fail
      refine (markMsgS_only (QS (p j) (ms j)) 0 (p j).1 (p j).2 (ms j) (k + 1) _ (by omega) (by omega) hxa hxb oD1 ⟨fun x hx => .inl (blk_eq hx), fun m hm x hx => .inr ⟨m, hm, hx⟩⟩).mono ?_
      rintro e w2 ⟨rfl, o2, k2⟩
      have ST0 := sender_step (k := k) HH.out hlt (by simp only [Nat.lt_irrefl, if_false]; exact o2) (by simp only [Nat.lt_irrefl, if_false]; exact k2)
      simp only [Nat.lt_irrefl, if_false] at ST0
      have ST : Hid _ := ST0
      rw [HL.out]
      clear ST0 c0 c1 z0 oD1 o2 k2 hxa hxb
      go_wp2
      go_roundw
      case rel =>
        refine ⟨j + 1, by omega, by go_num, rfl, ?_, hK.trans (ST.out.2.more (fun b hb => ?_))⟩
        · refine ST.out.1.congr (fun i hi => ?_) (fun i hi => ?_) (fun i hi => ?_)
          all_goals
            have e1 := upto (fun i => kt k0 (fun i => cS (ms i)) i) b j i
            have e2 := upto (fun i => markMs (kt k0 (fun i => cS (ms i)) i + 1) (ms i)) ms j i
            simp only [HKj.out] at e1 e2
            simp only [e1, e2]
        · rcases hb with rfl | hb
          · exact HS.out _ (.inl rfl)
          · exact HS.out _ (.inr ⟨j, hlt, hb⟩)
      case measure => simp [intOf]; omega
    · have : j = n := by omega
      subst this
      have R' : Hid (SO wr a c j (fun i => kt k0 (fun i => cS (ms i)) i) p (fun i => markMs (kt k0 (fun i => cS (ms i)) i + 1) (ms i))) := hH.congr (fun i hi => by simp [hi]) (fun i hi => by simp [hi]) (fun i hi => by simp [hi])
      clear hH hh
      go_wp2
      go_ret
      exact ⟨ret_int HKj.out.symm, R'.out, hK⟩
end Go.Proofs.YtpfppeifppdmbaaGreat

/- What the law's heldFrameS, heldHomeS and heldSenderS do at marked rows. -/
namespace Go.Proofs.YtpfppeifppdmbaaGreat
open Go.RowKit
set_option linter.unusedVariables false



end Go.Proofs.YtpfppeifppdmbaaGreat

/- What the law's markNode and heldNode do at any owned node. -/
namespace Go.Proofs.YtpfppeifppdmbaaGreat
open Go.RowKit
set_option linter.unusedVariables false

def kn1 (k0 : Int) (d : ND) : Int := kt k0 (fun i => cF (d.f i)) d.nf
def kn2 (k0 : Int) (d : ND) : Int := kt (kn1 k0 d) (fun i => cH (d.h i)) d.nh
def kn3 (k0 : Int) (d : ND) (p : NP) : Int := kt (kn2 k0 d) (fun i => cS (p.ms i)) d.no
def kEnd (k0 : Int) (d : ND) (p : NP) : Int := kn3 k0 d p + d.ni

/-- A marked node. -/
structure MkN (w : World) (k0 : Int) (d : ND) (p : NP) : Prop where
  f : FO w p.f.1 p.f.2 d.nf (fun i => mF (kt k0 (fun i => cF (d.f i)) i) (d.f i)) p.fp
  h : HOw w p.h.1 p.h.2 d.nh (fun i => mHo (kt (kn1 k0 d) (fun i => cH (d.h i)) i) (d.h i)) p.hp
  o : SO w p.o.1 p.o.2 d.no (fun i => kt (kn2 k0 d) (fun i => cS (p.ms i)) i) p.op (fun i => markMs (kt (kn2 k0 d) (fun i => cS (p.ms i)) i + 1) (p.ms i))
  i : w.ownsRow 0 118 1 (.slice p.i.1 d.ni p.i.2) d.ni (chunks d.ni (mg (kn3 k0 d p)))
theorem MkN.below {w w' : World} {k0 : Int} {d : ND} {p : NP} (h : MkN w k0 d p) (b : Below w.heap.size w w') : MkN w' k0 d p := ⟨h.f.below b, h.h.below b, h.o.below b, owns_below h.i b⟩

theorem kn_le {d : ND} {p : NP} (s : Nsm d) (hm : ∀ i, i < d.no → (p.ms i).length ≤ 1048577 ∧ ∀ m ∈ p.ms i, m.xs.length ≤ 1048577) :
    (1 ≤ kn1 1 d ∧ kn1 1 d ≤ 2000000000000) ∧ (1 ≤ kn2 1 d ∧ kn2 1 d ≤ 9000000000000) ∧ (1 ≤ kn3 1 d p ∧ kn3 1 d p ≤ 1153000000000000000) ∧ 1 ≤ kEnd 1 d p := by
  have h1 := kt_le (k0 := 1) (c := fun i => cF (d.f i)) (C := 1048578) (Nat.le_refl d.nf) (fun i hi => by have := s.f.2 i hi; unfold cF; omega)
  have g1 : d.nf * 1048578 ≤ 1048576 * 1048578 := Nat.mul_le_mul_right _ s.f.1
  have h2 := kt_le (k0 := kn1 1 d) (c := fun i => cH (d.h i)) (C := 4194309) (Nat.le_refl d.nh) (fun i hi => by have := s.h.2 i hi; unfold cH; omega)
  have g2 : d.nh * 4194309 ≤ 1048576 * 4194309 := Nat.mul_le_mul_right _ s.h.1
  have h3 := kt_le (k0 := kn2 1 d) (c := fun i => cS (p.ms i)) (C := 1 + 1048577 * (3 + 1048577)) (Nat.le_refl d.no) (fun i hi => by
      have h2 := mlen_le (hm i hi).2
      have h3 := Nat.mul_le_mul_right (3 + 1048577) (hm i hi).1
      unfold cS
      omega)
  have g3 : d.no * (1 + 1048577 * (3 + 1048577)) ≤ 1048576 * (1 + 1048577 * (3 + 1048577)) := Nat.mul_le_mul_right _ s.o.1
  have e1 : kn1 1 d = kt 1 (fun i => cF (d.f i)) d.nf := rfl
  have e2 : kn2 1 d = kt (kn1 1 d) (fun i => cH (d.h i)) d.nh := rfl
  have e3 : kn3 1 d p = kt (kn2 1 d) (fun i => cS (p.ms i)) d.no := rfl
  have e4 : kEnd 1 d p = kn3 1 d p + d.ni := rfl
  omega

theorem NOw.msm {w : World} {d : ND} {p : NP} (h : NOw w d p) (s : Nsm d) : ∀ i, i < d.no → (p.ms i).length ≤ 1048577 ∧ ∀ m ∈ p.ms i, m.xs.length ≤ 1048577 := fun i hi => by
  have h1 := s.o.2 i hi
  have h2 := h.e i hi
  refine ⟨?_, fun m hm => ?_⟩
  · have := congrArg List.length h2
    rw [List.length_map] at this
    omega
  · have h3 : m.say ∈ d.y i := by rw [← h2]; exact List.mem_map_of_mem hm
    have := h1.2 _ h3
    simp only [M.say] at this
    omega


end Go.Proofs.YtpfppeifppdmbaaGreat

/- What the law's markNodeS and heldNodeS do at an owned row of nodes that are not great. -/
namespace Go.Proofs.YtpfppeifppdmbaaGreat
open Go.RowKit
set_option linter.unusedVariables false

/-- A node that is not great. -/
structure Nti (d : ND) (p : NP) : Prop where
  s : Nsm d
  f : d.nf ≤ 1000 ∧ ∀ i, i < d.nf → (d.f i).xs.length ≤ 1000
  h : d.nh ≤ 1000 ∧ ∀ i, i < d.nh → (d.h i).xs.length ≤ 1000 ∧ (d.h i).bs.length ≤ 1000 ∧ (d.h i).ws.length ≤ 1000
  o : d.no ≤ 1000 ∧ ∀ i, i < d.no → (p.ms i).length ≤ 1000 ∧ ∀ m ∈ p.ms i, m.xs.length ≤ 1000
  i : d.ni ≤ 1000
/-- How many numbers a marked node takes. -/
def cNd (d : ND) (p : NP) : Nat := 1 + (sumN (fun i => cF (d.f i)) d.nf + sumN (fun i => cH (d.h i)) d.nh + sumN (fun i => cS (p.ms i)) d.no + d.ni)
theorem kn_eq (k : Int) (d : ND) (p : NP) : kn1 k d = k + (sumN (fun i => cF (d.f i)) d.nf : Nat) ∧ kn2 k d = k + (sumN (fun i => cF (d.f i)) d.nf : Nat) + (sumN (fun i => cH (d.h i)) d.nh : Nat) ∧ kn3 k d p = k + (sumN (fun i => cF (d.f i)) d.nf : Nat) + (sumN (fun i => cH (d.h i)) d.nh : Nat) + (sumN (fun i => cS (p.ms i)) d.no : Nat) := ⟨rfl, rfl, rfl⟩
theorem kEnd_eq (k : Int) (d : ND) (p : NP) : kEnd (k + 1) d p = k + (cNd d p : Nat) := by
  have h := (kn_eq (k + 1) d p).2.2
  unfold kEnd cNd
  rw [h]
  omega
theorem cNd_le {d : ND} {p : NP} (t : Nti d p) : sumN (fun i => cF (d.f i)) d.nf ≤ 1002000 ∧ sumN (fun i => cH (d.h i)) d.nh ≤ 4005000 ∧ sumN (fun i => cS (p.ms i)) d.no ≤ 1003001000 ∧ cNd d p ≤ 2000000000 := by
  have h1 := sumN_le (c := fun i => cF (d.f i)) (C := 1002) (j := d.nf) (fun i hi => by have := t.f.2 i hi; unfold cF; omega)
  have g1 : d.nf * 1002 ≤ 1000 * 1002 := Nat.mul_le_mul_right _ t.f.1
  have h2 := sumN_le (c := fun i => cH (d.h i)) (C := 4005) (j := d.nh) (fun i hi => by have := t.h.2 i hi; unfold cH; omega)
  have g2 : d.nh * 4005 ≤ 1000 * 4005 := Nat.mul_le_mul_right _ t.h.1
  have h3 := sumN_le (c := fun i => cS (p.ms i)) (C := 1003001) (j := d.no) (fun i hi => by
      have h2 := mlen_le (t.o.2 i hi).2
      have h3 := Nat.mul_le_mul_right (3 + 1000) (t.o.2 i hi).1
      unfold cS
      omega)
  have g3 : d.no * 1003001 ≤ 1000 * 1003001 := Nat.mul_le_mul_right _ t.o.1
  have h4 := t.i
  unfold cNd
  omega

theorem MkN.sm {w w' : World} {k : Int} {d : ND} {p : NP} (h : MkN w k d p) (s : Sm (NBs d p) w w') : MkN w' k d p := by
  refine ⟨Rw.sm h.f (s.mono (fun b hb => .inl hb)), Rw.sm h.h (s.mono (fun b hb => .inr (.inl hb))), Rw.sm h.o (s.mono (fun b hb => .inr (.inr (.inl ?_)))), owns_sm h.i s (fun j hj => .inr (.inr (.inr (blk_eq hj))))⟩
  rcases hb with hb | ⟨i, hi, hb⟩
  · exact .inl hb
  · rw [QS_mark] at hb
    exact .inr ⟨i, hi, hb⟩
theorem fix_mk (k : Int) (d : ND) (p : NP) : Fix (NBs d p) (fun w => MkN w k d p) := fun w w' s h => h.sm s

/-- A row of nodes, those before place j marked. -/
def MNj (w : World) (a : Option Addr) (c n j : Nat) (k0 : Int) (d : Nat → ND) (p : Nat → NP) : Prop :=
  Rw w 67 5 a c n n (fun i => if i < j then nlist { d i with id := kt k0 (fun i => cNd (d i) (p i)) i } (p i) else nlist (d i) (p i)) (fun i => NBs (d i) (p i)) (fun i w => if i < j then MkN w (kt k0 (fun i => cNd (d i) (p i)) i + 1) (d i) (p i) else NOw w (d i) (p i))

theorem node_at5 {w : World} {g c n j : Nat} {f : Nat → List Value} (row : w.ownsRow 0 67 5 (.slice (some ⟨g, 0, none⟩) n c) n (chunks n f)) (hf : ∀ i, i < n → (f i).length = 5) (hj : j < n) {v0 v1 v2 v3 v4 : Value} (e : f j = [v0, v1, v2, v3, v4]) :
    w.cell? ⟨g, j * 5, none⟩ = some v0 ∧ w.cell? ⟨g, j * 5 + 1, none⟩ = some v1 ∧ w.cell? ⟨g, j * 5 + 2, none⟩ = some v2 ∧ w.cell? ⟨g, j * 5 + 3, none⟩ = some v3 ∧ w.cell? ⟨g, j * 5 + 4, none⟩ = some v4 := by
  have h : ∀ t, t < 5 → w.cell? ⟨g, j * 5 + t, none⟩ = (f j)[t]? := fun t ht => owns_chunk row hf hj ht
  refine ⟨?_, ?_, ?_, ?_, ?_⟩
  · have := h 0 (by decide); rw [e] at this; simpa using this
  · have := h 1 (by decide); rw [e] at this; simpa using this
  · have := h 2 (by decide); rw [e] at this; simpa using this
  · have := h 3 (by decide); rw [e] at this; simpa using this
  · have := h 4 (by decide); rw [e] at this; simpa using this

theorem MNj.start {w : World} {a : Option Addr} {c n : Nat} {k0 : Int} {d : Nat → ND} {p : Nat → NP} (h : NsO w a c n d p) : MNj w a c n 0 k0 d p :=
  Rw.congr h (fun i hi => by rw [if_neg (Nat.not_lt_zero i)]) (fun i hi => rfl) (fun i hi => by funext w; rw [if_neg (Nat.not_lt_zero i)])
theorem MNj.below {w w' : World} {a : Option Addr} {c n j : Nat} {k0 : Int} {d : Nat → ND} {p : Nat → NP} (h : MNj w a c n j k0 d p) (b : Below w.heap.size w w') : MNj w' a c n j k0 d p := Rw.below h b

set_option maxRecDepth 100000 in
set_option maxHeartbeats 4000000 in
theorem markNodeS_all (n : Nat) (a : Option Addr) (c : Nat) (d : Nat → ND) (p : Nat → NP) (k0 : Int) (w : World) (h0 : 0 ≤ k0) (h1 : k0 ≤ 1000000000000000) (hn : n ≤ 1048576) (ht : ∀ i, i < n → Nti (d i) (p i)) (hh : NsO w a c n d p) :
    Calls Tryz.prog 21 #[.slice a n c, .int .i64 k0] w fun e w' => e = .returned (.int .i64 (kt k0 (fun i => cNd (d i) (p i)) n)) ∧ MNj w' a c n n k0 d p ∧ Only w w' (RS a c n (fun i => NBs (d i) (p i))) := by
  have KL : Hid (∀ j, j ≤ n → k0 ≤ kt k0 (fun i => cNd (d i) (p i)) j ∧ kt k0 (fun i => cNd (d i) (p i)) j ≤ k0 + ((1048576 * 2000000000 : Nat) : Int)) := fun j hj => by
    have h1 := kt_le (k0 := k0) (c := fun i => cNd (d i) (p i)) (C := 2000000000) hj (fun i hi => (cNd_le (ht i hi)).2.2.2)
    have h2 : n * 2000000000 ≤ 1048576 * 2000000000 := Nat.mul_le_mul_right _ hn
    exact ⟨h1.1, Int.le_trans h1.2 (by omega)⟩
  have HT : Hid (∀ i, i < n → Nti (d i) (p i)) := ht
  clear ht
  have hh0 := MNj.start (k0 := k0) hh
  clear hh
  go_enter Tryz.func21, Tryz.ntmps21
  go_wp2
  go_loopw [1, 5] (fun q i wr => ∃ j : Nat, j ≤ n ∧ i = .int .i64 j ∧ q = .int .i64 (kt k0 (fun i => cNd (d i) (p i)) j) ∧ MNj wr a c n j k0 d p ∧ Only w wr (RS a c n (fun i => NBs (d i) (p i)))) (fun _ i _ => n - (intOf i).toNat)
  case atStart => exact ⟨0, Nat.zero_le _, rfl, by rw [kt_zero], hh0, Only.refl _ _⟩
  case round =>
    obtain ⟨j, hj, rfl, rfl, hH, hK⟩ := hrel
    obtain ⟨k, hk⟩ : ∃ k, kt k0 (fun i => cNd (d i) (p i)) j = k := ⟨_, rfl⟩
    have hkb := KL.out j hj
    rw [hk] at hkb
    obtain ⟨hk0, hk1⟩ := hkb
    have HKj : Hid (kt k0 (fun i => cNd (d i) (p i)) j = k) := hk
    rw [hk]
    clear hk hh0
    by_cases hlt : j < n
    · have hi' : (j : Int) < (n : Int) := by omega
      obtain ⟨g, rfl⟩ := owns_addr hH.row (by omega)
      have hti := HT.out j hlt
      have HTi : Hid (Nti (d j) (p j)) := hti
      obtain ⟨q1, q2, q3⟩ := kn_eq (k + 1) (d j) (p j)
      obtain ⟨u1, u2, u3, u4⟩ := cNd_le hti
      obtain ⟨k1, e1⟩ : ∃ x, kn1 (k + 1) (d j) = x := ⟨_, rfl⟩
      obtain ⟨k2, e2⟩ : ∃ x, kn2 (k + 1) (d j) = x := ⟨_, rfl⟩
      obtain ⟨k3, e3⟩ : ∃ x, kn3 (k + 1) (d j) (p j) = x := ⟨_, rfl⟩
      have HE : Hid (kn1 (k + 1) (d j) = k1 ∧ kn2 (k + 1) (d j) = k2 ∧ kn3 (k + 1) (d j) (p j) = k3) := ⟨e1, e2, e3⟩
      rw [e1] at q1
      rw [e2] at q2
      rw [e3] at q3
      have b1 : 0 ≤ k1 ∧ k1 ≤ 10000000000000000 := by omega
      have b2 : 0 ≤ k2 ∧ k2 ≤ 10000000000000000 := by omega
      have b3 : 0 ≤ k3 ∧ k3 ≤ 10000000000000000 := by omega
      have hni : (d j).ni ≤ 1048577 := by have := hti.i; omega
      have HO : Hid (NOw wr (d j) (p j)) := by
        have := hH.el j hlt
        simp only [Nat.lt_irrefl, if_false] at this
        exact this
      have HG : Hid (∀ b, NBs (d j) (p j) b → b ≠ g) := fun b hb e => hH.out j hlt g rfl (by rw [← e]; exact hb)
      have HF : Hid (∀ i, i < n → (if i < j then nlist { d i with id := kt k0 (fun i => cNd (d i) (p i)) i } (p i) else nlist (d i) (p i)).length = 5) := fun i _ => by dsimp only; split <;> rfl
      have HR : Hid (MNj wr (some ⟨g, 0, none⟩) c n j k0 d p) := hH
      have row0 := hH.row
      have z : wr.frozen? ⟨g, j * 5, none⟩ = false := hH.row.frozenAt _
      obtain ⟨c0, c1, c2, c3, c4⟩ := node_at5 (v0 := .int .i64 (d j).id) (v1 := .slice (p j).f.1 (d j).nf (p j).f.2) (v2 := .slice (p j).h.1 (d j).nh (p j).h.2) (v3 := .slice (p j).o.1 (d j).no (p j).o.2) (v4 := .slice (p j).i.1 (d j).ni (p j).i.2) row0 HF.out hlt (by simp [nlist])
      have on1 : Only wr (wr.setCell ⟨g, j * 5, none⟩ (.int .i64 k)) (fun b => b = g ∨ NBs (d j) (p j) b) := (Only.refl _ _).setCell _ _ (.inl rfl)
      have on1' : Only wr (wr.setCell ⟨g, j * 5, none⟩ (.int .i64 k)) (fun b => b = g) := (Only.refl _ _).setCell _ _ rfl
      have row1 := owns_stored row0 HF.out hlt (j := 0) (by decide) (.int .i64 k)
      simp only [Nat.add_zero] at row1
      have hO1 := HO.out.sm (on1'.sm (fun b hb e => HG.out b hb e))
      have qf := hO1.f
      have qh := hO1.h
      have qo := hO1.o
      have qi := hO1.i
      clear hH q1 q2 q3 e1 e2 e3 u1 u2 u3 u4 hti row0 on1' hO1
      have R1 : Hid _ := row1
      have ON : Hid (Only wr (wr.setCell ⟨g, j * 5, none⟩ (.int .i64 k)) (fun b => b = g ∨ NBs (d j) (p j) b)) := on1
      clear row1 on1
      go_wp2_with fail
      refine (markFrameS_all (RS (p j).f.1 (p j).f.2 (d j).nf (fun i => QF ((p j).fp i))) (d j).nf (p j).f.1 (p j).f.2 (d j).f (p j).fp (k + 1) _ (by omega) (by omega) HTi.out.s.f.1 HTi.out.s.f.2 qf (fun b hb => hb)).mono ?_
      rintro e w1 ⟨rfl, pf, g1⟩
      rw [show kt (k + 1) (fun i => cF ((d j).f i)) (d j).nf = k1 from HE.out.1]
      replace qh := Rw.sm qh (g1.sm (fun b hb hs => HO.out.fh b hs hb))
      replace qo := Rw.sm qo (g1.sm (fun b hb hs => HO.out.fo b hs hb))
      replace qi := qi.sm (P := fun b => blk (p j).i = some b) (g1.sm (fun b hb hs => HO.out.fi b hs hb)) (fun b hb => hb)
      replace R1 : Hid _ := owns_only R1.out g1 (fun b hb hs => HG.out b (.inl hs) (by simp [Value.ownBlock] at hb; exact hb.symm))
      replace ON : Hid (Only wr w1 (fun b => b = g ∨ NBs (d j) (p j) b)) := ON.out.trans (g1.more (fun b hb => .inr (.inl hb)))
      clear g1 qf c0 c1 c2 c3 c4 z
      obtain ⟨c0, c1, c2, c3, c4⟩ := node_at5 (v0 := .int .i64 k) (v1 := .slice (p j).f.1 (d j).nf (p j).f.2) (v2 := .slice (p j).h.1 (d j).nh (p j).h.2) (v3 := .slice (p j).o.1 (d j).no (p j).o.2) (v4 := .slice (p j).i.1 (d j).ni (p j).i.2) R1.out (set_len HF.out _ _ _) hlt (by simp [nlist])
      go_wp2_with fail
      refine (markHomeS_all (RS (p j).h.1 (p j).h.2 (d j).nh (fun i => QH ((p j).hp i))) (d j).nh (p j).h.1 (p j).h.2 (d j).h (p j).hp k1 _ (by omega) (by omega) HTi.out.s.h.1 HTi.out.s.h.2 qh (fun b hb => hb)).mono ?_
      rintro e w2 ⟨rfl, ph, g1⟩
      rw [show kt k1 (fun i => cH ((d j).h i)) (d j).nh = k2 from by rw [← HE.out.1]; exact HE.out.2.1]
      replace pf := Rw.sm pf (g1.sm (fun b hb hs => HO.out.fh b hb hs))
      replace qo := Rw.sm qo (g1.sm (fun b hb hs => HO.out.ho b hs hb))
      replace qi := qi.sm (P := fun b => blk (p j).i = some b) (g1.sm (fun b hb hs => HO.out.hi b hs hb)) (fun b hb => hb)
      replace R1 : Hid _ := owns_only R1.out g1 (fun b hb hs => HG.out b (.inr (.inl hs)) (by simp [Value.ownBlock] at hb; exact hb.symm))
      replace ON : Hid (Only wr w2 (fun b => b = g ∨ NBs (d j) (p j) b)) := ON.out.trans (g1.more (fun b hb => .inr (.inr (.inl hb))))
      clear g1 qh c0 c1 c2 c3 c4
      obtain ⟨c0, c1, c2, c3, c4⟩ := node_at5 (v0 := .int .i64 k) (v1 := .slice (p j).f.1 (d j).nf (p j).f.2) (v2 := .slice (p j).h.1 (d j).nh (p j).h.2) (v3 := .slice (p j).o.1 (d j).no (p j).o.2) (v4 := .slice (p j).i.1 (d j).ni (p j).i.2) R1.out (set_len HF.out _ _ _) hlt (by simp [nlist])
      go_wp2_with fail
      refine (markSenderS_all (RS (p j).o.1 (p j).o.2 (d j).no (fun i => QS ((p j).op i) ((p j).ms i))) (d j).no (p j).o.1 (p j).o.2 (d j).b (p j).op (p j).ms k2 _ (by omega) (by omega) HTi.out.s.o.1 (fun i hi => ⟨by have := (HTi.out.o.2 i hi).1; omega, fun m hm => by have := (HTi.out.o.2 i hi).2 m hm; omega⟩) qo (fun b hb => hb)).mono ?_
      rintro e w3 ⟨rfl, po, g1⟩
      rw [show kt k2 (fun i => cS ((p j).ms i)) (d j).no = k3 from by rw [← HE.out.2.1]; exact HE.out.2.2]
      replace pf := Rw.sm pf (g1.sm (fun b hb hs => HO.out.fo b hb hs))
      replace ph := Rw.sm ph (g1.sm (fun b hb hs => HO.out.ho b hb hs))
      replace qi := qi.sm (P := fun b => blk (p j).i = some b) (g1.sm (fun b hb hs => HO.out.oi b hs hb)) (fun b hb => hb)
      replace R1 : Hid _ := owns_only R1.out g1 (fun b hb hs => HG.out b (.inr (.inr (.inl hs))) (by simp [Value.ownBlock] at hb; exact hb.symm))
      replace ON : Hid (Only wr w3 (fun b => b = g ∨ NBs (d j) (p j) b)) := ON.out.trans (g1.more (fun b hb => .inr (.inr (.inr (.inl hb)))))
      clear g1 qo c0 c1 c2 c3 c4
      obtain ⟨c0, c1, c2, c3, c4⟩ := node_at5 (v0 := .int .i64 k) (v1 := .slice (p j).f.1 (d j).nf (p j).f.2) (v2 := .slice (p j).h.1 (d j).nh (p j).h.2) (v3 := .slice (p j).o.1 (d j).no (p j).o.2) (v4 := .slice (p j).i.1 (d j).ni (p j).i.2) R1.out (set_len HF.out _ _ _) hlt (by simp [nlist])
      go_wp2_with fail
      refine (markReceiverS_any 0 (d j).ni (p j).i.1 (p j).i.2 (d j).g k3 _ (by omega) (by omega) hni qi).mono ?_
      rintro e w4 ⟨rfl, pi, g4⟩
      have G4 : Only w3 w4 (fun b => blk (p j).i = some b) := (Only.refl _ _).grown g4 (fun j hj => blk_eq hj)
      replace pf := Rw.sm pf (G4.sm (fun b hb hs => HO.out.fi b hb hs))
      replace ph := Rw.sm ph (G4.sm (fun b hb hs => HO.out.hi b hb hs))
      replace po := Rw.sm po (G4.sm (fun b hb hs => HO.out.oi b (by
        rcases hb with hb | ⟨i, hi, hb⟩
        · exact .inl hb
        · rw [QS_mark] at hb
          exact .inr ⟨i, hi, hb⟩) hs))
      replace R1 : Hid _ := owns_only R1.out G4 (fun b hb hs => HG.out b (.inr (.inr (.inr hs))) (by simp [Value.ownBlock] at hb; exact hb.symm))
      replace ON : Hid (Only wr w4 (fun b => b = g ∨ NBs (d j) (p j) b)) := ON.out.trans (G4.more (fun b hb => .inr (.inr (.inr (.inr hb)))))
      have HM : Hid (MkN w4 (k + 1) (d j) (p j)) := by
        refine ⟨pf, ?_, ?_, ?_⟩
        · rw [HE.out.1]; exact ph
        · rw [HE.out.2.1]; exact po
        · rw [HE.out.2.2]; exact pi
      clear g4 G4 qi c0 c1 c2 c3 c4 pf ph po pi
      have ST : Hid (MNj w4 (some ⟨g, 0, none⟩) c n (j + 1) k0 d p) := by
        refine (Rw.turn HR.out hlt ON.out R1.out HM.out (fix_mk _ _ _)).congr (fun i hi => ?_) (fun i hi => rfl) (fun i hi => ?_)
        · by_cases e : i = j
          · subst e; simp [nlist, HKj.out]
          · by_cases h2 : i < j
            · simp [e, h2, show i < j + 1 by omega]
            · simp [e, h2, show ¬ i < j + 1 by omega]
        · funext w
          by_cases e : i = j
          · subst e; simp [HKj.out]
          · by_cases h2 : i < j
            · simp [e, h2, show i < j + 1 by omega]
            · simp [e, h2, show ¬ i < j + 1 by omega]
      go_wp2
      go_roundw
      case rel =>
        refine ⟨j + 1, by omega, by go_num, ?_, ST.out, hK.trans (ON.out.more (fun b hb => ?_))⟩
        · have := kt_succ k0 (fun i => cNd (d i) (p i)) j
          rw [HKj.out] at this
          rw [this]
          have e2 := kEnd_eq k (d j) (p j)
          unfold kEnd at e2
          rw [HE.out.2.2] at e2
          rw [e2]
        · rcases hb with rfl | hb
          · exact .inl rfl
          · exact .inr ⟨j, hlt, hb⟩
      case measure => simp [intOf]; omega
    · have : j = n := by omega
      subst this
      have HR : Hid (MNj wr a c j j k0 d p) := hH
      clear hH
      go_wp2
      go_ret
      exact ⟨ret_int HKj.out.symm, HR.out, hK⟩


set_option maxRecDepth 100000 in
set_option maxHeartbeats 1000000 in
theorem markPacketS_none (k : Int) (w : World) : Calls Tryz.prog 22 #[.slice none 0 0, .int .i64 k] w fun e w' => e = .returned (.int .i64 k) ∧ w' = w := by
  go_enter Tryz.func22, Tryz.ntmps22
  go_wp2
  go_loopw [1, 5] (fun q i wr => q = .int .i64 k ∧ i = .int .i64 0 ∧ wr = w) (fun _ i _ => 0)
  case atStart => exact ⟨rfl, rfl, rfl⟩
  case round =>
    obtain ⟨rfl, rfl, rfl⟩ := hrel
    go_wp2
    go_ret
    exact ⟨rfl, rfl⟩

end Go.Proofs.YtpfppeifppdmbaaGreat
