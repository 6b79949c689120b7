/- What the law's markSenderS does at any owned row of senders. -/
import Derived.Test.YtnhbilhkmbkibaaWtM
namespace Go.Proofs.Ytnhbilhkmbkibaa
open Go.RowKit
set_option linter.unusedVariables false

def mlen : List M → Nat
  | [] => 0
  | m :: ms => 3 + m.xs.length + mlen ms
theorem markEnd_eq (k : Int) (ms : List M) : markEnd k ms = k + (mlen ms : Nat) := by
  induction ms generalizing k with
  | nil => simp [markEnd, mlen]
  | cons m ms ih => simp only [markEnd, mlen, ih]; omega
theorem mlen_le {ms : List M} {L : Nat} (h : ∀ m ∈ ms, m.xs.length ≤ L) : mlen ms ≤ ms.length * (3 + L) := by
  induction ms with
  | nil => simp [mlen]
  | cons m ms ih =>
    have h1 := ih (fun x hx => h x (List.mem_cons_of_mem _ hx))
    have h2 := h m (List.mem_cons_self ..)
    simp only [mlen, List.length_cons, Nat.succ_mul]
    omega
theorem markMs_mem {k : Int} {ms : List M} {x : M} (h : x ∈ markMs k ms) : ∃ m ∈ ms, m.v = x.v ∧ m.xs.length = x.xs.length := by
  induction ms generalizing k with
  | nil => simp [markMs] at h
  | cons m ms ih =>
    simp only [markMs, List.mem_cons] at h
    rcases h with rfl | h
    · exact ⟨m, by simp, (markM_v _ _).symm, by simp [markM, mki_length]⟩
    · obtain ⟨y, hy, e⟩ := ih h
      exact ⟨y, by simp [hy], e⟩
theorem mem_markMs {k : Int} {ms : List M} {m : M} (h : m ∈ ms) : ∃ x ∈ markMs k ms, x.v = m.v := by
  induction ms generalizing k with
  | nil => simp at h
  | cons y ms ih =>
    simp only [List.mem_cons] at h
    rcases h with rfl | h
    · exact ⟨markM k m, by simp [markMs], markM_v _ _⟩
    · obtain ⟨x, hx, e⟩ := ih (k := k + 1 + 1 + 1 + y.xs.length) h
      exact ⟨x, by simp [markMs, hx], e⟩
theorem QS_mark (p : Pl) (k : Int) (ms : List M) : QS p (markMs k ms) = QS p ms := by
  funext b
  apply propext
  constructor
  · rintro (h | ⟨x, hx, hb⟩)
    · exact .inl h
    · obtain ⟨m, hm, e, _⟩ := markMs_mem hx
      exact .inr ⟨m, hm, by rw [e]; exact hb⟩
  · rintro (h | ⟨m, hm, hb⟩)
    · exact .inl h
    · obtain ⟨x, hx, e⟩ := mem_markMs (k := k) hm
      exact .inr ⟨x, hx, by rw [e]; exact hb⟩

def cS (ms : List M) : Nat := 1 + mlen ms

/-- The sender at place j is marked. -/
theorem sender_step {wr w2 : World} {g c n j : Nat} {b : Nat → Int} {p : Nat → Pl} {ms : Nat → List M} {k : Int} (h : SO wr (some ⟨g, 0, none⟩) c n b p ms) (hj : j < n)
    (o2 : Deep w2 0 (p j).1 (p j).2 (markMs (k + 1) (ms j))) (k2 : Only (wr.setCell ⟨g, j * 2, none⟩ (.int .i64 k)) w2 (QS (p j) (ms j))) :
    SO w2 (some ⟨g, 0, none⟩) c n (fun i => if i = j then k else b i) p (fun i => if i = j then markMs (k + 1) (ms j) else ms i) ∧ Only wr w2 (fun b => b = g ∨ QS (p j) (ms j) b) := by
  have hf : ∀ i, i < n → ((fun i => scells (b i) (p i) (ms i).length) i).length = 2 := fun i _ => rfl
  have r0 := owns_stored h.row hf hj (j := 0) (by decide) (.int .i64 k)
  have r1 := owns_only r0 k2 (fun x hx hq => by
    have : g = x := by simpa [Value.ownBlock] using hx
    subst this
    exact h.out j hj g rfl hq)
  have on : Only wr w2 (fun b => b = g ∨ QS (p j) (ms j) b) := ((Only.refl wr _).setCell ⟨g, j * 2, none⟩ (.int .i64 k) (.inl rfl)).trans (k2.more (fun b hb => .inr hb))
  refine ⟨(Rw.turn h hj on r1 (E' := ES (p j) (markMs (k + 1) (ms j))) o2 ?_).congr (fun i hi => ?_) (fun i hi => ?_) (fun i hi => ?_), on⟩
  · have := fix_s (p j) (markMs (k + 1) (ms j))
    rw [QS_mark] at this
    exact this
  · by_cases e : i = j
    · subst e
      simp [scells, markMs_length]
    · simp [e]
  · by_cases e : i = j
    · subst e
      simp [QS_mark]
    · simp [e]
  · by_cases e : i = j
    · subst e; simp
    · simp [e]

set_option maxRecDepth 100000 in
set_option maxHeartbeats 2000000 in
theorem markSenderS_all (S : Nat → Prop) (n : Nat) (a : Option Addr) (c : Nat) (b : Nat → Int) (p : Nat → Pl) (ms : Nat → List M) (k0 : Int) (w : World) (h0 : 0 ≤ k0) (h1 : k0 ≤ 1000000000000000000) (hn : n ≤ 1048576) (hx : ∀ i, i < n → (ms i).length ≤ 1048577 ∧ ∀ m ∈ ms i, m.xs.length ≤ 1048577) (hh : SO w a c n b p ms) (hS : ∀ b, RS a c n (fun i => QS (p i) (ms i)) b → S b) :
    Calls Try.prog 26 #[.slice a n c, .int .i64 k0] w fun e w' => e = .returned (.int .i64 (kt k0 (fun i => cS (ms i)) n)) ∧ SO w' a c n (fun i => kt k0 (fun i => cS (ms i)) i) p (fun i => markMs (kt k0 (fun i => cS (ms i)) i + 1) (ms i)) ∧ Only w w' S := by
  have KL : Hid (∀ j, j ≤ n → k0 ≤ kt k0 (fun i => cS (ms i)) j ∧ kt k0 (fun i => cS (ms i)) j ≤ k0 + 1152929300000000000) := fun j hj => by
    have h1 := kt_le (k0 := k0) (c := fun i => cS (ms i)) (C := 1 + 1048577 * (3 + 1048577)) hj (fun i hi => by
      have h2 := mlen_le (hx i hi).2
      have h3 := Nat.mul_le_mul_right (3 + 1048577) (hx i hi).1
      unfold cS
      omega)
    have h2 : n * (1 + 1048577 * (3 + 1048577)) ≤ 1048576 * (1 + 1048577 * (3 + 1048577)) := Nat.mul_le_mul_right _ hn
    exact ⟨h1.1, Int.le_trans h1.2 (by omega)⟩
  have HX : Hid (∀ i, i < n → (ms i).length ≤ 1048577 ∧ ∀ m ∈ ms i, m.xs.length ≤ 1048577) := hx
  have HS : Hid (∀ b, RS a c n (fun i => QS (p i) (ms i)) b → S b) := hS
  clear hx hS
  go_enter Try.func26, Try.ntmps26
  go_wp2
  go_loopw [1, 5] (fun q i wr => ∃ j : Nat, j ≤ n ∧ i = .int .i64 j ∧ q = .int .i64 (kt k0 (fun i => cS (ms i)) j) ∧ SO wr a c n (fun i => if i < j then kt k0 (fun i => cS (ms i)) i else b i) p (fun i => if i < j then markMs (kt k0 (fun i => cS (ms i)) i + 1) (ms i) else ms i) ∧ Only w wr S) (fun _ i _ => n - (intOf i).toNat)
  case atStart => exact ⟨0, Nat.zero_le _, rfl, by rw [kt_zero], by simpa using hh, Only.refl _ _⟩
  case round =>
    obtain ⟨j, hj, rfl, rfl, hH, hK⟩ := hrel
    obtain ⟨k, hk⟩ : ∃ k, kt k0 (fun i => cS (ms i)) j = k := ⟨_, rfl⟩
    have hkb := KL.out j hj
    rw [hk] at hkb
    obtain ⟨hk0, hk1⟩ := hkb
    have HKj : Hid (kt k0 (fun i => cS (ms i)) j = k) := hk
    rw [hk]
    clear hk
    by_cases hlt : j < n
    · have hi' : (j : Int) < (n : Int) := by omega
      obtain ⟨g, rfl⟩ := owns_addr hH.row (by omega)
      have hf : ∀ i, i < n → ((fun i => scells ((fun i => if i < j then kt k0 (fun i => cS (ms i)) i else b i) i) (p i) ((fun i => if i < j then markMs (kt k0 (fun i => cS (ms i)) i + 1) (ms i) else ms i) i).length) i).length = 2 := fun i _ => rfl
      have cc : ∀ t, t < 2 → wr.cell? ⟨g, j * 2 + t, none⟩ = (scells (b j) (p j) (ms j).length)[t]? := fun t ht => by
        have := owns_chunk hH.row hf hlt ht
        simpa using this
      have c0 : wr.cell? ⟨g, j * 2, none⟩ = some (.int .i64 (b j)) := by have := cc 0 (by decide); simpa [scells] using this
      have c1 : wr.cell? ⟨g, j * 2 + 1, none⟩ = some (.slice (p j).1 (ms j).length (p j).2) := by have := cc 1 (by decide); simpa [scells] using this
      have oD : Deep wr 0 (p j).1 (p j).2 (ms j) := by
        have h := hH.el j hlt
        simp only [Nat.lt_irrefl, if_false, ES] at h
        exact h
      have hne : ∀ x, QS (p j) (ms j) x → g ≠ x := fun x hx e => by
        subst e
        have := hH.out j hlt g rfl
        simp only [Nat.lt_irrefl, if_false] at this
        exact this hx
      have oD1 : Deep (wr.setCell ⟨g, j * 2, none⟩ (.int .i64 k)) 0 (p j).1 (p j).2 (ms j) :=
        ⟨owns_setCell oD.row (fun x hx => hne x (.inl (blk_eq hx))) _, oD.lists.far _ _ (fun m hm x hx => hne x (.inr ⟨m, hm, hx⟩))⟩
      have z0 := hH.row.frozenAt (j * 2)
      have HH : Hid (SO wr (some ⟨g, 0, none⟩) c n (fun i => if i < j then kt k0 (fun i => cS (ms i)) i else b i) p (fun i => if i < j then markMs (kt k0 (fun i => cS (ms i)) i + 1) (ms i) else ms i)) := hH
      obtain ⟨hxa, hxb⟩ := HX.out j hlt
      have HL : Hid (markEnd (k + 1) (ms j) = kt k0 (fun i => cS (ms i)) (j + 1)) := by
        show _ = _
        rw [markEnd_eq, kt_succ, HKj.out]
        unfold cS
        omega
      clear hH hh hf cc oD hne
      go_wp2_with fail
      refine (markMsgS_only (QS (p j) (ms j)) 0 (p j).1 (p j).2 (ms j) (k + 1) _ (by omega) (by omega) hxa hxb oD1 ⟨fun x hx => .inl (blk_eq hx), fun m hm x hx => .inr ⟨m, hm, hx⟩⟩).mono ?_
      rintro e w2 ⟨rfl, o2, k2⟩
      have ST0 := sender_step (k := k) HH.out hlt (by simp only [Nat.lt_irrefl, if_false]; exact o2) (by simp only [Nat.lt_irrefl, if_false]; exact k2)
      simp only [Nat.lt_irrefl, if_false] at ST0
      have ST : Hid _ := ST0
      rw [HL.out]
      clear ST0 c0 c1 z0 oD1 o2 k2 hxa hxb
      go_wp2
      go_roundw
      case rel =>
        refine ⟨j + 1, by omega, by go_num, rfl, ?_, hK.trans (ST.out.2.more (fun b hb => ?_))⟩
        · refine ST.out.1.congr (fun i hi => ?_) (fun i hi => ?_) (fun i hi => ?_)
          all_goals
            have e1 := upto (fun i => kt k0 (fun i => cS (ms i)) i) b j i
            have e2 := upto (fun i => markMs (kt k0 (fun i => cS (ms i)) i + 1) (ms i)) ms j i
            simp only [HKj.out] at e1 e2
            simp only [e1, e2]
        · rcases hb with rfl | hb
          · exact HS.out _ (.inl rfl)
          · exact HS.out _ (.inr ⟨j, hlt, hb⟩)
      case measure => simp [intOf]; omega
    · have : j = n := by omega
      subst this
      have R' : Hid (SO wr a c j (fun i => kt k0 (fun i => cS (ms i)) i) p (fun i => markMs (kt k0 (fun i => cS (ms i)) i + 1) (ms i))) := hH.congr (fun i hi => by simp [hi]) (fun i hi => by simp [hi]) (fun i hi => by simp [hi])
      clear hH hh
      go_wp2
      go_ret
      exact ⟨ret_int HKj.out.symm, R'.out, hK⟩
end Go.Proofs.Ytnhbilhkmbkibaa
