/- More on reading a message back: what a reader has read, of no program. -/
import Derived.Test.YtbihhndpjpdbmaaParse
namespace Go.Proofs.Ytbihhndpjpdbmaa
set_option linter.unusedVariables false

theorem no_flag {bs R : List Int} {a b c : Int} (hN : InR [a, b, c]) (hs : bs = flatB [a, b, c] ++ R) (hc : 1 < c) : NoMsg bs := by
  intro k p o xs hok he
  rw [msgB_ok hok, hs] at he
  obtain ⟨N', hM, _⟩ := flat_prefix _ _ R hN (nums_in hok) he.symm
  simp only [numsOf, List.cons_append, List.nil_append, List.cons.injEq] at hM
  have := hM.2.2.1
  cases o <;> simp [bitB] at this <;> omega

theorem no_rest {bs N R : List Int} (hN : InR N) (hs : bs = flatB N ++ R) (hl : 7 ≤ N.length) (hR : R ≠ []) : NoMsg bs := by
  intro k p o xs hok he
  rw [msgB_ok hok, hs] at he
  obtain ⟨N', hM, hR'⟩ := flat_prefix N _ R hN (nums_in hok) he.symm
  have h1 := congrArg List.length hM
  have h2 := nums_len hok
  rw [List.length_append] at h1
  have : N' = [] := List.length_eq_zero_iff.1 (by omega)
  rw [this] at hR'
  exact hR hR'

/-- What a reader has read: all well so far, or there is no message. -/
def Inv (bs N : List Int) (at' : Int) (bad : Bool) : Prop :=
  (bad = false ∧ InR N ∧ ∃ R, bs = flatB N ++ R ∧ at' = ((flatB N).length : Int)) ∨ (bad = true ∧ NoMsg bs)

theorem Inv.start (bs : List Int) : Inv bs [] 0 false := .inl ⟨rfl, fun x hx => by simp at hx, bs, rfl, rfl⟩

/-- What one number's reading does. -/
def Step (bs : List Int) (at' : Int) (bad : Bool) (n at2 : Int) (bad2 : Bool) : Prop :=
  (getn bs at' = (n, at2, true) ∧ bad2 = bad) ∨ ((∀ n q, getn bs at' ≠ (n, q, true)) ∧ n = 0 ∧ at2 = at' ∧ bad2 = true)

theorem inR_snoc {N : List Int} {n : Int} (h : InR N) (hn : 0 ≤ n ∧ n ≤ 100000) : InR (N ++ [n]) := by
  intro x hx
  rcases List.mem_append.1 hx with hx | hx
  · exact h x hx
  · simp at hx; subst hx; exact hn

theorem flatB_snoc (N : List Int) (n : Int) : flatB (N ++ [n]) = flatB N ++ enc 2 n := by rw [flatB_append]; simp [flatB]

theorem Inv.step {bs N : List Int} {at' n at2 : Int} {bad bad2 : Bool} (hb : ∀ x ∈ bs, 0 ≤ x ∧ x < 256) (h : Inv bs N at' bad) (hl : N.length < 3 ∨ at' < bs.length) (hs : Step bs at' bad n at2 bad2) : Inv bs (N ++ [n]) at2 bad2 := by
  rcases h with ⟨rfl, hN, R, hbs, rfl⟩ | ⟨rfl, hno⟩
  · rcases hs with ⟨hg, rfl⟩ | ⟨hf, rfl, rfl, rfl⟩
    · obtain ⟨r, hR, hq, h0, h1⟩ := getn_sound bs (flatB N) R n at2 hb hbs hg
      refine .inl ⟨rfl, inR_snoc hN ⟨h0, h1⟩, r, ?_, ?_⟩
      · rw [flatB_snoc, List.append_assoc, ← hR]; exact hbs
      · rw [flatB_snoc, hq, List.length_append]; omega
    · refine .inr ⟨rfl, ?_⟩
      by_cases hR : R = []
      · subst hR
        rw [List.append_nil] at hbs
        rcases hl with hl | hl
        · exact no_short hN hbs hl
        · rw [hbs] at hl; omega
      · exact no_fail hN hbs hR hf
  · rcases hs with ⟨_, rfl⟩ | ⟨_, _, _, rfl⟩
    · exact .inr ⟨rfl, hno⟩
    · exact .inr ⟨rfl, hno⟩

theorem Inv.flag {bs : List Int} {a b c at' : Int} {bad : Bool} (h : Inv bs [a, b, c] at' bad) : Inv bs [a, b, c] at' (bad || decide (1 < c)) ∧ ((bad || decide (1 < c)) = false → c = 0 ∨ c = 1) := by
  rcases h with ⟨rfl, hN, R, hbs, rfl⟩ | ⟨rfl, hno⟩
  · by_cases hc : 1 < c
    · refine ⟨.inr ⟨by simp [hc], no_flag hN hbs hc⟩, ?_⟩
      simp [hc]
    · have := (hN c (by simp)).1
      refine ⟨.inl ⟨by simp; omega, hN, R, hbs, rfl⟩, fun _ => by omega⟩
  · exact ⟨.inr ⟨rfl, hno⟩, by simp⟩

/-- The answer, where all was read. -/
theorem res_read {bs ws : List Int} {a b c : Int} (hN : InR (a :: b :: c :: ws)) (hs : bs = flatB (a :: b :: c :: ws)) (hc : c = 0 ∨ c = 1) (hok : msgOkB a b (c == 1) ws = true) : Res bs a b (c == 1) ws true := by
  refine .inl ⟨rfl, hok, ?_⟩
  rw [msgB_ok hok, numsOf_back hc, hs]

theorem bs_ne {a : Int} {r : List Int} : flatB (a :: r) ≠ [] := fun h => by have := flatB_nil_of h; cases this

theorem res_not_ok {bs ws : List Int} {a b c : Int} (hN : InR (a :: b :: c :: ws)) (hs : bs = flatB (a :: b :: c :: ws)) (hok : msgOkB a b (c == 1) ws = false) : NoMsg bs := by
  refine only_msg hN hs ?_
  unfold msgB
  rw [if_neg (by rw [hok]; decide), hs]
  exact bs_ne.symm
end Go.Proofs.Ytbihhndpjpdbmaa
