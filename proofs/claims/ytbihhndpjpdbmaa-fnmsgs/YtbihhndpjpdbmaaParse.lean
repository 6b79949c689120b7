/- Reading a message back from its bytes, of no program: one number's bytes are told from what follows; so are many numbers'. -/
import Derived.Test.YtbihhndpjpdbmaaGet
import Derived.Test.YtbihhndpjpdbmaaFlat
namespace Go.Proofs.Ytbihhndpjpdbmaa

theorem not_bad {n m u : Int} {b : Bool} (hz : n = 0 → b = true) (hm : m + n * u ≤ 100000) : ¬ ((n = 0 ∧ b = false) ∨ 100000 < m + n * u) := by
  rintro (⟨h, h'⟩ | h)
  · rw [hz h] at h'
    cases h'
  · omega

theorem gnL_enc (f : Nat) (n : Int) (b : Bool) (m u p : Int) (r : List Int) (hn : 0 ≤ n) (hf : n < pw f) (hz : n = 0 → b = true) (hu : 0 < u) (hm : m + n * u ≤ 100000) :
    gnL (f + 1) (enc f n ++ r) b m u p = (m + n * u, p + (enc f n).length, true) := by
  induction f generalizing n b m u p with
  | zero =>
    have h1 : n < 128 := by simpa [pw] using hf
    show gnL 1 ([n] ++ r) b m u p = _
    rw [List.singleton_append, gnL_hit 0 n r b m u p h1 (not_bad hz hm)]
    simp [enc]
  | succ f ih =>
    by_cases h1 : n < 128
    · rw [enc_small _ _ h1, List.singleton_append, gnL_hit (f + 1) n r b m u p h1 (not_bad hz hm)]
      simp
    · rw [enc_big _ _ h1, List.cons_append, gnL_go (f + 1) _ _ b m u p (by omega)]
      have e : n % 128 + 128 - 128 = n % 128 := by omega
      rw [e]
      have hd : 128 * (n / 128) + n % 128 = n := by omega
      have hmul : m + n % 128 * u + n / 128 * (u * 128) = m + n * u := by
        have : n * u = (128 * (n / 128) + n % 128) * u := by rw [hd]
        rw [this, Int.add_mul]
        have : n / 128 * (u * 128) = 128 * (n / 128) * u := by rw [Int.mul_comm u 128, ← Int.mul_assoc, Int.mul_comm (n / 128) 128]
        omega
      rw [ih (n / 128) false _ (u * 128) (p + 1) (by omega) (by simp [pw] at hf; omega) (by intro h; omega) (by omega) (by rw [hmul]; exact hm), hmul]
      simp
      omega

theorem getn_enc (pre r : List Int) (n : Int) (h0 : 0 ≤ n) (h1 : n ≤ 100000) : getn (pre ++ (enc 2 n ++ r)) pre.length = (n, (pre.length : Int) + ((enc 2 n).length : Int), true) := by
  unfold getn
  rw [if_neg (by omega), Int.toNat_natCast, List.drop_left]
  have h := gnL_enc 2 n true 0 1 pre.length r h0 (by simp [pw]; omega) (fun _ => rfl) (by omega) (by omega)
  rw [h]
  simp

theorem gnL_sound (f : Nat) (l : List Int) (b : Bool) (m u p n q : Int) (hb : ∀ x ∈ l, 0 ≤ x ∧ x < 256) (hu : 0 < u) (h : gnL (f + 1) l b m u p = (n, q, true)) :
    ∃ c r, l = enc f c ++ r ∧ n = m + c * u ∧ q = p + (enc f c).length ∧ 0 ≤ c ∧ c < pw f ∧ (c = 0 → b = true) ∧ n ≤ 100000 := by
  induction f generalizing l b m u p with
  | zero =>
    cases l with
    | nil => rw [gnL_end] at h; simp at h
    | cons x r =>
      by_cases h1 : x < 128
      · by_cases h2 : (x = 0 ∧ b = false) ∨ 100000 < m + x * u
        · rw [gnL_bad 0 x r b m u p h1 h2] at h; simp at h
        · rw [gnL_hit 0 x r b m u p h1 h2] at h
          simp only [Prod.mk.injEq, and_true] at h
          have hx := hb x (by simp)
          refine ⟨x, r, rfl, h.1.symm, by simp [enc]; omega, hx.1, by simpa [pw] using h1, ?_, by omega⟩
          intro hz
          cases b with
          | true => rfl
          | false => exact absurd (.inl ⟨hz, rfl⟩) h2
      · rw [gnL_go 0 x r b m u p h1] at h
        simp [gnL] at h
  | succ f ih =>
    cases l with
    | nil => rw [gnL_end] at h; simp at h
    | cons x r =>
      have hx := hb x (by simp)
      by_cases h1 : x < 128
      · by_cases h2 : (x = 0 ∧ b = false) ∨ 100000 < m + x * u
        · rw [gnL_bad _ x r b m u p h1 h2] at h; simp at h
        · rw [gnL_hit _ x r b m u p h1 h2] at h
          simp only [Prod.mk.injEq, and_true] at h
          have hp : x < pw (f + 1) := by
            have : ∀ g, (128 : Int) ≤ pw g := by
              intro g
              induction g with
              | zero => simp [pw]
              | succ g ig => simp [pw]; omega
            have := this (f + 1)
            omega
          refine ⟨x, r, by rw [enc_small _ _ h1]; rfl, h.1.symm, by rw [enc_small _ _ h1]; simp; omega, hx.1, hp, ?_, by omega⟩
          intro hz
          cases b with
          | true => rfl
          | false => exact absurd (.inl ⟨hz, rfl⟩) h2
      · rw [gnL_go _ x r b m u p h1] at h
        obtain ⟨c, r', hl, hn, hq, c0, c1, cz, hle⟩ := ih r false _ (u * 128) (p + 1) (fun y hy => hb y (by simp [hy])) (by omega) h
        have cpos : 0 < c := by
          apply Classical.byContradiction
          intro hc
          have := cz (by omega)
          cases this
        have e1 : (c * 128 + (x - 128)) % 128 + 128 = x := by omega
        have e2 : (c * 128 + (x - 128)) / 128 = c := by omega
        refine ⟨c * 128 + (x - 128), r', ?_, ?_, ?_, by omega, by simp [pw]; omega, by intro hz; omega, hle⟩
        · rw [enc_big _ _ (by omega), e1, e2, hl]; rfl
        · rw [hn, Int.add_mul]
          have : c * (u * 128) = c * 128 * u := by rw [Int.mul_comm u 128, Int.mul_assoc]
          omega
        · rw [hq, enc_big _ _ (by omega), e2]
          simp
          omega

/-- What GetNum reads at a place is a number's own bytes there. -/
theorem getn_sound (bs pre rest : List Int) (n q : Int) (hb : ∀ x ∈ bs, 0 ≤ x ∧ x < 256) (hs : bs = pre ++ rest) (h : getn bs pre.length = (n, q, true)) :
    ∃ r, rest = enc 2 n ++ r ∧ q = pre.length + (enc 2 n).length ∧ 0 ≤ n ∧ n ≤ 100000 := by
  unfold getn at h
  rw [if_neg (by omega), Int.toNat_natCast, hs, List.drop_left] at h
  obtain ⟨c, r, hl, hn, hq, c0, _, _, hle⟩ := gnL_sound 2 rest true 0 1 pre.length n q (fun x hx => hb x (by rw [hs]; simp [hx])) (by omega) h
  have e : n = c := by rw [hn]; omega
  subst e
  exact ⟨r, hl, hq, c0, hle⟩

def InR (l : List Int) : Prop := ∀ x ∈ l, 0 ≤ x ∧ x ≤ 100000

theorem enc_cancel (n m : Int) (A B : List Int) (hn : 0 ≤ n ∧ n ≤ 100000) (hm : 0 ≤ m ∧ m ≤ 100000) (h : enc 2 n ++ A = enc 2 m ++ B) : n = m ∧ A = B := by
  have h1 := getn_enc [] A n hn.1 hn.2
  have h2 := getn_enc [] B m hm.1 hm.2
  rw [List.nil_append] at h1 h2
  rw [h, h2] at h1
  simp only [Prod.mk.injEq] at h1
  have e := h1.1
  subst e
  exact ⟨rfl, List.append_cancel_left h⟩

theorem flatB_cons (x : Int) (l : List Int) : flatB (x :: l) = enc 2 x ++ flatB l := by simp [flatB]
theorem flatB_nil_of {l : List Int} (h : flatB l = []) : l = [] := by
  cases l with
  | nil => rfl
  | cons x r =>
    rw [flatB_cons] at h
    have h1 := congrArg List.length h
    have h2 := (enc_len 2 x).1
    rw [List.length_append, List.length_nil] at h1
    omega

/-- Two rows of numbers whose bytes begin alike begin alike. -/
theorem flat_prefix (N M R : List Int) (hN : InR N) (hM : InR M) (h : flatB N ++ R = flatB M) : ∃ N', M = N ++ N' ∧ R = flatB N' := by
  induction N generalizing M with
  | nil => exact ⟨M, rfl, by simpa [flatB] using h⟩
  | cons x N ih =>
    cases M with
    | nil =>
      rw [flatB_cons] at h
      have h1 := congrArg List.length h
      have h2 := (enc_len 2 x).1
      rw [List.length_append, List.length_append, show flatB [] = [] from rfl, List.length_nil] at h1
      omega
    | cons y M =>
      rw [flatB_cons, flatB_cons, List.append_assoc] at h
      obtain ⟨rfl, h'⟩ := enc_cancel x y _ _ (hN x (by simp)) (hM y (by simp)) h
      obtain ⟨N', rfl, hR⟩ := ih M (fun z hz => hN z (by simp [hz])) (fun z hz => hM z (by simp [hz])) h'
      exact ⟨N', rfl, hR⟩

/-- There is no right message with these bytes. -/
def NoMsg (bs : List Int) : Prop := ∀ k p o xs, msgOkB k p o xs = true → msgB k p o xs ≠ bs

theorem msgB_ok {k p : Int} {o : Bool} {xs : List Int} (h : msgOkB k p o xs = true) : msgB k p o xs = flatB (numsOf k p o xs) := by unfold msgB; rw [if_pos h]

theorem no_fail {bs N R : List Int} (hN : InR N) (hs : bs = flatB N ++ R) (hR : R ≠ []) (hf : ∀ n q, getn bs (flatB N).length ≠ (n, q, true)) : NoMsg bs := by
  intro k p o xs hok he
  rw [msgB_ok hok, hs] at he
  obtain ⟨N', hM, hR'⟩ := flat_prefix N _ R hN (nums_in hok) he.symm
  cases N' with
  | nil => exact hR (by rw [hR']; rfl)
  | cons y N' =>
    have hy := nums_in hok y (by rw [hM]; simp)
    rw [flatB_cons] at hR'
    have := getn_enc (flatB N) (flatB N') y hy.1 hy.2
    rw [← hR', ← hs] at this
    exact hf _ _ this

theorem no_short {bs N : List Int} (hN : InR N) (hs : bs = flatB N) (hl : N.length < 3) : NoMsg bs := by
  intro k p o xs hok he
  rw [msgB_ok hok, hs] at he
  obtain ⟨N', hM, hR'⟩ := flat_prefix N _ [] hN (nums_in hok) (by rw [List.append_nil]; exact he.symm)
  rw [flatB_nil_of hR'.symm, List.append_nil] at hM
  have := congrArg List.length hM
  simp [numsOf] at this
  omega

theorem no_long {bs N R : List Int} (hN : InR N) (hs : bs = flatB N ++ R) (hl : 7 < N.length) : NoMsg bs := by
  intro k p o xs hok he
  rw [msgB_ok hok, hs] at he
  obtain ⟨N', hM, _⟩ := flat_prefix N _ R hN (nums_in hok) he.symm
  have h1 := congrArg List.length hM
  have h2 := nums_len hok
  rw [List.length_append] at h1
  omega

theorem bit_eq (o : Bool) : (bitB o == 1) = o := by cases o <;> rfl

/-- The only message that these bytes can be of. -/
theorem only_msg {bs ws : List Int} {a b c : Int} (hN : InR (a :: b :: c :: ws)) (hs : bs = flatB (a :: b :: c :: ws)) (hne : msgB a b (c == 1) ws ≠ bs) : NoMsg bs := by
  intro k p o xs hok he
  have he' := he
  rw [msgB_ok hok, hs] at he
  obtain ⟨N', hM, hR'⟩ := flat_prefix _ _ [] hN (nums_in hok) (by rw [List.append_nil]; exact he.symm)
  rw [flatB_nil_of hR'.symm, List.append_nil] at hM
  simp only [numsOf, List.cons_append, List.nil_append, List.cons.injEq] at hM
  obtain ⟨rfl, rfl, rfl, rfl⟩ := hM
  rw [bit_eq] at hne
  exact hne he'

theorem numsOf_back {a b c : Int} {ws : List Int} (hc : c = 0 ∨ c = 1) : numsOf a b (c == 1) ws = a :: b :: c :: ws := by
  rcases hc with rfl | rfl <;> rfl

/-- What MsgOf answers. -/
def Res (bs : List Int) (k p : Int) (o : Bool) (xs : List Int) (b : Bool) : Prop :=
  (b = true ∧ msgOkB k p o xs = true ∧ msgB k p o xs = bs) ∨ (b = false ∧ k = 0 ∧ p = 0 ∧ o = false ∧ xs = [] ∧ NoMsg bs)

theorem Res.len {bs : List Int} {k p : Int} {o : Bool} {xs : List Int} {b : Bool} (h : Res bs k p o xs b) : xs.length ≤ 4 := by
  rcases h with ⟨_, h, _⟩ | ⟨_, _, _, _, rfl, _⟩
  · exact (ok_words h).2
  · simp

theorem Res.only {bs : List Int} {k p k' p' : Int} {o o' : Bool} {xs xs' : List Int} {b b' : Bool} (h : Res bs k p o xs b) (h' : Res bs k' p' o' xs' b') : k = k' ∧ p = p' ∧ o = o' ∧ xs = xs' ∧ b = b' := by
  rcases h with ⟨rfl, h1, h2⟩ | ⟨rfl, rfl, rfl, rfl, rfl, hn⟩
  · rcases h' with ⟨rfl, h1', h2'⟩ | ⟨_, _, _, _, _, hn⟩
    · rw [← h2', msgB_ok h1, msgB_ok h1'] at h2
      obtain ⟨N', hM, hR'⟩ := flat_prefix _ _ [] (nums_in h1) (nums_in h1') (by rw [List.append_nil]; exact h2)
      rw [flatB_nil_of hR'.symm, List.append_nil] at hM
      simp only [numsOf, List.cons_append, List.nil_append, List.cons.injEq] at hM
      refine ⟨hM.1.symm, hM.2.1.symm, ?_, hM.2.2.2.symm, rfl⟩
      have := hM.2.2.1
      cases o <;> cases o' <;> simp [bitB] at this <;> rfl
    · exact absurd h2 (hn k p o xs h1)
  · rcases h' with ⟨_, h1', h2'⟩ | ⟨rfl, rfl, rfl, rfl, rfl, _⟩
    · exact absurd h2' (hn _ _ _ _ h1')
    · exact ⟨rfl, rfl, rfl, rfl, rfl⟩
end Go.Proofs.Ytbihhndpjpdbmaa
