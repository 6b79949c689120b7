/- Numbers as bytes, of no program: seven bits a byte, the low ones first. -/
namespace Go.Proofs.Ytidgiklkgmfmcaa

/-- A number's bytes; the first argument is how many more there may be. -/
def enc : Nat → Int → List Int
  | 0, n => [n]
  | f + 1, n => if n < 128 then [n] else (n % 128 + 128) :: enc f (n / 128)

def pw : Nat → Int
  | 0 => 128
  | f + 1 => 128 * pw f

theorem enc_small (f : Nat) (n : Int) (h : n < 128) : enc f n = [n] := by
  cases f with
  | zero => rfl
  | succ f => simp [enc, h]

theorem enc_big (f : Nat) (n : Int) (h : ¬ n < 128) : enc (f + 1) n = (n % 128 + 128) :: enc f (n / 128) := by
  simp [enc, h]

theorem enc_len (f : Nat) (n : Int) : 1 ≤ (enc f n).length ∧ (enc f n).length ≤ f + 1 := by
  induction f generalizing n with
  | zero => simp [enc]
  | succ f ih =>
    by_cases h : n < 128
    · rw [enc_small _ _ h]; simp
    · rw [enc_big _ _ h]; have := ih (n / 128); simp; omega

theorem pw_step (f : Nat) (n : Int) (_h0 : 0 ≤ n) (h : n < pw f) (h1 : ¬ n < 128) : ∃ g, f = g + 1 ∧ n / 128 < pw g := by
  cases f with
  | zero => simp [pw] at h; omega
  | succ g => exact ⟨g, rfl, by simp [pw] at h; omega⟩

theorem enc_byte (f : Nat) (n : Int) (h0 : 0 ≤ n) (h : n < pw f) : ∀ x ∈ enc f n, 0 ≤ x ∧ x < 256 := by
  induction f generalizing n with
  | zero => intro x hx; simp [enc] at hx; subst hx; simp [pw] at h; omega
  | succ f ih =>
    intro x hx
    by_cases h1 : n < 128
    · rw [enc_small _ _ h1] at hx; simp at hx; omega
    · rw [enc_big _ _ h1] at hx
      rcases List.mem_cons.1 hx with rfl | hx
      · omega
      · exact ih (n / 128) (by omega) (by simp [pw] at h; omega) x hx

/-- The bytes of PutNum at whatever number. -/
def putb (n : Int) : List Int := if 0 ≤ n ∧ n ≤ 100000 then enc 2 n else []
theorem putb_in (n : Int) (h : 0 ≤ n) (h1 : n ≤ 100000) : putb n = enc 2 n := by simp [putb, h, h1]
theorem putb_out (n : Int) (h : n < 0 ∨ 100000 < n) : putb n = [] := by simp [putb]; omega
theorem putb_len (n : Int) : (putb n).length ≤ 3 := by
  unfold putb; split
  · exact (enc_len 2 n).2
  · simp
theorem app_step (ys T : List Int) (a : Int) (r : List Int) (h : ys ++ a :: r = T) : (ys ++ [a]) ++ r = T := by simpa using h

end Go.Proofs.Ytidgiklkgmfmcaa
