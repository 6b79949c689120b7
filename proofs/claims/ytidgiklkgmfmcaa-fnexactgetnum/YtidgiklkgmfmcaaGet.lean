/- Reading numbers, of no program: what GetNum tells of bytes at a place. -/
import Derived.Laws.BitsAllLaws
namespace Go.Proofs.Ytidgiklkgmfmcaa
open Go

/-- The number that begins with these bytes: at most f of them; n and u: what was read and the next byte's weight; p: the place. -/
def gnL : Nat → List Int → Bool → Int → Int → Int → Int × Int × Bool
  | 0, _, _, _, _, _ => (0, 0, false)
  | _ + 1, [], _, _, _, _ => (0, 0, false)
  | f + 1, c :: r, fst, n, u, p =>
    if c < 128 then (if (c = 0 ∧ fst = false) ∨ 100000 < n + c * u then (0, 0, false) else (n + c * u, p + 1, true))
    else gnL f r false (n + (c - 128) * u) (u * 128) (p + 1)

def getn (bs : List Int) (at' : Int) : Int × Int × Bool :=
  if at' < 0 then (0, 0, false) else gnL 3 (bs.drop at'.toNat) true 0 1 at'

theorem gnL_end (f : Nat) (b : Bool) (n u p : Int) : gnL f [] b n u p = (0, 0, false) := by cases f <;> rfl

theorem gnL_hit (f : Nat) (c : Int) (r : List Int) (b : Bool) (n u p : Int) (h : c < 128) (h1 : ¬ ((c = 0 ∧ b = false) ∨ 100000 < n + c * u)) : gnL (f + 1) (c :: r) b n u p = (n + c * u, p + 1, true) := by
  rw [gnL, if_pos h, if_neg h1]
theorem gnL_bad (f : Nat) (c : Int) (r : List Int) (b : Bool) (n u p : Int) (h : c < 128) (h1 : (c = 0 ∧ b = false) ∨ 100000 < n + c * u) : gnL (f + 1) (c :: r) b n u p = (0, 0, false) := by
  rw [gnL, if_pos h, if_pos h1]
theorem gnL_go (f : Nat) (c : Int) (r : List Int) (b : Bool) (n u p : Int) (h : ¬ c < 128) : gnL (f + 1) (c :: r) b n u p = gnL f r false (n + (c - 128) * u) (u * 128) (p + 1) := by
  rw [gnL, if_neg h]

theorem i64_or_nat (a b : Nat) (ha : a < 4611686018427387904) (hb : b < 4611686018427387904) : bits .or .i64 (a : Int) (b : Int) = ((a ||| b : Nat) : Int) := by
  have hx : a ||| b < 2 ^ 62 := Nat.or_lt_two_pow (by omega) (by omega)
  show IntKind.i64.wrap ((BitVec.ofInt 64 (a : Int) ||| BitVec.ofInt 64 (b : Int)).toNat : Int) = _
  rw [BitVec.toNat_or, ofInt_u64 a (by omega), ofInt_u64 b (by omega)]
  simp [IntKind.wrap, IntKind.bits, IntKind.signed]
  split <;> omega

/-- Below seven bits, fourteen: or is a sum. -/
theorem or_join (i : Nat) (n m : Int) (hi : i ≤ 20) (h0 : 0 ≤ n) (h1 : n < 2 ^ i) (m0 : 0 ≤ m) (m1 : m < 1000000) : bits .or .i64 n (m * 2 ^ i) = n + m * 2 ^ i := by
  obtain ⟨A, rfl⟩ := Int.eq_ofNat_of_zero_le h0
  obtain ⟨B, rfl⟩ := Int.eq_ofNat_of_zero_le m0
  have hA : A < 2 ^ i := by exact_mod_cast h1
  have hp : 2 ^ i ≤ 2 ^ 20 := Nat.pow_le_pow_right (by omega) hi
  have hBi : B * 2 ^ i ≤ 1000000 * 2 ^ 20 := Nat.mul_le_mul (by omega) hp
  have e : ((B : Int) * 2 ^ i) = ((B * 2 ^ i : Nat) : Int) := by push_cast; rfl
  rw [e, i64_or_nat A (B * 2 ^ i) (by omega) (by omega), Nat.or_comm, nat_join i _ _ (Nat.mul_mod_left _ _) hA]
  push_cast
  omega
end Go.Proofs.Ytidgiklkgmfmcaa
