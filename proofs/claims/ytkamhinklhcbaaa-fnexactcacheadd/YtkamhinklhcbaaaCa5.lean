/- What the specification's l11Same answers. -/
import Derived.Test.YtkamhinklhcbaaaCa3
import Derived.Test.YtkamhinklhcbaaaBk5
import Derived.BigQuiet
import Derived.BigRegion
import Derived.Deep.RegionHeld3
namespace Go.Proofs.Ytkamhinklhcbaaa
open Go.RowKit
set_option linter.unusedVariables false

def xdB (a b : XD) : Bool := a.op == b.op && (a.r == b.r && (a.a == b.a && (a.b == b.b && a.n == b.n)))
set_option maxHeartbeats 1000000 in
theorem insv_eq2 (x y : XD) (w : World) : (Op.equalIn 10000 38 (.agg (icells x.op x.r x.a x.b x.n)) (.agg (icells y.op y.r y.a y.b y.n))).run Try.prog w = .ok (xdB x y) w := by
  have u3 := Try.underlying3
  have a3 := Try.isAgg3
  have z3 := Try.sizeOf3
  obtain ⟨a, b, c, d, e⟩ := x
  obtain ⟨a', b', c', d', e'⟩ := y
  rw [show (10000 : Nat) = 9999 + 1 from rfl, Op.equalIn]
  simp only [Sem.run_bind, run_underlying Try.underlying38, Result.andThen_ok]
  go_simp
  by_cases h1 : a = a' <;> by_cases h2 : b = b' <;> by_cases h3 : c = c' <;> by_cases h4 : d = d' <;> by_cases h5 : e = e' <;> simp [h1, h2, h3, h4, h5, xdB]
def allX (n : Nat) (d d' : Nat → XD) : Bool := (List.range n).all fun i => xdB (d i) (d' i)
theorem allX_no {n k : Nat} {d d' : Nat → XD} (hk : k < n) (h : xdB (d k) (d' k) = false) : allX n d d' = false := by
  unfold allX
  rw [List.all_eq_false]
  exact ⟨k, by simpa using hk, by rw [h]; simp⟩
theorem allX_yes {n : Nat} {d d' : Nat → XD} (h : ∀ i, i < n → xdB (d i) (d' i) = true) : allX n d d' = true := by
  unfold allX
  rw [List.all_eq_true]
  exact fun i hi => h i (by simpa using hi)
def sameKB (st : Int) (n : Nat) (d : Nat → XD) (st' : Int) (n' : Nat) (d' : Nat → XD) : Bool := st == st' && (((n : Int) == (n' : Int)) && allX n d d')

set_option maxRecDepth 100000 in
set_option maxHeartbeats 4000000 in
theorem l11Same_any (st : Int) (a : Option Addr) (c n : Nat) (d : Nat → XD) (st' : Int) (a' : Option Addr) (c' n' : Nat) (d' : Nat → XD) (w : World) (ha : IR w a n d) (hb : IR w a' n' d') :
    Calls Try.prog 60 #[.agg #[.int .i64 st, .slice a n c], .agg #[.int .i64 st', .slice a' n' c']] w fun e w' => e = .returned (.bool (sameKB st n d st' n' d')) ∧ Below w.heap.size w w' := by
  have hl := ha.1
  have hl' := hb.1
  have bA := bel_alloc (bel_alloc (Below.refl w.heap.size w) (.cells #[.int .i64 st, .slice a n c] 27)) (.cells #[.int .i64 st', .slice a' n' c'] 27)
  obtain ⟨X0, X1⟩ := Box.two w #[.int .i64 st, .slice a n c] #[.int .i64 st', .slice a' n' c'] 27 27
  by_cases hs : st = st'
  · subst hs
    by_cases hn : n = n'
    · subst hn
      have hra := ha.below bA
      have hrb := hb.below bA
      have HV : Hid (sameKB st n d st n d' = allX n d d') := by show _ = _; unfold sameKB; simp
      have H0 : Hid (Below w.heap.size w _ ∧ Box _ w.heap.size #[.int .i64 st, .slice a n c] 27 ∧ Box _ (w.heap.size + 1) #[.int .i64 st, .slice a' n c'] 27 ∧ IR _ a n d ∧ IR _ a' n d') := ⟨bA, X0, X1, hra, hrb⟩
      clear ha hb hra hrb bA X0 X1
      go_enter Try.func60, Try.ntmps60
      go_wp2_with fail
      go_loopw [5] (fun i wr => ∃ k : Nat, k ≤ n ∧ i = .int .i64 k ∧ (∀ i, i < k → xdB (d i) (d' i) = true) ∧ (Below w.heap.size w wr ∧ Box wr w.heap.size #[.int .i64 st, .slice a n c] 27 ∧ Box wr (w.heap.size + 1) #[.int .i64 st, .slice a' n c'] 27 ∧ IR wr a n d ∧ IR wr a' n d')) (fun i _ => n - (intOf i).toNat)
      case atStart => exact ⟨0, Nat.zero_le _, rfl, fun i hi => absurd hi (Nat.not_lt_zero i), H0.out⟩
      case round =>
        obtain ⟨k, hk, rfl, hE, hB, hX0, hX1, hra, hrb⟩ := hrel
        clear H0
        have HE : Hid (∀ i, i < k → xdB (d i) (d' i) = true) := hE
        obtain ⟨x0, x1, xz⟩ := hX0.at2
        obtain ⟨y0, y1, yz⟩ := hX1.at2
        have HQ : Hid (∀ q, Below w.heap.size w (wr.drewN q) ∧ Box (wr.drewN q) w.heap.size #[.int .i64 st, .slice a n c] 27 ∧ Box (wr.drewN q) (w.heap.size + 1) #[.int .i64 st, .slice a' n c'] 27 ∧ IR (wr.drewN q) a n d ∧ IR (wr.drewN q) a' n d') := fun q => ⟨below_drewN hB q, hX0.below (below_drewN (Below.refl _ _) q), hX1.below (below_drewN (Below.refl _ _) q), hra.below (below_drewN (Below.refl _ _) q), hrb.below (below_drewN (Below.refl _ _) q)⟩
        by_cases hlt : k < n
        · have hi : (k : Int) < (n : Int) := by omega
          obtain ⟨b1, o1, rfl, u0, u1, u2, u3, u4⟩ := hra.at hlt
          obtain ⟨b2, o2, rfl, v0, v1, v2, v3, v4⟩ := hrb.at hlt
          cases hz : xdB (d k) (d' k)
          · have heq : ∀ W, (Op.equalIn 10000 38 (.agg (icells (d k).op (d k).r (d k).a (d k).b (d k).n)) (.agg (icells (d' k).op (d' k).r (d' k).a (d' k).b (d' k).n))).run Try.prog W = .ok false W := fun W => by rw [insv_eq2, hz]
            have HF : Hid (sameKB st n d st n d' = false) := HV.out.trans (allX_no hlt hz)
            clear hz hE hB hX0 hX1 hra hrb
            go_wp2_with fail
            go_quiet (fail)
            go_wp2
            go_ret
            exact ⟨ret_bool HF.out.symm, (HQ.out _).1⟩
          · have heq : ∀ W, (Op.equalIn 10000 38 (.agg (icells (d k).op (d k).r (d k).a (d k).b (d k).n)) (.agg (icells (d' k).op (d' k).r (d' k).a (d' k).b (d' k).n))).run Try.prog W = .ok true W := fun W => by rw [insv_eq2, hz]
            have HE2 : Hid (∀ i, i < k + 1 → xdB (d i) (d' i) = true) := fun i hi => by
              by_cases e : i = k
              · subst e; exact hz
              · exact HE.out i (by omega)
            clear hz hE hB hX0 hX1 hra hrb
            go_wp2_with fail
            go_quiet (fail)
            go_wp2
            go_roundw
            case rel => exact ⟨k + 1, by omega, by go_num, HE2.out, HQ.out _⟩
            case measure => simp [intOf]; omega
        · have : k = n := by omega
          subst this
          have HF : Hid (sameKB st k d st k d' = true) := HV.out.trans (allX_yes hE)
          have HB : Hid (Below w.heap.size w wr) := hB
          clear hE hB hX0 hX1 hra hrb
          go_wp2
          go_ret
          exact ⟨ret_bool HF.out.symm, HB.out⟩
    · have HF : Hid (sameKB st n d st n' d' = false) := by show _ = _; unfold sameKB; simp; omega
      have hne : ((n : Int) == (n' : Int)) = false := by simp; omega
      clear ha hb X0 X1
      go_enter Try.func60, Try.ntmps60
      go_wp2
      go_ret
      exact ⟨ret_bool HF.out.symm, bA⟩
  · have hse : (st == st') = false := by simpa using hs
    have HF : Hid (sameKB st n d st' n' d' = false) := by show _ = _; unfold sameKB; rw [hse]; rfl
    clear ha hb X0 X1
    go_enter Try.func60, Try.ntmps60
    go_wp2
    go_ret
    exact ⟨ret_bool HF.out.symm, bA⟩
end Go.Proofs.Ytkamhinklhcbaaa
