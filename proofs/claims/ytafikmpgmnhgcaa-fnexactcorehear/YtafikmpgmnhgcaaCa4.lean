/- What the specification's CacheAdd answers. -/
import Derived.Test.YtafikmpgmnhgcaaCa3
import Derived.Test.YtafikmpgmnhgcaaBk2
namespace Go.Proofs.Ytafikmpgmnhgcaa
open Go.RowKit
set_option linter.unusedVariables false

theorem KO.cap {w : World} {a : Option Addr} {c n : Nat} {d : Nat → KD} {p : Nat → Pl} (h : KO w a c n d p) : n ≤ c := by
  rcases h.row.2 with ⟨_, rfl⟩ | ⟨g, cap, cur, hv, _, _, hn, _⟩
  · exact Nat.zero_le _
  · simp only [Value.slice.injEq] at hv
    omega
theorem kd_drop (L : List KD) (i : Nat) : kd (L.drop 1) i = kd L (i + 1) := by
  unfold kd
  simp [List.getD_eq_getElem?_getD]
/-- The same without the first, in a new row. -/
theorem KL.tail {w0 wr w5 : World} {L : List KD} {m : Nat} {a : Option Addr} {c : Nat} {p : Nat → Pl} {a5 : Option Addr} {c5 : Nat} (h : KL w0 wr L a c p) (hm : L.length = m + 1) (b5 : Below wr.heap.size wr w5)
    (o5 : w5.ownsRow wr.heap.size 67 2 (.slice a5 m c5) m (chunks m fun i => bkcells (kd L (i + 1)) (p (i + 1)))) : KL w0 w5 (L.drop 1) a5 c5 (fun i => p (i + 1)) := by
  have hl : (L.drop 1).length = m := by simp; omega
  have hR := h.r
  rw [hm] at hR
  have hlo : ∀ g, blk (a5, c5) = some g → wr.heap.size ≤ g := owns_low o5
  have hs := h.b.size
  refine ⟨?_, fun b hb => ?_, bel_trans h.b b5⟩
  · rw [hl]
    have e : (fun i => bkcells (kd (L.drop 1) i) (p (i + 1))) = fun i => bkcells (kd L (i + 1)) (p (i + 1)) := funext fun i => by rw [kd_drop]
    refine ⟨?_, fun i hi => ?_, fun i hi => fix_k _ _, fun i hi g hg hq => ?_, fun i k hi hk hne => hR.ap (i + 1) (k + 1) (by omega) (by omega) (by omega), fun i hi b hb => ?_⟩
    · rw [e]; exact owns_base o5 (Nat.zero_le _)
    · rw [kd_drop]; exact (hR.below b5).el (i + 1) (by omega)
    · have h1 := hlo g hg
      have h2 := hR.lt (i + 1) (by omega) g hq
      omega
    · have h2 := hR.lt (i + 1) (by omega) b hb
      have := b5.size
      omega
  · rcases hb with hb | ⟨i, hi, hb⟩
    · have := hlo b hb; omega
    · exact h.lo b (.inr ⟨i + 1, by omega, hb⟩)
theorem k_one {f : Nat → KD} {p : Nat → Pl} {m : Nat} : ∀ u ∈ chunks m (fun i => bkcells (f i) (p i)), u.oneCell' = true := fun u hu => by
  unfold chunks at hu
  rw [List.mem_flatMap] at hu
  obtain ⟨i, _, h⟩ := hu
  simp [bkcells] at h
  rcases h with rfl | rfl <;> rfl
theorem chunks_tail {s n : Nat} {f : Nat → List Value} (hf : ∀ i, i < n + 1 → (f i).length = s) (hs : 0 < s) {j : Nat} {u : Value} (h : (chunks n (fun i => f (i + 1)))[j]? = some u) : (chunks (n + 1) f)[s + j]? = some u := by
  have hl : (chunks n (fun i => f (i + 1))).length = n * s := chunks_length n (fun i hi => hf (i + 1) (by omega))
  have hj : j < n * s := by
    rw [List.getElem?_eq_some_iff] at h
    obtain ⟨h1, _⟩ := h
    omega
  have hq : j / s < n := Nat.div_lt_of_lt_mul (by rw [Nat.mul_comm]; exact hj)
  have hr : j % s < s := Nat.mod_lt _ hs
  have ej : j / s * s + j % s = j := by rw [Nat.mul_comm]; exact Nat.div_add_mod j s
  have e1 := chunks_get (f := fun i => f (i + 1)) (fun i hi => hf (i + 1) (by omega)) hq hr
  have e2 := chunks_get (n := n + 1) (f := f) hf (i := j / s + 1) (by omega) hr
  rw [ej] at e1
  rw [show (j / s + 1) * s + j % s = s + j by rw [Nat.add_mul]; omega] at e2
  rw [e2, ← e1, h]
def addL (L : List KD) (y : KD) : List KD := if blockB y.st y.n y.x then (if 5 ≤ L.length then L.drop 1 else L) ++ [y] else L
theorem addL_no {L : List KD} {y : KD} (h : blockB y.st y.n y.x = false) : addL L y = L := by unfold addL; rw [h]; rfl
theorem addL_yes {L : List KD} {y : KD} (h : blockB y.st y.n y.x = true) : addL L y = (if 5 ≤ L.length then L.drop 1 else L) ++ [y] := by unfold addL; rw [h]; rfl

end Go.Proofs.Ytafikmpgmnhgcaa
