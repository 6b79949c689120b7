/- What is so of caches (pure): what is purged is not found, what is added is found, a purged cache is right. -/
import Derived.Test.YtkamhinklhcbaaaCa1
import Derived.Test.YtkamhinklhcbaaaCa4
import Derived.Test.YtkamhinklhcbaaaCa6
namespace Go.Proofs.Ytkamhinklhcbaaa
open Go.RowKit
set_option linter.unusedVariables false

theorem kd_in {L : List KD} {i : Nat} (hi : i < L.length) : kd L i ∈ L := by
  unfold kd
  rw [List.getD_eq_getElem?_getD, List.getElem?_eq_getElem hi]
  exact List.getElem_mem hi
theorem atB_page {st : Int} {n : Nat} {x : Nat → XD} {pc : Int} (h : atB st n x pc = true) : blockB st n x = true ∧ st / 4 = pc / 4 := by
  unfold atB at h
  simp only [Bool.and_eq_true, decide_eq_true_eq] at h
  obtain ⟨hb, h1, h2⟩ := h
  obtain ⟨⟨s0, s1⟩, n1, n2⟩ := blockB_st hb
  exact ⟨hb, by omega⟩
theorem fnd_purged {page : Int} {d : Nat → KD} {n : Nat} {i : Nat} (hi : i < 4) : fnd (kd (purL page d n)) (page * 4 + i) (purL page d n).length = none := fnd_none fun j hj => by
  have hm := kd_in hj
  show atB (kd (purL page d n) j).st (kd (purL page d n) j).n (kd (purL page d n) j).x (page * 4 + i) = false
  generalize kd (purL page d n) j = y at hm
  have hp : pgB page y = true := (List.mem_filter.1 hm).2
  cases h : atB y.st y.n y.x (page * 4 + i)
  · rfl
  · obtain ⟨hb, hs⟩ := atB_page h
    unfold pgB at hp
    rw [hb] at hp
    simp at hp
    omega
theorem fnd_added {A : List KD} {y : KD} (hb : blockB y.st y.n y.x = true) : (fnd (kd (addL A y)) y.st (addL A y).length).isSome = true := by
  have hl : 0 < (addL A y).length := by rw [addL_yes hb]; simp
  have hlast : kd (addL A y) ((addL A y).length - 1) = y := by
    rw [addL_yes hb]
    have := kd_snoc (if 5 ≤ A.length then A.drop 1 else A) y (i := (if 5 ≤ A.length then A.drop 1 else A).length) (by omega)
    rw [if_pos rfl] at this
    simpa using this
  obtain ⟨⟨s0, s1⟩, n1, n2⟩ := blockB_st hb
  have hat : atK (kd (addL A y)) y.st ((addL A y).length - 1) = true := by
    show atB (kd (addL A y) ((addL A y).length - 1)).st (kd (addL A y) ((addL A y).length - 1)).n (kd (addL A y) ((addL A y).length - 1)).x y.st = true
    rw [hlast]
    unfold atB
    rw [hb]
    simp
    omega
  unfold fnd
  rw [List.find?_isSome]
  exact ⟨(addL A y).length - 1, by simp; omega, hat⟩
theorem cacheB_purged {page : Int} {d : Nat → KD} {n nf : Nat} {F : Nat → FD} (h : cacheB n d nf F = true) : cacheB (purL page d n).length (kd (purL page d n)) nf F = true := by
  unfold cacheB at h ⊢
  simp only [Bool.and_eq_true, decide_eq_true_eq] at h ⊢
  obtain ⟨h1, h2, h3, h4⟩ := h
  refine ⟨Nat.le_trans (purL_le page d n) h1, h2, h3, kepB_yes (fun i hi => ?_)⟩
  have hm := kd_in hi
  generalize kd (purL page d n) i = y at hm
  have ha : y ∈ allL d n := (List.mem_filter.1 hm).1
  unfold allL at ha
  rw [List.mem_map] at ha
  obtain ⟨j, hj, e⟩ := ha
  subst e
  unfold kepB at h4
  rw [List.all_eq_true] at h4
  exact h4 j hj
theorem addL_le {L : List KD} {y : KD} (h : L.length ≤ 1048576) : (addL L y).length ≤ 1048576 := by
  unfold addL
  split
  · split
    · simp; omega
    · simp; omega
  · exact h
theorem addL_n {d : Nat → KD} {n Z : Nat} {y : KD} (h : ∀ i, i < n → (d i).n ≤ Z) (hy : y.n ≤ Z) : ∀ i, i < (addL (allL d n) y).length → (kd (addL (allL d n) y) i).n ≤ Z := fun i hi => by
  have hall : ∀ k ∈ allL d n, k.n ≤ Z := fun k hk => by
    unfold allL at hk
    rw [List.mem_map] at hk
    obtain ⟨j, hj, e⟩ := hk
    rw [← e]
    exact h j (by simpa using hj)
  have hm := kd_in hi
  generalize kd (addL (allL d n) y) i = k at hm
  unfold addL at hm
  split at hm
  · rcases List.mem_append.1 hm with h1 | h1
    · split at h1
      · exact hall k (List.mem_of_mem_drop h1)
      · exact hall k h1
    · rw [List.mem_singleton] at h1
      subst h1
      exact hy
  · exact hall k hm
theorem allL_kd (L : List KD) : allL (kd L) L.length = L := by
  unfold allL
  apply List.ext_getElem
  · simp
  · intro i h1 h2
    simp [kd, List.getD_eq_getElem?_getD, h2]
end Go.Proofs.Ytkamhinklhcbaaa
