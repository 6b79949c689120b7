/- TrD and TrI and PgI: see the heads of the parts. -/
import Derived.Test.YtiaiomjoapbalaaWoS
import Derived.Test.YtiaiomjoapbalaaWtR
/- What is coming and what is true, of what a world says; what a right world is. -/
namespace Go.Proofs.Ytiaiomjoapbalaa
open Go.RowKit
set_option linter.unusedVariables false

/-- What a right world is. -/
structure WOk (d : WoD) : Prop where
  n : d.size = (d.nn : Int) ∧ 1 ≤ d.nn ∧ d.nn ≤ 4
  k : d.nk ≤ 40
  c : ∀ i, i < d.nn → (d.d i).nf = 6 ∧ (d.d i).nh = 6 ∧ (d.d i).no = d.nn ∧ (d.d i).ni = d.nn
  f : ∀ i, i < d.nn → ∀ p, p < 6 → frB ((d.d i).f p) = true
  h : ∀ i, i < d.nn → ∀ p, p < 6 → hoB (d.nn : Int) ((d.d i).h p) = true
  o : ∀ i, i < d.nn → ∀ j, j < d.nn → sB ((d.d i).b j) ((d.d i).y j) = true
  g : ∀ i, i < d.nn → ∀ j, j < d.nn → 0 ≤ (d.d i).g j ∧ (d.d i).g j ≤ 100000
theorem nodeOk_parts {d : ND} {nodes : Int} (h : nodeOkB d nodes = true) : d.nf = 6 ∧ d.nh = 6 ∧ (d.no : Int) = nodes ∧ (d.ni : Int) = nodes ∧ allB d.nf (fun i => frB (d.f i)) = true ∧ allB d.nh (fun i => hoB nodes (d.h i)) = true ∧ allB d.no (fun i => sB (d.b i) (d.y i)) = true ∧ allB d.ni (fun i => inB (d.g i) 0 100000) = true := by
  unfold nodeOkB at h
  simp only [Bool.and_eq_true, decide_eq_true_eq] at h
  obtain ⟨_, h1, h2, h3, h4, h5, h6, h7, h8⟩ := h
  exact ⟨h1, h2, h3, h4, h5, h6, h7, h8⟩
theorem WOk.of {d : WoD} (h : worldB d = true) : WOk d := by
  unfold worldB at h
  simp only [Bool.and_eq_true, decide_eq_true_eq] at h
  obtain ⟨h1, h2, h3, h4, h5⟩ := h
  have hn : 1 ≤ d.nn ∧ d.nn ≤ 4 := by
    have : 1 ≤ d.size ∧ d.size ≤ 4 := by simpa [inB] using h1
    omega
  have hp : ∀ i, i < d.nn → _ := fun i hi => nodeOk_parts (d := d.d i) (nodes := d.size) (by
    have := allB_at h4 hi
    simp only [Bool.and_eq_true] at this
    exact this.1)
  refine ⟨⟨h2.symm, hn⟩, h3, fun i hi => ?_, fun i hi p hp' => ?_, fun i hi p hp' => ?_, fun i hi j hj => ?_, fun i hi j hj => ?_⟩
  · obtain ⟨a1, a2, a3, a4, _⟩ := hp i hi
    exact ⟨a1, a2, by omega, by omega⟩
  · obtain ⟨a1, a2, a3, a4, a5, _⟩ := hp i hi
    exact allB_at a5 (by omega)
  · obtain ⟨a1, a2, a3, a4, a5, a6, _⟩ := hp i hi
    have := allB_at a6 (i := p) (by omega)
    rw [← h2] at this
    exact this
  · obtain ⟨a1, a2, a3, a4, a5, a6, a7, _⟩ := hp i hi
    exact allB_at a7 (i := j) (by omega)
  · obtain ⟨a1, a2, a3, a4, a5, a6, a7, a8⟩ := hp i hi
    have := allB_at a8 (i := j) (by omega)
    simpa [inB] using this
theorem sB_parts {b : Int} {y : List Say} (h : sB b y = true) : (0 ≤ b ∧ b ≤ 100000) ∧ y.length ≤ 30 ∧ b + y.length ≤ 100000 ∧ ∀ s ∈ y, okS s = true := by
  unfold sB at h
  simp only [Bool.and_eq_true, decide_eq_true_eq, List.all_eq_true] at h
  exact ⟨h.1, h.2.1, h.2.2.1, h.2.2.2⟩
theorem okS_len {s : Say} (h : okS s = true) : s.2.2.2.length ≤ 4 ∧ (s.1 = 3 ∨ s.1 = 7 → s.2.2.2.length = 4) := by
  unfold okS msgOkB wordsB at h
  simp only [Bool.and_eq_true, beq_iff_eq] at h
  obtain ⟨_, _, h2⟩ := h
  split at h2
  · exact ⟨by omega, fun _ => by omega⟩
  · rename_i hk
    refine ⟨by omega, fun hs => ?_⟩
    simp only [Bool.or_eq_true, beq_iff_eq] at hk
    exact absurd hs hk
theorem hoB_parts {n : Int} {d : HD} (h : hoB n d = true) : d.xs.length = 4 ∧ -1 ≤ d.ow ∧ d.ow < n := by
  unfold hoB homeB wordsB inB at h
  simp only [Bool.and_eq_true, beq_iff_eq, decide_eq_true_eq] at h
  obtain ⟨_, ⟨_, h2⟩, ⟨h3, h4⟩, _⟩ := h
  exact ⟨by omega, h3, by omega⟩
theorem frB_parts {d : FD} (h : frB d = true) : (d.s = 0 ∧ d.xs.length = 0) ∨ (d.s ≠ 0 ∧ d.xs.length = 4) := by
  unfold frB frameOkB wordsB at h
  by_cases e : d.s = 0
  · rw [e] at h
    simp at h
    exact .inl ⟨e, by rw [h]; rfl⟩
  · have e2 : (d.s == 0) = false := by simpa using e
    rw [e2] at h
    simp only [Bool.and_eq_true, beq_iff_eq, Bool.false_eq_true, if_false] at h
    exact .inr ⟨e, by omega⟩

/-- What is coming. -/
def comY (base got : Int) (y : List Say) : List Say := y.drop (got - base).toNat
def comD (d : WoD) (f t : Nat) : List Say := comY ((d.d f).b t) ((d.d t).g f) ((d.d f).y t)
/-- The words of the last message of a kind of a page. -/
def isL (kind page : Int) (s : Say) : Bool := s.1 == kind && (s.2.1 == page && (s.2.2.1 || kind == 7))
def lastY (kind page : Int) (l : List Say) : List Int := l.foldl (fun acc s => if isL kind page s then s.2.2.2 else acc) []
theorem lastY_snoc (kind page : Int) (l : List Say) (s : Say) : lastY kind page (l ++ [s]) = if isL kind page s then s.2.2.2 else lastY kind page l := by simp [lastY]
theorem lastY_len (kind page : Int) {l : List Say} (h : ∀ s ∈ l, okS s = true) : (lastY kind page l).length ≤ 4 := by
  have key : ∀ (l : List Say) (acc : List Int), (∀ s ∈ l, okS s = true) → acc.length ≤ 4 → (l.foldl (fun acc s => if isL kind page s then s.2.2.2 else acc) acc).length ≤ 4 := by
    intro l
    induction l with
    | nil => intro acc _ ha; exact ha
    | cons s l ih =>
      intro acc hs ha
      rw [List.foldl_cons]
      refine ih _ (fun x hx => hs x (List.mem_cons_of_mem _ hx)) ?_
      split
      · exact (okS_len (hs s (List.mem_cons_self ..))).1
      · exact ha
  exact key l [] h (by simp)
/-- The words of a page. -/
def truthL (d : WoD) (page : Nat) : List Int :=
  if ((d.d (page % d.nn)).h page).ow < 0 then ((d.d (page % d.nn)).h page).xs
  else if ((d.d ((d.d (page % d.nn)).h page).ow.toNat).f page).s = 2 then ((d.d ((d.d (page % d.nn)).h page).ow.toNat).f page).xs
  else if (lastY 3 page (comD d (page % d.nn) ((d.d (page % d.nn)).h page).ow.toNat)).length = 0 then lastY 7 page (comD d ((d.d (page % d.nn)).h page).ow.toNat (page % d.nn))
  else lastY 3 page (comD d (page % d.nn) ((d.d (page % d.nn)).h page).ow.toNat)
def bit (b : Bool) : Nat := if b then 1 else 0
def haveN (d : WoD) (page k : Nat) : Nat := sumN (fun i => bit (((d.d i).f page).s != 0)) k
def writeN (d : WoD) (page k : Nat) : Nat := sumN (fun i => bit (((d.d i).f page).s == 2)) k
def aloneB (d : WoD) (page : Nat) : Bool := writeN d page d.nn == 0 || (writeN d page d.nn == 1 && haveN d page d.nn == 1)
def saneP (d : WoD) (page : Nat) : Bool := aloneB d page && (decide ((truthL d page).length = 4) && allB d.nn (fun i => ((d.d i).f page).s == 0 || decide (((d.d i).f page).xs = truthL d page)))
def sentB (d : WoD) (i k : Nat) : Bool := decide ((d.d i).g k ≤ (d.d k).b i + ((d.d k).y i).length)
def saneB (d : WoD) : Bool := allB 6 (fun p => saneP d p) && allB d.nn (fun i => allB d.nn (fun k => sentB d i k))
theorem bit_le (b : Bool) : bit b ≤ 1 := by unfold bit; split <;> omega
theorem haveN_le (d : WoD) (page k : Nat) : haveN d page k ≤ k ∧ writeN d page k ≤ k := by
  unfold haveN writeN
  refine ⟨?_, ?_⟩
  · have := sumN_le (c := fun i => bit (((d.d i).f page).s != 0)) (C := 1) (j := k) (fun i _ => bit_le _)
    omega
  · have := sumN_le (c := fun i => bit (((d.d i).f page).s == 2)) (C := 1) (j := k) (fun i _ => bit_le _)
    omega
end Go.Proofs.Ytiaiomjoapbalaa

/- What the specification's l7Ints and l1Bit do. -/
namespace Go.Proofs.Ytiaiomjoapbalaa
open Go.RowKit
set_option linter.unusedVariables false

theorem l1Bit_any (b : Bool) (w : World) : Calls Try.prog 13 #[.bool b] w fun e w' => e = .returned (.int .i64 (bit b : Nat)) ∧ w' = w := by
  cases b
  · go_enter Try.func13, Try.ntmps13
    go_wp2
    go_ret
    exact ⟨rfl, rfl⟩
  · go_enter Try.func13, Try.ntmps13
    go_wp2
    go_ret
    exact ⟨rfl, rfl⟩

theorem ints_bad {xs ys : List Int} {k : Nat} (h : xs.getD k 0 ≠ ys.getD k 0) : decide (xs = ys) = false := by
  refine decide_eq_false (fun e => h (by rw [e]))
theorem ints_ok {xs ys : List Int} {n : Nat} (hx : xs.length = n) (hy : ys.length = n) (h : ∀ j, j < n → xs.getD j 0 = ys.getD j 0) : decide (xs = ys) = true := by
  refine decide_eq_true (List.ext_getElem (by omega) (fun i h1 h2 => ?_))
  have := h i (by omega)
  simpa [h1, h2] using this

end Go.Proofs.Ytiaiomjoapbalaa

/- What impl.isPage answers. -/
namespace Go.Proofs.Ytiaiomjoapbalaa
open Go.RowKit
set_option linter.unusedVariables false

set_option maxHeartbeats 400000 in
theorem isPage_v (x : Int) (w : World) :
    Calls Try.prog 17 #[.int .i64 x] w fun e w' => e = .returned (.bool (inB x 0 5)) ∧ w' = w := by
  by_cases h0 : 0 ≤ x
  · by_cases h1 : x ≤ 5
    · have hd : inB x 0 5 = true := by simp [inB, h0, h1]
      rw [hd]
      have h1' : x < 6 := by omega
      go_enter Try.func17, Try.ntmps17
      go_wp2
      go_ret
      exact ⟨rfl, rfl⟩
    · have hd : inB x 0 5 = false := by simp [inB, h1]
      rw [hd]
      have h1' : 6 ≤ x := by omega
      go_enter Try.func17, Try.ntmps17
      go_wp2
      go_ret
      exact ⟨ret_bool (by simp; omega), rfl⟩
  · have hd : inB x 0 5 = false := by simp [inB, h0]
    rw [hd]
    have h0' : x < 0 := by omega
    go_enter Try.func17, Try.ntmps17
    go_wp2
    go_ret
    exact ⟨rfl, rfl⟩

end Go.Proofs.Ytiaiomjoapbalaa
