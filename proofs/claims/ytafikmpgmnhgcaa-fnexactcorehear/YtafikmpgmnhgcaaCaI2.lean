/- What impl's without and Purge do. -/
import Derived.Test.YtafikmpgmnhgcaaCaI1
import Derived.Test.YtafikmpgmnhgcaaBkJ
import Derived.BigRegion
namespace Go
open Go.RowKit
/-- 'clear' of a part of a row, at elements of any size. -/
theorem run_clear_wideYtafikmpgmnhgcaa {P : Program} (w : World) (t e ty tt : TypeId) (z : Value) (ht : P.underlying t = some (.slice e)) (hv : ∀ w, (zeroValue e).run P w = .ok z w) (g o n c : Nat) (hn : 0 < n) (cur : Array Value)
    (hg : w.heap[g]? = some (.cells cur tt (0, 0))) (zs : List Value) (hzs : (Builtin.zeroCells z.cells n).toList = zs) (hfit : o + zs.length ≤ cur.size) (h1 : ∀ v ∈ zs, v.oneCell' = true) :
    (Builtin.clear_ #[t] ty #[.slice (some ⟨g, o, none⟩) n c]).run P w = .ok (.tuple #[]) (w.setRow g (cur.toList.take o ++ zs ++ cur.toList.drop (o + zs.length)).toArray) := by
  have hst := run_storeCells_at P g o tt zs 0 cur w hg (by simpa using hfit) h1
  obtain ⟨m, rfl⟩ : ∃ m, n = m + 1 := ⟨n - 1, by omega⟩
  simp [Builtin.clear_, run_underlying ht, hv, hzs, hst]
end Go
namespace Go.Proofs.Ytafikmpgmnhgcaa
open Go.RowKit
set_option linter.unusedVariables false

/-- Those that stay, by their places. -/
def keepJ (page : Int) (d : Nat → KD) (k : Nat) : List Nat := (List.range k).filter fun i => pgB page (d i)
theorem keepJ_yes {page : Int} {d : Nat → KD} {k : Nat} (h : pgB page (d k) = true) : keepJ page d (k + 1) = keepJ page d k ++ [k] := by unfold keepJ; rw [List.range_succ, List.filter_append]; simp [h]
theorem keepJ_no {page : Int} {d : Nat → KD} {k : Nat} (h : pgB page (d k) = false) : keepJ page d (k + 1) = keepJ page d k := by unfold keepJ; rw [List.range_succ, List.filter_append]; simp [h]
theorem keepJ_le (page : Int) (d : Nat → KD) (k : Nat) : (keepJ page d k).length ≤ k := by
  unfold keepJ
  have := List.length_filter_le (fun i => pgB page (d i)) (List.range k)
  simpa using this
theorem keepJ_lt {page : Int} {d : Nat → KD} {k j : Nat} (h : j ∈ keepJ page d k) : j < k := by
  unfold keepJ at h
  simpa using (List.mem_filter.1 h).1
theorem keepJ_nodup (page : Int) (d : Nat → KD) (k : Nat) : (keepJ page d k).Nodup := List.Pairwise.filter _ List.nodup_range
theorem purL_J (page : Int) (d : Nat → KD) (k : Nat) : purL page d k = (keepJ page d k).map d := by unfold purL allL keepJ; rw [List.filter_map]; rfl
def jx (J : List Nat) (i : Nat) : Nat := J.getD i 0
theorem jx_get {J : List Nat} {i : Nat} (hi : i < J.length) : jx J i = J[i] := by unfold jx; simp [List.getD_eq_getElem?_getD, hi]
theorem jx_mem {J : List Nat} {i : Nat} (hi : i < J.length) : jx J i ∈ J := by rw [jx_get hi]; exact List.getElem_mem hi
theorem jx_inj {J : List Nat} (h : J.Nodup) {i k : Nat} (hi : i < J.length) (hk : k < J.length) (hne : i ≠ k) : jx J i ≠ jx J k := fun e => by
  rw [jx_get hi, jx_get hk] at e
  have hp := List.pairwise_iff_getElem.1 h
  rcases Nat.lt_or_gt_of_ne hne with h1 | h1
  · exact hp i k hi hk h1 e
  · exact hp k i hk hi h1 e.symm
theorem jx_snoc {J : List Nat} {k i : Nat} (hi : i < J.length + 1) : jx (J ++ [k]) i = if i = J.length then k else jx J i := by
  unfold jx
  by_cases e : i = J.length
  · subst e; simp
  · rw [if_neg e]
    simp [List.getD_eq_getElem?_getD, List.getElem?_append, show i < J.length by omega]
/-- A row's cells where those that stay have been moved ahead. -/
def wf (J : List Nat) (d : Nat → KD) (p : Nat → Pl) (i : Nat) : List Value := if i < J.length then bkcells (d (jx J i)) (p (jx J i)) else bkcells (d i) (p i)
theorem wf_len (J : List Nat) (d : Nat → KD) (p : Nat → Pl) (i : Nat) : (wf J d p i).length = 2 := by unfold wf; split <;> rfl
structure WLs (w wr : World) (a : Option Addr) (c n : Nat) (d : Nat → KD) (p : Nat → Pl) (J : List Nat) : Prop where
  row : wr.ownsRow 0 67 2 (.slice a n c) n (chunks n (wf J d p))
  on : Only w wr (fun b => blk (a, c) = some b)
theorem WLs.start {w : World} {a : Option Addr} {c n : Nat} {d : Nat → KD} {p : Nat → Pl} (h : KO w a c n d p) : WLs w w a c n d p [] :=
  ⟨owns_congr h.row (fun i hi => by unfold wf; simp), Only.refl _ _⟩
theorem WLs.below {w wr w2 : World} {a : Option Addr} {c n : Nat} {d : Nat → KD} {p : Nat → Pl} {J : List Nat} (h : WLs w wr a c n d p J) (b : Below wr.heap.size wr w2) : WLs w w2 a c n d p J := ⟨owns_below h.row b, h.on.below b⟩
theorem WLs.el {w wr : World} {a : Option Addr} {c n : Nat} {d : Nat → KD} {p : Nat → Pl} {J : List Nat} (h : WLs w wr a c n d p J) (hK : KO w a c n d p) {i : Nat} (hi : i < n) : EK (d i) (p i) wr :=
  hK.fix i hi w wr (h.on.sm (fun b hb hs => hK.out i hi b hs hb)) (hK.el i hi)
theorem WLs.put {w wr w2 : World} {g c n k : Nat} {d : Nat → KD} {p : Nat → Pl} {J : List Nat} (h : WLs w wr (some ⟨g, 0, none⟩) c n d p J) (b : Below wr.heap.size wr w2) {m : Nat} (hm : J.length = m) (hs : m < n) :
    WLs w ((w2.setCell ⟨g, m * 2, none⟩ (.int .i64 (d k).st)).setCell ⟨g, m * 2 + 1, none⟩ (.slice (p k).1 (d k).n (p k).2)) (some ⟨g, 0, none⟩) c n d p (J ++ [k]) := by
  subst hm
  refine ⟨?_, ((h.on.below b).setCell ⟨g, J.length * 2, none⟩ _ rfl).setCell ⟨g, J.length * 2 + 1, none⟩ _ rfl⟩
  refine owns_congr (store2 (owns_below h.row b) (fun i _ => wf_len J d p i) hs (.int .i64 (d k).st) (.slice (p k).1 (d k).n (p k).2)) (fun i hi => ?_)
  by_cases e : i = J.length
  · subst e
    rw [if_pos rfl]
    unfold wf
    rw [if_pos (by simp), jx_snoc (by omega), if_pos rfl]
    rfl
  · rw [if_neg e]
    unfold wf
    by_cases e2 : i < J.length
    · rw [if_pos e2, if_pos (by simp; omega), jx_snoc (by omega), if_neg e]
    · rw [if_neg e2, if_neg (by simp; omega)]
/-- What without leaves. -/
structure Wout (w W : World) (a : Option Addr) (c : Nat) (d : Nat → KD) (p : Nat → Pl) (J : List Nat) (m : Nat) : Prop where
  row : W.ownsRow 0 67 2 (.slice a m c) m (chunks m (wf J d p))
  on : Only w W (fun b => blk (a, c) = some b)
theorem KL.keep {w0 w W : World} {a : Option Addr} {c n : Nat} {d : Nat → KD} {p : Nat → Pl} {J : List Nat} {m : Nat} (hK : KO w a c n d p) (lo : ∀ b, RS a c n (fun i => QK (p i)) b → w0.heap.size ≤ b) (b0 : Below w0.heap.size w0 w) (hJ : J.Nodup) (hlt : ∀ j ∈ J, j < n) (hm : J.length = m) (h : Wout w W a c d p J m) :
    KL w0 W (J.map d) a c (fun i => p (jx J i)) := by
  subst hm
  have el : (J.map d).length = J.length := by simp
  have kj : ∀ i, i < J.length → kd (J.map d) i = d (jx J i) := fun i hi => by
    unfold kd
    rw [jx_get hi]
    simp [List.getD_eq_getElem?_getD, hi]
  have hl : ∀ i, i < J.length → jx J i < n := fun i hi => hlt _ (jx_mem hi)
  refine ⟨?_, fun b hb => ?_, h.on.bel b0 (fun i hi => lo i (.inl hi))⟩
  · rw [el]
    refine ⟨owns_congr h.row (fun i hi => by unfold wf; rw [if_pos hi, kj i hi]), fun i hi => ?_, fun i hi => fix_k _ _, fun i hi g hg => hK.out _ (hl i hi) g hg, fun i k hi hk hne => hK.ap _ _ (hl i hi) (hl k hk) (jx_inj hJ hi hk hne), fun i hi b hb => ?_⟩
    · rw [kj i hi]
      exact hK.fix _ (hl i hi) w W (h.on.sm (fun b hb hs => hK.out _ (hl i hi) b hs hb)) (hK.el _ (hl i hi))
    · exact Nat.lt_of_lt_of_le (hK.lt _ (hl i hi) b hb) h.on.size
  · rw [el] at hb
    rcases hb with hb | ⟨i, hi, hb⟩
    · exact lo b (.inl hb)
    · exact lo b (.inr ⟨_, hl i hi, hb⟩)
theorem owns_front {w : World} {lo e s n m : Nat} {a : Option Addr} {c : Nat} {f : Nat → List Value} (h : w.ownsRow lo e s (.slice a n c) n (chunks n f)) (hf : ∀ i, i < n → (f i).length = s) (ha : a ≠ none) (hm : m ≤ n) : w.ownsRow lo e s (.slice a m c) m (chunks m f) := by
  have hl : (chunks m f).length = m * s := chunks_length m (fun i hi => hf i (by omega))
  refine ⟨hl, ?_⟩
  rcases h.2 with ⟨h1, h2⟩ | ⟨g, cap, cur, hv, hbg, hg, hnc, hcm, hcs, ht⟩
  · simp only [Value.slice.injEq] at h1
    exact absurd h1.1 ha
  · simp only [Value.slice.injEq] at hv
    obtain ⟨rfl, _, rfl⟩ := hv
    refine .inr ⟨g, c, cur, rfl, hbg, hg, by omega, hcm, hcs, ?_⟩
    have hmn : m * s ≤ n * s := Nat.mul_le_mul_right s hm
    have e : cur.toList.take (m * s) = (chunks n f).take (m * s) := by rw [← ht, List.take_take, Nat.min_eq_left hmn]
    rw [e]
    clear h ht e hg hcs
    induction n with
    | zero => obtain rfl : m = 0 := by omega
              simp [chunks]
    | succ n ih =>
      by_cases e : m = n + 1
      · subst e
        exact List.take_of_length_le (by omega)
      · have h2 : m * s ≤ n * s := Nat.mul_le_mul_right s (by omega)
        rw [chunks_succ, List.take_append_of_le_length (by rw [chunks_length n (fun i hi => hf i (by omega))]; exact h2)]
        exact ih (fun i hi => hf i (by omega)) (by omega) (by omega) h2
end Go.Proofs.Ytafikmpgmnhgcaa
