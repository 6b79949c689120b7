/- CaI2 and CaI3: see the heads of the parts. -/
import Derived.Test.YtkamhinklhcbaaaCaI1
import Derived.Test.YtkamhinklhcbaaaCaI4
import Derived.BigRegion
/- What impl's without and Purge do. -/
namespace Go
open Go.RowKit
/-- 'clear' of a part of a row, at elements of any size. -/
theorem run_clear_wideYtkamhinklhcbaaa {P : Program} (w : World) (t e ty tt : TypeId) (z : Value) (ht : P.underlying t = some (.slice e)) (hv : ∀ w, (zeroValue e).run P w = .ok z w) (g o n c : Nat) (hn : 0 < n) (cur : Array Value)
    (hg : w.heap[g]? = some (.cells cur tt (0, 0))) (zs : List Value) (hzs : (Builtin.zeroCells z.cells n).toList = zs) (hfit : o + zs.length ≤ cur.size) (h1 : ∀ v ∈ zs, v.oneCell' = true) :
    (Builtin.clear_ #[t] ty #[.slice (some ⟨g, o, none⟩) n c]).run P w = .ok (.tuple #[]) (w.setRow g (cur.toList.take o ++ zs ++ cur.toList.drop (o + zs.length)).toArray) := by
  have hst := run_storeCells_at P g o tt zs 0 cur w hg (by simpa using hfit) h1
  obtain ⟨m, rfl⟩ : ∃ m, n = m + 1 := ⟨n - 1, by omega⟩
  simp [Builtin.clear_, run_underlying ht, hv, hzs, hst]
end Go
namespace Go.Proofs.Ytkamhinklhcbaaa
open Go.RowKit
set_option linter.unusedVariables false

/-- Those that stay, by their places. -/
def keepJ (page : Int) (d : Nat → KD) (k : Nat) : List Nat := (List.range k).filter fun i => pgB page (d i)
theorem keepJ_yes {page : Int} {d : Nat → KD} {k : Nat} (h : pgB page (d k) = true) : keepJ page d (k + 1) = keepJ page d k ++ [k] := by unfold keepJ; rw [List.range_succ, List.filter_append]; simp [h]
theorem keepJ_no {page : Int} {d : Nat → KD} {k : Nat} (h : pgB page (d k) = false) : keepJ page d (k + 1) = keepJ page d k := by unfold keepJ; rw [List.range_succ, List.filter_append]; simp [h]
theorem keepJ_le (page : Int) (d : Nat → KD) (k : Nat) : (keepJ page d k).length ≤ k := by
  unfold keepJ
  have := List.length_filter_le (fun i => pgB page (d i)) (List.range k)
  simpa using this
theorem keepJ_lt {page : Int} {d : Nat → KD} {k j : Nat} (h : j ∈ keepJ page d k) : j < k := by
  unfold keepJ at h
  simpa using (List.mem_filter.1 h).1
theorem keepJ_nodup (page : Int) (d : Nat → KD) (k : Nat) : (keepJ page d k).Nodup := List.Pairwise.filter _ List.nodup_range
theorem purL_J (page : Int) (d : Nat → KD) (k : Nat) : purL page d k = (keepJ page d k).map d := by unfold purL allL keepJ; rw [List.filter_map]; rfl
def jx (J : List Nat) (i : Nat) : Nat := J.getD i 0
theorem jx_get {J : List Nat} {i : Nat} (hi : i < J.length) : jx J i = J[i] := by unfold jx; simp [List.getD_eq_getElem?_getD, hi]
theorem jx_mem {J : List Nat} {i : Nat} (hi : i < J.length) : jx J i ∈ J := by rw [jx_get hi]; exact List.getElem_mem hi
theorem jx_inj {J : List Nat} (h : J.Nodup) {i k : Nat} (hi : i < J.length) (hk : k < J.length) (hne : i ≠ k) : jx J i ≠ jx J k := fun e => by
  rw [jx_get hi, jx_get hk] at e
  have hp := List.pairwise_iff_getElem.1 h
  rcases Nat.lt_or_gt_of_ne hne with h1 | h1
  · exact hp i k hi hk h1 e
  · exact hp k i hk hi h1 e.symm
theorem jx_snoc {J : List Nat} {k i : Nat} (hi : i < J.length + 1) : jx (J ++ [k]) i = if i = J.length then k else jx J i := by
  unfold jx
  by_cases e : i = J.length
  · subst e; simp
  · rw [if_neg e]
    simp [List.getD_eq_getElem?_getD, List.getElem?_append, show i < J.length by omega]
/-- A row's cells where those that stay have been moved ahead. -/
def wf (J : List Nat) (d : Nat → KD) (p : Nat → Pl) (i : Nat) : List Value := if i < J.length then bkcells (d (jx J i)) (p (jx J i)) else bkcells (d i) (p i)
theorem wf_len (J : List Nat) (d : Nat → KD) (p : Nat → Pl) (i : Nat) : (wf J d p i).length = 2 := by unfold wf; split <;> rfl
structure WLs (w wr : World) (a : Option Addr) (c n : Nat) (d : Nat → KD) (p : Nat → Pl) (J : List Nat) : Prop where
  row : wr.ownsRow 0 27 2 (.slice a n c) n (chunks n (wf J d p))
  on : Only w wr (fun b => blk (a, c) = some b)
theorem WLs.start {w : World} {a : Option Addr} {c n : Nat} {d : Nat → KD} {p : Nat → Pl} (h : KO w a c n d p) : WLs w w a c n d p [] :=
  ⟨owns_congr h.row (fun i hi => by unfold wf; simp), Only.refl _ _⟩
theorem WLs.below {w wr w2 : World} {a : Option Addr} {c n : Nat} {d : Nat → KD} {p : Nat → Pl} {J : List Nat} (h : WLs w wr a c n d p J) (b : Below wr.heap.size wr w2) : WLs w w2 a c n d p J := ⟨owns_below h.row b, h.on.below b⟩
theorem WLs.el {w wr : World} {a : Option Addr} {c n : Nat} {d : Nat → KD} {p : Nat → Pl} {J : List Nat} (h : WLs w wr a c n d p J) (hK : KO w a c n d p) {i : Nat} (hi : i < n) : EK (d i) (p i) wr :=
  hK.fix i hi w wr (h.on.sm (fun b hb hs => hK.out i hi b hs hb)) (hK.el i hi)
theorem WLs.put {w wr w2 : World} {g c n k : Nat} {d : Nat → KD} {p : Nat → Pl} {J : List Nat} (h : WLs w wr (some ⟨g, 0, none⟩) c n d p J) (b : Below wr.heap.size wr w2) {m : Nat} (hm : J.length = m) (hs : m < n) :
    WLs w ((w2.setCell ⟨g, m * 2, none⟩ (.int .i64 (d k).st)).setCell ⟨g, m * 2 + 1, none⟩ (.slice (p k).1 (d k).n (p k).2)) (some ⟨g, 0, none⟩) c n d p (J ++ [k]) := by
  subst hm
  refine ⟨?_, ((h.on.below b).setCell ⟨g, J.length * 2, none⟩ _ rfl).setCell ⟨g, J.length * 2 + 1, none⟩ _ rfl⟩
  refine owns_congr (store2 (owns_below h.row b) (fun i _ => wf_len J d p i) hs (.int .i64 (d k).st) (.slice (p k).1 (d k).n (p k).2)) (fun i hi => ?_)
  by_cases e : i = J.length
  · subst e
    rw [if_pos rfl]
    unfold wf
    rw [if_pos (by simp), jx_snoc (by omega), if_pos rfl]
    rfl
  · rw [if_neg e]
    unfold wf
    by_cases e2 : i < J.length
    · rw [if_pos e2, if_pos (by simp; omega), jx_snoc (by omega), if_neg e]
    · rw [if_neg e2, if_neg (by simp; omega)]
/-- What without leaves. -/
structure Wout (w W : World) (a : Option Addr) (c : Nat) (d : Nat → KD) (p : Nat → Pl) (J : List Nat) (m : Nat) : Prop where
  row : W.ownsRow 0 27 2 (.slice a m c) m (chunks m (wf J d p))
  on : Only w W (fun b => blk (a, c) = some b)
theorem KL.keep {w0 w W : World} {a : Option Addr} {c n : Nat} {d : Nat → KD} {p : Nat → Pl} {J : List Nat} {m : Nat} (hK : KO w a c n d p) (lo : ∀ b, RS a c n (fun i => QK (p i)) b → w0.heap.size ≤ b) (b0 : Below w0.heap.size w0 w) (hJ : J.Nodup) (hlt : ∀ j ∈ J, j < n) (hm : J.length = m) (h : Wout w W a c d p J m) :
    KL w0 W (J.map d) a c (fun i => p (jx J i)) := by
  subst hm
  have el : (J.map d).length = J.length := by simp
  have kj : ∀ i, i < J.length → kd (J.map d) i = d (jx J i) := fun i hi => by
    unfold kd
    rw [jx_get hi]
    simp [List.getD_eq_getElem?_getD, hi]
  have hl : ∀ i, i < J.length → jx J i < n := fun i hi => hlt _ (jx_mem hi)
  refine ⟨?_, fun b hb => ?_, h.on.bel b0 (fun i hi => lo i (.inl hi))⟩
  · rw [el]
    refine ⟨owns_congr h.row (fun i hi => by unfold wf; rw [if_pos hi, kj i hi]), fun i hi => ?_, fun i hi => fix_k _ _, fun i hi g hg => hK.out _ (hl i hi) g hg, fun i k hi hk hne => hK.ap _ _ (hl i hi) (hl k hk) (jx_inj hJ hi hk hne), fun i hi b hb => ?_⟩
    · rw [kj i hi]
      exact hK.fix _ (hl i hi) w W (h.on.sm (fun b hb hs => hK.out _ (hl i hi) b hs hb)) (hK.el _ (hl i hi))
    · exact Nat.lt_of_lt_of_le (hK.lt _ (hl i hi) b hb) h.on.size
  · rw [el] at hb
    rcases hb with hb | ⟨i, hi, hb⟩
    · exact lo b (.inl hb)
    · exact lo b (.inr ⟨_, hl i hi, hb⟩)
theorem owns_front {w : World} {lo e s n m : Nat} {a : Option Addr} {c : Nat} {f : Nat → List Value} (h : w.ownsRow lo e s (.slice a n c) n (chunks n f)) (hf : ∀ i, i < n → (f i).length = s) (ha : a ≠ none) (hm : m ≤ n) : w.ownsRow lo e s (.slice a m c) m (chunks m f) := by
  have hl : (chunks m f).length = m * s := chunks_length m (fun i hi => hf i (by omega))
  refine ⟨hl, ?_⟩
  rcases h.2 with ⟨h1, h2⟩ | ⟨g, cap, cur, hv, hbg, hg, hnc, hcm, hcs, ht⟩
  · simp only [Value.slice.injEq] at h1
    exact absurd h1.1 ha
  · simp only [Value.slice.injEq] at hv
    obtain ⟨rfl, _, rfl⟩ := hv
    refine .inr ⟨g, c, cur, rfl, hbg, hg, by omega, hcm, hcs, ?_⟩
    have hmn : m * s ≤ n * s := Nat.mul_le_mul_right s hm
    have e : cur.toList.take (m * s) = (chunks n f).take (m * s) := by rw [← ht, List.take_take, Nat.min_eq_left hmn]
    rw [e]
    clear h ht e hg hcs
    induction n with
    | zero => obtain rfl : m = 0 := by omega
              simp [chunks]
    | succ n ih =>
      by_cases e : m = n + 1
      · subst e
        exact List.take_of_length_le (by omega)
      · have h2 : m * s ≤ n * s := Nat.mul_le_mul_right s (by omega)
        rw [chunks_succ, List.take_append_of_le_length (by rw [chunks_length n (fun i hi => hf i (by omega))]; exact h2)]
        exact ih (fun i hi => hf i (by omega)) (by omega) (by omega) h2
end Go.Proofs.Ytkamhinklhcbaaa

/- What impl's Purge answers. -/
namespace Go.Proofs.Ytkamhinklhcbaaa
open Go.RowKit
set_option linter.unusedVariables false

theorem run_clear_none {P : Program} (w : World) (t ty : TypeId) (x : Option Addr) (c e : Nat) (ht : P.underlying t = some (.slice e)) : (Builtin.clear_ #[t] ty #[.slice x 0 c]).run P w = .ok (.tuple #[]) w := by
  cases x <;> simp [Builtin.clear_, run_underlying ht]
theorem zero_block (w : World) : (zeroValue 27).run Try.prog w = .ok (.agg #[.int .i64 0, .slice none 0 0]) w := by
  obtain ⟨i0, hi0, hz0, hz1, hz2⟩ := info_parts info_block2
  simp [zeroValue, typeInfo, hi0, hz0]
theorem clear_zs (n : Nat) : (Builtin.zeroCells (Value.agg #[.int .i64 0, .slice none 0 0]).cells n).toList = (Builtin.zeroCells #[.int .i64 0, .slice none 0 0] n).toList := rfl
theorem clear_len (n : Nat) : (Builtin.zeroCells #[.int .i64 0, .slice none 0 0] n).toList.length = n * 2 := by simp [Builtin.zeroCells]
theorem clear_one (n : Nat) : ∀ v ∈ (Builtin.zeroCells #[.int .i64 0, .slice none 0 0] n).toList, v.oneCell' = true := fun v hv => by
  simp [Builtin.zeroCells] at hv
  obtain ⟨i, hi, rfl⟩ := hv
  have : i % 2 = 0 ∨ i % 2 = 1 := by omega
  rcases this with e | e <;> rw [e] <;> rfl
/-- What stood behind is emptied. -/
theorem WLs.clear {w wr : World} {g c n : Nat} {d : Nat → KD} {p : Nat → Pl} {J : List Nat} {m : Nat} (h : WLs w wr (some ⟨g, 0, none⟩) c n d p J) (hm : m < n) :
    ∃ W, (∀ ty, (Builtin.clear_ #[24] ty #[.slice (some ⟨g, m * 2, none⟩) (n - m) (c - m)]).run Try.prog wr = .ok (.tuple #[]) W) ∧ Wout w W (some ⟨g, 0, none⟩) c d p J m := by
  have hf := owns_front h.row (fun i _ => wf_len J d p i) (by simp) (Nat.le_of_lt hm)
  rcases h.row.2 with ⟨h1, _⟩ | ⟨g', cap, cur, hv, hbg, hg, hnc, hcm, hcs, ht⟩
  · simp at h1
  simp only [Value.slice.injEq, Option.some.injEq, Addr.mk.injEq, and_true, true_and] at hv
  obtain ⟨rfl, rfl⟩ := hv
  have hlz := clear_len (n - m)
  have hmn : m * 2 + (n - m) * 2 ≤ cur.size := by omega
  refine ⟨_, fun ty => run_clear_wideYtkamhinklhcbaaa wr 24 27 ty 27 _ Try.underlying24 zero_block g (m * 2) (n - m) (c - m) (by omega) cur hg _ (clear_zs _) (by rw [hlz]; exact hmn) (clear_one _), ?_, ?_⟩
  · rcases hf.2 with ⟨h1, _⟩ | ⟨g2, cap2, cur2, hv2, hbg2, hg2, hnc2, hcm2, hcs2, ht2⟩
    · simp at h1
    simp only [Value.slice.injEq, Option.some.injEq, Addr.mk.injEq, and_true, true_and] at hv2
    obtain ⟨rfl, rfl⟩ := hv2
    rw [hg] at hg2
    simp only [Option.some.injEq, Obj.cells.injEq, and_true] at hg2
    obtain rfl := hg2
    refine ⟨hf.1, .inr ⟨g, c, _, rfl, hbg, setRow_heap wr g _ _ 27 _ hg, by omega, hcm, ?_, ?_⟩⟩
    · simp [hlz]
      omega
    · rw [← ht2]
      simp only [List.append_assoc]
      rw [List.take_append_of_le_length (by simp; omega), List.take_take]
      simp
  · refine ⟨h.on.os, h.on.tape, h.on.output, by have := h.on.size; simp [World.setRow]; omega, fun i hi hne => ?_⟩
    rw [setRow_other wr g i _ (fun e => hne (by simp [blk, e]))]
    exact h.on.block i hi hne

theorem box_neK {w : World} {m : Nat} {cs : Array Value} {t : TypeId} (hX : Box w m cs t) {base e size n : Nat} {v : Value} {xs : List Value} (h : w.ownsRow base e size v n xs) (hne : t ≠ e) : v.ownBlock ≠ some m := by
  intro hk
  rcases h.2 with ⟨rfl, _⟩ | ⟨g, cap, cur, rfl, _, hg, _⟩
  · simp [Value.ownBlock] at hk
  · simp [Value.ownBlock] at hk
    subst hk
    unfold Box at hX
    rw [hX] at hg
    simp at hg
    exact hne hg.2

set_option maxRecDepth 100000 in
set_option maxHeartbeats 1000000 in
theorem purge1_any (d : KD) (a : Option Addr) (c nb : Nat) (page : Int) (w : World) (hX : Box w nb #[.int .i64 page] 3) (ha : IR w a d.n d.x) :
    Calls Try.prog 50 #[.agg #[.int .i64 d.st, .slice a d.n c], .pointer (some ⟨nb, 0, none⟩)] w fun e w' => e = .returned (.bool (!pgB page d)) ∧ Below w.heap.size w w' := by
  obtain ⟨V, hV⟩ : ∃ V, (if blockB d.st d.n d.x then d.st / 4 else -1) = V := ⟨_, rfl⟩
  have HV : Hid ((!pgB page d) = (V == page)) := by show _ = _; unfold pgB; rw [hV]; simp
  have HPg : Hid (∀ W, IR W a d.n d.x → Calls Try.prog 51 #[.agg #[.int .i64 d.st, .slice a d.n c]] W fun e w' => e = .returned (.int .i64 V) ∧ Below W.heap.size W w') := fun W h => by
    have h1 := implPageOf_any d.st a c d.n d.x W h
    rw [hV] at h1
    exact h1
  clear hV
  have bA := bel_alloc (Below.refl w.heap.size w) (.cells #[.int .i64 d.st, .slice a d.n c] 27)
  have X0 := hX.below bA
  have x0 : World.cell? _ ⟨nb, 0, none⟩ = some (.int .i64 page) := X0.cell 0
  have zx := X0.lt
  have hra : IR _ a d.n d.x := ha.below (below_drewN bA 1)
  clear ha hX
  go_enter Try.func50, Try.ntmps50
  go_wp2_with fail
  go_region_with (go_at_call 51; refine (HPg.out _ hra).mono ?_; rintro e w1 ⟨rfl, b1⟩; have x1 := cell_later (bel_undrew b1) x0)
  all_goals
    have B := bel_trans bA (bel_undrew b1)
    clear bA b1 X0 x0 zx hra
    go_wp2
    go_ret
    exact ⟨ret_bool HV.out.symm, B⟩

set_option maxRecDepth 100000 in
set_option maxHeartbeats 4000000 in
theorem without_any (a : Option Addr) (c n : Nat) (d : Nat → KD) (p : Nat → Pl) (nb : Nat) (page : Int) (w : World) (hn : n ≤ 1048577) (hx : ∀ i, i < n → (d i).n ≤ 1048577) (hX : Box w nb #[.int .i64 page] 3) (hK : KO w a c n d p) :
    Calls Try.prog 52 #[.slice a n c, .func (.func 50) #[] #[.pointer (some ⟨nb, 0, none⟩)]] w fun e w' => e = .returned (.slice a (keepJ page d n).length c) ∧ Wout w w' a c d p (keepJ page d n) (keepJ page d n).length := by
  have HX : Hid (∀ i, i < n → (d i).n ≤ 1048577) := hx
  have HB : Hid (Box w nb #[.int .i64 page] 3) := hX
  have HK : Hid (KO w a c n d p) := hK
  have HNB : Hid (¬ blk (a, c) = some nb) := fun e => box_neK hX hK.row (by decide) (blk_own e)
  have hcap := hK.cap
  have W0 : Hid (WLs w w a c n d p (keepJ page d 0)) := WLs.start hK
  clear hx hX hK
  go_enter Try.func52, Try.ntmps52
  go_wp2
  go_loopw [5, 10] (fun s i wr => ∃ k m : Nat, k ≤ n ∧ i = .int .i64 k ∧ s = .int .i64 m ∧ (keepJ page d k).length = m ∧ WLs w wr a c n d p (keepJ page d k)) (fun _ i _ => n - (intOf i).toNat)
  case atStart => exact ⟨0, 0, Nat.zero_le _, rfl, rfl, rfl, W0.out⟩
  case round =>
    obtain ⟨k, m, hk, rfl, rfl, hm, hL⟩ := hrel
    clear W0
    have HL : Hid (WLs w wr a c n d p (keepJ page d k)) := hL
    have HM : Hid ((keepJ page d k).length = m) := hm
    have hmk : m ≤ k := by rw [← hm]; exact keepJ_le page d k
    clear hL hm
    by_cases hkn : k < n
    · have hi' : (k : Int) < (n : Int) := by omega
      have hmn : (m : Int) < (n : Int) := by omega
      obtain ⟨g, rfl⟩ := owns_addr HL.out.row (by omega)
      have cc : ∀ t, t < 2 → wr.cell? ⟨g, k * 2 + t, none⟩ = (bkcells (d k) (p k))[t]? := fun t ht => by
        have := owns_chunk HL.out.row (fun i _ => wf_len _ d p i) hkn ht
        rw [this]
        unfold wf
        rw [if_neg (by rw [HM.out]; omega)]
      have y0 := cc 0 (by decide)
      have y1 := cc 1 (by decide)
      simp only [Nat.add_zero, bkcells, List.getElem?_cons_zero, List.getElem?_cons_succ] at y0 y1
      clear cc
      have hrow : IR wr (p k).1 (d k).n (d k).x := IOw.ir (HL.out.el HK.out hkn) (HX.out k hkn)
      have bx := bel_alloc (Below.refl wr.heap.size wr) (.cells #[.int .i64 (d k).st, .slice (p k).1 (d k).n (p k).2] 27)
      have XE := Box.new wr #[.int .i64 (d k).st, .slice (p k).1 (d k).n (p k).2] 27
      have hXb := (HB.out.only HL.out.on HNB.out).below bx
      have hrow := hrow.below bx
      go_wp2_with fail
      refine (purge1_any (d k) (p k).1 (p k).2 nb page _ hXb hrow).mono ?_
      rintro e w1 ⟨rfl, b1⟩
      have B1 := bel_trans bx b1
      cases hp : pgB page (d k)
      · have HL2 : Hid (WLs w w1 (some ⟨g, 0, none⟩) c n d p (keepJ page d (k + 1))) := by show WLs _ _ _ _ _ _ _ _; rw [keepJ_no hp]; exact HL.out.below B1
        have HM2 : Hid ((keepJ page d (k + 1)).length = m) := by show _ = _; rw [keepJ_no hp]; exact HM.out
        clear hp y0 y1 hrow bx XE hXb b1 B1
        go_wp2
        go_roundw
        case rel => exact ⟨k + 1, m, by omega, by go_num, rfl, HM2.out, HL2.out⟩
        case measure => simp [intOf]; omega
      · have HL2 : Hid (WLs w ((w1.setCell ⟨g, m * 2, none⟩ (.int .i64 (d k).st)).setCell ⟨g, m * 2 + 1, none⟩ (.slice (p k).1 (d k).n (p k).2)) (some ⟨g, 0, none⟩) c n d p (keepJ page d (k + 1))) := by show WLs _ _ _ _ _ _ _ _; rw [keepJ_yes hp]; exact HL.out.put (k := k) B1 HM.out (by omega)
        have HM2 : Hid ((keepJ page d (k + 1)).length = m + 1) := by show _ = _; rw [keepJ_yes hp, List.length_append, HM.out]; rfl
        obtain ⟨x0, x1, xz⟩ := (XE.below b1).at2
        have hr2 := owns_below HL.out.row B1
        have q0 := hr2.frozenAt (m * 2)
        have q1 := hr2.frozenAt (m * 2 + 1)
        obtain ⟨u0, g0⟩ := cellN hr2 (show m < n by omega) (t := 0) (by decide)
        obtain ⟨u1, g1⟩ := cellN hr2 (show m < n by omega) (t := 1) (by decide)
        rw [Nat.add_zero] at g0
        clear hp y0 y1 hrow bx XE hXb b1 B1 hr2
        go_wp2
        go_roundw
        case rel => exact ⟨k + 1, m + 1, by omega, by go_num, by go_num, HM2.out, HL2.out⟩
        case measure => simp [intOf]; omega
    · have hkn' : k = n := by omega
      subst hkn'
      clear hkn
      by_cases hmk' : m < k
      · obtain ⟨g, rfl⟩ := owns_addr HL.out.row (by omega)
        obtain ⟨W, hcl, hW⟩ := HL.out.clear hmk'
        have HW : Hid (Wout w W (some ⟨g, 0, none⟩) c d p (keepJ page d k) m) := hW
        clear hW HL
        have hmc : m < c := by omega
        have hmi : (m : Int) < (k : Int) := by omega
        go_wp2
        go_ret
        rw [HM.out]
        exact ⟨rfl, HW.out⟩
      · have : m = k := by omega
        subst this
        have HW : Hid (Wout w wr a c d p (keepJ page d m) m) := ⟨HL.out.row, HL.out.on⟩
        rcases HL.out.row.2 with ⟨h1, _⟩ | ⟨g, cap, cur, hv, _⟩
        · simp only [Value.slice.injEq] at h1
          obtain ⟨rfl, h2, rfl⟩ := h1
          subst h2
          have hcl : ∀ ty x cc, (Builtin.clear_ #[24] ty #[.slice x 0 cc]).run Try.prog wr = .ok (.tuple #[]) wr := fun ty x cc => run_clear_none wr _ ty x cc _ Try.underlying24
          clear hmk' HL hcap
          go_wp2
          go_ret
          rw [HM.out]
          exact ⟨rfl, HW.out⟩
        · simp only [Value.slice.injEq] at hv
          obtain ⟨rfl, -, -⟩ := hv
          have hcl : ∀ ty x cc, (Builtin.clear_ #[24] ty #[.slice x 0 cc]).run Try.prog wr = .ok (.tuple #[]) wr := fun ty x cc => run_clear_none wr _ ty x cc _ Try.underlying24
          clear HL
          by_cases hmc : m < c
          · go_wp2
            go_ret
            rw [HM.out]
            exact ⟨rfl, HW.out⟩
          · obtain rfl : m = c := by omega
            go_wp2
            go_ret
            rw [HM.out]
            exact ⟨rfl, HW.out⟩

set_option maxRecDepth 100000 in
set_option maxHeartbeats 2000000 in
theorem implPurge_any (a : Option Addr) (c n : Nat) (d : Nat → KD) (p : Nat → Pl) (page : Int) (w : World) (ha : KR w a n d p) :
    Calls Try.prog 18 #[.slice a n c, .int .i64 page] w (RowP (purL page d n) w) := by
  have hn := ha.1
  have HX : Hid (∀ i, i < n → (d i).n ≤ 1048577) := fun i hi => (ha.2.2 i hi).1
  have bA := bel_alloc (Below.refl w.heap.size w) (.cells #[.int .i64 page] 3)
  have X0 := Box.new w #[.int .i64 page] 3
  have hra := ha.below bA
  clear ha
  go_enter Try.func18, Try.ntmps18
  go_wp2_with fail
  refine (copyEachK_any a c n d p _ hra).mono ?_
  rintro e w1 ⟨a1, c1, p1, rfl, O1, l1, b1⟩
  have HP : Hid (KO w1 a1 c1 n d p1 ∧ (∀ b, RS a1 c1 n (fun i => QK (p1 i)) b → w.heap.size ≤ b) ∧ Below w.heap.size w w1) := ⟨O1, fun b hb => Nat.le_trans (by simp) (l1 b hb), bel_trans bA b1⟩
  have hXb := X0.below b1
  clear O1 l1 b1 bA X0 hra
  go_wp2_with fail
  refine (without_any a1 c1 n d p1 w.heap.size page _ hn HX.out hXb HP.out.1).mono ?_
  rintro e w2 ⟨rfl, hW⟩
  have HQ : Hid (KL w w2 (purL page d n) a1 c1 (fun i => p1 (jx (keepJ page d n) i))) := by
    show KL _ _ _ _ _ _
    rw [purL_J]
    exact KL.keep HP.out.1 HP.out.2.1 HP.out.2.2 (keepJ_nodup page d n) (fun j hj => keepJ_lt hj) rfl hW
  have HL : Hid ((purL page d n).length = (keepJ page d n).length) := by show _ = _; rw [purL_J, List.length_map]
  clear hW HP hXb
  go_wp2
  go_ret
  refine ⟨a1, c1, _, ?_, HQ.out⟩
  rw [HL.out]
  rfl
end Go.Proofs.Ytkamhinklhcbaaa
