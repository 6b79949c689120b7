/- What impl's CacheAdd answers. -/
import Derived.Test.YtkamhinklhcbaaaCaI1
import Derived.Test.YtkamhinklhcbaaaBkI
import Derived.Deep.RegionHeld3
import Derived.Deep.RegionLawGrows
import Derived.Deep.AppendLies
namespace Go.Proofs.Ytkamhinklhcbaaa
open Go.RowKit
set_option linter.unusedVariables false

/-- Where a row of blocks lies that was cut at its front. -/
def CutK (a a' : Option Addr) (n k : Nat) : Prop := 0 < n - k → ∃ b off, a = some ⟨b, off, none⟩ ∧ a' = some ⟨b, off + k * 2, none⟩

theorem KR.addr {w : World} {a : Option Addr} {n : Nat} {d : Nat → KD} {p : Nat → Pl} (h : KR w a n d p) : 0 < n → ∃ b off, a = some ⟨b, off, none⟩ := fun h0 => by
  obtain ⟨b, off, e, _⟩ := h.at h0
  exact ⟨b, off, e⟩

set_option maxRecDepth 100000 in
set_option maxHeartbeats 1000000 in
theorem cutK_any (a : Option Addr) (n c k : Nat) (w : World) (hk : k ≤ n) (hn : n ≤ 1048577) (hc : n ≤ c) (ha : 0 < n → ∃ b off, a = some ⟨b, off, none⟩) :
    Calls Try.prog 41 #[.slice a n c, .int .i64 k] w fun e w' => ∃ a', e = .returned (.slice a' (n - k) (n - k)) ∧ CutK a a' n k ∧ w' = w := by
  by_cases h : n = k
  · subst h
    go_enter Try.func41, Try.ntmps41
    go_wp2
    go_ret
    exact ⟨a, by rw [Nat.sub_self]; rfl, fun h => by omega, rfl⟩
  · obtain ⟨b, off, rfl⟩ := ha (by omega)
    go_enter Try.func41, Try.ntmps41
    go_wp2
    go_ret
    exact ⟨_, rfl, fun _ => ⟨b, off, rfl, by simp⟩, rfl⟩

theorem KR.cut1 {w : World} {a a' : Option Addr} {n : Nat} {d : Nat → KD} {p : Nat → Pl} (h : KR w a n d p) (hc : CutK a a' n 1) (h1 : 1 < n) : KR w a' (n - 1) (fun i => d (i + 1)) (fun i => p (i + 1)) := by
  obtain ⟨b, off, rfl, rfl⟩ := hc (by omega)
  obtain ⟨m, rfl⟩ : ∃ m, n = m + 1 := ⟨n - 1, by omega⟩
  rw [Nat.add_sub_cancel]
  refine ⟨by have := h.1; omega, ⟨?_, fun j u hu => ?_⟩, fun i hi => h.2.2 (i + 1) (by omega)⟩
  · have := h.1
    rw [chunks_length (s := 2) m (fun i _ => rfl)]
    omega
  · have h1 := chunks_tail (s := 2) (n := m) (f := fun i => bkcells (d i) (p i)) (fun i _ => rfl) (by decide) hu
    obtain ⟨b', off', e, h2⟩ := h.2.1.2 (2 + j) u h1
    simp at e
    obtain ⟨rfl, rfl⟩ := e
    exact ⟨b, off + 1 * 2, rfl, by rw [show off + 1 * 2 + j = off + (2 + j) by omega]; exact h2⟩
theorem cutK_none {a a' : Option Addr} {n : Nat} (h : CutK a a' n 0) : a' = none → n = 0 ∧ n = 0 := fun e => by
  by_cases h0 : 0 < n - 0
  · obtain ⟨b, off, _, e'⟩ := h h0
    rw [e] at e'
    simp at e'
  · omega
theorem cutK_src {w : World} {a a' : Option Addr} {n : Nat} {d : Nat → KD} {p : Nat → Pl} (ha : KR w a n d p) (hcut : CutK a a' n 0) (o1 o2 : Obj) :
    ∀ b, a' = some b → ∀ j u, (chunks n fun i => bkcells (d i) (p i))[j]? = some u → ((w.alloc o1).alloc o2).drew.cell? (b.add j) = some u := fun b hb j u hu => by
  have hl : (chunks n fun i => bkcells (d i) (p i)).length = n * 2 := chunks_length (s := 2) n (fun i _ => rfl)
  have hj : j < n * 2 := by
    have := (List.getElem?_eq_some_iff.1 hu).1
    omega
  obtain ⟨b0, off0, rfl, e'⟩ := hcut (by omega)
  rw [hb] at e'
  simp at e'
  subst e'
  have hm := (ha.below (bel_alloc (bel_alloc (Below.refl _ _) o1) o2)).2.1
  obtain ⟨b', off', e, h⟩ := hm.2 j u hu
  simp at e
  obtain ⟨rfl, rfl⟩ := e
  rw [addr_add]
  exact h
theorem newK_src (w : World) (o1 : Obj) (st : Int) (a : Option Addr) (n c : Nat) : ∀ j u, [Value.int .i64 st, .slice a n c][j]? = some u → ((w.alloc o1).alloc (.cells #[.int .i64 st, .slice a n c] 27)).drew.cell? ((⟨w.heap.size + 1, 0, none⟩ : Addr).add j) = some u := fun j u hu => by
  have h := Box.new (w.alloc o1) #[.int .i64 st, .slice a n c] 27
  have e : (w.alloc o1).heap.size = w.heap.size + 1 := by simp
  rw [e] at h
  rw [addr_add, Nat.zero_add]
  show ((w.alloc o1).alloc _).cell? _ = some u
  rw [h.cell]
  simpa using hu
theorem keep2K {W W' : World} (g : W.grownBy W' none) {a0 a1 : Addr} {u0 u1 : Value} (h : W.cell? a0 = some u0 ∧ W.cell? a1 = some u1) : W'.cell? a0 = some u0 ∧ W'.cell? a1 = some u1 :=
  ⟨(g.cell_far _ (lt_of_cell h.1) (by simp)).trans h.1, (g.cell_far _ (lt_of_cell h.2) (by simp)).trans h.2⟩
theorem bel_drewK {B : Nat} {w W : World} (h : Below B w W) : Below B w W.drew := ⟨h.os, h.tape, h.output, h.size, h.block⟩

set_option maxRecDepth 100000 in
set_option maxHeartbeats 1000000 in
theorem withK_any (a : Option Addr) (c n : Nat) (d : Nat → KD) (p : Nat → Pl) (y : KD) (ay : Option Addr) (cy : Nat) (w : World) (ha : KR w a n d p) (hy : IR w ay y.n y.x) (hl : n ≤ 1048576) (hc : n ≤ c) :
    Calls Try.prog 42 #[.slice a n c, .agg #[.int .i64 y.st, .slice ay y.n cy]] w fun e w' => ∃ a' c', e = .returned (.slice a' (n + 1) c') ∧ KR w' a' (n + 1) (fun i => if i = n then y else d i) (fun i => if i = n then (ay, cy) else p i) ∧ Below w.heap.size w w' := by
  obtain ⟨i0, hi, hz0, hz1, hz2⟩ := info_parts info_block2
  have bA := bel_alloc (Below.refl w.heap.size w) (.cells #[.int .i64 y.st, .slice ay y.n cy] 27)
  have XA := Box.new w #[.int .i64 y.st, .slice ay y.n cy] 27
  have HA : Hid (KR w a n d p ∧ IR w ay y.n y.x) := ⟨ha, hy⟩
  have hone : ∀ v ∈ [Value.int .i64 y.st, .slice ay y.n cy], v.oneCell' = true := fun v hv => by simp at hv; rcases hv with rfl | rfl <;> rfl
  have hcl : (chunks n fun i => bkcells (d i) (p i)).length = n * 2 := chunks_length (s := 2) n (fun i _ => rfl)
  clear hy
  go_enter Try.func42, Try.ntmps42
  go_wp2_with fail
  obtain ⟨x0, x1, zx⟩ := XA.at2
  have hadr := ha.addr
  go_region_held3 (fun w' => w'.cell? ⟨w.heap.size, 0, none⟩ = some (.int .i64 y.st) ∧ w'.cell? ⟨w.heap.size, 1, none⟩ = some (.slice ay y.n cy))
    (first | (with_reducible exact keep2K g4 ‹_›) | go_keep)
    (first | (go_at_call 41; refine (cutK_any a n c 0 _ (by omega) (by omega) hc hadr).mono ?_; rintro e w1 ⟨a', rfl, hcut, h⟩; subst h) | (refine step_append_grows rfl (.tmp 6) (.tmp 8) 69 rfl 27 i0 (.agg #[.int .i64 0, .slice none 0 0]) 2 32 Try.underlying69 hi hz0 hz1 hz2 rfl (by decide) a' n n (chunks n fun i => bkcells (d i) (p i)) (by rfl) (cutK_none hcut) hcl (cutK_src ha hcut _ _) ⟨w.heap.size + 1, 0, none⟩ 1 1 [.int .i64 y.st, .slice ay y.n cy] (by rfl) rfl (newK_src w _ y.st ay y.n cy) hone (by omega) (by unfold maxLen; omega) (by omega) ?_; intro v4 w4 o4 g4; obtain ⟨a4, c4, rfl⟩ := owns_slice o4))
  all_goals
    have b0 := bel_drewK (bel_alloc bA (.cells #[.int .i64 y.st, .slice ay y.n cy] 27))
    have B4 : Below w.heap.size w w4 := b0.grown g4 b0.size (fun k hk => by cases hk)
    have HO : Hid (KR w4 a4 (n + 1) (fun i => if i = n then y else d i) (fun i => if i = n then (ay, cy) else p i)) := by
      have e : (chunks n fun i => bkcells (d i) (p i)) ++ [.int .i64 y.st, .slice ay y.n cy] = chunks (n + 1) fun i => bkcells (if i = n then y else d i) (if i = n then (ay, cy) else p i) := by
        rw [chunks_succ]
        congr 1
        · exact chunks_congr (fun i hi => by rw [if_neg (by omega), if_neg (by omega)])
        · simp [bkcells]
      rw [e] at o4
      refine ⟨by omega, owns_vrow' o4 (by rw [chunks_length (s := 2) (n + 1) (fun i _ => rfl)]; omega), fun i hi => ?_⟩
      by_cases e : i = n
      · subst e
        simp only [if_pos]
        exact HA.out.2.below B4
      · simp only [if_neg e]
        exact (HA.out.1.below B4).2.2 i (by omega)
    clear b0 g4 bA XA x0 x1 zx hadr o4 hone hcl ha
    go_wp2
    go_ret
    exact ⟨_, _, rfl, HO.out, B4⟩
theorem allL_snoc (d : Nat → KD) (n : Nat) (y : KD) : allL (fun i => if i = n then y else d i) (n + 1) = allL d n ++ [y] := by
  rw [allL_succ, if_pos rfl]
  congr 1
  unfold allL
  apply List.map_congr_left
  intro i hi
  rw [if_neg (by simp at hi; omega)]
theorem allL_tail (d : Nat → KD) (n : Nat) : (allL d n).drop 1 = allL (fun i => d (i + 1)) (n - 1) := by
  unfold allL
  cases n with
  | zero => rfl
  | succ n => rw [List.range_succ_eq_map]; simp [Function.comp_def]
theorem rowP_of {w w1 w2 : World} {a : Option Addr} {c n : Nat} {d : Nat → KD} {p : Nat → Pl} {L : List KD} (e : allL d n = L) (b : Below w.heap.size w w1) (h : KO w2 a c n d p) (lo : ∀ b, RS a c n (fun i => QK (p i)) b → w1.heap.size ≤ b) (b2 : Below w1.heap.size w1 w2) : RowP L w (.returned (.slice a n c)) w2 := by
  subst e
  refine ⟨a, c, p, by rw [allL_length], KL.of h (fun x hx => Nat.le_trans b.size (lo x hx)) (bel_trans b b2)⟩

set_option maxRecDepth 100000 in
set_option maxHeartbeats 4000000 in
theorem implCacheAdd_any (a : Option Addr) (c n : Nat) (d : Nat → KD) (p : Nat → Pl) (y : KD) (ay : Option Addr) (cy : Nat) (w : World) (hnc : n ≤ c) (ha : KR w a n d p) (hy : IR w ay y.n y.x) :
    Calls Try.prog 10 #[.slice a n c, .agg #[.int .i64 y.st, .slice ay y.n cy]] w (RowP (addL (allL d n) y) w) := by
  have hn := ha.1
  have bA := bel_alloc (Below.refl w.heap.size w) (.cells #[.int .i64 y.st, .slice ay y.n cy] 27)
  have XA := Box.new w #[.int .i64 y.st, .slice ay y.n cy] 27
  have HA : Hid (KR w a n d p ∧ IR w ay y.n y.x) := ⟨ha, hy⟩
  have hry := hy.below bA
  clear ha hy
  cases hb : blockB y.st y.n y.x
  · have HL : Hid (allL d n = addL (allL d n) y) := (addL_no hb).symm
    have HQ : Hid (blockB y.st y.n y.x = false) := hb
    clear hb
    go_enter Try.func10, Try.ntmps10
    go_wp2_with fail
    refine (implBlockOk_any y.st ay cy y.n y.x _ hry).mono ?_
    rintro e w1 ⟨rfl, b1⟩
    have B : Hid (Below w.heap.size w w1) := bel_trans bA b1
    have hra := HA.out.1.below B.out
    clear XA bA b1 hry
    rw [HQ.out]
    go_wp2_with fail
    refine (copyEachK_any a c n d p _ hra).mono ?_
    rintro e w2 ⟨a2, c2, p2, rfl, O2, l2, b2⟩
    have HR : Hid (RowP (addL (allL d n) y) w (.returned (.slice a2 n c2)) w2) := rowP_of HL.out B.out O2 l2 b2
    clear O2 l2 b2 hra
    go_wp2
    go_ret
    exact HR.out
  · have HQ : Hid (blockB y.st y.n y.x = true) := hb
    by_cases h5 : 5 ≤ n
    · have HL : Hid (allL (fun i => if i = n - 1 then y else d (i + 1)) (n - 1 + 1) = addL (allL d n) y) := by
        show _ = _
        rw [addL_yes hb, allL_length, if_pos h5, allL_tail]
        exact allL_snoc (fun i => d (i + 1)) (n - 1) y
      have h5i : (5 : Int) ≤ n := by omega
      clear hb
      go_enter Try.func10, Try.ntmps10
      go_wp2_with fail
      refine (implBlockOk_any y.st ay cy y.n y.x _ hry).mono ?_
      rintro e w1 ⟨rfl, b1⟩
      have B : Hid (Below w.heap.size w w1) := bel_trans bA b1
      have hra := HA.out.1.below B.out
      have hrb := HA.out.2.below B.out
      replace XA := XA.below b1
      obtain ⟨x0, x1, xz⟩ := XA.at2
      have hadr := hra.addr
      clear bA b1 hry XA
      rw [HQ.out]
      go_wp2_with fail
      refine (cutK_any a n c 1 _ (by omega) hn hnc hadr).mono ?_
      rintro e w1' ⟨a1, rfl, hcut, h⟩
      replace h := h.symm
      subst h
      have hr1 := hra.cut1 hcut (by omega)
      clear hra hcut hadr
      go_wp2_with fail
      refine (withK_any a1 (n - 1) (n - 1) _ _ y ay cy _ hr1 hrb (by omega) (Nat.le_refl _)).mono ?_
      rintro e w2 ⟨a2, c2, rfl, hr2, b2⟩
      have B2 : Hid (Below w.heap.size w w2) := bel_trans B.out b2
      clear hr1 hrb b2 x0 x1 xz
      go_wp2_with fail
      refine (copyEachK_any a2 c2 (n - 1 + 1) _ _ _ hr2).mono ?_
      rintro e w3 ⟨a3, c3, p3, rfl, O3, l3, b3⟩
      have HR : Hid (RowP (addL (allL d n) y) w (.returned (.slice a3 (n - 1 + 1) c3)) w3) := rowP_of HL.out B2.out O3 l3 b3
      clear O3 l3 b3 hr2
      go_wp2
      go_ret
      exact HR.out
    · have HL : Hid (allL (fun i => if i = n then y else d i) (n + 1) = addL (allL d n) y) := by
        show _ = _
        rw [addL_yes hb, allL_length, if_neg h5]
        exact allL_snoc d n y
      have h5i : ¬ (5 : Int) ≤ n := by omega
      clear hb
      go_enter Try.func10, Try.ntmps10
      go_wp2_with fail
      refine (implBlockOk_any y.st ay cy y.n y.x _ hry).mono ?_
      rintro e w1 ⟨rfl, b1⟩
      have B : Hid (Below w.heap.size w w1) := bel_trans bA b1
      have hra := HA.out.1.below B.out
      have hrb := HA.out.2.below B.out
      replace XA := XA.below b1
      obtain ⟨x0, x1, xz⟩ := XA.at2
      clear bA b1 hry XA
      rw [HQ.out]
      go_wp2_with fail
      refine (withK_any a c n d p y ay cy _ hra hrb (by omega) hnc).mono ?_
      rintro e w2 ⟨a2, c2, rfl, hr2, b2⟩
      have B2 : Hid (Below w.heap.size w w2) := bel_trans B.out b2
      clear hra hrb b2 x0 x1 xz
      go_wp2_with fail
      refine (copyEachK_any a2 c2 (n + 1) _ _ _ hr2).mono ?_
      rintro e w3 ⟨a3, c3, p3, rfl, O3, l3, b3⟩
      have HR : Hid (RowP (addL (allL d n) y) w (.returned (.slice a3 (n + 1) c3)) w3) := rowP_of HL.out B2.out O3 l3 b3
      clear O3 l3 b3 hr2
      go_wp2
      go_ret
      exact HR.out
end Go.Proofs.Ytkamhinklhcbaaa
