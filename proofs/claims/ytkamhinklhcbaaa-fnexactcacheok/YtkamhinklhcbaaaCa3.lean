/- Rows of blocks that grow; what the specification's l11Copy and Purge answer. -/
import Derived.Test.YtkamhinklhcbaaaBkR
import Derived.Test.YtkamhinklhcbaaaBk3
import Derived.Test.YtkamhinklhcbaaaCa2
namespace Go.Proofs.Ytkamhinklhcbaaa
open Go.RowKit
set_option linter.unusedVariables false

def kz : KD := ⟨0, 0, fun _ => ⟨0, 0, 0, 0, 0⟩⟩
def kd (L : List KD) (i : Nat) : KD := L.getD i kz
theorem kd_snoc (L : List KD) (y : KD) {i : Nat} (hi : i < L.length + 1) : kd (L ++ [y]) i = if i = L.length then y else kd L i := by
  unfold kd
  by_cases e : i = L.length
  · subst e; simp
  · rw [if_neg e]
    simp [List.getD_eq_getElem?_getD, List.getElem?_append, show i < L.length by omega]
/-- A row of blocks, all of it new. -/
structure KL (w0 w : World) (L : List KD) (a : Option Addr) (c : Nat) (p : Nat → Pl) : Prop where
  r : KO w a c L.length (kd L) p
  lo : ∀ b, RS a c L.length (fun i => QK (p i)) b → w0.heap.size ≤ b
  b : Below w0.heap.size w0 w
theorem KL.below {w0 w w' : World} {L : List KD} {a : Option Addr} {c : Nat} {p : Nat → Pl} (h : KL w0 w L a c p) (b : Below w.heap.size w w') : KL w0 w' L a c p := ⟨h.r.below b, h.lo, bel_trans h.b b⟩
/-- What answers a row of blocks. -/
def RowP (L : List KD) (w : World) (e : Ending) (w' : World) : Prop := ∃ a c p, e = .returned (.slice a L.length c) ∧ KL w w' L a c p
theorem KL.nil (w : World) {w1 : World} (b : Below w.heap.size w w1) : KL w (w1.alloc (.cells #[] 27)) [] (some ⟨w1.heap.size, 0, none⟩) 0 (fun _ => (none, 0)) :=
  ⟨⟨own_litE w1 27 2 0 (Nat.zero_le _), fun i hi => absurd hi (Nat.not_lt_zero i), fun i hi => absurd hi (Nat.not_lt_zero i), fun i hi => absurd hi (Nat.not_lt_zero i), fun i k hi => absurd hi (Nat.not_lt_zero i), fun i hi => absurd hi (Nat.not_lt_zero i)⟩, fun x hx => by
    rcases hx with hx | ⟨i, hi, _⟩
    · simp [blk] at hx; have := b.size; omega
    · exact absurd hi (Nat.not_lt_zero i), bel_alloc b _⟩
theorem KL.snoc {w0 wr w1 V w5 : World} {L : List KD} {y : KD} {g cap : Nat} {a : Option Addr} {c : Nat} {p : Nat → Pl} {a2 : Option Addr} {c2 : Nat} (h : KL w0 wr L a c p) (o1 : IOw w1 wr.heap.size a2 c2 y.n y.x) (b1 : Below wr.heap.size wr w1) (b2 : Below w1.heap.size w1 V)
    (o5 : w5.ownsRow 0 27 2 (.slice (some ⟨g, 0, none⟩) (L.length + 1) cap) (L.length + 1) (chunks L.length (fun i => bkcells (kd L i) (p i)) ++ [.int .i64 y.st, .slice a2 y.n c2])) (g5 : V.grownBy w5 (Value.slice a L.length c).ownBlock) (hg : (Value.slice a L.length c).ownBlock = some g ∨ g = V.heap.size) :
    KL w0 w5 (L ++ [y]) (some ⟨g, 0, none⟩) cap (fun i => if i = L.length then (a2, c2) else p i) := by
  have b12 := bel_trans b1 b2
  have hs := b12.size
  have hs0 := h.b.size
  have oV : EK y (a2, c2) V := owns_base (owns_below o1 b2) (Nat.zero_le _)
  have hq : ∀ x, QK (a2, c2) x → wr.heap.size ≤ x ∧ x < V.heap.size := fun x hx => by
    have := World.ownsRow.lt o1 x (blk_own hx)
    have := b2.size
    omega
  have R5 := Rw.snoc (E' := EK y (a2, c2)) (Q' := QK (a2, c2)) h.r b12 oV (fix_k _ _) hq o5 g5 hg
  have el : (L ++ [y]).length = L.length + 1 := by simp
  have R6 : KO w5 (some ⟨g, 0, none⟩) cap (L ++ [y]).length (kd (L ++ [y])) (fun i => if i = L.length then (a2, c2) else p i) := by
    rw [el]
    exact R5.congr (fun i hi => by
      rw [kd_snoc L y hi]
      by_cases e : i = L.length
      · subst e; simp [bkcells]
      · simp [e]) (fun i hi => by
      by_cases e : i = L.length
      · subst e; simp
      · simp [e]) (fun i hi => by
      rw [kd_snoc L y hi]
      by_cases e : i = L.length
      · subst e; simp
      · simp [e])
  refine ⟨R6, fun b hb => ?_, ?_⟩
  · rw [el] at hb
    rcases hb with hb | ⟨i, hi, hb⟩
    · simp [blk] at hb
      subst hb
      rcases hg with hg | hg
      · exact h.lo _ (.inl (blk_eq hg))
      · omega
    · by_cases e : i = L.length
      · rw [if_pos e] at hb
        have := hq b hb
        omega
      · rw [if_neg e] at hb
        exact h.lo b (.inr ⟨i, by omega, hb⟩)
  · have hB := bel_trans h.b b12
    exact hB.grown g5 hB.size (fun x hx => h.lo _ (.inl (blk_eq hx)))
def allL (d : Nat → KD) (n : Nat) : List KD := (List.range n).map d
theorem allL_succ (d : Nat → KD) (n : Nat) : allL d (n + 1) = allL d n ++ [d n] := by unfold allL; rw [List.range_succ, List.map_append]; rfl
theorem allL_length (d : Nat → KD) (n : Nat) : (allL d n).length = n := by unfold allL; simp

set_option maxRecDepth 100000 in
set_option maxHeartbeats 4000000 in
theorem l11Copy_any (a : Option Addr) (c n : Nat) (d : Nat → KD) (p : Nat → Pl) (w : World) (ha : KR w a n d p) :
    Calls Try.prog 44 #[.slice a n c] w (RowP (allL d n) w) := by
  obtain ⟨i0, hi0, hz0, hz1, hz2⟩ := info_parts info_block2
  have hl : n ≤ 1048577 := ha.1
  have HK : Hid (KR w a n d p) := ha
  have H0 : Hid (KL w _ (allL d 0) _ 0 _) := KL.nil w (Below.refl _ _)
  clear ha
  go_enter Try.func44, Try.ntmps44
  go_wp2_with fail
  go_loopw [3, 4] (fun v i wr => ∃ k : Nat, k ≤ n ∧ i = .int .i64 k ∧ ∃ ak ck p', v = .slice ak k ck ∧ KL w wr (allL d k) ak ck p') (fun _ i _ => n - (intOf i).toNat)
  case atStart => exact ⟨0, Nat.zero_le _, rfl, _, _, _, rfl, H0.out⟩
  case round =>
    obtain ⟨k, hk, rfl, ak, ck, p', rfl, hF⟩ := hrel
    clear H0
    have HF : Hid (KL w wr (allL d k) ak ck p') := hF
    have HLn : Hid ((allL d k).length = k) := allL_length d k
    by_cases hlt : k < n
    · have hi : (k : Int) < (n : Int) := by omega
      have har := HK.out.below hF.b
      obtain ⟨b, off, rfl, y0, y1⟩ := har.at hlt
      have hrow := har.2.2 k hlt
      clear har hF
      go_wp2_with fail
      refine (l10Copy_any (d k).st (p k).1 (p k).2 (d k).n (d k).x _ hrow).mono ?_
      rintro e w1 ⟨a2, c2, rfl, o1, b1⟩
      have HO : Hid (IOw w1 wr.heap.size a2 c2 (d k).n (d k).x ∧ Below wr.heap.size wr w1) := ⟨o1, b1⟩
      have b2 := bel_alloc (Below.refl w1.heap.size w1) (.cells #[.int .i64 (d k).st, .slice a2 (d k).n c2] 27)
      have XE := Box.new w1 #[.int .i64 (d k).st, .slice a2 (d k).n c2] 27
      have hr2 := owns_below (owns_below HF.out.r.row b1) b2
      rw [HLn.out] at hr2
      clear o1 b1 y0 y1 hrow
      go_wp2_with (at_builtin; refine wpList_append_lies _ rfl (.tmp 12) (.tmp 18) 24 rfl 0 27 i0 (.agg #[.int .i64 0, .slice none 0 0]) 2 32 Try.underlying24 hi0 hz0 hz1 hz2 rfl (by decide) (.slice ak k ck) k (chunks k (fun i => bkcells (kd (allL d k) i) (p' i))) (by rfl) hr2 ⟨w1.heap.size, 0, none⟩ 1 1 [.int .i64 (d k).st, .slice a2 (d k).n c2] (by rfl) (by rfl) (World.news_of_block XE) (by intro u hu; simp at hu; rcases hu with rfl | rfl <;> rfl) (by decide) (by unfold maxLen; omega) (by omega) (Nat.zero_le _) _ rfl ?_)
      intro g cap w5 o5 g5 at5 lt5
      have HQ : Hid (KL w w5 (allL d (k + 1)) (some ⟨g, 0, none⟩) cap (fun i => if i = (allL d k).length then (a2, c2) else p' i)) := by
        show KL _ _ _ _ _ _
        rw [allL_succ]
        exact HF.out.snoc (y := d k) HO.out.1 HO.out.2 b2 (by rw [HLn.out]; exact o5) (by rw [HLn.out]; exact g5) (by rw [HLn.out]; simpa using at5)
      clear hr2 XE b2 o5 g5 at5
      go_wp2
      go_roundw
      case rel => exact ⟨k + 1, by omega, by go_num, _, _, _, rfl, HQ.out⟩
      case measure => simp [intOf]; omega
    · have : k = n := by omega
      subst this
      clear hF
      go_wp2
      go_ret
      refine ⟨ak, ck, p', ?_, HF.out⟩
      rw [HLn.out]
      rfl

def pgB (page : Int) (d : KD) : Bool := !((if blockB d.st d.n d.x then d.st / 4 else -1) == page)
def purL (page : Int) (d : Nat → KD) (n : Nat) : List KD := (allL d n).filter (pgB page)
theorem purL_yes {page : Int} {d : Nat → KD} {n : Nat} (h : pgB page (d n) = true) : purL page d (n + 1) = purL page d n ++ [d n] := by unfold purL; rw [allL_succ, List.filter_append]; simp [h]
theorem purL_no {page : Int} {d : Nat → KD} {n : Nat} (h : pgB page (d n) = false) : purL page d (n + 1) = purL page d n := by unfold purL; rw [allL_succ, List.filter_append]; simp [h]
theorem purL_le (page : Int) (d : Nat → KD) (n : Nat) : (purL page d n).length ≤ n := by
  unfold purL
  have := List.length_filter_le (pgB page) (allL d n)
  rw [allL_length] at this
  exact this
theorem purL_n {page : Int} {d : Nat → KD} {n Z : Nat} (h : ∀ i, i < n → (d i).n ≤ Z) : ∀ i, i < (purL page d n).length → (kd (purL page d n) i).n ≤ Z := fun i hi => by
  have hm : kd (purL page d n) i ∈ purL page d n := by
    unfold kd
    rw [List.getD_eq_getElem?_getD, List.getElem?_eq_getElem hi]
    exact List.getElem_mem hi
  have h2 : kd (purL page d n) i ∈ allL d n := (List.mem_filter.1 hm).1
  unfold allL at h2
  rw [List.mem_map] at h2
  obtain ⟨j, hj, e⟩ := h2
  rw [← e]
  exact h j (by simpa using hj)

set_option maxRecDepth 100000 in
set_option maxHeartbeats 4000000 in
theorem specPurge_any (a : Option Addr) (c n : Nat) (d : Nat → KD) (p : Nat → Pl) (page : Int) (w : World) (ha : KR w a n d p) :
    Calls Try.prog 21 #[.slice a n c, .int .i64 page] w (RowP (purL page d n) w) := by
  obtain ⟨i0, hi0, hz0, hz1, hz2⟩ := info_parts info_block2
  have hl : n ≤ 1048577 := ha.1
  have HK : Hid (KR w a n d p) := ha
  have H0 : Hid (KL w _ (purL page d 0) _ 0 _) := KL.nil w (Below.refl _ _)
  clear ha
  go_enter Try.func21, Try.ntmps21
  go_wp2_with fail
  go_loopw [5, 6] (fun v i wr => ∃ k : Nat, k ≤ n ∧ i = .int .i64 k ∧ ∃ m ak ck p', (purL page d k).length = m ∧ v = .slice ak m ck ∧ KL w wr (purL page d k) ak ck p') (fun _ i _ => n - (intOf i).toNat)
  case atStart => exact ⟨0, Nat.zero_le _, rfl, _, _, _, _, rfl, rfl, H0.out⟩
  case round =>
    obtain ⟨k, hk, rfl, m, ak, ck, p', hm, rfl, hF⟩ := hrel
    clear H0
    have HF : Hid (KL w wr (purL page d k) ak ck p') := hF
    have HLn : Hid ((purL page d k).length = m) := hm
    have hmk : m ≤ k := by rw [← hm]; exact purL_le page d k
    clear hm
    by_cases hlt : k < n
    · have hi : (k : Int) < (n : Int) := by omega
      have har := HK.out.below hF.b
      obtain ⟨b, off, rfl, y0, y1⟩ := har.at hlt
      have hrow := har.2.2 k hlt
      obtain ⟨V, hV⟩ : ∃ V, (if blockB (d k).st (d k).n (d k).x then (d k).st / 4 else -1) = V := ⟨_, rfl⟩
      have HV : Hid (pgB page (d k) = !(V == page)) := by show _ = _; unfold pgB; rw [hV]
      have HPg : Hid (∀ W, IR W (p k).1 (d k).n (d k).x → Calls Try.prog 62 #[.agg #[.int .i64 (d k).st, .slice (p k).1 (d k).n (p k).2]] W fun e w' => e = .returned (.int .i64 V) ∧ Below W.heap.size W w') := fun W h => by
        have h1 := specPageOf_any (d k).st (p k).1 (p k).2 (d k).n (d k).x W h
        rw [hV] at h1
        exact h1
      clear har hF hV
      go_wp2_with fail
      refine (HPg.out _ hrow).mono ?_
      rintro e v1 ⟨rfl, c1⟩
      have HF1 : Hid (KL w v1 (purL page d k) ak ck p') := HF.out.below c1
      have har := HK.out.below HF1.out.b
      have hrow1 := har.2.2 k hlt
      obtain ⟨b', off', e', z0, z1⟩ := har.at hlt
      simp only [Option.some.injEq, Addr.mk.injEq, and_true] at e'
      obtain ⟨rfl, rfl⟩ := e'
      clear c1 HF HPg hrow y0 y1 har
      by_cases hv : V = page
      · have HN : Hid (purL page d (k + 1) = purL page d k) := purL_no (by rw [HV.out]; simp [hv])
        have hvb : (V == page) = true := by simp [hv]
        clear hrow1 z0 z1
        go_wp2
        go_roundw
        case rel => exact ⟨k + 1, by omega, by go_num, m, ak, ck, p', by rw [HN.out]; exact HLn.out, rfl, by rw [HN.out]; exact HF1.out⟩
        case measure => simp [intOf]; omega
      · have HN : Hid (purL page d (k + 1) = purL page d k ++ [d k]) := purL_yes (by rw [HV.out]; simp [hv])
        have hvb : (V == page) = false := by simp [hv]
        go_wp2_with fail
        refine (l10Copy_any (d k).st (p k).1 (p k).2 (d k).n (d k).x _ hrow1).mono ?_
        rintro e w1 ⟨a2, c2, rfl, o1, b1⟩
        have HO : Hid (IOw w1 v1.heap.size a2 c2 (d k).n (d k).x ∧ Below v1.heap.size v1 w1) := ⟨o1, b1⟩
        have b2 := bel_alloc (Below.refl w1.heap.size w1) (.cells #[.int .i64 (d k).st, .slice a2 (d k).n c2] 27)
        have XE := Box.new w1 #[.int .i64 (d k).st, .slice a2 (d k).n c2] 27
        have hr2 := owns_below (owns_below HF1.out.r.row b1) b2
        rw [HLn.out] at hr2
        clear o1 b1 z0 z1 hrow1
        go_wp2_with (at_builtin; refine wpList_append_lies _ rfl (.tmp 21) (.tmp 27) 24 rfl 0 27 i0 (.agg #[.int .i64 0, .slice none 0 0]) 2 32 Try.underlying24 hi0 hz0 hz1 hz2 rfl (by decide) (.slice ak m ck) m (chunks m (fun i => bkcells (kd (purL page d k) i) (p' i))) (by rfl) hr2 ⟨w1.heap.size, 0, none⟩ 1 1 [.int .i64 (d k).st, .slice a2 (d k).n c2] (by rfl) (by rfl) (World.news_of_block XE) (by intro u hu; simp at hu; rcases hu with rfl | rfl <;> rfl) (by decide) (by unfold maxLen; omega) (by omega) (Nat.zero_le _) _ rfl ?_)
        intro g cap w5 o5 g5 at5 lt5
        have HQ : Hid (KL w w5 (purL page d (k + 1)) (some ⟨g, 0, none⟩) cap (fun i => if i = (purL page d k).length then (a2, c2) else p' i)) := by
          show KL _ _ _ _ _ _
          rw [HN.out]
          exact HF1.out.snoc (y := d k) HO.out.1 HO.out.2 b2 (by rw [HLn.out]; exact o5) (by rw [HLn.out]; exact g5) (by rw [HLn.out]; simpa using at5)
        have HLq : Hid ((purL page d (k + 1)).length = m + 1) := by show _ = _; rw [HN.out, List.length_append, HLn.out]; rfl
        clear hr2 XE b2 o5 g5 at5
        go_wp2
        go_roundw
        case rel => exact ⟨k + 1, by omega, by go_num, m + 1, _, _, _, HLq.out, rfl, HQ.out⟩
        case measure => simp [intOf]; omega
    · have : k = n := by omega
      subst this
      clear hF
      go_wp2
      go_ret
      refine ⟨ak, ck, p', ?_, HF.out⟩
      rw [HLn.out]
      rfl
end Go.Proofs.Ytkamhinklhcbaaa
