/- What the specification's CacheAdd answers. -/
import Derived.Test.YtkamhinklhcbaaaCa3
import Derived.Test.YtkamhinklhcbaaaBk2
namespace Go.Proofs.Ytkamhinklhcbaaa
open Go.RowKit
set_option linter.unusedVariables false

theorem KO.cap {w : World} {a : Option Addr} {c n : Nat} {d : Nat → KD} {p : Nat → Pl} (h : KO w a c n d p) : n ≤ c := by
  rcases h.row.2 with ⟨_, rfl⟩ | ⟨g, cap, cur, hv, _, _, hn, _⟩
  · exact Nat.zero_le _
  · simp only [Value.slice.injEq] at hv
    omega
theorem kd_drop (L : List KD) (i : Nat) : kd (L.drop 1) i = kd L (i + 1) := by
  unfold kd
  simp [List.getD_eq_getElem?_getD]
/-- The same without the first, in a new row. -/
theorem KL.tail {w0 wr w5 : World} {L : List KD} {m : Nat} {a : Option Addr} {c : Nat} {p : Nat → Pl} {a5 : Option Addr} {c5 : Nat} (h : KL w0 wr L a c p) (hm : L.length = m + 1) (b5 : Below wr.heap.size wr w5)
    (o5 : w5.ownsRow wr.heap.size 27 2 (.slice a5 m c5) m (chunks m fun i => bkcells (kd L (i + 1)) (p (i + 1)))) : KL w0 w5 (L.drop 1) a5 c5 (fun i => p (i + 1)) := by
  have hl : (L.drop 1).length = m := by simp; omega
  have hR := h.r
  rw [hm] at hR
  have hlo : ∀ g, blk (a5, c5) = some g → wr.heap.size ≤ g := owns_low o5
  have hs := h.b.size
  refine ⟨?_, fun b hb => ?_, bel_trans h.b b5⟩
  · rw [hl]
    have e : (fun i => bkcells (kd (L.drop 1) i) (p (i + 1))) = fun i => bkcells (kd L (i + 1)) (p (i + 1)) := funext fun i => by rw [kd_drop]
    refine ⟨?_, fun i hi => ?_, fun i hi => fix_k _ _, fun i hi g hg hq => ?_, fun i k hi hk hne => hR.ap (i + 1) (k + 1) (by omega) (by omega) (by omega), fun i hi b hb => ?_⟩
    · rw [e]; exact owns_base o5 (Nat.zero_le _)
    · rw [kd_drop]; exact (hR.below b5).el (i + 1) (by omega)
    · have h1 := hlo g hg
      have h2 := hR.lt (i + 1) (by omega) g hq
      omega
    · have h2 := hR.lt (i + 1) (by omega) b hb
      have := b5.size
      omega
  · rcases hb with hb | ⟨i, hi, hb⟩
    · have := hlo b hb; omega
    · exact h.lo b (.inr ⟨i + 1, by omega, hb⟩)
theorem k_one {f : Nat → KD} {p : Nat → Pl} {m : Nat} : ∀ u ∈ chunks m (fun i => bkcells (f i) (p i)), u.oneCell' = true := fun u hu => by
  unfold chunks at hu
  rw [List.mem_flatMap] at hu
  obtain ⟨i, _, h⟩ := hu
  simp [bkcells] at h
  rcases h with rfl | rfl <;> rfl
theorem chunks_tail {s n : Nat} {f : Nat → List Value} (hf : ∀ i, i < n + 1 → (f i).length = s) (hs : 0 < s) {j : Nat} {u : Value} (h : (chunks n (fun i => f (i + 1)))[j]? = some u) : (chunks (n + 1) f)[s + j]? = some u := by
  have hl : (chunks n (fun i => f (i + 1))).length = n * s := chunks_length n (fun i hi => hf (i + 1) (by omega))
  have hj : j < n * s := by
    rw [List.getElem?_eq_some_iff] at h
    obtain ⟨h1, _⟩ := h
    omega
  have hq : j / s < n := Nat.div_lt_of_lt_mul (by rw [Nat.mul_comm]; exact hj)
  have hr : j % s < s := Nat.mod_lt _ hs
  have ej : j / s * s + j % s = j := by rw [Nat.mul_comm]; exact Nat.div_add_mod j s
  have e1 := chunks_get (f := fun i => f (i + 1)) (fun i hi => hf (i + 1) (by omega)) hq hr
  have e2 := chunks_get (n := n + 1) (f := f) hf (i := j / s + 1) (by omega) hr
  rw [ej] at e1
  rw [show (j / s + 1) * s + j % s = s + j by rw [Nat.add_mul]; omega] at e2
  rw [e2, ← e1, h]
def addL (L : List KD) (y : KD) : List KD := if blockB y.st y.n y.x then (if 5 ≤ L.length then L.drop 1 else L) ++ [y] else L
theorem addL_no {L : List KD} {y : KD} (h : blockB y.st y.n y.x = false) : addL L y = L := by unfold addL; rw [h]; rfl
theorem addL_yes {L : List KD} {y : KD} (h : blockB y.st y.n y.x = true) : addL L y = (if 5 ≤ L.length then L.drop 1 else L) ++ [y] := by unfold addL; rw [h]; rfl

set_option maxRecDepth 100000 in
set_option maxHeartbeats 4000000 in
theorem specCacheAdd_any (a : Option Addr) (c n : Nat) (d : Nat → KD) (p : Nat → Pl) (y : KD) (ay : Option Addr) (cy : Nat) (w : World) (ha : KR w a n d p) (hy : IR w ay y.n y.x) :
    Calls Try.prog 12 #[.slice a n c, .agg #[.int .i64 y.st, .slice ay y.n cy]] w (RowP (addL (allL d n) y) w) := by
  obtain ⟨i0, hi0, hz0, hz1, hz2⟩ := info_parts info_block2
  have hn1 : n ≤ 1048577 := ha.1
  obtain ⟨st, ny, x⟩ := y
  simp only at hy ⊢
  have bA := bel_alloc (Below.refl w.heap.size w) (.cells #[.int .i64 st, .slice ay ny cy] 27)
  have XB := Box.new w #[.int .i64 st, .slice ay ny cy] 27
  have HY : Hid (IR w ay ny x) := hy
  have hka := ha.below bA
  clear ha hy
  go_enter Try.func12, Try.ntmps12
  go_wp2_with fail
  refine (l11Copy_any a c n d p _ hka).mono ?_
  rintro e w1 ⟨a1, c1, p1, rfl, K1⟩
  have hLn := allL_length d n
  obtain ⟨L, hL⟩ : ∃ L, allL d n = L := ⟨_, rfl⟩
  have HL : Hid (allL d n = L) := hL
  rw [hL] at hLn K1 ⊢
  have HLn : Hid (L.length = n) := hLn
  rw [hLn]
  have K1' : KL w w1 L a1 c1 p1 := ⟨K1.r, fun b hb => by have := K1.lo b hb; simp at this; omega, bel_trans bA K1.b⟩
  have X1 := XB.below K1.b
  have HK1 : Hid (KL w w1 L a1 c1 p1) := K1'
  obtain ⟨x0, x1, xz⟩ := X1.at2
  clear K1 K1' XB bA hka hL hLn
  go_wp2_with fail
  refine (specBlockOk_any st ay cy ny x _ (HY.out.below HK1.out.b)).mono ?_
  rintro e w2 ⟨rfl, b2⟩
  have X2 := X1.below b2
  have HK2 : Hid (KL w w2 L a1 c1 p1) := HK1.out.below b2
  clear HK1 b2 x0 x1 xz X1
  obtain ⟨x0, x1, xz⟩ := X2.at2
  cases hb : blockB st ny x
  · have HA : Hid (addL L ⟨st, ny, x⟩ = L) := addL_no hb
    clear hb X2
    go_wp2
    go_ret
    refine ⟨a1, c1, p1, ?_, ?_⟩
    · rw [HL.out, HA.out, HLn.out]; rfl
    · rw [HL.out, HA.out]; exact HK2.out
  · have HA : Hid (addL L ⟨st, ny, x⟩ = (if 5 ≤ L.length then L.drop 1 else L) ++ [⟨st, ny, x⟩]) := addL_yes hb
    clear hb
    by_cases h5 : 5 ≤ n
    · have h5' : (5 : Int) ≤ (n : Int) := by omega
      obtain ⟨m, rfl⟩ : ∃ m, n = m + 1 := ⟨n - 1, by omega⟩
      have hr := HK2.out.r.row
      rw [HLn.out] at hr
      obtain ⟨g, rfl⟩ := owns_addr hr (by omega)
      have hcap : m + 1 ≤ c1 := by
        obtain ⟨_, h1 | ⟨g', cap, cur, e, _, _, h2, _⟩⟩ := hr
        · simp at h1
        · simp at e; omega
      have bE := bel_alloc (Below.refl w2.heap.size w2) (.cells #[] 27)
      have oE := own_litE w2 27 2 w2.heap.size (Nat.le_refl _)
      have hvr := (owns_vrow' hr (by rw [chunks_length (s := 2) (m + 1) (fun i _ => rfl)]; omega)).below bE
      have hcl : (chunks m fun i => bkcells (kd L (i + 1)) (p1 (i + 1))).length = m * 2 := chunks_length (s := 2) m (fun i _ => rfl)
      have hnews : ∀ j u, (chunks m fun i => bkcells (kd L (i + 1)) (p1 (i + 1)))[j]? = some u → ∃ b off, (some ⟨g, 2, none⟩ : Option Addr) = some ⟨b, off, none⟩ ∧ (w2.alloc (.cells #[] 27)).cell? ⟨b, off + j, none⟩ = some u := fun j u hu => by
        have h1 := chunks_tail (s := 2) (n := m) (f := fun i => bkcells (kd L i) (p1 i)) (fun i _ => rfl) (by decide) hu
        obtain ⟨b, off, e, h2⟩ := hvr.2 (2 + j) u h1
        simp at e
        obtain ⟨rfl, rfl⟩ := e
        exact ⟨g, 2, rfl, by rw [Nat.zero_add] at h2; exact h2⟩
      go_wp2_with (at_builtin; refine wpList_append_rowYtkamhinklhcbaaa rfl (.tmp 15) (.tmp 17) 24 rfl w2.heap.size 27 i0 (.agg #[.int .i64 0, .slice none 0 0]) 2 32 Try.underlying24 hi0 hz0 hz1 hz2 rfl (by decide) (.slice (some ⟨w2.heap.size, 0, none⟩) 0 0) 0 [] (by rfl) oE (some ⟨g, 2, none⟩) m (c1 - 1) (chunks m fun i => bkcells (kd L (i + 1)) (p1 (i + 1))) (by rfl) hcl hnews k_one (by unfold maxLen; omega) (by omega) (by simp) ?_)
      intro v1 w5 o5 g5
      have b5 : Below w2.heap.size w2 w5 := bE.grown g5 bE.size (fun j hj => by simp [Value.ownBlock] at hj; omega)
      (try simp only [Nat.zero_add, List.nil_append] at o5)
      obtain ⟨a5, c5, rfl⟩ := owns_slice o5
      have HK5 : Hid (KL w w5 (L.drop 1) a5 c5 (fun i => p1 (i + 1))) := HK2.out.tail HLn.out b5 o5
      have X5 := X2.below b5
      have HD : Hid ((if 5 ≤ L.length then L.drop 1 else L) = L.drop 1) := by show _ = _; rw [if_pos (by rw [HLn.out]; exact h5)]
      rw [HD.out] at HA
      obtain ⟨T, hT⟩ : ∃ T, L.drop 1 = T := ⟨_, rfl⟩
      have HT : Hid (T.length = m) := by show _ = _; rw [← hT, List.length_drop, HLn.out]; rfl
      rw [hT] at HK5 HA
      clear hT HD
      clear x0 x1 xz HK2 X2 b5 o5 g5 bE oE hvr hcl hnews hr
      obtain ⟨x0, x1, xz⟩ := X5.at2
      clear X5
      go_wp2_with fail
      refine (l10Copy_any st ay cy ny x _ (HY.out.below HK5.out.b)).mono ?_
      rintro e w6 ⟨a6, c6, rfl, o6, b6⟩
      have HO : Hid (IOw w6 w5.heap.size a6 c6 ny x ∧ Below w5.heap.size w5 w6) := ⟨o6, b6⟩
      have b7 := bel_alloc (Below.refl w6.heap.size w6) (.cells #[.int .i64 st, .slice a6 ny c6] 27)
      have XE := Box.new w6 #[.int .i64 st, .slice a6 ny c6] 27
      have hr2 := owns_below (owns_below HK5.out.r.row b6) b7
      have HM : Hid (T.length = m) := by show _ = _; exact HT.out
      rw [HM.out] at hr2
      clear o6 b6
      go_wp2_with (at_builtin; refine wpList_append_lies _ rfl (.tmp 19) (.tmp 22) 24 rfl 0 27 i0 (.agg #[.int .i64 0, .slice none 0 0]) 2 32 Try.underlying24 hi0 hz0 hz1 hz2 rfl (by decide) (.slice a5 m c5) m (chunks m (fun i => bkcells (kd T i) ((fun i => p1 (i + 1)) i))) (by rfl) hr2 ⟨w6.heap.size, 0, none⟩ 1 1 [.int .i64 st, .slice a6 ny c6] (by rfl) (by rfl) (World.news_of_block XE) (by intro u hu; simp at hu; rcases hu with rfl | rfl <;> rfl) (by decide) (by unfold maxLen; omega) (by omega) (Nat.zero_le _) _ rfl ?_)
      intro g8 cap8 w8 o8 g8' at8 lt8
      have HQ : Hid (KL w w8 (T ++ [⟨st, ny, x⟩]) (some ⟨g8, 0, none⟩) cap8 (fun i => if i = T.length then (a6, c6) else (fun i => p1 (i + 1)) i)) := HK5.out.snoc (y := ⟨st, ny, x⟩) HO.out.1 HO.out.2 b7 (by rw [HM.out]; exact o8) (by rw [HM.out]; exact g8') (by rw [HM.out]; simpa using at8)
      have HQl : Hid ((T ++ [⟨st, ny, x⟩] : List KD).length = m + 1) := by show _ = _; rw [List.length_append, HM.out]; rfl
      clear hr2 XE b7 o8 g8' at8 lt8
      go_wp2
      go_ret
      refine ⟨some ⟨g8, 0, none⟩, cap8, (fun i => if i = T.length then (a6, c6) else (fun i => p1 (i + 1)) i), ?_, ?_⟩
      · rw [HL.out, HA.out, HQl.out]; rfl
      · rw [HL.out, HA.out]; exact HQ.out
    · have h5' : ¬ ((5 : Int) ≤ (n : Int)) := by omega
      have HD : Hid ((if 5 ≤ L.length then L.drop 1 else L) = L) := by show _ = _; rw [if_neg (by rw [HLn.out]; exact h5)]
      rw [HD.out] at HA
      clear X2
      go_wp2_with fail
      refine (l10Copy_any st ay cy ny x _ (HY.out.below HK2.out.b)).mono ?_
      rintro e w6 ⟨a6, c6, rfl, o6, b6⟩
      have HO : Hid (IOw w6 w2.heap.size a6 c6 ny x ∧ Below w2.heap.size w2 w6) := ⟨o6, b6⟩
      have b7 := bel_alloc (Below.refl w6.heap.size w6) (.cells #[.int .i64 st, .slice a6 ny c6] 27)
      have XE := Box.new w6 #[.int .i64 st, .slice a6 ny c6] 27
      have hr2 := owns_below (owns_below HK2.out.r.row b6) b7
      have HM : Hid (L.length = n) := by show _ = _; exact HLn.out
      rw [HM.out] at hr2
      clear o6 b6
      go_wp2_with (at_builtin; refine wpList_append_lies _ rfl (.tmp 19) (.tmp 22) 24 rfl 0 27 i0 (.agg #[.int .i64 0, .slice none 0 0]) 2 32 Try.underlying24 hi0 hz0 hz1 hz2 rfl (by decide) (.slice a1 n c1) n (chunks n (fun i => bkcells (kd L i) (p1 i))) (by rfl) hr2 ⟨w6.heap.size, 0, none⟩ 1 1 [.int .i64 st, .slice a6 ny c6] (by rfl) (by rfl) (World.news_of_block XE) (by intro u hu; simp at hu; rcases hu with rfl | rfl <;> rfl) (by decide) (by unfold maxLen; omega) (by omega) (Nat.zero_le _) _ rfl ?_)
      intro g8 cap8 w8 o8 g8' at8 lt8
      have HQ : Hid (KL w w8 (L ++ [⟨st, ny, x⟩]) (some ⟨g8, 0, none⟩) cap8 (fun i => if i = L.length then (a6, c6) else p1 i)) := HK2.out.snoc (y := ⟨st, ny, x⟩) HO.out.1 HO.out.2 b7 (by rw [HM.out]; exact o8) (by rw [HM.out]; exact g8') (by rw [HM.out]; simpa using at8)
      have HQl : Hid ((L ++ [⟨st, ny, x⟩] : List KD).length = n + 1) := by show _ = _; rw [List.length_append, HM.out]; rfl
      clear hr2 XE b7 o8 g8' at8 lt8
      go_wp2
      go_ret
      refine ⟨some ⟨g8, 0, none⟩, cap8, (fun i => if i = L.length then (a6, c6) else p1 i), ?_, ?_⟩
      · rw [HL.out, HA.out, HQl.out]; rfl
      · rw [HL.out, HA.out]; exact HQ.out
end Go.Proofs.Ytkamhinklhcbaaa
