/- What l11Draw draws: a cache and frames. -/
import Derived.Test.YtkamhinklhcbaaaDrawQ
import Derived.Test.YtkamhinklhcbaaaDrawF
import Derived.Test.YtkamhinklhcbaaaCa4
import Derived.BigRegion
import Derived.Deep.RegionHeld3
import Derived.Deep.RegionLawGrows
namespace Go.Proofs.Ytkamhinklhcbaaa
open Go.RowKit
set_option linter.unusedVariables false

/-- A drawn cache and drawn frames. -/
def CachP (r : Nat) (a : Option Addr) (n ca : Nat) (w : World) (e : Ending) (w' : World) : Prop :=
  ∃ (L : List KD) (al : Option Addr) (cl : Nat) (pl : Nat → Pl) (af : Option Addr) (cf nf : Nat) (F : Nat → FD) (pf : Nat → Pl), e = .returned (.tuple #[.slice al L.length cl, .slice af nf cf]) ∧ (L.length ≤ 7 ∧ L.length ≤ cl) ∧ (∀ y ∈ L, y.n ≤ 5) ∧
    (∀ W, Only w' W (fun b => b < w.heap.size) → KR W al L.length (kd L) pl) ∧ FR w' af nf F pf ∧ Cur w' r a n ca ∧ w.grownBy w' (some r)
def Fs (G : List FD) : Prop := ∀ y ∈ G, y.xs.length ≤ 5
theorem fmd_mem {G : List FD} {i : Nat} (hi : i < G.length) : fmd G i ∈ G := by
  unfold fmd
  rw [List.getD_eq_getElem?_getD, List.getElem?_eq_getElem hi]
  exact List.getElem_mem hi
theorem kd_mem2 {L : List KD} {i : Nat} (hi : i < L.length) : kd L i ∈ L := by
  unfold kd
  rw [List.getD_eq_getElem?_getD, List.getElem?_eq_getElem hi]
  exact List.getElem_mem hi
theorem DQ.fr {w0 w : World} {r : Nat} {a : Option Addr} {n ca : Nat} {L : List KD} {al : Option Addr} {cl : Nat} {pl : Nat → Pl} {G : List FD} {af : Option Addr} {cf : Nat} {pf : Nat → Pl} (h : DQ w0 w r a n ca L al cl pl G af cf pf) (hl : G.length ≤ 6) (hF : Fs G) : FR w af G.length (fmd G) pf :=
  FO.fr h.f (by omega) (fun i hi => by have := hF _ (fmd_mem hi); omega)
theorem DQ.kr {w0 w : World} {r : Nat} {a : Option Addr} {n ca : Nat} {L : List KD} {al : Option Addr} {cl : Nat} {pl : Nat → Pl} {G : List FD} {af : Option Addr} {cf : Nat} {pf : Nat → Pl} (h : DQ w0 w r a n ca L al cl pl G af cf pf) (hl : L.length ≤ 7) (hK : ∀ y ∈ L, y.n ≤ 5) : ∀ W, Only w W (fun b => b < w0.heap.size) → KR W al L.length (kd L) pl := fun W on => by
  have k2 : KO W al cl L.length (kd L) pl := Rw.sm h.k (on.sm (fun b hb e => by have := h.klo b hb; omega))
  exact KO.kr k2 (by omega) (fun i hi => by have := hK _ (kd_mem2 hi); omega)

theorem FR.tail {w : World} {b off n : Nat} {d : Nat → FD} {p : Nat → Pl} (h : FR w (some ⟨b, off, none⟩) (n + 1) d p) : FR w (some ⟨b, off + 3, none⟩) n (fun i => d (i + 1)) (fun i => p (i + 1)) := by
  refine ⟨by have := h.1; omega, ⟨?_, fun j u hu => ?_⟩, fun i hi => h.2.2 (i + 1) (by omega)⟩
  · have h1 := h.1
    rw [chunks_length (s := 3) n (fun i _ => rfl)]
    omega
  · have h1 := chunks_tail (s := 3) (n := n) (f := fun i => fcells (d i) (p i)) (fun i _ => rfl) (by decide) hu
    obtain ⟨b', off', e, h2⟩ := h.2.1.2 (3 + j) u h1
    simp at e
    obtain ⟨rfl, rfl⟩ := e
    exact ⟨b, off + 3, rfl, by rw [show off + 3 + j = off + (3 + j) by omega]; exact h2⟩
theorem cach_of {r : Nat} {a : Option Addr} {n ca : Nat} {w w1 w' : World} {L : List KD} {al : Option Addr} {cl : Nat} {pl : Nat → Pl} {G : List FD} {af : Option Addr} {cf : Nat} {pf : Nat → Pl} (g1 : w.grownBy w1 (some r)) (h : DQ w1 w' r a n ca L al cl pl G af cf pf) (hl : L.length ≤ 7) (hK : ∀ y ∈ L, y.n ≤ 5) (hg : G.length ≤ 6) (hF : Fs G) {m k : Nat} (em : L.length = m) (ek : G.length = k) :
    CachP r a n ca w (.returned (.tuple #[.slice al m cl, .slice af k cf])) w' := by
  subst em ek
  exact ⟨L, al, cl, pl, af, cf, G.length, fmd G, pf, rfl, ⟨hl, KO.cap h.k⟩, hK, fun W o => h.kr hl hK W (o.more (fun b hb => by have := g1.size; omega)), h.fr hg hF, h.C, grownBy_trans g1 h.gr⟩

set_option maxRecDepth 100000 in
set_option maxHeartbeats 8000000 in
theorem l11Draw_any (r : Nat) (a : Option Addr) (ca : Nat) (bs : List Int) (w : World) (hC : Cur w r a bs.length ca) (ha : Row .u8 w a bs) (hne : 0 < bs.length → ∀ x, a = some x → x.block ≠ r) :
    Calls Try.prog 37 #[.pointer (some ⟨r, 0, none⟩)] w fun e w' => CachP r a bs.length ca w e w' := by
  obtain ⟨i1, hi1, hz10, hz11, hz12⟩ := info_parts info_i64
  obtain ⟨i2, hi2, hz20, hz21, hz22⟩ := info_parts info_frame2
  obtain ⟨i3, hi3, hz30, hz31, hz32⟩ := info_parts info_block2
  have zC := hC.lt
  go_enter Try.func37, Try.ntmps37
  go_wp2_with fail
  refine (l9DrawMem_any r a ca bs _ hC ha hne).mono ?_
  rintro e w1 ⟨g, c, xs, rfl, K1⟩
  have HK1 : Hid (DK w w1 r a bs.length ca xs g c) := K1
  have zr1 : r < w1.heap.size := K1.C.lt
  have hcap := K1.cap
  have hgr : g ≠ r := by have := K1.lt.1; omega
  have H0 : Hid (DQ w1 _ r a bs.length ca [] none 0 (fun _ => (none, 0)) [] _ 0 (fun _ => (none, 0))) := DQ.start (w0 := w1) (w := w1) K1.C (bel_grown (Below.refl _ _)) zr1
  have HA : Hid (∀ W, w1.grownBy W (some r) → Row .u8 W a bs) := fun W gW => (ha.kept2 HK1.out.gr hne).kept2 gW hne
  clear K1 hC
  go_wp2_with fail
  go_loopw [5, 6] (fun v i wr => ∃ (G : List FD) (k : Nat) (af : Option Addr) (cf : Nat) (pf : Nat → Pl), G.length = k ∧ k ≤ 6 ∧ i = .int .i64 k ∧ v = .slice af k cf ∧ Fs G ∧ DQ w1 wr r a bs.length ca [] none 0 (fun _ => (none, 0)) G af cf pf) (fun _ i _ => 6 - (intOf i).toNat)
  case atStart => exact ⟨[], 0, _, _, _, rfl, by omega, rfl, rfl, fun y hy => by simp at hy, H0.out⟩
  case round =>
    obtain ⟨G, k, af, cf, pf, hGl, hk6, rfl, rfl, hFs, hQ⟩ := hrel
    clear H0
    have HGl : Hid (G.length = k) := hGl
    have HFs : Hid (Fs G) := hFs
    have HQ : Hid (DQ w1 wr r a bs.length ca [] none 0 (fun _ => (none, 0)) G af cf pf) := hQ
    clear hGl hFs hQ
    by_cases hlt : k < 6
    · have hi : (k : Int) < 6 := by omega
      have hrow : Row .i64 wr (some ⟨g, k * 4, none⟩) ((xs.drop (k * 4)).take 4) := (HK1.out.part (by omega)).kept HQ.out.gr (fun x hx => by simp at hx; subst hx; exact hgr)
      obtain ⟨ys, hys⟩ : ∃ ys, (xs.drop (k * 4)).take 4 = ys := ⟨_, rfl⟩
      have hyl : ys.length = 4 := by rw [← hys, List.length_take, List.length_drop, HK1.out.l]; omega
      rw [hys] at hrow
      have HYL : Hid (ys.length = 4) := hyl
      have bE : Below wr.heap.size wr (wr.alloc (.cells #[] 3)) := bel_alloc (Below.refl _ _) _
      have oE := own_litE wr 3 1 wr.heap.size (Nat.le_refl _)
      have hv := (row_v hrow (by omega)).below bE
      have hcl : (ys.map (Value.int .i64)).length = (k * 4 + 4 - k * 4) * 1 := by rw [List.length_map, hyl]; omega
      clear hys hrow hyl
      go_wp2_with (at_builtin; refine wpList_append_rowYtkamhinklhcbaaa rfl (.tmp 18) (.tmp 25) 82 rfl wr.heap.size 3 i1 (.int .i64 0) 1 8 Try.underlying82 hi1 hz10 hz11 hz12 rfl (by decide) (.slice (some ⟨wr.heap.size, 0, none⟩) 0 0) 0 [] (by rfl) oE (some ⟨g, k * 4, none⟩) (k * 4 + 4 - k * 4) (c - k * 4) (ys.map (Value.int .i64)) (by rfl) hcl hv.2 (by intro u hu; obtain ⟨x, _, rfl⟩ := List.mem_map.1 hu; rfl) (by unfold maxLen; omega) (by omega) (by simp) ?_)
      intro v5 w5 o5 g5
      obtain ⟨a5, c5, rfl⟩ := owns_slice o5
      have b5 : Below wr.heap.size wr w5 := bE.grown g5 bE.size (fun j hj => by simp [Value.ownBlock] at hj; omega)
      have b6 := bel_alloc (Below.refl w5.heap.size w5) (.cells #[.int .i64 1, .slice a5 4 c5, .bool false] 84)
      have XE := Box.new w5 #[.int .i64 1, .slice a5 4 c5, .bool false] 84
      have hr2 := owns_below (owns_below HQ.out.f.row b5) b6
      rw [HGl.out] at hr2
      go_wp2_with (at_builtin; refine wpList_append_lies _ rfl (.tmp 17) (.tmp 28) 32 rfl 0 84 i2 (.agg #[.int .i64 0, .slice none 0 0, .bool false]) 3 40 Try.underlying32 hi2 hz20 hz21 hz22 rfl (by decide) (.slice af k cf) k (chunks k (fun i => fcells (fmd G i) (pf i))) (by rfl) hr2 ⟨w5.heap.size, 0, none⟩ 1 1 [.int .i64 1, .slice a5 4 c5, .bool false] (by rfl) (by rfl) (World.news_of_block XE) (by intro u hu; simp at hu; rcases hu with rfl | rfl | rfl <;> rfl) (by decide) (by unfold maxLen; omega) (by omega) (Nat.zero_le _) _ rfl ?_)
      intro g8 cap8 w8 o8 gr8 at8 lt8
      ·
        have HQ8 : Hid (DQ w1 w8 r a bs.length ca [] none 0 (fun _ => (none, 0)) (G ++ [⟨1, ys, false⟩]) (some ⟨g8, 0, none⟩) cap8 (fun i => if i = G.length then (a5, c5) else pf i)) := HQ.out.snocF (y := ⟨1, ys, false⟩) (by simp only [HYL.out]; exact o5) b5 b6 (by simp only [HYL.out]; rw [HGl.out]; exact o8) (by rw [HGl.out]; exact gr8) (by rw [HGl.out]; simpa using at8)
        have HL8 : Hid ((G ++ [(⟨1, ys, false⟩ : FD)]).length = k + 1) := by show _ = _; rw [List.length_append, HGl.out]; rfl
        have HF8 : Hid (Fs (G ++ [(⟨1, ys, false⟩ : FD)])) := fun y hy => by
          rcases List.mem_append.1 hy with h | h
          · exact HFs.out y h
          · rw [List.mem_singleton] at h
            subst h
            simp only [HYL.out]
            omega
        clear hr2 XE b5 b6 o5 o8 gr8 at8 lt8 oE hv hcl bE g5
        go_wp2
        go_roundw
        case rel => exact ⟨_, k + 1, _, _, _, HL8.out, by omega, by go_num, rfl, HF8.out, HQ8.out⟩
        case measure => simp [intOf]; omega
    · have hk' : ¬ ((k : Int) < 6) := by omega
      have hk6n : k = 6 := by omega
      have HK6 : Hid (k = 6) := hk6n
      have H1 : Hid (DQ w1 _ r a bs.length ca [] _ 0 (fun _ => (none, 0)) G af cf pf) := HQ.out.lit
      clear HQ hlt hk6 hk6n
      go_wp2_with fail
      clear hk'
      go_loopw [7, 8] (fun v i wq => ∃ (L : List KD) (j : Nat) (al : Option Addr) (cl : Nat) (pl : Nat → Pl), L.length = j ∧ j ≤ 5 ∧ i = .int .i64 j ∧ v = .slice al j cl ∧ (∀ y ∈ L, y.n ≤ 5) ∧ DQ w1 wq r a bs.length ca L al cl pl G af cf pf) (fun _ i _ => 6 - (intOf i).toNat)
      case atStart => exact ⟨[], 0, _, _, _, rfl, by omega, rfl, rfl, fun y hy => by simp at hy, H1.out⟩
      case round =>
        obtain ⟨L, j, al, cl, pl, hLl, hj5, rfl, rfl, hKn, hQ⟩ := hrel
        clear H1
        have HLl : Hid (L.length = j) := hLl
        have HKn : Hid (∀ y ∈ L, y.n ≤ 5) := hKn
        have HQ : Hid (DQ w1 _ r a bs.length ca L al cl pl G af cf pf) := hQ
        clear hLl hKn hQ
        go_wp2_with fail
        refine (l1Below_any r a ca bs 6 _ (by omega) (by omega) HQ.out.C (HA.out _ HQ.out.gr) hne).mono ?_
        rintro e v1 ⟨q, rfl, hq, hC1, g1⟩
        have HQ1 : Hid (DQ w1 v1 r a bs.length ca L al cl pl G af cf pf) := HQ.out.grown hC1 g1
        clear HQ hC1 g1
        by_cases hjq : j < q
        · have hjqi : (j : Int) < (q : Int) := by omega
          go_wp2_with fail
          refine (l1Below_any r a ca bs 24 _ (by omega) (by omega) HQ1.out.C (HA.out _ HQ1.out.gr) hne).mono ?_
          rintro e v2 ⟨s, rfl, hs, hC2, g2⟩
          have HQ2 : Hid (DQ w1 v2 r a bs.length ca L al cl pl G af cf pf) := HQ1.out.grown hC2 g2
          clear HQ1 hC2 g2
          obtain ⟨pg, hpg⟩ : ∃ pg, s / 4 = pg := ⟨_, rfl⟩
          have hpgk : pg < k := by have := HK6.out; omega
          have hpgi : (s : Int) / 4 = (pg : Int) := by omega
          have hpgl : (pg : Int) < (k : Int) := by omega
          have hfr := HQ2.out.fr (by rw [HGl.out, HK6.out]; omega) HFs.out
          rw [HGl.out] at hfr
          obtain ⟨fb, fo, rfl, z0, z1, z2⟩ := hfr.at hpgk
          have hrf := hfr.2.2 pg hpgk
          have hfl : (fmd G pg).xs.length ≤ 5 := HFs.out _ (fmd_mem (by rw [HGl.out]; exact hpgk))
          obtain ⟨xs5, hxs⟩ : ∃ xs, (fmd G pg).xs = xs := ⟨_, rfl⟩
          obtain ⟨fa, hfa⟩ : ∃ q, (pf pg).1 = q := ⟨_, rfl⟩
          obtain ⟨fc, hfc⟩ : ∃ q, (pf pg).2 = q := ⟨_, rfl⟩
          rw [hxs, hfa] at hrf
          rw [hxs, hfa, hfc] at z1
          clear hfr hxs hfa hfc hfl hpg
          go_wp2_with fail
          refine (specBlockOf_any fa fc xs5 s _ hrf).mono ?_
          rintro e v3 ⟨a2, c2, rfl, o2, b3⟩
          have hN := ofN_le xs5 s
          obtain ⟨N, eN⟩ : ∃ N, ofN xs5 s = N := ⟨_, rfl⟩
          obtain ⟨S, eS⟩ : ∃ S, ofS xs5 s = S := ⟨_, rfl⟩
          obtain ⟨D, eD⟩ : ∃ D, ofD xs5 s = D := ⟨_, rfl⟩
          rw [eN] at hN o2 ⊢
          rw [eD] at o2
          rw [eS]
          have HO : Hid (IOw v3 v2.heap.size a2 c2 N D ∧ Below v2.heap.size v2 v3) := ⟨o2, b3⟩
          have b6 := bel_alloc (Below.refl v3.heap.size v3) (.cells #[.int .i64 S, .slice a2 N c2] 27)
          have XE := Box.new v3 #[.int .i64 S, .slice a2 N c2] 27
          have hr2 := owns_below (owns_below HQ2.out.k.row b3) b6
          rw [HLl.out] at hr2
          clear o2 b3 eN eS eD z0 z1 z2 hrf
          go_wp2_with (at_builtin; refine wpList_append_lies _ rfl (.tmp 39) (.tmp 48) 24 rfl 0 27 i3 (.agg #[.int .i64 0, .slice none 0 0]) 2 32 Try.underlying24 hi3 hz30 hz31 hz32 rfl (by decide) (.slice al j cl) j (chunks j (fun i => bkcells (kd L i) (pl i))) (by rfl) hr2 ⟨v3.heap.size, 0, none⟩ 1 1 [.int .i64 S, .slice a2 N c2] (by rfl) (by rfl) (World.news_of_block XE) (by intro u hu; simp at hu; rcases hu with rfl | rfl <;> rfl) (by decide) (by unfold maxLen; omega) (by omega) (Nat.zero_le _) _ rfl ?_)
          intro g8 cap8 w8 o8 gr8 at8 lt8
          have HQ8 : Hid (DQ w1 w8 r a bs.length ca (L ++ [⟨S, N, D⟩]) (some ⟨g8, 0, none⟩) cap8 (fun i => if i = L.length then (a2, c2) else pl i) G _ cf pf) := HQ2.out.snocK (y := ⟨S, N, D⟩) HO.out.1 (bel_grown HO.out.2) (HQ2.out.C.below HO.out.2) b6 (by rw [HLl.out]; exact o8) (by rw [HLl.out]; exact gr8) (by rw [HLl.out]; simpa using at8)
          have HL8 : Hid ((L ++ [(⟨S, N, D⟩ : KD)]).length = j + 1) := by show _ = _; rw [List.length_append, HLl.out]; rfl
          have HK8 : Hid (∀ y ∈ L ++ [(⟨S, N, D⟩ : KD)], y.n ≤ 5) := fun y hy => by
            rcases List.mem_append.1 hy with h | h
            · exact HKn.out y h
            · rw [List.mem_singleton] at h
              subst h
              show N ≤ 5
              omega
          clear hr2 XE b6 o8 gr8 at8 lt8
          go_wp2
          go_roundw
          case rel => exact ⟨_, j + 1, _, _, _, HL8.out, by omega, by go_num, rfl, HK8.out, HQ8.out⟩
          case measure => simp [intOf]; omega
        · have hjqi : ¬ ((j : Int) < (q : Int)) := by omega
          go_wp2_with fail
          refine (l1Below_any r a ca bs 9 _ (by omega) (by omega) HQ1.out.C (HA.out _ HQ1.out.gr) hne).mono ?_
          rintro e v2 ⟨sw, rfl, hsw, hC2, g2⟩
          have HQ2 : Hid (DQ w1 v2 r a bs.length ca L al cl pl G af cf pf) := HQ1.out.grown hC2 g2
          clear HQ1 hC2 g2
          have HG1 : Hid (w.grownBy w1 (some r)) := HK1.out.gr
          have HG6 : Hid (G.length ≤ 6) := by show _ ≤ _; rw [HGl.out, HK6.out]; omega
          have HL7 : Hid (L.length ≤ 7) := by show _ ≤ _; rw [HLl.out]; omega
          by_cases s0 : sw = 0
          · subst s0
            go_wp2_with fail
            refine (l10Draw_any r a ca bs _ HQ2.out.C (HA.out _ HQ2.out.gr) hne).mono ?_
            rintro e v3 ⟨st, ab, cb, nb, d, rfl, DB3⟩
            have HD : Hid (DB v2 v3 r a bs.length ca nb ab cb d) := DB3
            have b6 := bel_alloc (Below.refl v3.heap.size v3) (.cells #[.int .i64 st, .slice ab nb cb] 27)
            have XE := Box.new v3 #[.int .i64 st, .slice ab nb cb] 27
            have hr2 := owns_below (HQ2.out.grown DB3.C DB3.gr).k.row b6
            rw [HLl.out] at hr2
            have hnb := DB3.l
            clear DB3
            go_wp2_with (at_builtin; refine wpList_append_lies _ rfl (.tmp 54) (.tmp 57) 24 rfl 0 27 i3 (.agg #[.int .i64 0, .slice none 0 0]) 2 32 Try.underlying24 hi3 hz30 hz31 hz32 rfl (by decide) (.slice al j cl) j (chunks j (fun i => bkcells (kd L i) (pl i))) (by rfl) hr2 ⟨v3.heap.size, 0, none⟩ 1 1 [.int .i64 st, .slice ab nb cb] (by rfl) (by rfl) (World.news_of_block XE) (by intro u hu; simp at hu; rcases hu with rfl | rfl <;> rfl) (by decide) (by unfold maxLen; omega) (by omega) (Nat.zero_le _) _ rfl ?_)
            intro g8 cap8 w8 o8 gr8 at8 lt8
            have HQ8 : Hid (DQ w1 w8 r a bs.length ca (L ++ [⟨st, nb, d⟩]) (some ⟨g8, 0, none⟩) cap8 (fun i => if i = L.length then (ab, cb) else pl i) G af cf pf) := HQ2.out.snocK (y := ⟨st, nb, d⟩) HD.out.o HD.out.gr HD.out.C b6 (by rw [HLl.out]; exact o8) (by rw [HLl.out]; exact gr8) (by rw [HLl.out]; simpa using at8)
            have HL8 : Hid ((L ++ [(⟨st, nb, d⟩ : KD)]).length = j + 1) := by show _ = _; rw [List.length_append, HLl.out]; rfl
            have HK8 : Hid (∀ y ∈ L ++ [(⟨st, nb, d⟩ : KD)], y.n ≤ 5) := fun y hy => by
              rcases List.mem_append.1 hy with h | h
              · exact HKn.out y h
              · rw [List.mem_singleton] at h
                subst h
                exact hnb
            clear hr2 XE b6 o8 gr8 at8 lt8
            go_wp2
            refine bodyPost_ret (v := .tuple #[.slice (some ⟨g8, 0, none⟩) (j + 1) cap8, .slice af k cf]) (by simp [results, Try.results37, go_sem]) rfl (cach_of HG1.out HQ8.out (by rw [HL8.out]; omega) HK8.out HG6.out HFs.out HL8.out HGl.out)
          have e0 : ((sw : Int) == 0) = false := by simp; omega
          by_cases s1 : sw = 1
          · subst s1
            obtain ⟨gf, rfl⟩ := owns_addr HQ2.out.f.row (by rw [HGl.out, HK6.out]; omega)
            go_wp2_with fail
            refine (l1Below_any r a ca bs 6 _ (by omega) (by omega) HQ2.out.C (HA.out _ HQ2.out.gr) hne).mono ?_
            rintro e v3 ⟨kk, rfl, hkk, hC3, g3⟩
            have HQ3 : Hid (DQ w1 v3 r a bs.length ca L al cl pl G (some ⟨gf, 0, none⟩) cf pf) := HQ2.out.grown hC3 g3
            clear HQ2 hC3 g3
            go_wp2_with fail
            refine (drawF_any r a ca bs _ HQ3.out.C (HA.out _ HQ3.out.gr) hne).mono ?_
            rintro e v4 ⟨s', q', vv, ys, rfl, hyl, o4, hC4, g4⟩
            obtain ⟨a4, c4, rfl⟩ := owns_slice o4
            have hkG : kk < G.length := by rw [HGl.out, HK6.out]; exact hkk
            have hkk' : kk < k := by rw [HK6.out]; exact hkk
            have hkki : (kk : Int) < (k : Int) := by omega
            have HQ5 : Hid _ := HQ3.out.putF (y := ⟨s', ys, q'⟩) hkG o4 hC4 g4
            have hrw := (HQ3.out.grown hC4 g4).f.row
            obtain ⟨u0, c0'⟩ := cellN hrw hkG (t := 0) (by decide)
            obtain ⟨u1, c1'⟩ := cellN hrw hkG (t := 1) (by decide)
            obtain ⟨u2, c2'⟩ := cellN hrw hkG (t := 2) (by decide)
            rw [Nat.add_zero] at c0'
            have f0 := hrw.frozenAt (kk * 3)
            have f1 := hrw.frozenAt (kk * 3 + 1)
            have f2 := hrw.frozenAt (kk * 3 + 2)
            have HF5 : Hid (Fs (G.set kk ⟨s', ys, q'⟩)) := fun y hy => by
              rcases List.mem_or_eq_of_mem_set hy with h | h
              · exact HFs.out y h
              · subst h; exact hyl
            have HG5 : Hid ((G.set kk ⟨s', ys, q'⟩).length = k) := by show _ = _; rw [List.length_set]; exact HGl.out
            clear hrw o4 hC4 g4 HQ3
            go_wp2
            refine bodyPost_ret (v := .tuple #[.slice al j cl, .slice (some ⟨gf, 0, none⟩) k cf]) (by simp [results, Try.results37, go_sem]) rfl (cach_of HG1.out HQ5.out HL7.out HKn.out (by rw [HG5.out, HK6.out]; omega) HF5.out HLl.out HG5.out)
          have e1 : ((sw : Int) == 1) = false := by simp; omega
          by_cases s2 : sw = 2
          · subst s2
            have hk6' := HK6.out
            subst hk6'
            have hrw := HQ2.out.f.row
            rw [HGl.out] at hrw
            obtain ⟨gf, rfl⟩ := owns_addr hrw (by omega)
            have hcf : 6 ≤ cf := by
              obtain ⟨_, h1 | ⟨g', cap, cur, e, _, _, h2, _⟩⟩ := hrw
              · simp at h1
              · simp at e; omega
            have hfr := HQ2.out.fr HG6.out HFs.out
            rw [HGl.out] at hfr
            have hcf1 : ¬ (cf = 1) := by omega
            have hcf0 : (1 : Int) ≤ (cf : Int) := by omega
            have HT : Hid (FR v2 (some ⟨gf, 3, none⟩) 5 (fun i => fmd G (i + 1)) (fun i => pf (i + 1))) := by
              have h := hfr.tail
              rw [Nat.zero_add] at h
              exact h
            have HKR : Hid (∀ W, Only v2 W (fun b => b < w.heap.size) → KR W al L.length (kd L) pl) := fun W o => HQ2.out.kr HL7.out HKn.out W (o.more (fun b hb => by have := HG1.out.size; omega))
            clear hrw hfr
            go_wp2
            refine bodyPost_ret (v := .tuple #[.slice al j cl, .slice (some ⟨gf, 3, none⟩) 5 (cf - 1)]) (by simp [results, Try.results37, go_sem]) rfl ⟨L, al, cl, pl, some ⟨gf, 3, none⟩, cf - 1, 5, _, _, by rw [HLl.out], ⟨HL7.out, KO.cap HQ2.out.k⟩, HKn.out, HKR.out, HT.out, HQ2.out.C, grownBy_trans HG1.out HQ2.out.gr⟩
          have e2 : ((sw : Int) == 2) = false := by simp; omega
          go_wp2
          refine bodyPost_ret (v := .tuple #[.slice al j cl, .slice af k cf]) (by simp [results, Try.results37, go_sem]) rfl (cach_of HG1.out HQ2.out HL7.out HKn.out HG6.out HFs.out HLl.out HGl.out)
end Go.Proofs.Ytkamhinklhcbaaa
