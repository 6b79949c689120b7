/- What the specification's MsgBytes does. -/
import Derived.Test.YtidgiklkgmfmcaaSpecOk
import Derived.Test.YtidgiklkgmfmcaaSpecPut
import Derived.Test.YtidgiklkgmfmcaaFlat
import Derived.Deep.RegionHeld3
import Derived.Deep.AppendLies
namespace Go.Proofs.Ytidgiklkgmfmcaa
open Go.RowKit
set_option linter.unusedVariables false

theorem specPut_in (n : Int) (base : Nat) (w : World) (h0 : 0 ≤ n) (h1 : n ≤ 100000) (hb : base ≤ w.heap.size) :
    Calls Try.prog 12 #[.int .i64 n] w fun e w' => ∃ g cap, e = .returned (.slice (some ⟨g, 0, none⟩) (enc 2 n).length cap) ∧ w'.ownsRow base 5 1 (.slice (some ⟨g, 0, none⟩) (enc 2 n).length cap) (enc 2 n).length ((enc 2 n).map (Value.int .u8)) ∧ w.heap.size ≤ g ∧ Below w.heap.size w w' := by
  refine (specPutNum_any n w).mono ?_
  rintro e w' ⟨v, rfl, ho, hbl⟩
  rw [putb_in n h0 h1] at ho
  obtain ⟨g, cap, rfl, hg, _⟩ := ho.form (by have := (enc_len 2 n).1; omega)
  exact ⟨g, cap, rfl, owns_base ho hb, hg, hbl⟩

theorem specPut_one (n : Int) (base : Nat) (w : World) (h0 : 0 ≤ n) (h1 : n < 128) (hb : base ≤ w.heap.size) :
    Calls Try.prog 12 #[.int .i64 n] w fun e w' => ∃ g cap, e = .returned (.slice (some ⟨g, 0, none⟩) 1 cap) ∧ w'.ownsRow base 5 1 (.slice (some ⟨g, 0, none⟩) 1 cap) 1 [.int .u8 n] ∧ w.heap.size ≤ g ∧ Below w.heap.size w w' := by
  have h := specPut_in n base w h0 (by omega) hb
  rw [enc_small 2 n h1] at h
  exact h

set_option maxRecDepth 100000 in
set_option maxHeartbeats 400000 in
theorem specBit_any (o : Bool) (w : World) :
    Calls Try.prog 30 #[.bool o] w fun e w' => e = .returned (.int .i64 (bitB o)) ∧ w' = w := by
  cases o
  · go_enter Try.func30, Try.ntmps30
    go_wp2
    go_ret
    exact ⟨rfl, rfl⟩
  · go_enter Try.func30, Try.ntmps30
    go_wp2
    go_ret
    exact ⟨rfl, rfl⟩

set_option maxRecDepth 100000 in
set_option maxHeartbeats 2000000 in
theorem specBytes_ok (k p : Int) (o : Bool) (a : Option Addr) (ca : Nat) (xs : List Int) (w : World) (ha : Row .i64 w a xs) (hok : msgOkB k p o xs = true) :
    Calls Try.prog 20 #[.agg #[.int .i64 k, .int .i64 p, .bool o, .slice a xs.length ca]] w fun e w' => ∃ v, e = .returned v ∧ w'.ownsRow w.heap.size 5 1 v (msgB k p o xs).length ((msgB k p o xs).map (Value.int .u8)) ∧ Below w.heap.size w w' := by
  have bA := bel_alloc (Below.refl w.heap.size w) (.cells #[.int .i64 k, .int .i64 p, .bool o, .slice a xs.length ca] 27)
  have hr := ha.below bA
  obtain ⟨i0, hi, hz0, hz1, hz2⟩ := info_parts info_u8
  obtain ⟨k1, k7⟩ := ok_kind hok
  obtain ⟨p0, p5⟩ := ok_page hok
  have hws := ok_words hok
  have HM : Hid (msgB k p o xs = [k, p, bitB o] ++ flatB xs) := by
    show _ = _
    unfold msgB
    rw [if_pos hok]
    show flatB ([k, p, bitB o] ++ xs) = _
    rw [flatB_append]
    have e1 := enc_small 2 k (by omega)
    have e2 := enc_small 2 p (by omega)
    have e3 : enc 2 (bitB o) = [bitB o] := enc_small 2 _ (by cases o <;> simp [bitB])
    simp [flatB, e1, e2, e3]
  go_enter Try.func20, Try.ntmps20
  go_wp2_with fail
  refine (specMsgOk_any k p o a ca xs _ hr).mono ?_
  rintro e w1 ⟨rfl, C1⟩
  rw [hok]
  obtain ⟨m0, m1, m2, m3, z1⟩ := box4 C1
  have hr1 := hr.below C1
  have B1 := bel_trans bA C1
  clear bA C1 hr ha hok
  go_wp2_with fail
  go_region_held3 (fun w' => w'.cell? ⟨w.heap.size, 0, none⟩ = some (.int .i64 k) ∧ w'.cell? ⟨w.heap.size, 1, none⟩ = some (.int .i64 p))
    (first
      | (go_split_ands
         refine ⟨?_, ?_⟩ <;> (rw [hgrow.cell_far _ (by simp; omega) (by simp [Value.ownBlock]; omega)]; assumption))
      | (go_split_ands
         refine ⟨?_, ?_⟩ <;> exact cell_later b2 (by assumption))
      | (go_split_ands
         refine ⟨?_, ?_⟩ <;> exact cell_later b1 (by assumption))
      | go_keep)
    (first | (refine step_append_lies _ (by rfl) _ _ _ (by rfl) w1.heap.size 5 i0 (.int .u8 0) 1 1 Try.underlying31 hi hz0 hz1 hz2 rfl (by omega) (.slice (some ⟨g1, 0, none⟩) 1 cap1) 1 [.int .u8 k] (by rfl) (owns_below o1 b2) ⟨g2, 0, none⟩ 1 cap2 [.int .u8 p] (by rfl) (by rfl) (o2.cells rfl) (by simp [Value.oneCell']) (by omega) (by simp [maxLen]) (by omega) (by omega) _ rfl ?_; intro g3 cap3 w4 o3 hgrow hat hlt) | (go_at_call_of 12 (Value.int .i64 k); refine (specPut_one k w1.heap.size _ (by omega) (by omega) ?_).mono ?_; (first | omega | simp); rintro e w2 ⟨g1, cap1, rfl, o1, l1, b1⟩; have s1 : w1.heap.size ≤ w2.heap.size := b1.size; have l1 : w1.heap.size ≤ g1 := l1) | (go_at_call_of 12 (Value.int .i64 p); refine (specPut_one p w1.heap.size _ (by omega) (by omega) ?_).mono ?_; (first | omega | (simp; omega)); rintro e w3 ⟨g2, cap2, rfl, o2, l2, b2⟩; have s2 : w2.heap.size ≤ w3.heap.size := b2.size))
  have b14 : Below w1.heap.size w1 w4 := (bel_trans (bel_undrew b1) b2).grown hgrow (by omega) (fun j hj => by simp [Value.ownBlock] at hj; omega)
  have HB : Hid (List.length [k, p] = 2) := rfl
  have o3 : w4.ownsRow w1.heap.size 5 1 (.slice (some ⟨g3, 0, none⟩) 2 cap3) 2 [.int .u8 k, .int .u8 p] := o3
  clear b1 b2 o1 o2 hgrow hat hlt l1 l2 s1 s2
  have s4 := b14.size
  have n2 := cell_later b14 m2
  go_wp2_with fail
  refine (specBit_any o _).mono ?_
  rintro e w5 ⟨rfl, rfl⟩
  have hbit : 0 ≤ bitB o ∧ bitB o < 128 := by cases o <;> simp [bitB]
  go_wp2_with fail
  refine (specPut_one (bitB o) w1.heap.size _ hbit.1 hbit.2 s4).mono ?_
  rintro e w6 ⟨g6, cap6, rfl, o6, l6, b6⟩
  have o3 := owns_below o3 b6
  have b16 := bel_trans b14 b6
  have s6 := b16.size
  clear b14 b6 n2 s4
  go_wp2_with (at_builtin; refine wpList_append_own _ rfl (.tmp 16) (.tmp 20) 31 rfl w1.heap.size 5 i0 (.int .u8 0) 1 1 Try.underlying31 hi hz0 hz1 hz2 rfl (by decide) _ _ _ rfl o3 ⟨g6, 0, none⟩ 1 cap6 [.int .u8 (bitB o)] rfl rfl (o6.cells rfl) ?c2 ?c3 ?c4 ?c5 ?_)
  case c2 => first | (intro u hu; simp at hu; subst hu; rfl) | rfl
  case c3 => unfold maxLen; omega
  case c4 => omega
  case c5 => exact s6
  intro v7 w7 o7 hgrow _
  have b17 : Below w1.heap.size w1 w7 := b16.grown hgrow s6 (fun j hj => (o3.lt j hj).1)
  have o7 : w7.ownsRow w1.heap.size 5 1 v7 ([k, p, bitB o] ++ flatB (xs.take 0)).length (([k, p, bitB o] ++ flatB (xs.take 0)).map (Value.int .u8)) := o7
  clear o3 o6 hgrow b16 s6 l6
  obtain ⟨n, hn⟩ : ∃ n, xs.length = n := ⟨_, rfl⟩
  have HN : Hid (xs.length = n) := hn
  have hq : ∀ i, i < n → ∃ b off, a = some ⟨b, off, none⟩ ∧ w1.cell? ⟨b, off + i, none⟩ = some (.int .i64 (xs.getD i 0)) := by rw [← hn]; exact hr1.2
  obtain ⟨hw1, hw4⟩ := hws
  rw [hn] at hw4 m3 ⊢
  clear hn hr1
  go_wp2
  go_loopw [3, 4] (fun v i wr => ∃ j : Nat, j ≤ n ∧ i = .int .i64 j ∧ wr.ownsRow w1.heap.size 5 1 v ([k, p, bitB o] ++ flatB (xs.take j)).length (([k, p, bitB o] ++ flatB (xs.take j)).map (Value.int .u8)) ∧ Below w1.heap.size w1 wr) (fun _ i _ => n - (intOf i).toNat)
  case atStart => exact ⟨0, Nat.zero_le _, rfl, o7, b17⟩
  case round =>
    clear o7 b17
    obtain ⟨j, hj, rfl, hown, hbel⟩ := hrel
    have n3 := cell_later hbel m3
    by_cases hlt : j < n
    · obtain ⟨b, off, rfl, hc⟩ := hq j hlt
      have hcr := cell_later hbel hc
      have hx : 0 ≤ xs.getD j 0 ∧ xs.getD j 0 ≤ 100000 := at_in (fun x hx => by have := hw1 x hx; omega) j (by have := HN.out; omega)
      have HT : Hid (flatB (xs.take (j + 1)) = flatB (xs.take j) ++ enc 2 (xs.getD j 0)) := flatB_take xs j (by have := HN.out; omega)
      have hfl : (flatB (xs.take j)).length ≤ 12 := by have h1 := flatB_len (xs.take j); have h2 : (xs.take j).length ≤ j := List.length_take_le _ _; omega
      obtain ⟨c, hce⟩ : ∃ c, xs.getD j 0 = c := ⟨_, rfl⟩
      rw [hce] at hcr hx HT
      have hi' : (j : Int) < (n : Int) := by omega
      have hsz := hbel.size
      clear hc hce hq hw1
      obtain ⟨F, hF⟩ : ∃ F, flatB (xs.take j) = F := ⟨_, rfl⟩
      rw [hF] at hown HT hfl
      clear hF
      obtain ⟨G, hG⟩ : ∃ G, [k, p, bitB o] ++ F = G := ⟨_, rfl⟩
      have HG : Hid ([k, p, bitB o] ++ F = G) := hG
      have hgl : G.length ≤ 15 := by rw [← hG]; simp; omega
      rw [hG] at hown
      clear hG
      have hel := enc_len 2 c
      go_wp2_with fail
      refine (specPut_in c w1.heap.size _ hx.1 hx.2 hsz).mono ?_
      rintro e w8 ⟨g8, cap8, rfl, o8, l8, b8⟩
      have hown := owns_below hown b8
      have hbel := bel_trans hbel b8
      have hsz := hbel.size
      clear b8
      go_wp2_with (at_builtin; refine wpList_append_own _ rfl (.tmp 29) (.tmp 35) 31 rfl w1.heap.size 5 i0 (.int .u8 0) 1 1 Try.underlying31 hi hz0 hz1 hz2 rfl (by decide) _ _ _ rfl hown ⟨g8, 0, none⟩ (enc 2 c).length cap8 ((enc 2 c).map (Value.int .u8)) rfl (by simp) (o8.cells rfl) (ints_oneCell .u8 (enc 2 c)) ?c3 ?c4 ?c5 ?_)
      case c3 => unfold maxLen; omega
      case c4 => omega
      case c5 => exact hsz
      intro v9 w9 o9 hgrow _
      have b19 : Below w1.heap.size w1 w9 := hbel.grown hgrow hsz (fun j hj => (hown.lt j hj).1)
      have o9 : w9.ownsRow w1.heap.size 5 1 v9 ([k, p, bitB o] ++ flatB (xs.take (j + 1))).length (([k, p, bitB o] ++ flatB (xs.take (j + 1))).map (Value.int .u8)) := by
        rw [HT.out, ← List.append_assoc, HG.out]
        simpa using o9
      clear hown hbel o8 hgrow
      go_wp2
      go_roundw
      case rel => exact ⟨j + 1, by omega, by go_num, o9, b19⟩
      case measure => simp [intOf]; omega
    · go_wp2
      go_ret
      have e : xs.take j = xs := List.take_of_length_le (by have := HN.out; omega)
      rw [e] at hown
      rw [HM.out]
      exact ⟨_, rfl, owns_base hown B1.size, bel_trans B1 hbel⟩

set_option maxRecDepth 100000 in
set_option maxHeartbeats 400000 in
theorem specBytes_any (k p : Int) (o : Bool) (a : Option Addr) (ca : Nat) (xs : List Int) (w : World) (ha : Row .i64 w a xs) :
    Calls Try.prog 20 #[.agg #[.int .i64 k, .int .i64 p, .bool o, .slice a xs.length ca]] w fun e w' => ∃ v, e = .returned v ∧ w'.ownsRow w.heap.size 5 1 v (msgB k p o xs).length ((msgB k p o xs).map (Value.int .u8)) ∧ Below w.heap.size w w' := by
  by_cases hok : msgOkB k p o xs = true
  · exact specBytes_ok k p o a ca xs w ha hok
  · have bA := bel_alloc (Below.refl w.heap.size w) (.cells #[.int .i64 k, .int .i64 p, .bool o, .slice a xs.length ca] 27)
    have hr := ha.below bA
    have HM : Hid (msgB k p o xs = []) := by show _ = _; unfold msgB; rw [if_neg hok]
    have hok' : msgOkB k p o xs = false := by simpa using hok
    clear hok
    go_enter Try.func20, Try.ntmps20
    go_wp2_with fail
    refine (specMsgOk_any k p o a ca xs _ hr).mono ?_
    rintro e w1 ⟨rfl, b1⟩
    have B1 := bel_trans bA b1
    clear b1 bA hr ha
    go_wp2
    go_ret
    rw [HM.out]
    exact ⟨_, rfl, World.ownsRow_lit w1 #[] 0 B1.size (by simp [maxLen]) rfl, bel_alloc B1 _⟩
end Go.Proofs.Ytidgiklkgmfmcaa
