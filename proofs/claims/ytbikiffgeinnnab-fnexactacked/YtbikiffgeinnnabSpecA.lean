/- What the specification's Acked answers. -/
import Derived.Test.YtbikiffgeinnnabSpecQ2
import Derived.Test.YtbikiffgeinnnabImplA
namespace Go.Proofs.Ytbikiffgeinnnab
open Go.RowKit
set_option linter.unusedVariables false

theorem own_litM (W : World) (base : Nat) (h : base ≤ W.heap.size) : (W.alloc (.cells #[] 33)).ownsRow base 33 4 (.slice (some ⟨W.heap.size, 0, none⟩) 0 0) 0 [] :=
  World.ownsRow_lit W #[] 0 h (by simp [maxLen]) rfl

theorem owns_capA {w : World} {base e size n cap : Nat} {a : Option Addr} {xs : List Value} (h : w.ownsRow base e size (.slice a n cap) n xs) : n ≤ cap := by
  rcases h.2 with ⟨h1, h2⟩ | ⟨g, cap', cur, h1, _, _, hc, _⟩
  · simp at h1; omega
  · simp at h1; omega
theorem owns_max {w : World} {base e size n cap : Nat} {a : Option Addr} {xs : List Value} (h : w.ownsRow base e size (.slice a n cap) n xs) : cap ≤ maxLen := by
  rcases h.2 with ⟨h1, h2⟩ | ⟨g, cap', cur, h1, _, _, _, hc, _⟩
  · simp at h1; unfold maxLen; omega
  · simp at h1; omega

theorem flat_drop (ms : List M) (k : Nat) : flat (ms.drop k) = (flat ms).drop (k * 4) := by
  induction ms generalizing k with
  | nil => simp [flat]
  | cons m ms ih =>
    cases k with
    | zero => simp
    | succ k =>
      rw [List.drop_succ_cons, ih, flat_cons, show (k + 1) * 4 = 4 + k * 4 by omega, ← List.drop_drop]
      congr 1

theorem drop_src {w : World} {lo g n c k : Nat} {ds : List M} (h : w.ownsRow lo 33 4 (.slice (some ⟨g, 0, none⟩) n c) n (flat ds)) (hn : ds.length = n) (hk : k ≤ n) :
    ∀ j u, (flat (ds.drop k))[j]? = some u → w.cell? ((⟨g, k * 4, none⟩ : Addr).add j) = some u := fun j u hu => by
  rw [flat_drop, List.getElem?_drop] at hu
  have hj : k * 4 + j < n * 4 := by
    have := (List.getElem?_eq_some_iff.1 hu).1
    rw [flat_length, hn] at this
    exact this
  rw [addr_add, h.cellAt (k * 4 + j) hj]
  exact hu

set_option maxRecDepth 100000 in
set_option maxHeartbeats 2000000 in
theorem specAcked_any (B : Int) (a : Option Addr) (c : Nat) (ms : List M) (n : Int) (w : World) (ha : MRow w a ms) (hl : ms.length ≤ 1048576) (hxs : ∀ x ∈ ms, x.xs.length ≤ 1048577) :
    Calls Try.prog 33 #[.agg #[.int .i64 B, .slice a ms.length c], .int .i64 n] w fun e w' => APost B n ms w e w' := by
  have hb2 := bel_alloc (bel_alloc (Below.refl w.heap.size w) (.cells #[.int .i64 B, .slice a ms.length c] 49)) (.cells #[.int .i64 0, .slice none 0 0] 49)
  obtain ⟨X0, X1⟩ := Box.two w #[.int .i64 B, .slice a ms.length c] #[.int .i64 0, .slice none 0 0] 49 49
  have haW := ha.below hb2
  obtain ⟨x0, x1, zx⟩ := X0.at2
  go_enter Try.func33, Try.ntmps33
  go_wp2_with fail
  refine (l2Sender_any B a c ms _ haW hxs).mono ?_
  rintro e w1 ⟨a1, c1, d1, rfl, s1, D1, b1⟩
  have X0 := X0.below b1
  have X1 := X1.below b1
  have haN := haW.below b1
  have B1 := bel_trans hb2 b1
  have z1 : w.heap.size + 2 ≤ w1.heap.size := by have := b1.size; simp at this; omega
  have D1 : Deep w1 (w.heap.size + 2) a1 c1 d1 := D1.base (by simp)
  have hl1 : d1.length = ms.length := by have h := congrArg List.length s1; simpa using h
  clear b1 hb2 haW x0 x1 zx
  obtain ⟨x0, x1, zx⟩ := X0.at2
  go_wp2_with fail
  have bx := bel_alloc (Below.refl w1.heap.size w1) (.cells #[.int .i64 B, .slice a1 ms.length c1] 49)
  have XO := Box.new w1 #[.int .i64 B, .slice a1 ms.length c1] 49
  have LO : Hid (∀ j, (Value.slice a1 d1.length c1).ownBlock = some j → j < w1.heap.size) := fun j hj => (D1.row.lt j hj).2
  have LX : Hid (∀ x ∈ d1, ∀ j, x.v.ownBlock = some j → j < w1.heap.size) := fun x hx j hj => (D1.lists.lt hx hj).2
  have X0 := X0.below bx
  have X1 := X1.below bx
  have haN := haN.below bx
  have D1 := D1.below bx
  have B1 := bel_trans B1 bx
  clear bx x0 x1 zx
  refine (specSender_any B a c ms _ haN).mono ?_
  rintro e w2 ⟨rfl, b2⟩
  have XS := X0.below b2
  have XR := X1.below b2
  have XO := XO.below b2
  have HD := D1.below b2
  have BB := bel_trans B1 b2
  clear b2 D1 haN B1
  obtain ⟨x0, x1, zx⟩ := XS.at2
  obtain ⟨o0, o1, oz⟩ := XO.at2
  obtain ⟨r0, r1, rz⟩ := XR.at2
  have f0 := XR.frozen 0
  have f1 := XR.frozen 1
  by_cases hs : senderB B ms = true
  case neg =>
    have HS : Hid (senderB B ms = false) := by show _ = _; simpa using hs
    have HA : Hid (ackOn B n ms = false) := by show _ = _; unfold ackOn; rw [HS.out]; rfl
    rw [HS.out]
    clear hs XS XR XO
    go_wp2
    refine bodyPost_ret (v := .agg #[.int .i64 B, .slice a1 ms.length c1]) (by simp [results, Try.results33, go_sem, r0, r1]) rfl (APost.off HA.out hl1 s1 ?_ ?_)
    · exact ((HD.far ⟨w.heap.size + 1, 0, none⟩ _ (by simp)).far ⟨w.heap.size + 1, 1, none⟩ _ (by simp)).base (by omega)
    · exact bel_setCell (bel_setCell BB _ _ (by simp)) _ _ (by simp)
  have HS : Hid (senderB B ms = true) := hs
  rw [HS.out]
  obtain ⟨hB0, hB1, hB2⟩ : 0 ≤ B ∧ B ≤ 100000 ∧ (ms.length : Int) ≤ 30 := by
    unfold senderB at hs
    simp only [Bool.and_eq_true, decide_eq_true_eq] at hs
    omega
  clear hs
  by_cases hn1 : n ≤ B
  case pos =>
    have HP : Hid (∀ w' c', Deep w' w.heap.size a1 c' d1 → Below w.heap.size w w' → APost B n ms w (.returned (.agg #[.int .i64 B, .slice a1 ms.length c'])) w') := fun w' c' hD hb => by
      by_cases hnB : n = B
      · subst hnB
        refine APost.on ?_ hl1 ?_ hD hb
        · unfold ackOn; rw [HS.out, decide_eq_true (by omega : n ≤ n), decide_eq_true (by omega : n ≤ n + (ms.length : Int))]; rfl
        · simpa using s1
      · exact APost.off (by unfold ackOn; rw [HS.out, decide_eq_false (by omega : ¬ B ≤ n)]; rfl) hl1 s1 hD hb
    clear XS XR XO
    go_wp2
    refine bodyPost_ret (v := .agg #[.int .i64 B, .slice a1 ms.length c1]) (by simp [results, Try.results33, go_sem, r0, r1]) rfl (HP.out _ _ ?_ ?_)
    · exact ((HD.far ⟨w.heap.size + 1, 0, none⟩ _ (by simp)).far ⟨w.heap.size + 1, 1, none⟩ _ (by simp)).base (by omega)
    · exact bel_setCell (bel_setCell BB _ _ (by simp)) _ _ (by simp)
  have hn1' : B < n := by omega
  by_cases hn2 : B + (ms.length : Int) < n
  case pos =>
    have HA : Hid (ackOn B n ms = false) := by show _ = _; unfold ackOn; rw [HS.out, decide_eq_false (by omega : ¬ n ≤ B + (ms.length : Int))]; simp
    clear XS XR XO
    go_wp2
    refine bodyPost_ret (v := .agg #[.int .i64 B, .slice a1 ms.length c1]) (by simp [results, Try.results33, go_sem, r0, r1]) rfl (APost.off HA.out hl1 s1 ?_ ?_)
    · exact ((HD.far ⟨w.heap.size + 1, 0, none⟩ _ (by simp)).far ⟨w.heap.size + 1, 1, none⟩ _ (by simp)).base (by omega)
    · exact bel_setCell (bel_setCell BB _ _ (by simp)) _ _ (by simp)
  have hn2' : n ≤ B + (ms.length : Int) := by omega
  have HA : Hid (ackOn B n ms = true) := by show _ = _; unfold ackOn; rw [HS.out, decide_eq_true (by omega : B ≤ n), decide_eq_true hn2']; rfl
  obtain ⟨k, hk⟩ : ∃ k : Nat, n = B + k := ⟨(n - B).toNat, by omega⟩
  have hk0 : 0 < k := by omega
  have hkl : k ≤ ms.length := by omega
  have HKN : Hid ((n - B).toNat = k) := by show _ = _; omega
  subst hk
  have hsub : B + (k : Int) - B = k := by omega
  have hrow : w2.ownsRow (w.heap.size + 2) 33 4 (.slice a1 ms.length c1) ms.length (flat d1) := by have h := HD.row; rw [hl1] at h; exact h
  obtain ⟨g, rfl⟩ := owns_addr hrow (by omega)
  have hcap := owns_capA hrow
  have hcm := owns_max hrow
  have fO0 := XO.frozen 0
  have fO1 := XO.frozen 1
  have oL := own_litM w2 w2.heap.size (Nat.le_refl _)
  have hgO : Hid (g < w1.heap.size) := LO.out g (by simp [Value.ownBlock])
  have zO := XO.lt
  by_cases hke : k = ms.length
  · subst hke
    have hdn : ms.drop ms.length = [] := List.drop_eq_nil_of_le (Nat.le_refl _)
    have HDN : Hid ((ms.drop (B + (ms.length : Int) - B).toNat).map M.say = []) := by show _ = _; rw [HKN.out, hdn]; rfl
    have bL := bel_alloc (Below.refl w2.heap.size w2) (.cells #[] 33)
    have BL := bel_trans BB bL
    have XO := XO.below bL
    have XR := XR.below bL
    have XS := XS.below bL
    obtain ⟨W4, hW4⟩ : ∃ W4, w2.alloc (.cells #[] 33) = W4 := ⟨_, rfl⟩
    rw [hW4] at XO XR XS BL oL
    obtain ⟨t0, t1, tz⟩ := XS.at2
    obtain ⟨p0, p1, pz⟩ := XO.at2
    obtain ⟨q0, q1, qz⟩ := XR.at2
    have e0 := XO.frozen 0
    have e1 := XO.frozen 1
    have e2 := XR.frozen 0
    have e3 := XR.frozen 1
    clear hdn bL hrow HD
    by_cases hcc : c1 = ms.length
    · subst hcc
      clear XS XO XR
      go_wp2
      refine bodyPost_ret (v := .agg #[.int .i64 (B + ms.length), .slice (some ⟨w2.heap.size, 0, none⟩) 0 0]) (by simp [results, Try.results33, go_sem, q0, q1]) rfl (APost.on (ds := []) HA.out rfl HDN.out.symm ?_ ?_)
      · refine ⟨?_, Lists.nil _ _⟩
        repeat refine owns_setCell ?_ ?_ _
        · exact owns_base oL (by omega)
        all_goals (intro j h; simp [Value.ownBlock] at h; subst h; simp; omega)
      · repeat refine bel_setCell ?_ _ _ ?_
        · exact BL
        all_goals (simp; try omega)
    · have hcc' : ms.length < c1 := by omega
      clear XS XO XR
      go_wp2
      refine bodyPost_ret (v := .agg #[.int .i64 (B + ms.length), .slice (some ⟨w2.heap.size, 0, none⟩) 0 0]) (by simp [results, Try.results33, go_sem, q0, q1]) rfl (APost.on (ds := []) HA.out rfl HDN.out.symm ?_ ?_)
      · refine ⟨?_, Lists.nil _ _⟩
        repeat refine owns_setCell ?_ ?_ _
        · exact owns_base oL (by omega)
        all_goals (intro j h; simp [Value.ownBlock] at h; subst h; simp; omega)
      · repeat refine bel_setCell ?_ _ _ ?_
        · exact BL
        all_goals (simp; try omega)
  · have hkl' : k < ms.length := by omega
    have hkc : k < c1 := by omega
    have hkc' : ¬ c1 = k := by omega
    obtain ⟨i0, hi, hz0, hz1, hz2⟩ := info_parts info_msg
    have bL := bel_alloc (Below.refl w2.heap.size w2) (.cells #[] 33)
    have hsrc := drop_src (owns_below hrow bL) hl1 hkl
    have hcl : (flat (d1.drop k)).length = (ms.length - k) * 4 := by rw [flat_length, List.length_drop, hl1]
    have hone := msg_one (d1.drop k)
    go_wp2_with (at_builtin; refine wpList_append_own _ rfl (.tmp 28) (.tmp 35) 47 rfl w2.heap.size 33 i0 (.agg #[.int .i64 0, .int .i64 0, .bool false, .slice none 0 0]) 4 48 Try.underlying47 hi hz0 hz1 hz2 rfl (by decide) _ _ _ rfl oL ⟨g, k * 4, none⟩ (ms.length - k) (c1 - k) (flat (d1.drop k)) rfl hcl hsrc hone ?c3 ?c4 ?c5 ?_)
    case c3 => unfold maxLen; omega
    case c4 => omega
    case c5 => simp
    · intro v' w4 o3 g3 _
      have hneO : ∀ j, (Value.slice (some ⟨w2.heap.size, 0, none⟩) 0 0).ownBlock = some j → j ≠ w1.heap.size := fun j hj => by simp [Value.ownBlock] at hj; omega
      have hneR : ∀ j, (Value.slice (some ⟨w2.heap.size, 0, none⟩) 0 0).ownBlock = some j → j ≠ w.heap.size + 1 := fun j hj => by simp [Value.ownBlock] at hj; omega
      have XO4 := (XO.below bL).kept g3 hneO
      have XR4 := (XR.below bL).kept g3 hneR
      have b4 := bel_trans BB bL
      have B4 : Below w.heap.size w w4 := b4.grown g3 b4.size (fun j hj => by simp [Value.ownBlock] at hj; omega)
      have HL4 : Hid (Lists w4 (w.heap.size + 2) (d1.drop k)) := by
        have h2 := HD.lists.below bL
        refine ⟨fun x hx => owns_ne (h2.1 x (List.mem_of_mem_drop hx)) g3 (fun j hj he => ?_), h2.2.sublist (List.drop_sublist k d1)⟩
        have h5 := LX.out x (List.mem_of_mem_drop hx) j hj
        simp [Value.ownBlock] at he
        omega
      have HLX : Hid (∀ x ∈ d1.drop k, ∀ j, x.v.ownBlock = some j → w.heap.size + 2 ≤ j ∧ j < w1.heap.size) := fun x hx j hj => ⟨(HL4.out.lt hx hj).1, LX.out x (List.mem_of_mem_drop hx) j hj⟩
      have hlR : Hid (∀ j, v'.ownBlock = some j → w2.heap.size ≤ j) := fun j hj => (o3.lt j hj).1
      have HSD : Hid ((d1.drop k).map M.say = (ms.drop (B + (k : Int) - B).toNat).map M.say) := by
        show _ = _
        rw [HKN.out, List.map_drop, s1, List.map_drop]
      have HLD : Hid ((d1.drop k).length = ms.length - k) := by show _ = _; rw [List.length_drop, hl1]
      obtain ⟨a4, c4, rfl⟩ := owns_slice o3
      obtain ⟨p0, p1, pz⟩ := XO4.at2
      obtain ⟨q0, q1, qz⟩ := XR4.at2
      have e0 := XO4.frozen 0
      have e1 := XO4.frozen 1
      have e2 := XR4.frozen 0
      have e3 := XR4.frozen 1
      clear g3 hneO hneR b4 bL BB HD hrow hsrc hone oL XO XO4 XS XR XR4 x0 x1 zx o0 o1 oz r0 r1 rz f0 f1 fO0 fO1
      go_wp2
      refine bodyPost_ret (v := .agg #[.int .i64 (B + k), .slice a4 (ms.length - k) c4]) (by simp [results, Try.results33, go_sem, q0, q1]) rfl (APost.on HA.out HLD.out HSD.out ⟨?_, ?_⟩ ?_)
      · rw [HLD.out]
        repeat refine owns_setCell ?_ ?_ _
        · exact owns_base o3 (by omega)
        all_goals (intro j h; have := hlR.out j h; simp; omega)
      · repeat refine Lists.far ?_ _ _ ?_
        · exact HL4.out.base (by omega)
        all_goals (intro x hx j h; have := HLX.out x hx j h; simp; omega)
      · repeat refine bel_setCell ?_ _ _ ?_
        · exact B4
        all_goals (simp; try omega)
end Go.Proofs.Ytbikiffgeinnnab
