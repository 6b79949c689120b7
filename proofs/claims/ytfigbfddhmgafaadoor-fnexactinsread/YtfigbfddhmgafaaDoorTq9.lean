/- What impl's InsRead answers: the walk. -/
import Derived.Test.YtfigbfddhmgafaaDoorTq8
namespace Go.Proofs.YtfigbfddhmgafaaDoor
open Go.RowKit
set_option linter.unusedVariables false

theorem parts_mem (mk : UInt8) (cur s : List UInt8) : ∀ r ∈ partsA mk cur s, r.length ≤ cur.length + s.length := by
  induction s generalizing cur with
  | nil =>
    intro r hr
    simp [partsA] at hr
    subst hr
    simp
  | cons c t ih =>
    intro r hr
    unfold partsA at hr
    split at hr
    · rw [List.mem_cons] at hr
      rcases hr with rfl | hr
      · simp
      · have := ih [] r hr; simp at this ⊢; omega
    · have := ih (cur ++ [c]) r hr; simp at this ⊢; omega
theorem owns_capT {w : World} {base e size n c : Nat} {a : Option Addr} {xs : List Value} (h : w.ownsRow base e size (.slice a n c) n xs) : n ≤ c ∧ c ≤ maxLen := by
  rcases h.2 with ⟨h1, h2⟩ | ⟨g, cap, cur, h1, _, _, hnc, hcm, _⟩
  · simp only [Value.slice.injEq] at h1
    obtain ⟨_, _, rfl⟩ := h1
    unfold maxLen
    omega
  · simp only [Value.slice.injEq] at h1
    obtain ⟨_, _, rfl⟩ := h1
    exact ⟨hnc, hcm⟩
theorem vrow_drop {w : World} {g : Nat} {W : List (List UInt8)} (h : VRow w (some ⟨g, 0, none⟩) (W.map txt)) : VRow w (some ⟨g, 1, none⟩) ((W.drop 1).map txt) := by
  refine ⟨by have := h.1; rw [List.length_map] at this ⊢; rw [List.length_drop]; omega, fun i v hv => ?_⟩
  rw [List.getElem?_map, List.getElem?_drop] at hv
  obtain ⟨b, off, e, hc⟩ := h.2 (1 + i) v (by rw [List.getElem?_map]; exact hv)
  simp only [Option.some.injEq, Addr.mk.injEq, and_true] at e
  obtain ⟨rfl, rfl⟩ := e
  refine ⟨g, 1, rfl, ?_⟩
  rw [show 0 + (1 + i) = 1 + i by omega] at hc
  exact hc
theorem vrow_one (w : World) (a : Option Addr) {W : List (List UInt8)} (h : W.length ≤ 1) : VRow w a ((W.drop 1).map txt) := by
  rw [List.drop_of_length_le h]
  exact ⟨by simp, fun i v hv => by simp at hv⟩
theorem place_none {o : Nat} (h1 : 1 ≤ o) (h2 : o ≤ 10) {ws : List (List UInt8)} {n : Nat} (hn : ws.length = n) (hp : plR o ws = none) (hws : ∀ x ∈ ws, x.length ≤ 1048576) (hwl : n ≤ 1048577) (a : Option Addr) (c : Nat) (V : World) (hv : VRow V a (ws.map txt)) :
    Calls Tryd.prog 30 #[.int .i64 o, .slice a n c] V fun e w' => e = .returned (.tuple #[.agg (icells 0 0 0 0 0), .bool false]) ∧ Below V.heap.size V w' := by
  subst hn
  refine (placeRead_any o h1 h2 a c ws V hv hws hwl).mono ?_
  rintro e w' ⟨rfl, hb⟩
  rw [(pl_none hp).1, (pl_none hp).2]
  exact ⟨rfl, hb⟩
theorem place_some {o : Nat} (h1 : 1 ≤ o) (h2 : o ≤ 10) {ws : List (List UInt8)} {n : Nat} {p : PV} (hn : ws.length = n) (hp : plR o ws = some p) (hws : ∀ x ∈ ws, x.length ≤ 1048576) (hwl : n ≤ 1048577) (a : Option Addr) (c : Nat) (V : World) (hv : VRow V a (ws.map txt)) :
    Calls Tryd.prog 30 #[.int .i64 o, .slice a n c] V fun e w' => e = .returned (.tuple #[.agg (icells o p.r p.a p.b p.n), .bool true]) ∧ Below V.heap.size V w' := by
  subst hn
  refine (placeRead_any o h1 h2 a c ws V hv hws hwl).mono ?_
  rintro e w' ⟨rfl, hb⟩
  rw [(pl_some hp).1, (pl_some hp).2]
  exact ⟨rfl, hb⟩
theorem drop_getD {α : Type} (l : List α) (d : α) (i : Nat) : (l.drop 1).getD i d = l.getD (1 + i) d := by
  rw [List.getD_eq_getElem?_getD, List.getD_eq_getElem?_getD, List.getElem?_drop]

set_option maxRecDepth 100000 in
set_option maxHeartbeats 4000000 in
theorem implInsRead_any (s : List UInt8) (w : World) (hs : s.length ≤ 1048576) : Calls Tryd.prog 10 #[txt s] w fun e w' => e = .returned (.tuple #[.agg (rdV s), .bool (rdB s)]) ∧ Below w.heap.size w w' := by
  have X := Box.new w (icells 0 0 0 0 0) 25
  have B := bel_alloc (Below.refl w.heap.size w) (.cells (icells 0 0 0 0 0) 25)
  go_enter Tryd.func10, Tryd.ntmps10
  go_wp2_with fail
  refine (partsOf_any 32 32 rfl (by omega) s _ hs).mono ?_
  rintro e w1 ⟨ap, cp, rfl, O, b1⟩
  rw [parts_split] at O ⊢
  have hws : ∀ x ∈ splitA [] s, x.length ≤ 1048576 := fun r hr => by rw [← parts_split] at hr; have := parts_mem 32 [] s r hr; simp at this; omega
  have hl1 : (splitA [] s).length ≤ 1048577 := by rw [← parts_split]; have := parts_len 32 [] s; omega
  have hl0 : 0 < (splitA [] s).length := by rw [← parts_split]; exact parts_pos 32 [] s
  have HY : Hid (∀ p : PV, nmOp ((splitA [] s).getD 0 []) 10 ≠ 0 → insT (nmOp ((splitA [] s).getD 0 []) 10 : Nat) p.r p.a p.b p.n = s → rdB s = true ∧ rdV s = p.cells (nmOp ((splitA [] s).getD 0 []) 10 : Nat)) := fun p h0 h => ir_yes h0 h
  have HM : Hid (rdB s = true → ∃ p : PV, nmOp ((splitA [] s).getD 0 []) 10 ≠ 0 ∧ plR (nmOp ((splitA [] s).getD 0 []) 10 : Nat) ((splitA [] s).drop 1) = some p ∧ insT (nmOp ((splitA [] s).getD 0 []) 10 : Nat) p.r p.a p.b p.n = s) := fun h => ir_must h
  obtain ⟨W, hW⟩ : ∃ W, splitA [] s = W := ⟨_, rfl⟩
  rw [hW] at O hws hl1 hl0 HY HM ⊢
  clear hW
  have HW : Hid (∀ x ∈ W, x.length ≤ 1048576) := hws
  obtain ⟨hcap, hcm⟩ := owns_capT O
  unfold maxLen at hcm
  replace X := X.below b1
  replace B := bel_trans B b1
  clear b1 hws
  obtain ⟨g, cap, hv, hgl, hgz⟩ := O.form (by omega)
  simp only [Value.slice.injEq, true_and] at hv
  obtain ⟨rfl, rfl⟩ := hv
  have q0 : w1.cell? ⟨g, 0, none⟩ = some (txt (W.getD 0 [])) := by
    rw [O.cellAt 0 (by omega), List.getElem?_map, List.getElem?_eq_getElem hl0, List.getD_eq_getElem?_getD, List.getElem?_eq_getElem hl0]
    rfl
  have hi0 : (0 : Int) < W.length := by omega
  obtain ⟨w0, hw0⟩ : ∃ x, W.getD 0 [] = x := ⟨_, rfl⟩
  rw [hw0] at q0 HY HM
  clear hw0
  have hle := nmOp_le w0 10
  obtain ⟨o, ho⟩ : ∃ o, nmOp w0 10 = o := ⟨_, rfl⟩
  have hopn := fun V => opOf_any w0 V
  rw [ho] at hopn HY HM hle
  have HOP : Hid (∀ V, Calls Tryd.prog 29 #[txt w0] V fun e w' => e = .returned (.tuple #[.int .i64 o, .bool (decide (o ≠ 0))]) ∧ Below V.heap.size V w') := hopn
  clear ho hopn
  have HO := O
  have HOH : Hid (w1.ownsRow (w.alloc (.cells (icells 0 0 0 0 0) 25)).heap.size 9 1 (.slice (some ⟨g, 0, none⟩) W.length cp) W.length (W.map txt)) := HO
  clear HO O hgz
  by_cases h0 : o = 0
  · subst h0
    have HV : Hid (rdB s = false) := by
      show _ = _
      cases hz : rdB s
      · rfl
      · obtain ⟨p, h1, _⟩ := HM.out hz
        exact absurd rfl h1
    have HZ : Hid (rdV s = icells 0 0 0 0 0) := rd_off HV.out
    go_wp2_with fail
    refine (HOP.out _).mono ?_
    rintro e w2 ⟨rfl, b2⟩
    replace X := X.below b2
    replace B := bel_trans B b2
    clear b2 q0
    obtain ⟨x0, x1, x2, x3, x4, xz⟩ := X.at5i
    have f0 := X.frozen 0
    have f1 := X.frozen 1
    have f2 := X.frozen 2
    have f3 := X.frozen 3
    have f4 := X.frozen 4
    go_wp2
    refine bodyPost_ret (v := .tuple #[.agg (icells 0 0 0 0 0), .bool false]) (by simp [results, Tryd.results10, go_sem, x0, x1, x2, x3, x4]) rfl ⟨by rw [HV.out, HZ.out], ?_⟩
    exact bel_setCell (bel_setCell (bel_setCell (bel_setCell (bel_setCell B _ _ (Nat.le_refl _)) _ _ (Nat.le_refl _)) _ _ (Nat.le_refl _)) _ _ (Nat.le_refl _)) _ _ (Nat.le_refl _)
  · have hd0 : decide (o ≠ 0) = true := by simp; exact h0
    rcases hp : plR o (W.drop 1) with _ | p
    · have HP : Hid (∀ a c V, VRow V a ((W.drop 1).map txt) → Calls Tryd.prog 30 #[.int .i64 o, .slice a (W.length - 1) c] V fun e w' => e = .returned (.tuple #[.agg (icells 0 0 0 0 0), .bool false]) ∧ Below V.heap.size V w') := fun a c V hv => place_none (by omega) hle (List.length_drop) hp (fun x hx => HW.out x (List.mem_of_mem_drop hx)) (by omega) a c V hv
      have HV : Hid (rdB s = false) := by
        show _ = _
        cases hz : rdB s
        · rfl
        · obtain ⟨p, _, h2, _⟩ := HM.out hz
          rw [hp] at h2
          cases h2
      have HZ : Hid (rdV s = icells 0 0 0 0 0) := rd_off HV.out
      clear hp
      go_wp2_with fail
      refine (HOP.out _).mono ?_
      rintro e w2 ⟨rfl, b2⟩
      rw [hd0]
      clear hd0
      have HV2 : Hid (VRow w2 (some ⟨g, 0, none⟩) (W.map txt)) := owns_vrow' (owns_below HOH.out b2) (by rw [List.length_map]; omega)
      replace X := X.below b2
      replace B := bel_trans B b2
      clear b2 q0
      have hv1 : W.length ≤ 1 → VRow w2 (some ⟨g, 0, none⟩) ((W.drop 1).map txt) := fun h => vrow_one _ _ h
      have hv2 := vrow_drop HV2.out
      have HVR : Hid ((W.length ≤ 1 → VRow w2 (some ⟨g, 0, none⟩) ((W.drop 1).map txt)) ∧ VRow w2 (some ⟨g, 1, none⟩) ((W.drop 1).map txt)) := ⟨hv1, hv2⟩
      clear hv1 hv2
      go_wp2_with fail
      · refine (HP.out (some ⟨g, 0, none⟩) 0 w2 (HVR.out.1 (by omega))).mono ?_
        rintro e w3 ⟨rfl, b3⟩
        replace X := X.below b3
        replace B := bel_trans B b3
        clear b3
        have bx := bel_alloc (Below.refl w3.heap.size w3) (.cells (icells 0 0 0 0 0) 25)
        replace X := X.below bx
        replace B := bel_trans B bx
        clear bx
        obtain ⟨x0, x1, x2, x3, x4, xz⟩ := X.at5i
        have f0 := X.frozen 0
        have f1 := X.frozen 1
        have f2 := X.frozen 2
        have f3 := X.frozen 3
        have f4 := X.frozen 4
        go_wp2
        refine bodyPost_ret (v := .tuple #[.agg (icells 0 0 0 0 0), .bool false]) (by simp [results, Tryd.results10, go_sem, x0, x1, x2, x3, x4]) rfl ⟨by rw [HV.out, HZ.out], ?_⟩
        exact bel_setCell (bel_setCell (bel_setCell (bel_setCell (bel_setCell B _ _ (Nat.le_refl _)) _ _ (Nat.le_refl _)) _ _ (Nat.le_refl _)) _ _ (Nat.le_refl _)) _ _ (Nat.le_refl _)
      · refine (HP.out (some ⟨g, 1, none⟩) (cp - 1) w2 HVR.out.2).mono ?_
        rintro e w3 ⟨rfl, b3⟩
        replace X := X.below b3
        replace B := bel_trans B b3
        clear b3
        have bx := bel_alloc (Below.refl w3.heap.size w3) (.cells (icells 0 0 0 0 0) 25)
        replace X := X.below bx
        replace B := bel_trans B bx
        clear bx
        obtain ⟨x0, x1, x2, x3, x4, xz⟩ := X.at5i
        have f0 := X.frozen 0
        have f1 := X.frozen 1
        have f2 := X.frozen 2
        have f3 := X.frozen 3
        have f4 := X.frozen 4
        go_wp2
        refine bodyPost_ret (v := .tuple #[.agg (icells 0 0 0 0 0), .bool false]) (by simp [results, Tryd.results10, go_sem, x0, x1, x2, x3, x4]) rfl ⟨by rw [HV.out, HZ.out], ?_⟩
        exact bel_setCell (bel_setCell (bel_setCell (bel_setCell (bel_setCell B _ _ (Nat.le_refl _)) _ _ (Nat.le_refl _)) _ _ (Nat.le_refl _)) _ _ (Nat.le_refl _)) _ _ (Nat.le_refl _)
    · have HP : Hid (∀ a c V, VRow V a ((W.drop 1).map txt) → Calls Tryd.prog 30 #[.int .i64 o, .slice a (W.length - 1) c] V fun e w' => e = .returned (.tuple #[.agg (icells o p.r p.a p.b p.n), .bool true]) ∧ Below V.heap.size V w') := fun a c V hv => place_some (by omega) hle (List.length_drop) hp (fun x hx => HW.out x (List.mem_of_mem_drop hx)) (by omega) a c V hv
      obtain ⟨T, hT⟩ : ∃ T, insT o p.r p.a p.b p.n = T := ⟨_, rfl⟩
      have HT : Hid (∀ V, Calls Tryd.prog 8 #[.agg (icells o p.r p.a p.b p.n)] V fun e w' => e = .returned (txt T) ∧ Below V.heap.size V w') := fun V => by rw [← hT]; exact implInsText_any o p.r p.a p.b p.n V
      by_cases hts : T = s
      · obtain ⟨HV, HZ⟩ : Hid (rdB s = true) ∧ Hid (rdV s = icells o p.r p.a p.b p.n) := HY.out p h0 (by rw [hT]; exact hts)
        have heq : (T == s) = true := by rw [hts]; simp
        clear hp hT hts
        go_wp2_with fail
        refine (HOP.out _).mono ?_
        rintro e w2 ⟨rfl, b2⟩
        rw [hd0]
        clear hd0
        have HV2 : Hid (VRow w2 (some ⟨g, 0, none⟩) (W.map txt)) := owns_vrow' (owns_below HOH.out b2) (by rw [List.length_map]; omega)
        replace X := X.below b2
        replace B := bel_trans B b2
        clear b2 q0
        have hv1 : W.length ≤ 1 → VRow w2 (some ⟨g, 0, none⟩) ((W.drop 1).map txt) := fun h => vrow_one _ _ h
        have hv2 := vrow_drop HV2.out
        have HVR : Hid ((W.length ≤ 1 → VRow w2 (some ⟨g, 0, none⟩) ((W.drop 1).map txt)) ∧ VRow w2 (some ⟨g, 1, none⟩) ((W.drop 1).map txt)) := ⟨hv1, hv2⟩
        clear hv1 hv2
        go_wp2_with fail
        · refine (HP.out (some ⟨g, 0, none⟩) 0 w2 (HVR.out.1 (by omega))).mono ?_
          rintro e w3 ⟨rfl, b3⟩
          replace X := X.below b3
          replace B := bel_trans B b3
          clear b3
          have XN := Box.new w3 (icells o p.r p.a p.b p.n) 25
          have bx := bel_alloc (Below.refl w3.heap.size w3) (.cells (icells o p.r p.a p.b p.n) 25)
          replace X := X.below bx
          replace B := bel_trans B bx
          clear bx
          obtain ⟨y0, y1, y2, y3, y4, yz⟩ := XN.at5i
          go_wp2_with fail
          refine (HT.out _).mono ?_
          rintro e w4 ⟨rfl, b4⟩
          clear y0 y1 y2 y3 y4 yz
          replace X := X.below b4
          replace XN := XN.below b4
          replace B := bel_trans B b4
          clear b4
          obtain ⟨y0, y1, y2, y3, y4, yz⟩ := XN.at5i
          obtain ⟨x0, x1, x2, x3, x4, xz⟩ := X.at5i
          have f0 := X.frozen 0
          have f1 := X.frozen 1
          have f2 := X.frozen 2
          have f3 := X.frozen 3
          have f4 := X.frozen 4
          go_wp2
          refine bodyPost_ret (v := .tuple #[.agg (icells o p.r p.a p.b p.n), .bool true]) (by simp [results, Tryd.results10, go_sem, x0, x1, x2, x3, x4]) rfl ⟨by rw [HV.out, HZ.out], ?_⟩
          exact bel_setCell (bel_setCell (bel_setCell (bel_setCell (bel_setCell B _ _ (Nat.le_refl _)) _ _ (Nat.le_refl _)) _ _ (Nat.le_refl _)) _ _ (Nat.le_refl _)) _ _ (Nat.le_refl _)
        · refine (HP.out (some ⟨g, 1, none⟩) (cp - 1) w2 HVR.out.2).mono ?_
          rintro e w3 ⟨rfl, b3⟩
          replace X := X.below b3
          replace B := bel_trans B b3
          clear b3
          have XN := Box.new w3 (icells o p.r p.a p.b p.n) 25
          have bx := bel_alloc (Below.refl w3.heap.size w3) (.cells (icells o p.r p.a p.b p.n) 25)
          replace X := X.below bx
          replace B := bel_trans B bx
          clear bx
          obtain ⟨y0, y1, y2, y3, y4, yz⟩ := XN.at5i
          go_wp2_with fail
          refine (HT.out _).mono ?_
          rintro e w4 ⟨rfl, b4⟩
          clear y0 y1 y2 y3 y4 yz
          replace X := X.below b4
          replace XN := XN.below b4
          replace B := bel_trans B b4
          clear b4
          obtain ⟨y0, y1, y2, y3, y4, yz⟩ := XN.at5i
          obtain ⟨x0, x1, x2, x3, x4, xz⟩ := X.at5i
          have f0 := X.frozen 0
          have f1 := X.frozen 1
          have f2 := X.frozen 2
          have f3 := X.frozen 3
          have f4 := X.frozen 4
          go_wp2
          refine bodyPost_ret (v := .tuple #[.agg (icells o p.r p.a p.b p.n), .bool true]) (by simp [results, Tryd.results10, go_sem, x0, x1, x2, x3, x4]) rfl ⟨by rw [HV.out, HZ.out], ?_⟩
          exact bel_setCell (bel_setCell (bel_setCell (bel_setCell (bel_setCell B _ _ (Nat.le_refl _)) _ _ (Nat.le_refl _)) _ _ (Nat.le_refl _)) _ _ (Nat.le_refl _)) _ _ (Nat.le_refl _)
      · have HV : Hid (rdB s = false) := by
          show _ = _
          cases hz : rdB s
          · rfl
          · obtain ⟨p2, _, h2, h3⟩ := HM.out hz
            rw [hp] at h2
            cases h2
            exact absurd (hT.symm.trans h3) hts
        have HZ : Hid (rdV s = icells 0 0 0 0 0) := rd_off HV.out
        have heq : (T == s) = false := by simp [hts]
        clear hp hT hts
        go_wp2_with fail
        refine (HOP.out _).mono ?_
        rintro e w2 ⟨rfl, b2⟩
        rw [hd0]
        clear hd0
        have HV2 : Hid (VRow w2 (some ⟨g, 0, none⟩) (W.map txt)) := owns_vrow' (owns_below HOH.out b2) (by rw [List.length_map]; omega)
        replace X := X.below b2
        replace B := bel_trans B b2
        clear b2 q0
        have hv1 : W.length ≤ 1 → VRow w2 (some ⟨g, 0, none⟩) ((W.drop 1).map txt) := fun h => vrow_one _ _ h
        have hv2 := vrow_drop HV2.out
        have HVR : Hid ((W.length ≤ 1 → VRow w2 (some ⟨g, 0, none⟩) ((W.drop 1).map txt)) ∧ VRow w2 (some ⟨g, 1, none⟩) ((W.drop 1).map txt)) := ⟨hv1, hv2⟩
        clear hv1 hv2
        go_wp2_with fail
        · refine (HP.out (some ⟨g, 0, none⟩) 0 w2 (HVR.out.1 (by omega))).mono ?_
          rintro e w3 ⟨rfl, b3⟩
          replace X := X.below b3
          replace B := bel_trans B b3
          clear b3
          have XN := Box.new w3 (icells o p.r p.a p.b p.n) 25
          have bx := bel_alloc (Below.refl w3.heap.size w3) (.cells (icells o p.r p.a p.b p.n) 25)
          replace X := X.below bx
          replace B := bel_trans B bx
          clear bx
          obtain ⟨y0, y1, y2, y3, y4, yz⟩ := XN.at5i
          go_wp2_with fail
          refine (HT.out _).mono ?_
          rintro e w4 ⟨rfl, b4⟩
          clear y0 y1 y2 y3 y4 yz
          replace X := X.below b4
          replace B := bel_trans B b4
          clear b4
          obtain ⟨x0, x1, x2, x3, x4, xz⟩ := X.at5i
          have f0 := X.frozen 0
          have f1 := X.frozen 1
          have f2 := X.frozen 2
          have f3 := X.frozen 3
          have f4 := X.frozen 4
          go_wp2
          refine bodyPost_ret (v := .tuple #[.agg (icells 0 0 0 0 0), .bool false]) (by simp [results, Tryd.results10, go_sem, x0, x1, x2, x3, x4]) rfl ⟨by rw [HV.out, HZ.out], ?_⟩
          exact bel_setCell (bel_setCell (bel_setCell (bel_setCell (bel_setCell B _ _ (Nat.le_refl _)) _ _ (Nat.le_refl _)) _ _ (Nat.le_refl _)) _ _ (Nat.le_refl _)) _ _ (Nat.le_refl _)
        · refine (HP.out (some ⟨g, 1, none⟩) (cp - 1) w2 HVR.out.2).mono ?_
          rintro e w3 ⟨rfl, b3⟩
          replace X := X.below b3
          replace B := bel_trans B b3
          clear b3
          have XN := Box.new w3 (icells o p.r p.a p.b p.n) 25
          have bx := bel_alloc (Below.refl w3.heap.size w3) (.cells (icells o p.r p.a p.b p.n) 25)
          replace X := X.below bx
          replace B := bel_trans B bx
          clear bx
          obtain ⟨y0, y1, y2, y3, y4, yz⟩ := XN.at5i
          go_wp2_with fail
          refine (HT.out _).mono ?_
          rintro e w4 ⟨rfl, b4⟩
          clear y0 y1 y2 y3 y4 yz
          replace X := X.below b4
          replace B := bel_trans B b4
          clear b4
          obtain ⟨x0, x1, x2, x3, x4, xz⟩ := X.at5i
          have f0 := X.frozen 0
          have f1 := X.frozen 1
          have f2 := X.frozen 2
          have f3 := X.frozen 3
          have f4 := X.frozen 4
          go_wp2
          refine bodyPost_ret (v := .tuple #[.agg (icells 0 0 0 0 0), .bool false]) (by simp [results, Tryd.results10, go_sem, x0, x1, x2, x3, x4]) rfl ⟨by rw [HV.out, HZ.out], ?_⟩
          exact bel_setCell (bel_setCell (bel_setCell (bel_setCell (bel_setCell B _ _ (Nat.le_refl _)) _ _ (Nat.le_refl _)) _ _ (Nat.le_refl _)) _ _ (Nat.le_refl _)) _ _ (Nat.le_refl _)
end Go.Proofs.YtfigbfddhmgafaaDoor
