/- What the specification's MsgOf does. -/
import Derived.Test.YtbihhndpjpdbmaaSpecOfL
import Derived.Deep.RegionWith
namespace Go.Proofs.Ytbihhndpjpdbmaa
open Go.RowKit
set_option linter.unusedVariables false

set_option maxRecDepth 100000 in
set_option maxHeartbeats 4000000 in
theorem specOf_any (a : Option Addr) (ca : Nat) (bs : List Int) (w : World) (ha : Row .u8 w a bs) (hby : Bytes bs) :
    Calls Try.prog 12 #[.slice a bs.length ca] w fun e w' => OfPost bs w e w' := by
  obtain ⟨i0, hi, hz0, hz1, hz2⟩ := info_parts info_n
  have bA := bel_alloc (Below.refl w.heap.size w) (.cells #[.int .i64 0, .int .i64 0, .bool false, .slice none 0 0] 26)
  obtain ⟨n, hn⟩ : ∃ n, bs.length = n := ⟨_, rfl⟩
  have HN : Hid (bs.length = n) := hn
  have hnl : n ≤ 140737488351232 := by rw [← hn]; exact ha.1
  have hget : Hid (∀ (at' : Int) (W : World), Row .u8 W a bs → Calls Try.prog 29 #[.slice a n ca, .int .i64 at'] W fun e w' => e = retGet (getn bs at') ∧ W = w') := by
    intro at' W h
    have := specGet_any a ca bs at' W h hby
    rw [hn] at this
    exact this.mono fun e w' ⟨h1, h2⟩ => ⟨h1, h2.symm⟩
  rw [hn]
  clear hn
  obtain ⟨o0, C0⟩ := of_start2 w
  go_enter Try.func12, Try.ntmps12
  go_wp2
  go_loopw [4, 5] (fun v i wr => ∃ (N : List Int) (at' : Int), N.length ≤ 8 ∧ i = .int .i64 at' ∧ Rd bs N at' ∧ wr.ownsRow (w.heap.size + 1) 3 1 v N.length (N.map (Value.int .i64)) ∧ Below (w.alloc (.cells #[.int .i64 0, .int .i64 0, .bool false, .slice none 0 0] 26)).heap.size (w.alloc (.cells #[.int .i64 0, .int .i64 0, .bool false, .slice none 0 0] 26)) wr) (fun v _ _ => 8 - lenOf v)
  case atStart => exact ⟨[], 0, by simp, rfl, ⟨fun x hx => by simp at hx, bs, rfl, rfl⟩, o0, C0⟩
  case round =>
    clear o0 C0
    obtain ⟨N, at', hN8, rfl, hrd, hown, hC⟩ := hrel
    have HRD : Hid (Rd bs N at') := hrd
    clear hrd
    obtain ⟨av, cv, rfl⟩ := owns_slice hown
    obtain ⟨r0, r1, r2, r3, zb⟩ := box4 hC
    have hf : ∀ o, wr.frozen? ⟨w.heap.size, o, none⟩ = false := fun o => by
      rw [hC.frozen (p := ⟨w.heap.size, o, none⟩) (by simp)]
      simp
    have hsz : w.heap.size + 1 ≤ wr.heap.size := zb
    have hrow := ha.below (bel_trans bA hC)
    by_cases hgo : at' < (n : Int) ∧ N.length < 8
    · obtain ⟨hlt, h8⟩ := hgo
      have hdl : decide (at' < (n : Int)) = true := decide_eq_true hlt
      · have hd8 : decide ((N.length : Int) < 8) = true := by simp; omega
        have h8i : (N.length : Int) < 8 := by omega
        obtain ⟨⟨g0, g1, g2⟩, hg⟩ : ∃ g, getn bs at' = g := ⟨_, rfl⟩
        have HG : Hid (getn bs at' = (g0, g1, g2)) := hg
        clear hg
        go_wp2_with fail
        refine (hget.out at' _ hrow).mono ?_
        rintro e w2 ⟨rfl, h2⟩
        subst h2
        rw [HG.out]
        simp only [retGet]
        cases g2
        · have HF : Hid (NoMsg bs) := by
            obtain ⟨hN, R, hbs, hat⟩ := HRD.out
            refine no_fail hN hbs ?_ ?_
            · intro hR
              rw [hR, List.append_nil] at hbs
              have := congrArg List.length hbs
              have := HN.out
              omega
            · intro x y h
              rw [← hat, HG.out] at h
              simp at h
          clear HG HRD
          go_wp2
          refine bodyPost_ret (v := .tuple #[.agg #[.int .i64 0, .int .i64 0, .bool false, .slice none 0 0], .bool false]) (by simp [results, Try.results12, go_sem, r0, r1, r2, r3]) rfl (OfPost.no HF.out ?_)
          refine bel_setCell (bel_setCell (bel_setCell (bel_setCell (bel_trans bA hC) _ _ ?_) _ _ ?_) _ _ ?_) _ _ ?_
          all_goals simp
        · have HRD2 : Hid (Rd bs (N ++ [g0]) g1) := by
            obtain ⟨hN, R, hbs, hat⟩ := HRD.out
            have hg := HG.out
            rw [hat] at hg
            obtain ⟨r, hR, hq, h0, h1⟩ := getn_sound bs (flatB N) R g0 g1 hby hbs hg
            refine ⟨inR_snoc hN ⟨h0, h1⟩, r, ?_, ?_⟩
            · rw [flatB_snoc, List.append_assoc, ← hR]; exact hbs
            · rw [flatB_snoc, hq, List.length_append]; omega
          clear HG HRD r0 r1 r2 r3 hf
          go_wp2_with (at_builtin; refine wpList_append_own _ rfl (.tmp 30) (.tmp 32) 24 rfl (w.heap.size + 1) 3 i0 (.int .i64 0) 1 8 Try.underlying24 hi hz0 hz1 hz2 rfl (by decide) _ _ _ rfl (hown.alloc _) ⟨wr.heap.size, 0, none⟩ 1 1 [.int .i64 g0] rfl rfl (cell_one_new _ _ _) ?c2 ?c3 ?c4 ?c5 ?_)
          case c2 => first | (intro u hu; simp at hu; subst hu; rfl) | rfl
          case c3 => unfold maxLen; omega
          case c4 => omega
          case c5 => first | omega | (simp; omega)
          intro v' w4 hown4 hgrow _
          have hC4 := (hC.alloc hC.size (.cells #[.int .i64 g0] 3)).grown hgrow (by have := hC.size; simp at this ⊢; omega) (fun j hj => by have := (hown.lt j hj).1; simp; omega)
          have ho4 : w4.ownsRow (w.heap.size + 1) 3 1 v' (N ++ [g0]).length ((N ++ [g0]).map (Value.int .i64)) := by simpa using hown4
          obtain ⟨a4, c4, hv4⟩ := owns_slice ho4
          clear hown4 hgrow hown hC hrow
          go_wp2
          go_roundw
          case rel => exact ⟨N ++ [g0], g1, by simp; omega, rfl, HRD2.out, ho4, hC4⟩
          case measure => rw [hv4]; simp [lenOf]; omega
    · have hF3 : Hid (N.length < 3 → NoMsg bs) := by
        intro h3
        obtain ⟨hN, R, hbs, hat⟩ := HRD.out
        refine no_short hN ?_ h3
        have h1 := congrArg List.length hbs
        rw [List.length_append] at h1
        have := HN.out
        rw [List.length_eq_zero_iff.1 (by omega : R.length = 0), List.append_nil] at hbs
        exact hbs
      have hex : (¬ at' < (n : Int)) ∨ (at' < (n : Int) ∧ N.length = 8) := by omega
      by_cases h3 : N.length < 3
      · have HF : Hid (NoMsg bs) := hF3.out h3
        have hna : ¬ at' < (n : Int) := by omega
        have hdl : decide (at' < (n : Int)) = false := decide_eq_false hna
        have h3i : (N.length : Int) < 3 := by omega
        clear HRD hF3 hgo hex
        go_wp2
        refine bodyPost_ret (v := .tuple #[.agg #[.int .i64 0, .int .i64 0, .bool false, .slice none 0 0], .bool false]) (by simp [results, Try.results12, go_sem, r0, r1, r2, r3]) rfl (OfPost.no HF.out ?_)
        refine bel_setCell (bel_setCell (bel_setCell (bel_setCell (bel_trans bA hC) _ _ ?_) _ _ ?_) _ _ ?_) _ _ ?_
        all_goals simp
      · obtain ⟨g, rfl⟩ := owns_addr hown (by omega)
        obtain ⟨x0, x1, x2, ws, rfl⟩ : ∃ x0 x1 x2 ws, N = x0 :: x1 :: x2 :: ws := by
          match N, h3 with
          | x0 :: x1 :: x2 :: ws, _ => exact ⟨x0, x1, x2, ws, rfl⟩
          | [], h => simp at h
          | [_], h => simp at h
          | [_, _], h => simp at h
        have y0 : wr.cell? ⟨g, 0, none⟩ = some (.int .i64 x0) := by rw [hown.cellAt 0 (by simp)]; simp
        have y1 : wr.cell? ⟨g, 1, none⟩ = some (.int .i64 x1) := by rw [hown.cellAt 1 (by simp)]; simp
        have y2 : wr.cell? ⟨g, 2, none⟩ = some (.int .i64 x2) := by rw [hown.cellAt 2 (by simp)]; simp
        have hgl := hown.lt g rfl
        clear hF3 hgo h3
        obtain ⟨L, hL⟩ : ∃ L, ws.length + 3 = L := ⟨_, rfl⟩
        have HL : Hid (ws.length + 3 = L) := hL
        have eN : (x0 :: x1 :: x2 :: ws).length = L := by simp; omega
        have hL3 : 3 ≤ L := by omega
        rw [eN] at hex hN8 hown ⊢
        clear eN hL
        have i0' : 0 < L := by omega
        have i1' : (1 : Int) < (L : Int) := by omega
        have i2' : (2 : Int) < (L : Int) := by omega
        have i3' : (3 : Int) ≤ (L : Int) := by omega
        have hd3 : decide ((L : Int) < 3) = false := by simp; omega
        have hcv : L ≤ cv := by
          rcases hown.2 with ⟨h, _⟩ | ⟨g', cap', cur, h, _, _, hnc, _⟩
          · simp at h
          · simp only [Value.slice.injEq] at h; omega
        rcases hex with hna | ⟨hlt, h8⟩
        · have hdl : decide (at' < (n : Int)) = false := decide_eq_false hna
          go_upto_region 11 with fail
          go_cut [9] (fun s9 wx => Made w x0 x1 x2 ws s9 wx)
          case first =>
            by_cases hm0 : L = 3
            · have hws : ws = [] := List.length_eq_zero_iff.1 (by have := HL.out; omega)
              subst hm0
              by_cases hc3 : cv = 3
              · subst hc3
                go_region_held3 (fun w' => w'.cell? ⟨g, 0, none⟩ = some (.int .i64 x0) ∧ w'.cell? ⟨g, 1, none⟩ = some (.int .i64 x1) ∧ w'.cell? ⟨g, 2, none⟩ = some (.int .i64 x2)) (go_keep) (fail)
                all_goals go_wp2_with fail
                all_goals go_meet
                · exact made_e1 hws hC
                · exact made_e1 hws hC
                · exact made_e2 hws hC
              · have hc3' : 3 < cv := by omega
                go_region_held3 (fun w' => w'.cell? ⟨g, 0, none⟩ = some (.int .i64 x0) ∧ w'.cell? ⟨g, 1, none⟩ = some (.int .i64 x1) ∧ w'.cell? ⟨g, 2, none⟩ = some (.int .i64 x2)) (go_keep) (fail)
                all_goals go_wp2_with fail
                all_goals go_meet
                · exact made_e1 hws hC
                · exact made_e1 hws hC
                · exact made_e2 hws hC
            · have hcv3 : 3 < cv := by omega
              have hcv3' : ¬ cv = 3 := by omega
              have hle : w.heap.size + 1 ≤ wr.heap.size := by omega
              have hgA : wr.heap.size + 1 ≠ g := by omega
              have hgB : wr.heap.size ≠ g := by omega
              have hwl : (ws.map (Value.int .i64)).length = (L - 3) * 1 := by have := HL.out; simp; omega
              go_region_held3 (fun w' => w'.cell? ⟨g, 0, none⟩ = some (.int .i64 x0) ∧ w'.cell? ⟨g, 1, none⟩ = some (.int .i64 x1) ∧ w'.cell? ⟨g, 2, none⟩ = some (.int .i64 x2))
                (first | (with_reducible exact ⟨k0, k1, k2⟩) | (refine ⟨?_, ?_, ?_⟩ <;> (simp only [cell_set_far _ _ _ _ _ _ hgA]; with_reducible assumption)) | (refine ⟨?_, ?_, ?_⟩ <;> (simp only [cell_set_far _ _ _ _ _ _ hgB]; with_reducible assumption)) | (refine ⟨?_, ?_, ?_⟩ <;> (rw [World.cell?_alloc_past _ _ _ _ hw4]; with_reducible assumption)) | go_keep)
                (first | (refine step_append_lies _ (by rfl) _ _ _ (by rfl) (w.heap.size + 1) 3 i0 (.int .i64 0) 1 8 Try.underlying24 hi hz0 hz1 hz2 rfl (by omega) (.slice (some ⟨wr.heap.size, 0, none⟩) 0 0) 0 [] (by rfl) ?_ ⟨g, 3, none⟩ (L - 3) (cv - 3) (ws.map (Value.int .i64)) (by rfl) hwl ?_ (ints_oneCell .i64 ws) (by omega) (by unfold maxLen; omega) (by omega) ?_ _ rfl ?_; (with_reducible exact owns_drew (own_e wr (w.heap.size + 1) hle)); (with_reducible exact news_tail HL.out (owns_drew (hown.alloc _))); (simp; omega); intro g3 cap3 w4 o3 hgrow hat hlt4; simp only [Value.ownBlock] at hgrow; obtain ⟨hcf, hff⟩ := grow_rules hgrow; have hw4 : g < w4.heap.size := (by have h1 := hgrow.size; simp at h1; omega); obtain ⟨k0, k1, k2⟩ := keep3 (b := g) hgrow (by simp; omega) (by intro e; simp only [Option.some.injEq] at e; omega) (u0 := .int .i64 x0) (u1 := .int .i64 x1) (u2 := .int .i64 x2) (by first | assumption | simp [*]) (by first | assumption | simp [*]) (by first | assumption | simp [*])) | (refine step_append_lies _ (by rfl) _ _ _ (by rfl) (w.heap.size + 1) 3 i0 (.int .i64 0) 1 8 Try.underlying24 hi hz0 hz1 hz2 rfl (by omega) (.slice (some ⟨wr.heap.size, 0, none⟩) 0 0) 0 [] (by rfl) ?_ ⟨g, 3, none⟩ (L - 3) (cv - 3) (ws.map (Value.int .i64)) (by rfl) hwl ?_ (ints_oneCell .i64 ws) (by omega) (by unfold maxLen; omega) (by omega) ?_ _ rfl ?_; (with_reducible exact owns_drew ((own_e wr (w.heap.size + 1) hle).alloc _)); (with_reducible exact news_tail HL.out (owns_drew ((hown.alloc _).alloc _))); (simp; omega); intro g3 cap3 w4 o3 hgrow hat hlt4; simp only [Value.ownBlock] at hgrow; obtain ⟨hcf, hff⟩ := grow_rules hgrow; have hw4 : g < w4.heap.size := (by have h1 := hgrow.size; simp at h1; omega); obtain ⟨k0, k1, k2⟩ := keep3 (b := g) hgrow (by simp; omega) (by intro e; simp only [Option.some.injEq] at e; omega) (u0 := .int .i64 x0) (u1 := .int .i64 x1) (u2 := .int .i64 x2) (by first | assumption | simp [*]) (by first | assumption | simp [*]) (by first | assumption | simp [*])) | (refine step_append_lies _ (by rfl) _ _ _ (by rfl) (w.heap.size + 1) 3 i0 (.int .i64 0) 1 8 Try.underlying24 hi hz0 hz1 hz2 rfl (by omega) (.slice (some ⟨wr.heap.size + 1, 0, none⟩) 0 0) 0 [] (by rfl) ?_ ⟨g, 3, none⟩ (L - 3) (cv - 3) (ws.map (Value.int .i64)) (by rfl) hwl ?_ (ints_oneCell .i64 ws) (by omega) (by unfold maxLen; omega) (by omega) ?_ _ rfl ?_; (with_reducible exact owns_drew (own_e2 wr (w.heap.size + 1) hle)); (with_reducible exact news_tail HL.out (owns_drew ((hown.alloc _).alloc _))); (simp; omega); intro g3 cap3 w4 o3 hgrow hat hlt4; simp only [Value.ownBlock] at hgrow; obtain ⟨hcf, hff⟩ := grow_rules hgrow; have hw4 : g < w4.heap.size := (by have h1 := hgrow.size; simp at h1; omega); obtain ⟨k0, k1, k2⟩ := keep3 (b := g) hgrow (by simp; omega) (by intro e; simp only [Option.some.injEq] at e; omega) (u0 := .int .i64 x0) (u1 := .int .i64 x1) (u2 := .int .i64 x2) (by first | assumption | simp [*]) (by first | assumption | simp [*]) (by first | assumption | simp [*])))
              all_goals go_wp2_with fail
              all_goals go_meet
              all_goals
               have el : ws.length = L - 3 := by have := HL.out; omega
               have ho : w4.ownsRow (w.heap.size + 1) 3 1 (.slice (some ⟨g3, 0, none⟩) (L - 3) cap3) ws.length (ws.map (Value.int .i64)) := by rw [el]; simpa using o3
               have hs1 : (w.alloc MZ).heap.size ≤ wr.heap.size := hC.size
              · exact made_new ho ((hC.alloc hC.size _).drew.grown hgrow (by simp at hs1 ⊢; omega) (fun j hj => by simp only [Option.some.injEq] at hj; simp; omega))
              · exact made_set (new_b hgrow) (by omega) (fun j hj => by simp [Value.ownBlock] at hj hat; omega) ho (((hC.alloc hC.size _).alloc (by simp at hs1 ⊢; omega) _).drew.grown hgrow (by simp at hs1 ⊢; omega) (fun j hj => by simp only [Option.some.injEq] at hj; simp; omega))
              · exact made_set (new_a hgrow) (by omega) (fun j hj => by simp [Value.ownBlock] at hj hat; omega) ho (((hC.alloc hC.size _).alloc (by simp at hs1 ⊢; omega) _).drew.grown hgrow (by simp at hs1 ⊢; omega) (fun j hj => by simp only [Option.some.injEq] at hj; simp; omega))
          case rest =>
            clear hown hC y0 y1 y2 hgl hrow r0 r1 r2 r3 hf hsz zb
            obtain ⟨A, v, rfl, hA, ho, hC⟩ := hcut
            obtain ⟨m0, m1, m2, m3⟩ := mb_cells hA
            clear hA
            obtain ⟨a', c', rfl⟩ := owns_slice ho
            have hwsl : ws.length ≤ 5 := by have := HL.out; omega
            have hrow0 : Row .u8 wc a bs := ha.below (bel_trans bA hC)
            have hrow : Row .u8 wc.drew a bs := hrow0
            have hcb := conv_row hrow n ca HN.out
            have hqw : Row .i64 wc.drew a' ws := owns_row' ho (by omega)
            have hml := msgB_len x0 x1 (x2 == 1) ws
            have hmby := msgB_bytes x0 x1 (x2 == 1) ws
            obtain ⟨M, hMM0⟩ : ∃ M, msgB x0 x1 (x2 == 1) ws = M := ⟨_, rfl⟩
            have hMM : Hid (msgB x0 x1 (x2 == 1) ws = M) := hMM0
            rw [hMM0] at hml hmby
            clear hMM0 hrow0
            have HNo : Hid (M ≠ bs → NoMsg bs) := by
              intro h
              obtain ⟨hN, R, hbs, hat⟩ := HRD.out
              have h1 := congrArg List.length hbs
              rw [List.length_append] at h1
              have h2 := HN.out
              rw [List.length_eq_zero_iff.1 (by omega : R.length = 0), List.append_nil] at hbs
              exact only_msg hN hbs (by rw [hMM.out]; exact h)
            by_cases hM0 : M = bs
            · have hM : Hid (msgB x0 x1 (x2 == 1) ws = bs) := hMM.out.trans hM0
              have hbl21 : bs.length ≤ 140737488351232 := by rw [HN.out]; exact hnl
              clear hmby hMM hM0 hml
              go_wp2_with fail
              go_region_with ((go_at_call 7; refine (specBytes_any x0 x1 (x2 == 1) a' c' ws _ ?_).mono ?_; exact hqw; rintro e w6 ⟨vB, rfl, oB, b6⟩; rw [hM.out] at oB; obtain ⟨aB, cB, rfl⟩ := owns_slice oB; have hcB := conv_row (owns_row' oB hbl21) bs.length cB rfl; have hcb6 := conv_row (hrow.below b6) n ca HN.out; have C6 := bel_trans hC (bel_undrew b6); obtain ⟨r0, r1, r2, r3, zb⟩ := box4 C6; have m0 := cell_later (bel_undrew b6) m0; have m1 := cell_later (bel_undrew b6) m1; have m2 := cell_later (bel_undrew b6) m2; have m3 := cell_later (bel_undrew b6) m3; have hf6 : ∀ o, w6.frozen? ⟨w.heap.size, o, none⟩ = false := (fun o => by rw [C6.frozen (p := ⟨w.heap.size, o, none⟩) (by simp)]; simp)))
              all_goals
                have HRes : Hid (Res bs x0 x1 (x2 == 1) ws true) := by
                  have hne : bs ≠ [] := by
                    obtain ⟨hN, R, hbs, hat⟩ := HRD.out
                    intro hbe
                    rw [hbe] at hbs
                    have := congrArg List.length hbs
                    rw [List.length_append, flatB_cons, List.length_append] at this
                    have h2 := (enc_len 2 x0).1
                    simp at this
                    omega
                  by_cases hok : msgOkB x0 x1 (x2 == 1) ws = true
                  · exact .inl ⟨rfl, hok, hM.out⟩
                  · exfalso
                    apply hne
                    rw [← hM.out]
                    unfold msgB
                    rw [if_neg hok]
                have o6 := owns_below ho (bel_undrew b6)
                have l6 := fun j h => (o6.lt j h).1
                have B6 := bel_trans bA C6
                clear oB b6 hcB hcb6 hcb hrow hqw ho hC C6 HRD hM
                go_wp2
                refine bodyPost_ret (v := .tuple #[.agg #[.int .i64 x0, .int .i64 x1, .bool (x2 == 1), .slice a' ws.length c'], .bool true]) (by simp [results, Try.results12, go_sem, r0, r1, r2, r3]) rfl (OfPost.yes HRes.out ?_ ?_)
                · refine owns_setCell (owns_setCell (owns_setCell (owns_setCell (owns_base o6 (by omega)) ?_ _) ?_ _) ?_ _) ?_ _
                  all_goals (intro j h; have := l6 j h; simp; omega)
                · refine bel_setCell (bel_setCell (bel_setCell (bel_setCell B6 _ _ ?_) _ _ ?_) _ _ ?_) _ _ ?_
                  all_goals simp
            · have HF : Hid (NoMsg bs) := HNo.out hM0
              have hneq := list_ne hmby hby hM0
              go_wp2_with fail
              go_region_with ((go_at_call 7; refine (specBytes_any x0 x1 (x2 == 1) a' c' ws _ ?_).mono ?_; exact hqw; rintro e w6 ⟨vB, rfl, oB, b6⟩; rw [hMM.out] at oB; obtain ⟨aB, cB, rfl⟩ := owns_slice oB; have hcB := conv_row (owns_row' oB (by omega)) M.length cB rfl; have hcb6 := conv_row (hrow.below b6) n ca HN.out; have C6 := bel_trans hC (bel_undrew b6); obtain ⟨r0, r1, r2, r3, zb⟩ := box4 C6; have m0 := cell_later (bel_undrew b6) m0; have m1 := cell_later (bel_undrew b6) m1; have m2 := cell_later (bel_undrew b6) m2; have m3 := cell_later (bel_undrew b6) m3; have hf6 : ∀ o, w6.frozen? ⟨w.heap.size, o, none⟩ = false := (fun o => by rw [C6.frozen (p := ⟨w.heap.size, o, none⟩) (by simp)]; simp)))
              all_goals
                have B6 := bel_trans bA C6
                clear oB b6 hcB hcb6 hcb hrow hqw ho hC C6 HRD
                go_wp2
                refine bodyPost_ret (v := .tuple #[.agg #[.int .i64 0, .int .i64 0, .bool false, .slice none 0 0], .bool false]) (by simp [results, Try.results12, go_sem, r0, r1, r2, r3]) rfl (OfPost.no HF.out ?_)
                refine bel_setCell (bel_setCell (bel_setCell (bel_setCell B6 _ _ ?_) _ _ ?_) _ _ ?_) _ _ ?_
                all_goals simp
        · have hdl : decide (at' < (n : Int)) = true := decide_eq_true hlt
          have hd8 : decide ((L : Int) < 8) = false := by simp; omega
          have h8i : ¬ (L : Int) < 8 := by omega
          have h8a : 8 ≤ L := by omega
          clear h8
          go_upto_region 11 with fail
          go_cut [9] (fun s9 wx => Made w x0 x1 x2 ws s9 wx)
          case first =>
            by_cases hm0 : L = 3
            · exfalso
              omega
            · have hcv3 : 3 < cv := by omega
              have hcv3' : ¬ cv = 3 := by omega
              have hle : w.heap.size + 1 ≤ wr.heap.size := by omega
              have hgA : wr.heap.size + 1 ≠ g := by omega
              have hgB : wr.heap.size ≠ g := by omega
              have hwl : (ws.map (Value.int .i64)).length = (L - 3) * 1 := by have := HL.out; simp; omega
              go_region_held3 (fun w' => w'.cell? ⟨g, 0, none⟩ = some (.int .i64 x0) ∧ w'.cell? ⟨g, 1, none⟩ = some (.int .i64 x1) ∧ w'.cell? ⟨g, 2, none⟩ = some (.int .i64 x2))
                (first | (with_reducible exact ⟨k0, k1, k2⟩) | (refine ⟨?_, ?_, ?_⟩ <;> (simp only [cell_set_far _ _ _ _ _ _ hgA]; with_reducible assumption)) | (refine ⟨?_, ?_, ?_⟩ <;> (simp only [cell_set_far _ _ _ _ _ _ hgB]; with_reducible assumption)) | (refine ⟨?_, ?_, ?_⟩ <;> (rw [World.cell?_alloc_past _ _ _ _ hw4]; with_reducible assumption)) | go_keep)
                (first | (refine step_append_lies _ (by rfl) _ _ _ (by rfl) (w.heap.size + 1) 3 i0 (.int .i64 0) 1 8 Try.underlying24 hi hz0 hz1 hz2 rfl (by omega) (.slice (some ⟨wr.heap.size, 0, none⟩) 0 0) 0 [] (by rfl) ?_ ⟨g, 3, none⟩ (L - 3) (cv - 3) (ws.map (Value.int .i64)) (by rfl) hwl ?_ (ints_oneCell .i64 ws) (by omega) (by unfold maxLen; omega) (by omega) ?_ _ rfl ?_; (with_reducible exact owns_drew (own_e wr (w.heap.size + 1) hle)); (with_reducible exact news_tail HL.out (owns_drew (hown.alloc _))); (simp; omega); intro g3 cap3 w4 o3 hgrow hat hlt4; simp only [Value.ownBlock] at hgrow; obtain ⟨hcf, hff⟩ := grow_rules hgrow; have hw4 : g < w4.heap.size := (by have h1 := hgrow.size; simp at h1; omega); obtain ⟨k0, k1, k2⟩ := keep3 (b := g) hgrow (by simp; omega) (by intro e; simp only [Option.some.injEq] at e; omega) (u0 := .int .i64 x0) (u1 := .int .i64 x1) (u2 := .int .i64 x2) (by first | assumption | simp [*]) (by first | assumption | simp [*]) (by first | assumption | simp [*])) | (refine step_append_lies _ (by rfl) _ _ _ (by rfl) (w.heap.size + 1) 3 i0 (.int .i64 0) 1 8 Try.underlying24 hi hz0 hz1 hz2 rfl (by omega) (.slice (some ⟨wr.heap.size, 0, none⟩) 0 0) 0 [] (by rfl) ?_ ⟨g, 3, none⟩ (L - 3) (cv - 3) (ws.map (Value.int .i64)) (by rfl) hwl ?_ (ints_oneCell .i64 ws) (by omega) (by unfold maxLen; omega) (by omega) ?_ _ rfl ?_; (with_reducible exact owns_drew ((own_e wr (w.heap.size + 1) hle).alloc _)); (with_reducible exact news_tail HL.out (owns_drew ((hown.alloc _).alloc _))); (simp; omega); intro g3 cap3 w4 o3 hgrow hat hlt4; simp only [Value.ownBlock] at hgrow; obtain ⟨hcf, hff⟩ := grow_rules hgrow; have hw4 : g < w4.heap.size := (by have h1 := hgrow.size; simp at h1; omega); obtain ⟨k0, k1, k2⟩ := keep3 (b := g) hgrow (by simp; omega) (by intro e; simp only [Option.some.injEq] at e; omega) (u0 := .int .i64 x0) (u1 := .int .i64 x1) (u2 := .int .i64 x2) (by first | assumption | simp [*]) (by first | assumption | simp [*]) (by first | assumption | simp [*])) | (refine step_append_lies _ (by rfl) _ _ _ (by rfl) (w.heap.size + 1) 3 i0 (.int .i64 0) 1 8 Try.underlying24 hi hz0 hz1 hz2 rfl (by omega) (.slice (some ⟨wr.heap.size + 1, 0, none⟩) 0 0) 0 [] (by rfl) ?_ ⟨g, 3, none⟩ (L - 3) (cv - 3) (ws.map (Value.int .i64)) (by rfl) hwl ?_ (ints_oneCell .i64 ws) (by omega) (by unfold maxLen; omega) (by omega) ?_ _ rfl ?_; (with_reducible exact owns_drew (own_e2 wr (w.heap.size + 1) hle)); (with_reducible exact news_tail HL.out (owns_drew ((hown.alloc _).alloc _))); (simp; omega); intro g3 cap3 w4 o3 hgrow hat hlt4; simp only [Value.ownBlock] at hgrow; obtain ⟨hcf, hff⟩ := grow_rules hgrow; have hw4 : g < w4.heap.size := (by have h1 := hgrow.size; simp at h1; omega); obtain ⟨k0, k1, k2⟩ := keep3 (b := g) hgrow (by simp; omega) (by intro e; simp only [Option.some.injEq] at e; omega) (u0 := .int .i64 x0) (u1 := .int .i64 x1) (u2 := .int .i64 x2) (by first | assumption | simp [*]) (by first | assumption | simp [*]) (by first | assumption | simp [*])))
              all_goals go_wp2_with fail
              all_goals go_meet
              all_goals
               have el : ws.length = L - 3 := by have := HL.out; omega
               have ho : w4.ownsRow (w.heap.size + 1) 3 1 (.slice (some ⟨g3, 0, none⟩) (L - 3) cap3) ws.length (ws.map (Value.int .i64)) := by rw [el]; simpa using o3
               have hs1 : (w.alloc MZ).heap.size ≤ wr.heap.size := hC.size
              · exact made_new ho ((hC.alloc hC.size _).drew.grown hgrow (by simp at hs1 ⊢; omega) (fun j hj => by simp only [Option.some.injEq] at hj; simp; omega))
              · exact made_set (new_b hgrow) (by omega) (fun j hj => by simp [Value.ownBlock] at hj hat; omega) ho (((hC.alloc hC.size _).alloc (by simp at hs1 ⊢; omega) _).drew.grown hgrow (by simp at hs1 ⊢; omega) (fun j hj => by simp only [Option.some.injEq] at hj; simp; omega))
              · exact made_set (new_a hgrow) (by omega) (fun j hj => by simp [Value.ownBlock] at hj hat; omega) ho (((hC.alloc hC.size _).alloc (by simp at hs1 ⊢; omega) _).drew.grown hgrow (by simp at hs1 ⊢; omega) (fun j hj => by simp only [Option.some.injEq] at hj; simp; omega))
          case rest =>
            clear hown hC y0 y1 y2 hgl hrow r0 r1 r2 r3 hf hsz zb
            obtain ⟨A, v, rfl, hA, ho, hC⟩ := hcut
            obtain ⟨m0, m1, m2, m3⟩ := mb_cells hA
            clear hA
            obtain ⟨a', c', rfl⟩ := owns_slice ho
            have hwsl : ws.length ≤ 5 := by have := HL.out; omega
            have hrow0 : Row .u8 wc a bs := ha.below (bel_trans bA hC)
            have hrow : Row .u8 wc.drew a bs := hrow0
            have hcb := conv_row hrow n ca HN.out
            have hqw : Row .i64 wc.drew a' ws := owns_row' ho (by omega)
            have hml := msgB_len x0 x1 (x2 == 1) ws
            have hmby := msgB_bytes x0 x1 (x2 == 1) ws
            obtain ⟨M, hMM0⟩ : ∃ M, msgB x0 x1 (x2 == 1) ws = M := ⟨_, rfl⟩
            have hMM : Hid (msgB x0 x1 (x2 == 1) ws = M) := hMM0
            rw [hMM0] at hml hmby
            clear hMM0 hrow0
            have HNo : Hid (M ≠ bs → NoMsg bs) := by
              intro h
              obtain ⟨hN, R, hbs, hat⟩ := HRD.out
              exact no_long hN hbs (by have := HL.out; simp; omega)
            by_cases hM0 : M = bs
            · have hM : Hid (msgB x0 x1 (x2 == 1) ws = bs) := hMM.out.trans hM0
              have hbl21 : bs.length ≤ 140737488351232 := by rw [HN.out]; exact hnl
              clear hmby hMM hM0 hml
              go_wp2_with fail
              go_region_with ((go_at_call 7; refine (specBytes_any x0 x1 (x2 == 1) a' c' ws _ ?_).mono ?_; exact hqw; rintro e w6 ⟨vB, rfl, oB, b6⟩; rw [hM.out] at oB; obtain ⟨aB, cB, rfl⟩ := owns_slice oB; have hcB := conv_row (owns_row' oB hbl21) bs.length cB rfl; have hcb6 := conv_row (hrow.below b6) n ca HN.out; have C6 := bel_trans hC (bel_undrew b6); obtain ⟨r0, r1, r2, r3, zb⟩ := box4 C6; have m0 := cell_later (bel_undrew b6) m0; have m1 := cell_later (bel_undrew b6) m1; have m2 := cell_later (bel_undrew b6) m2; have m3 := cell_later (bel_undrew b6) m3; have hf6 : ∀ o, w6.frozen? ⟨w.heap.size, o, none⟩ = false := (fun o => by rw [C6.frozen (p := ⟨w.heap.size, o, none⟩) (by simp)]; simp)))
              all_goals
                have HRes : Hid (Res bs x0 x1 (x2 == 1) ws true) := by
                  have hne : bs ≠ [] := by
                    obtain ⟨hN, R, hbs, hat⟩ := HRD.out
                    intro hbe
                    rw [hbe] at hbs
                    have := congrArg List.length hbs
                    rw [List.length_append, flatB_cons, List.length_append] at this
                    have h2 := (enc_len 2 x0).1
                    simp at this
                    omega
                  by_cases hok : msgOkB x0 x1 (x2 == 1) ws = true
                  · exact .inl ⟨rfl, hok, hM.out⟩
                  · exfalso
                    apply hne
                    rw [← hM.out]
                    unfold msgB
                    rw [if_neg hok]
                have o6 := owns_below ho (bel_undrew b6)
                have l6 := fun j h => (o6.lt j h).1
                have B6 := bel_trans bA C6
                clear oB b6 hcB hcb6 hcb hrow hqw ho hC C6 HRD hM
                go_wp2
                refine bodyPost_ret (v := .tuple #[.agg #[.int .i64 x0, .int .i64 x1, .bool (x2 == 1), .slice a' ws.length c'], .bool true]) (by simp [results, Try.results12, go_sem, r0, r1, r2, r3]) rfl (OfPost.yes HRes.out ?_ ?_)
                · refine owns_setCell (owns_setCell (owns_setCell (owns_setCell (owns_base o6 (by omega)) ?_ _) ?_ _) ?_ _) ?_ _
                  all_goals (intro j h; have := l6 j h; simp; omega)
                · refine bel_setCell (bel_setCell (bel_setCell (bel_setCell B6 _ _ ?_) _ _ ?_) _ _ ?_) _ _ ?_
                  all_goals simp
            · have HF : Hid (NoMsg bs) := HNo.out hM0
              have hneq := list_ne hmby hby hM0
              go_wp2_with fail
              go_region_with ((go_at_call 7; refine (specBytes_any x0 x1 (x2 == 1) a' c' ws _ ?_).mono ?_; exact hqw; rintro e w6 ⟨vB, rfl, oB, b6⟩; rw [hMM.out] at oB; obtain ⟨aB, cB, rfl⟩ := owns_slice oB; have hcB := conv_row (owns_row' oB (by omega)) M.length cB rfl; have hcb6 := conv_row (hrow.below b6) n ca HN.out; have C6 := bel_trans hC (bel_undrew b6); obtain ⟨r0, r1, r2, r3, zb⟩ := box4 C6; have m0 := cell_later (bel_undrew b6) m0; have m1 := cell_later (bel_undrew b6) m1; have m2 := cell_later (bel_undrew b6) m2; have m3 := cell_later (bel_undrew b6) m3; have hf6 : ∀ o, w6.frozen? ⟨w.heap.size, o, none⟩ = false := (fun o => by rw [C6.frozen (p := ⟨w.heap.size, o, none⟩) (by simp)]; simp)))
              all_goals
                have B6 := bel_trans bA C6
                clear oB b6 hcB hcb6 hcb hrow hqw ho hC C6 HRD
                go_wp2
                refine bodyPost_ret (v := .tuple #[.agg #[.int .i64 0, .int .i64 0, .bool false, .slice none 0 0], .bool false]) (by simp [results, Try.results12, go_sem, r0, r1, r2, r3]) rfl (OfPost.no HF.out ?_)
                refine bel_setCell (bel_setCell (bel_setCell (bel_setCell B6 _ _ ?_) _ _ ?_) _ _ ?_) _ _ ?_
                all_goals simp
end Go.Proofs.Ytbihhndpjpdbmaa
