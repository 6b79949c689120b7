/- What l9DrawMem draws: a memory of 24 words (written by mkdk.py). -/
import Derived.Test.YtkamhinklhcbaaaDrawI2
import Derived.Test.YtkamhinklhcbaaaDrawM
namespace Go.Proofs.Ytkamhinklhcbaaa
open Go.RowKit
set_option linter.unusedVariables false

theorem code_range (op r a b n : Int) : 0 ≤ (if insB op r a b n then codeW op r a b n else 0) ∧ (if insB op r a b n then codeW op r a b n else 0) ≤ 65535 := by
  cases h : insB op r a b n
  · simp
  · obtain ⟨⟨o1, o2⟩, ⟨r1, r2⟩, ⟨a1, a2⟩, ⟨b1, b2⟩, ⟨n1, n2⟩⟩ := ins_le h
    simp only [if_true]
    unfold codeW
    omega
def Wds (xs : List Int) : Prop := ∀ x ∈ xs, 0 ≤ x ∧ x ≤ 65535
theorem Wds.snoc {xs : List Int} (h : Wds xs) {x : Int} (hx : 0 ≤ x ∧ x ≤ 65535) : Wds (xs ++ [x]) := fun y hy => by
  rcases List.mem_append.1 hy with h1 | h1
  · exact h y h1
  · rw [List.mem_singleton] at h1
    subst h1
    exact hx
theorem Wds.set {xs : List Int} (h : Wds xs) {x : Int} (hx : 0 ≤ x ∧ x ≤ 65535) (k : Nat) : Wds (xs.set k x) := fun y hy => by
  rcases List.mem_or_eq_of_mem_set hy with h1 | h1
  · exact h y h1
  · subst h1; exact hx
/-- A drawn memory, owned, beside the cursor. -/
structure DK (w0 w : World) (r : Nat) (a : Option Addr) (n ca : Nat) (xs : List Int) (g c : Nat) : Prop where
  l : xs.length = 24
  ws : Wds xs
  o : w.ownsRow w0.heap.size 3 1 (.slice (some ⟨g, 0, none⟩) 24 c) 24 (xs.map (Value.int .i64))
  C : Cur w r a n ca
  gr : w0.grownBy w (some r)
  r0 : r < w0.heap.size
theorem DK.below {w0 w w' : World} {r : Nat} {a : Option Addr} {n ca : Nat} {xs : List Int} {g c : Nat} (h : DK w0 w r a n ca xs g c) (b : Below w.heap.size w w') : DK w0 w' r a n ca xs g c :=
  ⟨h.l, h.ws, owns_below h.o b, h.C.below b, grownBy_trans h.gr (bel_grown b), h.r0⟩
theorem DK.lt {w0 w : World} {r : Nat} {a : Option Addr} {n ca : Nat} {xs : List Int} {g c : Nat} (h : DK w0 w r a n ca xs g c) : w0.heap.size ≤ g ∧ g < w.heap.size := World.ownsRow.lt h.o g rfl
theorem DK.cell {w0 w : World} {r : Nat} {a : Option Addr} {n ca : Nat} {xs : List Int} {g c : Nat} (h : DK w0 w r a n ca xs g c) {k : Nat} (hk : k < 24) : ∃ u, w.cell? ⟨g, k, none⟩ = some u := cell_row h.o hk
theorem DK.frozen {w0 w : World} {r : Nat} {a : Option Addr} {n ca : Nat} {xs : List Int} {g c : Nat} (h : DK w0 w r a n ca xs g c) (k : Nat) : w.frozen? ⟨g, k, none⟩ = false := h.o.frozenAt k
theorem DK.put {w0 w : World} {r : Nat} {a : Option Addr} {n ca : Nat} {xs : List Int} {g c : Nat} (h : DK w0 w r a n ca xs g c) {k : Nat} {v : Int} (hv : 0 ≤ v ∧ v ≤ 65535) : DK w0 (w.setCell ⟨g, k, none⟩ (.int .i64 v)) r a n ca (xs.set k v) g c := by
  have hg := h.lt.1
  have h0 := h.r0
  refine ⟨by rw [List.length_set]; exact h.l, h.ws.set hv k, ?_, h.C.off _ _ (by simp; omega), gr_off h.gr _ _ hg, h.r0⟩
  have := (h.o.stored k (.int .i64 v)).1
  rw [List.map_set]
  exact this
theorem DK.grown {w0 w w' : World} {r : Nat} {a : Option Addr} {n ca : Nat} {xs : List Int} {g c : Nat} (h : DK w0 w r a n ca xs g c) (C : Cur w' r a n ca) (k : w.grownBy w' (some r)) : DK w0 w' r a n ca xs g c :=
  ⟨h.l, h.ws, owns_ne h.o k (fun j hj he => by simp at he; have := h.r0; have := (World.ownsRow.lt h.o j hj).1; omega), C, grownBy_trans h.gr k, h.r0⟩
/-- What l9DrawMem gives. -/
def MemP (r : Nat) (a : Option Addr) (n ca : Nat) (w : World) (e : Ending) (w' : World) : Prop :=
  ∃ (g c : Nat) (xs : List Int), e = .returned (.slice (some ⟨g, 0, none⟩) 24 c) ∧ DK w w' r a n ca xs g c

set_option maxRecDepth 100000 in
set_option maxHeartbeats 8000000 in
theorem l9DrawMem_any (r : Nat) (a : Option Addr) (ca : Nat) (bs : List Int) (w : World) (hC : Cur w r a bs.length ca) (ha : Row .u8 w a bs) (hne : 0 < bs.length → ∀ x, a = some x → x.block ≠ r) :
    Calls Try.prog 75 #[.pointer (some ⟨r, 0, none⟩)] w fun e w' => MemP r a bs.length ca w e w' := by
  obtain ⟨i0, hi, hz0, hz1, hz2⟩ := info_parts info_i64
  have zC := hC.lt
  have oL : (w.alloc (.cells #[] 3)).ownsRow w.heap.size 3 1 (.slice (some ⟨w.heap.size, 0, none⟩) 0 0) 0 [] := World.ownsRow_lit w #[] 0 (by omega) (by simp [maxLen]) rfl
  have bL := bel_alloc (Below.refl w.heap.size w) (.cells #[] 3)
  have hC1 := hC.below bL
  have g1 := World.grownBy_alloc w (.cells #[] 3) (some r)
  go_enter Try.func75, Try.ntmps75
  go_wp2_with fail
  go_loopw [3, 4] (fun v i wr => ∃ (j : Nat) (xs : List Int), j ≤ 24 ∧ i = .int .i64 j ∧ xs.length = j ∧ Wds xs ∧ wr.ownsRow w.heap.size 3 1 v xs.length (xs.map (Value.int .i64)) ∧ Cur wr r a bs.length ca ∧ w.grownBy wr (some r)) (fun _ i _ => 24 - (intOf i).toNat)
  case atStart => exact ⟨0, [], by omega, rfl, rfl, fun x hx => by simp at hx, by simpa using oL, hC1, g1⟩
  case round =>
    obtain ⟨j, xs, hj, rfl, hxl, hws, hr, hCr, gr⟩ := hrel
    have HXL : Hid (xs.length = j) := hxl
    have HWS : Hid (Wds xs) := hws
    have hx4 : xs.length ≤ 24 := by omega
    clear hxl hws
    clear oL hC1 g1 bL
    have zr := hCr.lt
    by_cases hj4 : (j : Int) < 24
    · obtain ⟨ab, cb, rfl⟩ := owns_slice hr
      have hlo : Hid (∀ k, (Value.slice ab xs.length cb).ownBlock = some k → w.heap.size ≤ k) := fun k hk => (hr.lt k hk).1
      have HR : Hid (wr.ownsRow w.heap.size 3 1 (.slice ab xs.length cb) xs.length (xs.map (Value.int .i64))) := hr
      have HG : Hid (w.grownBy wr (some r)) := gr
      clear hr gr
      go_wp2_with fail
      refine (l8DrawIns_any r a ca bs _ hCr (ha.kept2 HG.out hne) hne).mono ?_
      rintro e w1 ⟨op, r', a', b', n', rfl, hC2, g2⟩
      go_wp2_with fail
      refine (specCode_any op r' a' b' n' _).mono ?_
      rintro e w2 ⟨rfl, b2⟩
      have HO2 : Hid (w2.ownsRow w.heap.size 3 1 (.slice ab xs.length cb) xs.length (xs.map (Value.int .i64))) := owns_below (owns_ne HR.out g2 (fun k hk he => by simp at he; have := hlo.out k hk; omega)) b2
      have HC2 : Hid (Cur w2 r a bs.length ca) := hC2.below b2
      have HG2 : Hid (w.grownBy w2 (some r)) := grownBy_trans (grownBy_trans HG.out g2) (bel_grown b2)
      obtain ⟨cv, hcv⟩ : ∃ cv, (if insB op r' a' b' n' then codeW op r' a' b' n' else 0) = cv := ⟨_, rfl⟩
      have hcr := code_range op r' a' b' n'
      rw [hcv] at hcr ⊢
      have HCR : Hid (0 ≤ cv ∧ cv ≤ 65535) := hcr
      generalize insB op r' a' b' n' = zb
      clear HR HG hCr hC2 g2 b2 hcv hcr
      by_cases h15 : (15 : Int) < (j : Int)
      · go_wp2_with fail
        have bx := bel_alloc (Below.refl w2.heap.size w2) (.cells #[.int .i64 0, .int .i64 1, .int .i64 5, .int .i64 65535] 3)
        have hrow := row_lit w2 [0, 1, 5, 65535] (by simp)
        have har := ((ha.kept2 HG2.out hne).below bx)
        have zz := HG2.out.size
        have zc := HC2.out.lt
        refine (l1Pick_any r a ca bs (some ⟨w2.heap.size, 0, none⟩) 4 [0, 1, 5, 65535] _ (by simp) (by simp) hrow (fun x hx => by simp at hx; subst hx; simp; omega) (HC2.out.below bx) har hne).mono ?_
        rintro e w7 ⟨x, hx, rfl, hC7, g7⟩
        have HX7 : Hid (0 ≤ x ∧ x ≤ 65535) := by show _ ∧ _; simp at hx; omega
        have HO7 : Hid (w7.ownsRow w.heap.size 3 1 (.slice ab xs.length cb) xs.length (xs.map (Value.int .i64))) := owns_ne (owns_below HO2.out bx) g7 (fun k hk he => by simp at he; have := hlo.out k hk; omega)
        have HG7 : Hid (w.grownBy w7 (some r)) := grownBy_trans (grownBy_trans HG2.out (World.grownBy_alloc w2 _ (some r))) g7
        have HC7 : Hid (Cur w7 r a bs.length ca) := hC7
        clear bx hrow har g7 hx hC7 zz zc
        have hr2x := HO7.out.alloc (.cells #[.int .i64 x] 3)
        have zz := HG7.out.size
        go_wp2_with (at_builtin; refine wpList_append_own _ rfl (.tmp 31) (.tmp 33) 82 rfl w.heap.size 3 i0 (.int .i64 0) 1 8 Try.underlying82 hi hz0 hz1 hz2 rfl (by decide) _ _ _ rfl hr2x ⟨w7.heap.size, 0, none⟩ 1 1 [.int .i64 x] rfl rfl (new_i64 _ _) ?c2 ?c3 ?c4 ?c5 ?_)
        case c2 => intro u hu; simp at hu; subst hu; rfl
        case c3 => unfold maxLen; omega
        case c4 => omega
        case c5 => simp; omega
        · intro v' w9 o9 g9 _
          have b9 := bel_alloc (Below.refl w7.heap.size w7) (.cells #[.int .i64 x] 3)
          have HC9 : Hid (Cur w9 r a bs.length ca) := (HC7.out.below b9).kept g9 (fun k hk => by have := hlo.out k hk; omega)
          have HG9 : Hid (w.grownBy w9 (some r)) := old_grown (gr_alloc HG7.out (.cells #[.int .i64 x] 3)) g9 (fun k hk => hlo.out k hk)
          have HO9 : Hid (w9.ownsRow w.heap.size 3 1 v' (xs ++ [x]).length ((xs ++ [x]).map (Value.int .i64))) := by show World.ownsRow _ _ _ _ _ _ _; simpa using o9
          have HL9 : Hid ((xs ++ [x]).length = j + 1) := by show _ = _; simp [HXL.out]
          have HW9 : Hid (Wds (xs ++ [x])) := HWS.out.snoc HX7.out
          clear g9 b9 o9 hr2x
          go_wp2
          go_roundw
          case rel => exact ⟨j + 1, _, by omega, by go_num, HL9.out, HW9.out, HO9.out, HC9.out, HG9.out⟩
          case measure => simp [intOf]; omega
      · go_wp2_with fail
        refine (l1Once_any r a ca bs 9 _ (by omega) (by omega) HC2.out (ha.kept2 HG2.out hne) hne).mono ?_
        rintro e w3 ⟨q, rfl, hC3, g3⟩
        have HO3 : Hid (w3.ownsRow w.heap.size 3 1 (.slice ab xs.length cb) xs.length (xs.map (Value.int .i64))) := owns_ne HO2.out g3 (fun k hk he => by simp at he; have := hlo.out k hk; omega)
        have HG3 : Hid (w.grownBy w3 (some r)) := grownBy_trans HG2.out g3
        have HC3 : Hid (Cur w3 r a bs.length ca) := hC3
        clear HO2 HC2 HG2 g3 hC3
        cases hq : ((q : Int) == 0)
        · clear hq
          have hr2x := HO3.out.alloc (.cells #[.int .i64 cv] 3)
          have zz := HG3.out.size
          go_wp2_with (at_builtin; refine wpList_append_own _ rfl (.tmp 31) (.tmp 33) 82 rfl w.heap.size 3 i0 (.int .i64 0) 1 8 Try.underlying82 hi hz0 hz1 hz2 rfl (by decide) _ _ _ rfl hr2x ⟨w3.heap.size, 0, none⟩ 1 1 [.int .i64 cv] rfl rfl (new_i64 _ _) ?c2 ?c3 ?c4 ?c5 ?_)
          case c2 => intro u hu; simp at hu; subst hu; rfl
          case c3 => unfold maxLen; omega
          case c4 => omega
          case c5 => simp; omega
          · intro v' w9 o9 g9 _
            have b9 := bel_alloc (Below.refl w3.heap.size w3) (.cells #[.int .i64 cv] 3)
            have HC9 : Hid (Cur w9 r a bs.length ca) := (HC3.out.below b9).kept g9 (fun k hk => by have := hlo.out k hk; omega)
            have HG9 : Hid (w.grownBy w9 (some r)) := old_grown (gr_alloc HG3.out (.cells #[.int .i64 cv] 3)) g9 (fun k hk => hlo.out k hk)
            have HO9 : Hid (w9.ownsRow w.heap.size 3 1 v' (xs ++ [cv]).length ((xs ++ [cv]).map (Value.int .i64))) := by show World.ownsRow _ _ _ _ _ _ _; simpa using o9
            have HL9 : Hid ((xs ++ [cv]).length = j + 1) := by show _ = _; simp [HXL.out]
            have HW9 : Hid (Wds (xs ++ [cv])) := HWS.out.snoc HCR.out
            clear g9 b9 o9 hr2x
            go_wp2
            go_roundw
            case rel => exact ⟨j + 1, _, by omega, by go_num, HL9.out, HW9.out, HO9.out, HC9.out, HG9.out⟩
            case measure => simp [intOf]; omega
        · clear hq
          go_wp2_with fail
          have bx := bel_alloc (Below.refl w3.heap.size w3) (.cells #[.int .i64 0, .int .i64 1, .int .i64 5, .int .i64 65535] 3)
          have hrow := row_lit w3 [0, 1, 5, 65535] (by simp)
          have har := ((ha.kept2 HG3.out hne).below bx)
          have zz := HG3.out.size
          have zc := HC3.out.lt
          refine (l1Pick_any r a ca bs (some ⟨w3.heap.size, 0, none⟩) 4 [0, 1, 5, 65535] _ (by simp) (by simp) hrow (fun x hx => by simp at hx; subst hx; simp; omega) (HC3.out.below bx) har hne).mono ?_
          rintro e w7 ⟨x, hx, rfl, hC7, g7⟩
          have HX7 : Hid (0 ≤ x ∧ x ≤ 65535) := by show _ ∧ _; simp at hx; omega
          have HO7 : Hid (w7.ownsRow w.heap.size 3 1 (.slice ab xs.length cb) xs.length (xs.map (Value.int .i64))) := owns_ne (owns_below HO3.out bx) g7 (fun k hk he => by simp at he; have := hlo.out k hk; omega)
          have HG7 : Hid (w.grownBy w7 (some r)) := grownBy_trans (grownBy_trans HG3.out (World.grownBy_alloc w3 _ (some r))) g7
          have HC7 : Hid (Cur w7 r a bs.length ca) := hC7
          clear bx hrow har g7 hx hC7 zz zc
          have hr2x := HO7.out.alloc (.cells #[.int .i64 x] 3)
          have zz := HG7.out.size
          go_wp2_with (at_builtin; refine wpList_append_own _ rfl (.tmp 31) (.tmp 33) 82 rfl w.heap.size 3 i0 (.int .i64 0) 1 8 Try.underlying82 hi hz0 hz1 hz2 rfl (by decide) _ _ _ rfl hr2x ⟨w7.heap.size, 0, none⟩ 1 1 [.int .i64 x] rfl rfl (new_i64 _ _) ?c2 ?c3 ?c4 ?c5 ?_)
          case c2 => intro u hu; simp at hu; subst hu; rfl
          case c3 => unfold maxLen; omega
          case c4 => omega
          case c5 => simp; omega
          · intro v' w9 o9 g9 _
            have b9 := bel_alloc (Below.refl w7.heap.size w7) (.cells #[.int .i64 x] 3)
            have HC9 : Hid (Cur w9 r a bs.length ca) := (HC7.out.below b9).kept g9 (fun k hk => by have := hlo.out k hk; omega)
            have HG9 : Hid (w.grownBy w9 (some r)) := old_grown (gr_alloc HG7.out (.cells #[.int .i64 x] 3)) g9 (fun k hk => hlo.out k hk)
            have HO9 : Hid (w9.ownsRow w.heap.size 3 1 v' (xs ++ [x]).length ((xs ++ [x]).map (Value.int .i64))) := by show World.ownsRow _ _ _ _ _ _ _; simpa using o9
            have HL9 : Hid ((xs ++ [x]).length = j + 1) := by show _ = _; simp [HXL.out]
            have HW9 : Hid (Wds (xs ++ [x])) := HWS.out.snoc HX7.out
            clear g9 b9 o9 hr2x
            go_wp2
            go_roundw
            case rel => exact ⟨j + 1, _, by omega, by go_num, HL9.out, HW9.out, HO9.out, HC9.out, HG9.out⟩
            case measure => simp [intOf]; omega
    · have hj24 : xs.length = 24 := by have := HXL.out; omega
      obtain ⟨ab, cb, rfl⟩ := owns_slice hr
      obtain ⟨g, rfl⟩ := owns_addr hr (by omega)
      have HK1 : Hid (DK w wr r a bs.length ca xs g cb) := ⟨hj24, HWS.out, by rw [hj24] at hr; exact hr, hCr, gr, zC⟩
      clear hr hCr gr
      rw [hj24]
      go_wp2_with fail
      refine (l1Below_any r a ca bs 4 _ (by omega) (by omega) HK1.out.C (ha.kept2 HK1.out.gr hne) hne).mono ?_
      rintro e w2 ⟨q, rfl, hq, hC2, g2⟩
      have HK : Hid (DK w w2 r a bs.length ca xs g cb) := HK1.out.grown hC2 g2
      clear HK1 hC2 g2
      by_cases q0 : q = 0
      · subst q0
        have XL := Box.new w2 #[.int .i64 1, .int .i64 1, .int .i64 0, .int .i64 0, .int .i64 1, .int .i64 6, .int .i64 2, .int .i64 0, .int .i64 1, .int .i64 20, .int .i64 10, .int .i64 3, .int .i64 2, .int .i64 1, .int .i64 0, .int .i64 8, .int .i64 0, .int .i64 0, .int .i64 0, .int .i64 1] 38
        have bL2 := bel_alloc (Below.refl w2.heap.size w2) (.cells #[.int .i64 1, .int .i64 1, .int .i64 0, .int .i64 0, .int .i64 1, .int .i64 6, .int .i64 2, .int .i64 0, .int .i64 1, .int .i64 20, .int .i64 10, .int .i64 3, .int .i64 2, .int .i64 1, .int .i64 0, .int .i64 8, .int .i64 0, .int .i64 0, .int .i64 0, .int .i64 1] 38)
        have H0 : Hid (DK w (w2.alloc (.cells #[.int .i64 1, .int .i64 1, .int .i64 0, .int .i64 0, .int .i64 1, .int .i64 6, .int .i64 2, .int .i64 0, .int .i64 1, .int .i64 20, .int .i64 10, .int .i64 3, .int .i64 2, .int .i64 1, .int .i64 0, .int .i64 8, .int .i64 0, .int .i64 0, .int .i64 0, .int .i64 1] 38)) r a bs.length ca xs g cb) := HK.out.below bL2
        have HX0 : Hid (Box _ w2.heap.size #[.int .i64 1, .int .i64 1, .int .i64 0, .int .i64 0, .int .i64 1, .int .i64 6, .int .i64 2, .int .i64 0, .int .i64 1, .int .i64 20, .int .i64 10, .int .i64 3, .int .i64 2, .int .i64 1, .int .i64 0, .int .i64 8, .int .i64 0, .int .i64 0, .int .i64 0, .int .i64 1] 38) := XL
        have hgl : g < w2.heap.size := HK.out.lt.2
        clear XL bL2
        go_wp2_with fail
        go_loopw [8] (fun i wr => ∃ (j : Nat) (ys : List Int), j ≤ 4 ∧ i = .int .i64 j ∧ DK w wr r a bs.length ca ys g cb ∧ Box wr w2.heap.size #[.int .i64 1, .int .i64 1, .int .i64 0, .int .i64 0, .int .i64 1, .int .i64 6, .int .i64 2, .int .i64 0, .int .i64 1, .int .i64 20, .int .i64 10, .int .i64 3, .int .i64 2, .int .i64 1, .int .i64 0, .int .i64 8, .int .i64 0, .int .i64 0, .int .i64 0, .int .i64 1] 38) (fun i _ => 4 - (intOf i).toNat)
        case atStart => exact ⟨0, xs, by omega, rfl, H0.out, HX0.out⟩
        case round =>
          obtain ⟨j, ys, hj, rfl, hK, hX⟩ := hrel
          clear H0 HX0
          have HK2 : Hid (DK w wr r a bs.length ca ys g cb) := hK
          have HX : Hid (Box wr w2.heap.size #[.int .i64 1, .int .i64 1, .int .i64 0, .int .i64 0, .int .i64 1, .int .i64 6, .int .i64 2, .int .i64 0, .int .i64 1, .int .i64 20, .int .i64 10, .int .i64 3, .int .i64 2, .int .i64 1, .int .i64 0, .int .i64 8, .int .i64 0, .int .i64 0, .int .i64 0, .int .i64 1] 38) := hX
          have xz := hX.lt
          by_cases h4 : j < 4
          · obtain rfl | rfl | rfl | rfl : j = 0 ∨ j = 1 ∨ j = 2 ∨ j = 3 := by omega
            · have x0 := hX.cell 0
              have x1 := hX.cell 1
              have x2 := hX.cell 2
              have x3 := hX.cell 3
              have x4 := hX.cell 4
              simp only [List.getElem?_toArray, List.getElem?_cons_succ, List.getElem?_cons_zero] at x0 x1 x2 x3 x4
              clear hK hX
              go_wp2_with fail
              refine (specCode_any 1 1 0 0 1 _).mono ?_
              rintro e w3 ⟨rfl, b3⟩
              obtain ⟨cv, hcv⟩ : ∃ cv, (if insB 1 1 0 0 1 then codeW 1 1 0 0 1 else 0) = cv := ⟨_, rfl⟩
              have hcr := code_range 1 1 0 0 1
              rw [hcv] at hcr ⊢
              generalize insB 1 1 0 0 1 = zb
              have HK3 : Hid (DK w w3 r a bs.length ca ys g cb) := HK2.out.below b3
              have HX3 : Hid (Box w3 w2.heap.size _ 38) := HX.out.below b3
              obtain ⟨uc, hu⟩ := HK3.out.cell (k := 0) (by omega)
              have hf := HK3.out.frozen 0
              have HQ : Hid (DK w (w3.setCell ⟨g, 0, none⟩ (.int .i64 cv)) r a bs.length ca (ys.set 0 cv) g cb) := HK3.out.put hcr
              have HX4 : Hid (Box (w3.setCell ⟨g, 0, none⟩ (.int .i64 cv)) w2.heap.size _ 38) := HX3.out.far _ _ (by simp; omega)
              clear x0 x1 x2 x3 x4 b3 hcv hcr
              go_wp2
              go_roundw
              case rel => exact ⟨0 + 1, _, by omega, by go_num, HQ.out, HX4.out⟩
              case measure => simp [intOf]
            · have x0 := hX.cell 5
              have x1 := hX.cell 6
              have x2 := hX.cell 7
              have x3 := hX.cell 8
              have x4 := hX.cell 9
              simp only [List.getElem?_toArray, List.getElem?_cons_succ, List.getElem?_cons_zero] at x0 x1 x2 x3 x4
              clear hK hX
              go_wp2_with fail
              refine (specCode_any 6 2 0 1 20 _).mono ?_
              rintro e w3 ⟨rfl, b3⟩
              obtain ⟨cv, hcv⟩ : ∃ cv, (if insB 6 2 0 1 20 then codeW 6 2 0 1 20 else 0) = cv := ⟨_, rfl⟩
              have hcr := code_range 6 2 0 1 20
              rw [hcv] at hcr ⊢
              generalize insB 6 2 0 1 20 = zb
              have HK3 : Hid (DK w w3 r a bs.length ca ys g cb) := HK2.out.below b3
              have HX3 : Hid (Box w3 w2.heap.size _ 38) := HX.out.below b3
              obtain ⟨uc, hu⟩ := HK3.out.cell (k := 1) (by omega)
              have hf := HK3.out.frozen 1
              have HQ : Hid (DK w (w3.setCell ⟨g, 1, none⟩ (.int .i64 cv)) r a bs.length ca (ys.set 1 cv) g cb) := HK3.out.put hcr
              have HX4 : Hid (Box (w3.setCell ⟨g, 1, none⟩ (.int .i64 cv)) w2.heap.size _ 38) := HX3.out.far _ _ (by simp; omega)
              clear x0 x1 x2 x3 x4 b3 hcv hcr
              go_wp2
              go_roundw
              case rel => exact ⟨1 + 1, _, by omega, by go_num, HQ.out, HX4.out⟩
              case measure => simp [intOf]
            · have x0 := hX.cell 10
              have x1 := hX.cell 11
              have x2 := hX.cell 12
              have x3 := hX.cell 13
              have x4 := hX.cell 14
              simp only [List.getElem?_toArray, List.getElem?_cons_succ, List.getElem?_cons_zero] at x0 x1 x2 x3 x4
              clear hK hX
              go_wp2_with fail
              refine (specCode_any 10 3 2 1 0 _).mono ?_
              rintro e w3 ⟨rfl, b3⟩
              obtain ⟨cv, hcv⟩ : ∃ cv, (if insB 10 3 2 1 0 then codeW 10 3 2 1 0 else 0) = cv := ⟨_, rfl⟩
              have hcr := code_range 10 3 2 1 0
              rw [hcv] at hcr ⊢
              generalize insB 10 3 2 1 0 = zb
              have HK3 : Hid (DK w w3 r a bs.length ca ys g cb) := HK2.out.below b3
              have HX3 : Hid (Box w3 w2.heap.size _ 38) := HX.out.below b3
              obtain ⟨uc, hu⟩ := HK3.out.cell (k := 2) (by omega)
              have hf := HK3.out.frozen 2
              have HQ : Hid (DK w (w3.setCell ⟨g, 2, none⟩ (.int .i64 cv)) r a bs.length ca (ys.set 2 cv) g cb) := HK3.out.put hcr
              have HX4 : Hid (Box (w3.setCell ⟨g, 2, none⟩ (.int .i64 cv)) w2.heap.size _ 38) := HX3.out.far _ _ (by simp; omega)
              clear x0 x1 x2 x3 x4 b3 hcv hcr
              go_wp2
              go_roundw
              case rel => exact ⟨2 + 1, _, by omega, by go_num, HQ.out, HX4.out⟩
              case measure => simp [intOf]
            · have x0 := hX.cell 15
              have x1 := hX.cell 16
              have x2 := hX.cell 17
              have x3 := hX.cell 18
              have x4 := hX.cell 19
              simp only [List.getElem?_toArray, List.getElem?_cons_succ, List.getElem?_cons_zero] at x0 x1 x2 x3 x4
              clear hK hX
              go_wp2_with fail
              refine (specCode_any 8 0 0 0 1 _).mono ?_
              rintro e w3 ⟨rfl, b3⟩
              obtain ⟨cv, hcv⟩ : ∃ cv, (if insB 8 0 0 0 1 then codeW 8 0 0 0 1 else 0) = cv := ⟨_, rfl⟩
              have hcr := code_range 8 0 0 0 1
              rw [hcv] at hcr ⊢
              generalize insB 8 0 0 0 1 = zb
              have HK3 : Hid (DK w w3 r a bs.length ca ys g cb) := HK2.out.below b3
              have HX3 : Hid (Box w3 w2.heap.size _ 38) := HX.out.below b3
              obtain ⟨uc, hu⟩ := HK3.out.cell (k := 3) (by omega)
              have hf := HK3.out.frozen 3
              have HQ : Hid (DK w (w3.setCell ⟨g, 3, none⟩ (.int .i64 cv)) r a bs.length ca (ys.set 3 cv) g cb) := HK3.out.put hcr
              have HX4 : Hid (Box (w3.setCell ⟨g, 3, none⟩ (.int .i64 cv)) w2.heap.size _ 38) := HX3.out.far _ _ (by simp; omega)
              clear x0 x1 x2 x3 x4 b3 hcv hcr
              go_wp2
              go_roundw
              case rel => exact ⟨3 + 1, _, by omega, by go_num, HQ.out, HX4.out⟩
              case measure => simp [intOf]
          · obtain rfl : j = 4 := by omega
            clear hK hX
            go_wp2
            go_ret
            exact ⟨g, cb, ys, rfl, HK2.out⟩
      by_cases q1 : q = 1
      · subst q1
        have XL := Box.new w2 #[.int .i64 4, .int .i64 1, .int .i64 0, .int .i64 0, .int .i64 8, .int .i64 3, .int .i64 1, .int .i64 1, .int .i64 0, .int .i64 1, .int .i64 5, .int .i64 0, .int .i64 0, .int .i64 1, .int .i64 8, .int .i64 8, .int .i64 0, .int .i64 0, .int .i64 0, .int .i64 8] 38
        have bL2 := bel_alloc (Below.refl w2.heap.size w2) (.cells #[.int .i64 4, .int .i64 1, .int .i64 0, .int .i64 0, .int .i64 8, .int .i64 3, .int .i64 1, .int .i64 1, .int .i64 0, .int .i64 1, .int .i64 5, .int .i64 0, .int .i64 0, .int .i64 1, .int .i64 8, .int .i64 8, .int .i64 0, .int .i64 0, .int .i64 0, .int .i64 8] 38)
        have H0 : Hid (DK w (w2.alloc (.cells #[.int .i64 4, .int .i64 1, .int .i64 0, .int .i64 0, .int .i64 8, .int .i64 3, .int .i64 1, .int .i64 1, .int .i64 0, .int .i64 1, .int .i64 5, .int .i64 0, .int .i64 0, .int .i64 1, .int .i64 8, .int .i64 8, .int .i64 0, .int .i64 0, .int .i64 0, .int .i64 8] 38)) r a bs.length ca xs g cb) := HK.out.below bL2
        have HX0 : Hid (Box _ w2.heap.size #[.int .i64 4, .int .i64 1, .int .i64 0, .int .i64 0, .int .i64 8, .int .i64 3, .int .i64 1, .int .i64 1, .int .i64 0, .int .i64 1, .int .i64 5, .int .i64 0, .int .i64 0, .int .i64 1, .int .i64 8, .int .i64 8, .int .i64 0, .int .i64 0, .int .i64 0, .int .i64 8] 38) := XL
        have hgl : g < w2.heap.size := HK.out.lt.2
        clear XL bL2
        go_wp2_with fail
        go_loopw [10] (fun i wr => ∃ (j : Nat) (ys : List Int), j ≤ 4 ∧ i = .int .i64 j ∧ DK w wr r a bs.length ca ys g cb ∧ Box wr w2.heap.size #[.int .i64 4, .int .i64 1, .int .i64 0, .int .i64 0, .int .i64 8, .int .i64 3, .int .i64 1, .int .i64 1, .int .i64 0, .int .i64 1, .int .i64 5, .int .i64 0, .int .i64 0, .int .i64 1, .int .i64 8, .int .i64 8, .int .i64 0, .int .i64 0, .int .i64 0, .int .i64 8] 38) (fun i _ => 4 - (intOf i).toNat)
        case atStart => exact ⟨0, xs, by omega, rfl, H0.out, HX0.out⟩
        case round =>
          obtain ⟨j, ys, hj, rfl, hK, hX⟩ := hrel
          clear H0 HX0
          have HK2 : Hid (DK w wr r a bs.length ca ys g cb) := hK
          have HX : Hid (Box wr w2.heap.size #[.int .i64 4, .int .i64 1, .int .i64 0, .int .i64 0, .int .i64 8, .int .i64 3, .int .i64 1, .int .i64 1, .int .i64 0, .int .i64 1, .int .i64 5, .int .i64 0, .int .i64 0, .int .i64 1, .int .i64 8, .int .i64 8, .int .i64 0, .int .i64 0, .int .i64 0, .int .i64 8] 38) := hX
          have xz := hX.lt
          by_cases h4 : j < 4
          · obtain rfl | rfl | rfl | rfl : j = 0 ∨ j = 1 ∨ j = 2 ∨ j = 3 := by omega
            · have x0 := hX.cell 0
              have x1 := hX.cell 1
              have x2 := hX.cell 2
              have x3 := hX.cell 3
              have x4 := hX.cell 4
              simp only [List.getElem?_toArray, List.getElem?_cons_succ, List.getElem?_cons_zero] at x0 x1 x2 x3 x4
              clear hK hX
              go_wp2_with fail
              refine (specCode_any 4 1 0 0 8 _).mono ?_
              rintro e w3 ⟨rfl, b3⟩
              obtain ⟨cv, hcv⟩ : ∃ cv, (if insB 4 1 0 0 8 then codeW 4 1 0 0 8 else 0) = cv := ⟨_, rfl⟩
              have hcr := code_range 4 1 0 0 8
              rw [hcv] at hcr ⊢
              generalize insB 4 1 0 0 8 = zb
              have HK3 : Hid (DK w w3 r a bs.length ca ys g cb) := HK2.out.below b3
              have HX3 : Hid (Box w3 w2.heap.size _ 38) := HX.out.below b3
              obtain ⟨uc, hu⟩ := HK3.out.cell (k := 0) (by omega)
              have hf := HK3.out.frozen 0
              have HQ : Hid (DK w (w3.setCell ⟨g, 0, none⟩ (.int .i64 cv)) r a bs.length ca (ys.set 0 cv) g cb) := HK3.out.put hcr
              have HX4 : Hid (Box (w3.setCell ⟨g, 0, none⟩ (.int .i64 cv)) w2.heap.size _ 38) := HX3.out.far _ _ (by simp; omega)
              clear x0 x1 x2 x3 x4 b3 hcv hcr
              go_wp2
              go_roundw
              case rel => exact ⟨0 + 1, _, by omega, by go_num, HQ.out, HX4.out⟩
              case measure => simp [intOf]
            · have x0 := hX.cell 5
              have x1 := hX.cell 6
              have x2 := hX.cell 7
              have x3 := hX.cell 8
              have x4 := hX.cell 9
              simp only [List.getElem?_toArray, List.getElem?_cons_succ, List.getElem?_cons_zero] at x0 x1 x2 x3 x4
              clear hK hX
              go_wp2_with fail
              refine (specCode_any 3 1 1 0 1 _).mono ?_
              rintro e w3 ⟨rfl, b3⟩
              obtain ⟨cv, hcv⟩ : ∃ cv, (if insB 3 1 1 0 1 then codeW 3 1 1 0 1 else 0) = cv := ⟨_, rfl⟩
              have hcr := code_range 3 1 1 0 1
              rw [hcv] at hcr ⊢
              generalize insB 3 1 1 0 1 = zb
              have HK3 : Hid (DK w w3 r a bs.length ca ys g cb) := HK2.out.below b3
              have HX3 : Hid (Box w3 w2.heap.size _ 38) := HX.out.below b3
              obtain ⟨uc, hu⟩ := HK3.out.cell (k := 1) (by omega)
              have hf := HK3.out.frozen 1
              have HQ : Hid (DK w (w3.setCell ⟨g, 1, none⟩ (.int .i64 cv)) r a bs.length ca (ys.set 1 cv) g cb) := HK3.out.put hcr
              have HX4 : Hid (Box (w3.setCell ⟨g, 1, none⟩ (.int .i64 cv)) w2.heap.size _ 38) := HX3.out.far _ _ (by simp; omega)
              clear x0 x1 x2 x3 x4 b3 hcv hcr
              go_wp2
              go_roundw
              case rel => exact ⟨1 + 1, _, by omega, by go_num, HQ.out, HX4.out⟩
              case measure => simp [intOf]
            · have x0 := hX.cell 10
              have x1 := hX.cell 11
              have x2 := hX.cell 12
              have x3 := hX.cell 13
              have x4 := hX.cell 14
              simp only [List.getElem?_toArray, List.getElem?_cons_succ, List.getElem?_cons_zero] at x0 x1 x2 x3 x4
              clear hK hX
              go_wp2_with fail
              refine (specCode_any 5 0 0 1 8 _).mono ?_
              rintro e w3 ⟨rfl, b3⟩
              obtain ⟨cv, hcv⟩ : ∃ cv, (if insB 5 0 0 1 8 then codeW 5 0 0 1 8 else 0) = cv := ⟨_, rfl⟩
              have hcr := code_range 5 0 0 1 8
              rw [hcv] at hcr ⊢
              generalize insB 5 0 0 1 8 = zb
              have HK3 : Hid (DK w w3 r a bs.length ca ys g cb) := HK2.out.below b3
              have HX3 : Hid (Box w3 w2.heap.size _ 38) := HX.out.below b3
              obtain ⟨uc, hu⟩ := HK3.out.cell (k := 2) (by omega)
              have hf := HK3.out.frozen 2
              have HQ : Hid (DK w (w3.setCell ⟨g, 2, none⟩ (.int .i64 cv)) r a bs.length ca (ys.set 2 cv) g cb) := HK3.out.put hcr
              have HX4 : Hid (Box (w3.setCell ⟨g, 2, none⟩ (.int .i64 cv)) w2.heap.size _ 38) := HX3.out.far _ _ (by simp; omega)
              clear x0 x1 x2 x3 x4 b3 hcv hcr
              go_wp2
              go_roundw
              case rel => exact ⟨2 + 1, _, by omega, by go_num, HQ.out, HX4.out⟩
              case measure => simp [intOf]
            · have x0 := hX.cell 15
              have x1 := hX.cell 16
              have x2 := hX.cell 17
              have x3 := hX.cell 18
              have x4 := hX.cell 19
              simp only [List.getElem?_toArray, List.getElem?_cons_succ, List.getElem?_cons_zero] at x0 x1 x2 x3 x4
              clear hK hX
              go_wp2_with fail
              refine (specCode_any 8 0 0 0 8 _).mono ?_
              rintro e w3 ⟨rfl, b3⟩
              obtain ⟨cv, hcv⟩ : ∃ cv, (if insB 8 0 0 0 8 then codeW 8 0 0 0 8 else 0) = cv := ⟨_, rfl⟩
              have hcr := code_range 8 0 0 0 8
              rw [hcv] at hcr ⊢
              generalize insB 8 0 0 0 8 = zb
              have HK3 : Hid (DK w w3 r a bs.length ca ys g cb) := HK2.out.below b3
              have HX3 : Hid (Box w3 w2.heap.size _ 38) := HX.out.below b3
              obtain ⟨uc, hu⟩ := HK3.out.cell (k := 3) (by omega)
              have hf := HK3.out.frozen 3
              have HQ : Hid (DK w (w3.setCell ⟨g, 3, none⟩ (.int .i64 cv)) r a bs.length ca (ys.set 3 cv) g cb) := HK3.out.put hcr
              have HX4 : Hid (Box (w3.setCell ⟨g, 3, none⟩ (.int .i64 cv)) w2.heap.size _ 38) := HX3.out.far _ _ (by simp; omega)
              clear x0 x1 x2 x3 x4 b3 hcv hcr
              go_wp2
              go_roundw
              case rel => exact ⟨3 + 1, _, by omega, by go_num, HQ.out, HX4.out⟩
              case measure => simp [intOf]
          · obtain rfl : j = 4 := by omega
            clear hK hX
            go_wp2
            go_ret
            exact ⟨g, cb, ys, rfl, HK2.out⟩
      have e0 : ((q : Int) == 0) = false := by simp; omega
      have e1 : ((q : Int) == 1) = false := by simp; omega
      go_wp2
      go_ret
      exact ⟨g, cb, xs, rfl, HK.out⟩
end Go.Proofs.Ytkamhinklhcbaaa
