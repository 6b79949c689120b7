/- For every list of bytes the law FnNums returns true: a drawn number is read from its bytes as it was; bytes that are read are those of the number. Conditions: none. -/
import Derived.Test.YtbikiffgeinnnaaDrawN
import Derived.Test.YtbikiffgeinnnaaImplGet
import Derived.Test.YtbikiffgeinnnaaSpecGet
import Derived.Test.YtbikiffgeinnnaaParse
import Derived.Test.YtbikiffgeinnnaaSpecOfL
import Derived.Test.YtbikiffgeinnnaaOpen
import Derived.Laws.BytesArg
import Derived.Laws.Strings
import Derived.Deep.RegionWith
import Derived.BigRegion
import Derived.Deep.RegionHeld3
import Derived.Deep.DeepCutAuto
namespace Go.Proofs.Ytbikiffgeinnnaa
open Go.ChangeShapes Go.WideShapes Go.ChangeAt Go.RowKit
set_option linter.unusedVariables false

theorem big_any (a : Option Addr) (n ca : Nat) (w : World) (hl : (n : Int) ≤ 1048576) :
    Calls Try.prog 8 #[.slice a n ca] w fun e w' => e = .returned (.bool false) ∧ w' = w := by
  go_enter Try.func8, Try.ntmps8
  go_wp2
  go_ret
  exact ⟨ret_bool (by simp; omega), rfl⟩

set_option maxHeartbeats 400000 in
theorem at1_any (a : Option Addr) (ca : Nat) (bs : List Int) (w : World) (hl : bs.length ≤ 1048576) (ha : Row .u8 w a bs) (hby : Bytes bs) :
    Calls Try.prog 23 #[.slice a bs.length ca, .int .i64 1] w fun e w' => ∃ x : Int, e = .returned (.int .i64 x) ∧ 0 ≤ x ∧ x < 256 ∧ w' = w := by
  by_cases h1 : 1 < bs.length
  · obtain ⟨b, off, rfl, hc⟩ := ha.2 1 h1
    have hv := hby.at 1 h1
    have h1' : (1 : Int) < bs.length := by omega
    obtain ⟨y, hy⟩ : ∃ y, bs.getD 1 0 = y := ⟨_, rfl⟩
    rw [hy] at hc hv
    clear ha hby
    go_enter Try.func23, Try.ntmps23
    go_wp2
    go_ret
    exact ⟨y, rfl, hv.1, hv.2, rfl⟩
  · have h1' : (bs.length : Int) ≤ 1 := by omega
    clear ha hby
    go_enter Try.func23, Try.ntmps23
    go_wp2
    go_ret
    exact ⟨_, rfl, by omega, by omega, rfl⟩

/-- What is read of the drawn number's bytes and one more. -/
def YP (P : List Int) (x : Int) (s5 s6 s7 : Value) : Prop :=
  ∃ (y q : Int) (ok : Bool), s5 = .int .i64 y ∧ s6 = .int .i64 q ∧ s7 = .bool ok ∧ (P ≠ [] → y = x ∧ q = P.length ∧ ok = true)

theorem new_u8' (W : World) (c : Int) : ∀ j u, [Value.int .u8 c][j]? = some u → (W.alloc (.cells #[.int .u8 c] 5)).cell? ((⟨W.heap.size, 0, none⟩ : Addr).add j) = some u := fun j u hu => by
  have h := Box.new W #[.int .u8 c] 5
  have e : (⟨W.heap.size, 0, none⟩ : Addr).add j = ⟨W.heap.size, j, none⟩ := by unfold Addr.add; split <;> simp_all
  rw [e, h.cell]
  simpa using hu
theorem new_u8 (W : World) (o : Obj) (c : Int) : ∀ j u, [Value.int .u8 c][j]? = some u → ((W.alloc o).alloc (.cells #[.int .u8 c] 5)).cell? ((⟨W.heap.size + 1, 0, none⟩ : Addr).add j) = some u := by
  have h := new_u8' (W.alloc o) c
  have e : (W.alloc o).heap.size = W.heap.size + 1 := by simp
  rw [e] at h
  exact h

theorem putb_bytes (x : Int) : Bytes (putb x) := by
  by_cases h : 0 ≤ x ∧ x ≤ 100000
  · rw [putb_in x h.1 h.2]
    exact enc_byte 2 x h.1 (by simp [pw]; omega)
  · rw [putb_out x (by omega)]
    intro z hz
    simp at hz
theorem getn_put (x c : Int) (h : putb x ≠ []) : getn (putb x ++ [c]) 0 = (x, ((putb x).length : Int), true) := by
  by_cases hx : 0 ≤ x ∧ x ≤ 100000
  · rw [putb_in x hx.1 hx.2]
    have := getn_enc [] [c] x hx.1 hx.2
    simpa using this
  · exact absurd (putb_out x (by omega)) h

theorem gnL_false (f : Nat) : ∀ (l : List Int) (b : Bool) (n u p z q : Int), gnL f l b n u p = (z, q, false) → z = 0 := by
  induction f with
  | zero => intro l b n u p z q h; simp [gnL] at h; exact h.1.symm
  | succ f ih =>
    intro l b n u p z q h
    cases l with
    | nil => simp [gnL] at h; exact h.1.symm
    | cons c r =>
      rw [gnL] at h
      split at h
      · split at h
        · simp at h; exact h.1.symm
        · simp at h
      · exact ih _ _ _ _ _ _ _ h
theorem getn_false (xs : List Int) (k z q : Int) (h : getn xs k = (z, q, false)) : z = 0 := by
  unfold getn at h
  split at h
  · simp at h; exact h.1.symm
  · exact gnL_false _ _ _ _ _ _ _ _ h

theorem getn_true (xs : List Int) (k z en : Int) (hb : Bytes xs) (h : getn xs k = (z, en, true)) :
    ∃ kn : Nat, k = kn ∧ kn + (enc 2 z).length ≤ xs.length ∧ en = ((kn + (enc 2 z).length : Nat) : Int) ∧ (xs.drop kn).take (enc 2 z).length = enc 2 z ∧ 0 ≤ z ∧ z ≤ 100000 := by
  have hk : 0 ≤ k := by
    apply Classical.byContradiction
    intro hn
    unfold getn at h
    rw [if_pos (by omega)] at h
    simp at h
  obtain ⟨kn, rfl⟩ : ∃ kn : Nat, k = kn := ⟨k.toNat, by omega⟩
  have hle : kn ≤ xs.length := by
    apply Classical.byContradiction
    intro hn
    unfold getn at h
    rw [if_neg (by omega), Int.toNat_natCast, List.drop_eq_nil_of_le (by omega), gnL_end] at h
    simp at h
  have hpl : (xs.take kn).length = kn := by simp; omega
  have h2 : getn xs (xs.take kn).length = (z, en, true) := by rw [hpl]; exact h
  obtain ⟨r, hr, he, h0, h1⟩ := getn_sound xs (xs.take kn) (xs.drop kn) z en hb (List.take_append_drop kn xs).symm h2
  rw [hpl] at he
  refine ⟨kn, rfl, ?_, by rw [he]; simp, ?_, h0, h1⟩
  · have := congrArg List.length hr
    simp at this
    omega
  · rw [hr]
    simp

theorem row_cut {W : World} {g : Nat} {xs : List Int} (h : Row .u8 W (some ⟨g, 0, none⟩) xs) (kn : Nat) (E : List Int) (ht : (xs.drop kn).take E.length = E) (hl : kn + E.length ≤ xs.length) : Row .u8 W (some ⟨g, kn, none⟩) E := by
  refine ⟨by have := h.1; omega, fun i hi => ⟨g, kn, rfl, ?_⟩⟩
  obtain ⟨b, off, e, hc⟩ := h.2 (kn + i) (by omega)
  simp at e
  obtain ⟨rfl, rfl⟩ := e
  rw [Nat.zero_add] at hc
  rw [hc]
  have e1 : E.getD i 0 = xs.getD (kn + i) 0 := by
    have h1 : E[i]? = xs[kn + i]? := by
      rw [← ht, List.getElem?_take, if_pos hi, List.getElem?_drop]
    simp only [List.getD_eq_getElem?_getD, h1]
  rw [e1]

namespace LawFnNums
set_option maxRecDepth 100000 in
set_option maxHeartbeats 40000000 in
theorem walk (a : Option Addr) (ca : Nat) (bs : List Int) (w : World) (hc : Came .u8 w a ca bs) :
    Calls Try.prog 4 #[.slice a bs.length ca] w fun e w' => e = .returned (.bool true) ∧ Below w.heap.size w w' := by
  by_cases hl : 1048576 < bs.length
  · have hn : bs.length ≤ maxLen := Nat.le_trans hc.1 hc.2.1
    have hl' : (1048576 : Int) < bs.length := by omega
    clear hc
    go_enter Try.func4, Try.ntmps4
    go_wp2
    go_ret
    exact ⟨rfl, Below.refl _ _⟩
  · have hby := hc.bytes
    have hr := hc.row (by omega)
    have hl' : (bs.length : Int) ≤ 1048576 := by omega
    clear hc
    go_enter Try.func4, Try.ntmps4
    go_wp2_with fail
    refine (big_any a bs.length ca _ hl').mono ?_
    rintro e w0 ⟨rfl, h⟩
    subst h
    go_wp2_with fail
    refine (drawPutNum_any a ca bs _ hr).mono ?_
    rintro e w1 ⟨x, rfl, hx0, hx1, b1⟩
    go_wp2_with fail
    refine (putNum_any x _).mono ?_
    rintro e w2 ⟨v2, rfl, o2, b2⟩
    have hpl := putb_len x
    have hput : ∀ w', Calls Try.prog 21 #[.int .i64 x] w' fun e w'' => ∃ v', e = .returned v' ∧ w''.ownsRow w'.heap.size 5 1 v' (putb x).length ((putb x).map (Value.int .u8)) ∧ Below w'.heap.size w' w'' := fun w' => specPutNum_any x w'
    obtain ⟨P, hP⟩ : ∃ P, putb x = P := ⟨_, rfl⟩
    have HP : Hid (putb x = P) := hP
    rw [hP] at o2 hpl hput
    have HPUT : Hid (∀ w', Calls Try.prog 21 #[.int .i64 x] w' fun e w'' => ∃ v', e = .returned v' ∧ w''.ownsRow w'.heap.size 5 1 v' P.length (P.map (Value.int .u8)) ∧ Below w'.heap.size w' w'') := hput
    clear hP hput
    obtain ⟨a2, c2, rfl⟩ := owns_slice o2
    have B2 := bel_trans b1 b2
    have q2 := owns_row' o2 (by omega)
    have cb2 := conv_row (show Row .u8 w2.drew a2 P from q2) P.length c2 rfl
    clear b1 b2
    go_upto_region 5 with fail
    go_cut [27] (fun s27 wx => s27 = .bool false ∧ Below w2.heap.size w2 wx)
    case first =>
      go_region_with (go_at_call 21; refine (HPUT.out _).mono ?_; rintro e w3 ⟨v3, rfl, o3, b3⟩; obtain ⟨a3, c3, rfl⟩ := owns_slice o3; have cb3 := conv_row (owns_row' o3 (by omega)) P.length c3 rfl; have cb23 := conv_row (q2.below (bel_undrew b3)) P.length c2 rfl)
      all_goals go_wp2_with fail
      all_goals go_meet
      all_goals exact ⟨rfl, bel_undrew b3⟩
    case rest =>
      obtain ⟨rfl, b3⟩ := hcut
      have o2 := owns_below o2 b3
      have B3 := bel_trans B2 b3
      clear b3 B2 cb2 q2
      have hrc := hr.below B3
      go_upto_region 7 with fail
      go_cut [5, 6, 7] (fun s5 s6 s7 wx => YP P x s5 s6 s7 ∧ Below wc.heap.size wc wx)
      case first =>
        obtain ⟨i0, hi, hz0, hz1, hz2⟩ := info_parts info_u8
        have oL : (wc.alloc (.cells #[] 5)).ownsRow wc.heap.size 5 1 (.slice (some ⟨wc.heap.size, 0, none⟩) 0 0) 0 [] := World.ownsRow_lit wc #[] 0 (Nat.le_refl _) (by simp [maxLen]) rfl
        have bL := bel_alloc (Below.refl wc.heap.size wc) (.cells #[] 5)
        by_cases hPe : P = []
        · subst hPe
          have hrL := hrc.below bL
          rcases a2 with _ | ad
          all_goals
            go_wp2_with fail
            refine (at1_any a ca bs _ (by omega) hrL hby).mono ?_
            rintro e w4 ⟨c, rfl, hc0, hc1, h⟩
            subst h
            have oL2 := oL.alloc (.cells #[.int .u8 c] 5)
            have bL2 := bel_alloc bL (.cells #[.int .u8 c] 5)
            go_wp2_with (at_builtin; refine wpList_append_own _ rfl (.tmp 31) (.tmp 35) 22 rfl wc.heap.size 5 i0 (.int .u8 0) 1 1 Try.underlying22 hi hz0 hz1 hz2 rfl (by decide) _ _ _ rfl oL2 ⟨wc.heap.size + 1, 0, none⟩ 1 1 [.int .u8 c] rfl rfl (new_u8 wc _ c) ?c2 ?c3 ?c4 ?c5 ?_)
            case c2 => intro u hu; simp at hu; subst hu; rfl
            case c3 => unfold maxLen; omega
            case c4 => omega
            case c5 => simp; omega
            · intro v' w5 o5 g5 _
              have b5 : Below wc.heap.size wc w5 := bL2.grown g5 bL2.size (fun k hk => by simp [Value.ownBlock] at hk; omega)
              have o5 : w5.ownsRow wc.heap.size 5 1 v' [c].length ([c].map (Value.int .u8)) := by simpa using o5
              obtain ⟨a5, c5, rfl, q5, hc5, hm5⟩ := owns_row o5 (by simp)
              clear g5 bL2 oL2 bL oL o5
              go_wp2_with fail
              refine (get_any a5 c5 [c] 0 _ q5 (fun z hz => by simp at hz; omega) hc5 hm5).mono ?_
              rintro e w6 ⟨rfl, h⟩
              subst h
              simp only [retGet]
              go_wp2_with fail
              go_meet
              exact ⟨⟨_, _, _, rfl, rfl, rfl, fun h => absurd rfl h⟩, b5⟩
        · have hP0 : 0 < P.length := List.length_pos_iff.2 hPe
          obtain ⟨g2, rfl⟩ := owns_addr o2 hP0
          have hsrc := cells_src (owns_below o2 bL)
          go_wp2_with (at_builtin; refine wpList_append_own _ rfl (.tmp 29) (.tmp 30) 22 rfl wc.heap.size 5 i0 (.int .u8 0) 1 1 Try.underlying22 hi hz0 hz1 hz2 rfl (by decide) _ _ _ rfl oL ⟨g2, 0, none⟩ P.length c2 (P.map (Value.int .u8)) rfl (by simp) hsrc ?c2 ?c3 ?c4 ?c5 ?_)
          case c2 => intro u hu; obtain ⟨z, _, rfl⟩ := List.mem_map.1 hu; rfl
          case c3 => unfold maxLen; omega
          case c4 => omega
          case c5 => simp
          · intro v4 w4 o4 g4 _
            have b4 : Below wc.heap.size wc w4 := bL.grown g4 bL.size (fun k hk => by simp [Value.ownBlock] at hk; omega)
            have o4 : w4.ownsRow wc.heap.size 5 1 v4 P.length (P.map (Value.int .u8)) := by simpa using o4
            obtain ⟨a4, c4, rfl⟩ := owns_slice o4
            have hrL := hrc.below b4
            have hlo : ∀ k, (Value.slice a4 P.length c4).ownBlock = some k → wc.heap.size ≤ k := fun k hk => (o4.lt k hk).1
            clear g4 oL bL hsrc
            go_wp2_with fail
            refine (at1_any a ca bs _ (by omega) hrL hby).mono ?_
            rintro e w5 ⟨c, rfl, hc0, hc1, h⟩
            subst h
            have oL2 := o4.alloc (.cells #[.int .u8 c] 5)
            have bL2 := bel_alloc b4 (.cells #[.int .u8 c] 5)
            go_wp2_with (at_builtin; refine wpList_append_own _ rfl (.tmp 31) (.tmp 35) 22 rfl wc.heap.size 5 i0 (.int .u8 0) 1 1 Try.underlying22 hi hz0 hz1 hz2 rfl (by decide) _ _ _ rfl oL2 ⟨w5.heap.size, 0, none⟩ 1 1 [.int .u8 c] rfl rfl (new_u8' _ c) ?c2 ?c3 ?c4 ?c5 ?_)
            case c2 => intro u hu; simp at hu; subst hu; rfl
            case c3 => unfold maxLen; omega
            case c4 => omega
            case c5 => have := b4.size; simp; omega
            · intro v' w6 o6 g6 _
              have b6 : Below wc.heap.size wc w6 := bL2.grown g6 bL2.size (fun k hk => hlo k hk)
              have o6 : w6.ownsRow wc.heap.size 5 1 v' (P ++ [c]).length ((P ++ [c]).map (Value.int .u8)) := by simpa using o6
              have hPb : Bytes (P ++ [c]) := by
                have hPx : putb x = P := HP.out
                refine bytes_app ?_ (fun z hz => by simp at hz; omega)
                rw [← hPx]
                exact putb_bytes x
              have HG : Hid (getn (P ++ [c]) 0 = (x, (P.length : Int), true)) := by
                show _ = _
                rw [← HP.out]
                exact getn_put x c (by rw [HP.out]; exact hPe)
              obtain ⟨R, hR⟩ : ∃ R, P ++ [c] = R := ⟨_, rfl⟩
              rw [hR] at o6 hPb HG
              have hRl : R.length ≤ 4 := by rw [← hR]; simp; omega
              obtain ⟨a6, c6, rfl, q6, hc6, hm6⟩ := owns_row o6 (by omega)
              clear g6 bL2 oL2 o6 hR o4
              go_wp2_with fail
              refine (get_any a6 c6 R 0 _ q6 hPb hc6 hm6).mono ?_
              rintro e w7 ⟨rfl, h⟩
              subst h
              rw [HG.out]
              simp only [retGet]
              go_wp2_with fail
              go_meet
              exact ⟨⟨_, _, _, rfl, rfl, rfl, fun _ => ⟨rfl, rfl, rfl⟩⟩, b6⟩
      case rest =>
        obtain ⟨⟨y, q, ok, rfl, rfl, rfl, hY⟩, b5⟩ := hcut
        have B5 := bel_trans B3 b5
        have HY : Hid (P ≠ [] → y = x ∧ q = P.length ∧ ok = true) := hY
        clear b5 B3 hrc o2 hY
        go_upto_region 8 with fail
        go_cut [58] (fun s58 wx => s58 = .bool false ∧ wc = wx)
        case first =>
          by_cases hPe : P = []
          · subst hPe
            go_wp2_with fail
            go_meet
            exact ⟨rfl, rfl⟩
          · obtain ⟨rfl, rfl, rfl⟩ := HY.out hPe
            have hP0 : 0 < P.length := List.length_pos_iff.2 hPe
            have hP0' : (0 : Int) < (P.length : Int) := by omega
            go_wp2_with fail
            go_meet
            exact ⟨by simp, rfl⟩
        case rest =>
          obtain ⟨rfl, h⟩ := hcut
          subst h
          go_wp2_with fail
          refine (drawGetNum_any a ca bs _ (hr.below B5)).mono ?_
          rintro e w6 ⟨v6, xs, k, rfl, hxb, hxl, o6, b6⟩
          have B6 := bel_trans B5 b6
          obtain ⟨a6, c6, rfl, q6, hc6, hm6⟩ := owns_row o6 (by omega)
          obtain ⟨⟨z, en, fi⟩, hg⟩ : ∃ r, getn xs k = r := ⟨_, rfl⟩
          have HG : Hid (getn xs k = (z, en, fi)) := hg
          clear hg b6 B5
          go_wp2_with fail
          refine (get_any a6 c6 xs k _ q6 hxb hc6 hm6).mono ?_
          rintro e w7 ⟨rfl, h⟩
          subst h
          rw [HG.out]
          simp only [retGet]
          go_wp2_with fail
          refine (specGet_any a6 c6 xs k _ q6 hxb).mono ?_
          rintro e w8 ⟨rfl, h⟩
          subst h
          rw [HG.out]
          simp only [retGet]
          cases fi
          · have hz : z = 0 := getn_false xs k z en HG.out
            subst hz
            clear q6 hr
            go_wp2_with fail
            go_quiet (fail)
            go_wp2
            go_ret
            exact ⟨rfl, below_drewN B6 nq⟩
          · obtain ⟨kn, rfl, hkl, rfl, htk, hz0, hz1⟩ := getn_true xs k z en hxb HG.out
            have hel := enc_len 2 z
            have hpz : putb z = enc 2 z := putb_in z hz0 hz1
            obtain ⟨E, hE⟩ : ∃ E, enc 2 z = E := ⟨_, rfl⟩
            rw [hE] at hkl htk hel hpz
            have hput : ∀ w', Calls Try.prog 20 #[.int .i64 z] w' fun e w'' => ∃ v', e = .returned v' ∧ w''.ownsRow w'.heap.size 5 1 v' E.length (E.map (Value.int .u8)) ∧ Below w'.heap.size w' w'' := fun w' => by
              have h := putNum_any z w'
              rw [hpz] at h
              exact h
            have HPUT2 : Hid (∀ w', Calls Try.prog 20 #[.int .i64 z] w' fun e w'' => ∃ v', e = .returned v' ∧ w''.ownsRow w'.heap.size 5 1 v' E.length (E.map (Value.int .u8)) ∧ Below w'.heap.size w' w'') := hput
            obtain ⟨g6, rfl⟩ := owns_addr o6 (by omega)
            have qk := row_cut q6 kn E htk hkl
            rw [hE]
            have hkc : kn < c6 := by omega
            have hkc' : ¬ c6 = kn := by omega
            have ck := conv_row (show Row .u8 w8.drew (some ⟨g6, kn, none⟩) E from qk) E.length (c6 - kn) rfl
            clear hput hE HG hpz htk hr hby HP HPUT HY o6 q6 hxb hz0 hz1
            go_wp2_with fail
            first | (go_region_held (fun w' => (convert 22 9 (.slice (some ⟨g6, kn, none⟩) E.length (c6 - kn))).run Try.prog w' = .ok (.string (strOfNums E)) w') (first | (with_reducible exact ck9) | (with_reducible exact ck) | exact conv_row (show Row .u8 _ (some ⟨g6, kn, none⟩) E from qk) E.length (c6 - kn) rfl | go_keep) (first | (go_at_call 20; refine (HPUT2.out _).mono ?_; rintro e w9 ⟨v9, rfl, o9, b9⟩; obtain ⟨a9, c9, rfl⟩ := owns_slice o9; have cb9 := conv_row (owns_row' o9 (by omega)) E.length c9 rfl; have ck9 := conv_row (qk.below (bel_undrew b9)) E.length (c6 - kn) rfl))) | fail
            all_goals
              have B9 := bel_trans B6 (bel_undrew b9)
              go_wp2
              go_ret
              exact ⟨by simp, B9⟩
set_option maxRecDepth 100000 in
theorem lifted (os : Os) (started : os.Started) (H : Type) (enc : TypeId × Value → H) :
    ReturnsInHanded {} Try.checked os 4 .any (Rows.fnNumsSpec.pre6 enc Try.prog Try.f4 Rows.fnNumsRow.domain false) (Rows.fnNumsSpec.post enc Try.prog Try.f4 false true false false) := by
  refine returnsInHanded_of_change (C := Try.checked) own started (by kernel_rfl) Try.func4
    (ChangeSpec.witness6 (enc := enc) (C := Try.checked) false ⟨#[], #[.slice none 0 0], []⟩ 8 (by kernel_rfl) (by kernel_rfl) (by kernel_rfl) (by kernel_rfl)) ?_
  intro W base args ds gs before hval0 hW hcnd _
  have hval : ∀ (j : Nat) t v, Try.f4.params[j]? = some t → args[j]? = some v → Value.okWide Try.prog W .any base t v := hval0
  have hW' := hW
  obtain ⟨p, q, hA0, hV, rfl, hfz, hnd⟩ := hW
  have hA : DataW.TrodAll enc Try.prog W 0 (fun _ => true) true Try.f4.params.toList args.toList ds p := hA0
  rw [Try.params4] at hA hval
  obtain ⟨v0, vs0, d0, ds0, p0, q0, hargs, rfl, rfl, h0, r0⟩ := trodAll_cons hA
  obtain ⟨rfl, rfl, rfl⟩ := trodAll_nil r0
  obtain rfl : args = #[v0] := by cases args; simp_all
  obtain ⟨rfl, rfl⟩ := trodVars_none hV
  obtain ⟨a0, len0, cap0, rfl⟩ := okWide_slice Try.underlying22 (hval 0 22 v0 rfl rfl)
  have k0 := h0
  have lt0 : ∀ x ∈ p0, x.block < W.heap.size := by obtain ⟨m, hm⟩ := k0; exact DataW.trod_lt m _ _ _ hm
  obtain ⟨x0, rfl, w0⟩ : ∃ xs : List Int, xs.length = len0 ∧ Came .u8 W a0 cap0 xs := by
    obtain ⟨fuel, hf⟩ := h0
    rcases open_ints Try.underlying22 Try.underlying5 (by kernel_rfl) hf with ⟨hcs, _⟩ | ⟨x, l, c, zs, hcs, _, hl, hm, hz, _, hcell, hwz⟩
    · simp [Value.cells] at hcs
      obtain ⟨rfl, rfl, rfl⟩ := hcs
      exact ⟨[], rfl, came_nil _ _⟩
    · simp [Value.cells] at hcs
      obtain ⟨rfl, rfl, rfl⟩ := hcs
      have hc := came_of hl hm (by simpa using hz) hcell hwz
      exact ⟨_, hc.1, hc.2⟩
  clear hA0 hval0
  refine (walk a0 cap0 x0 W w0).mono fun e W' ⟨he, bel⟩ => ?_
  subst he
  exact ⟨_, rfl, _, _, _, [], _, [], hW', trodAll_mk1 (shut_bool Try.underlying4 _), (trodAll_cons_mk (Below.trod laidOut (by kernel_rfl) (of_decide_eq_true (by kernel_rfl)) k0 bel lt0) trodAll_mk0), rfl, bel.frame _, fun h => by cases h⟩

theorem over : Rows.fnNumsRow.holds Try.pinned (OpenSpec.ofChange Rows.fnNumsSpec) :=
  OpenClaim.holds_of_wide 4 Try.f4 rfl rfl rfl rfl rfl rfl rfl ⟨rfl, rfl, rfl, rfl, rfl⟩ rfl rfl rfl rfl rfl (by kernel_rfl) Try.func4 (by kernel_rfl)
    (of_decide_eq_true (by kernel_rfl)) (by unfold Func.isWrapper; first | (rw [if_pos (by decide +kernel)]; kernel_rfl) | (rw [if_neg (by decide +kernel)]; exact ⟨rfl, rfl⟩))
    (fun os started H enc _ => lifted os started H enc)
end LawFnNums

theorem fnNums_holds : Rows.FnNumsSaid := LawFnNums.over
#print axioms fnNums_holds
end Go.Proofs.Ytbikiffgeinnnaa
