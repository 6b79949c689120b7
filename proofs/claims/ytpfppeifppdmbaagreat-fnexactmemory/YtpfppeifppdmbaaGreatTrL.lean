/- What the specification's l7Last does (written by mktl.py). -/
import Derived.Test.YtpfppeifppdmbaaGreatPgI
import Derived.Test.YtpfppeifppdmbaaGreatAppR
namespace Go.Proofs.YtpfppeifppdmbaaGreat
open Go.RowKit
set_option linter.unusedVariables false

theorem ret_row {a : Option Addr} {c : Nat} {x y : List Int} (h : x = y) : Value.slice a y.length c = Value.slice a x.length c := by rw [h]
theorem own_row {w : World} {lo : Nat} {a : Option Addr} {c : Nat} {x y : List Int} (h : x = y) (o : w.ownsRow lo 3 1 (.slice a y.length c) y.length (y.map (Value.int .i64))) : w.ownsRow lo 3 1 (.slice a x.length c) x.length (x.map (Value.int .i64)) := by rw [h]; exact o
theorem ret_row' {a : Option Addr} {c : Nat} {x y : List Int} (h : x = y) : Value.slice a y.length c = Value.slice a x.length c := ret_row h
theorem own_row' {w : World} {lo : Nat} {a : Option Addr} {c : Nat} {x y : List Int} (h : x = y) (o : w.ownsRow lo 3 1 (.slice a y.length c) y.length (y.map (Value.int .i64))) : w.ownsRow lo 3 1 (.slice a x.length c) x.length (x.map (Value.int .i64)) := own_row h o

set_option maxRecDepth 100000 in
set_option maxHeartbeats 4000000 in
theorem l7Last_any (kind page : Int) (a : Option Addr) (c : Nat) (ms : List M) (w : World) (ha : MRow w a ms) (hxs : ∀ m ∈ ms, m.xs.length ≤ 1048577) :
    Calls Tryz.prog 47 #[.slice a ms.length c, .int .i64 kind, .int .i64 page] w fun e w' => ∃ (a' : Option Addr) (c' : Nat), e = .returned (.slice a' (lastY kind page (ms.map M.say)).length c') ∧ w'.ownsRow w.heap.size 3 1 (.slice a' (lastY kind page (ms.map M.say)).length c') (lastY kind page (ms.map M.say)).length ((lastY kind page (ms.map M.say)).map (Value.int .i64)) ∧ Below w.heap.size w w' := by
  obtain ⟨i1, hi1, hz10, hz11, hz12⟩ := info_parts info_i64
  obtain ⟨n, hn⟩ : ∃ n, ms.length = n := ⟨_, rfl⟩
  have HN : Hid (ms.length = n) := hn
  have hsm : n ≤ 1048577 := by have := ha.1; omega
  rw [hn]
  clear hn
  have oE := own_litE w 3 1 w.heap.size (Nat.le_refl _)
  have bE := bel_alloc (Below.refl w.heap.size w) (.cells #[] 3)
  have HXS : Hid (∀ m ∈ ms, m.xs.length ≤ 1048577) := hxs
  have HA : Hid (MRow w a ms) := ha
  have HO : Hid ((w.alloc (.cells #[] 3)).ownsRow w.heap.size 3 1 (.slice (some ⟨w.heap.size, 0, none⟩) 0 0) 0 []) := oE
  have HB : Hid _ := bE
  clear hxs ha oE bE
  go_enter Tryz.func47, Tryz.ntmps47
  go_wp2_with fail
  go_loopw [7, 8] (fun o i wr => ∃ k : Nat, k ≤ n ∧ i = .int .i64 k ∧ ∃ (a' : Option Addr) (c' : Nat), o = .slice a' (lastY kind page ((ms.take k).map M.say)).length c' ∧ wr.ownsRow w.heap.size 3 1 (.slice a' (lastY kind page ((ms.take k).map M.say)).length c') (lastY kind page ((ms.take k).map M.say)).length ((lastY kind page ((ms.take k).map M.say)).map (Value.int .i64)) ∧ Below w.heap.size w wr) (fun _ i _ => n - (intOf i).toNat)
  case atStart => exact ⟨0, Nat.zero_le _, rfl, _, _, rfl, HO.out, HB.out⟩
  case round =>
    obtain ⟨k, hk, rfl, a', c', rfl, hr, hB⟩ := hrel
    clear HO HB
    by_cases hkn : k < n
    · have hi' : (k : Int) < (n : Int) := by omega
      obtain ⟨⟨mk, mp, mo, ma, mc, mxs⟩, hmk⟩ : ∃ m, ms[k]? = some m := ⟨_, List.getElem?_eq_getElem (by have := HN.out; omega)⟩
      have HT : Hid (ms.take (k + 1) = ms.take k ++ [⟨mk, mp, mo, ma, mc, mxs⟩]) := by show _ = _; rw [List.take_add_one, hmk]; rfl
      have hxl : mxs.length ≤ 1048577 := HXS.out _ (List.mem_of_getElem? hmk)
      have hm := HA.out.below hB
      obtain ⟨⟨b, off, ea, y0, y1, y2, y3⟩, hrow⟩ := hm.2 k _ hmk
      subst ea
      simp only at y0 y1 y2 y3 hrow
      have bx := bel_alloc (Below.refl wr.heap.size wr) (.cells #[.int .i64 mk, .int .i64 mp, .bool mo, .slice ma mxs.length mc] 69)
      clear hmk
      by_cases h1 : kind = mk
      · subst h1
        by_cases h2 : page = mp
        · subst h2
          cases mo
          · by_cases h4 : kind = 7
            · subst h4
              have HI : Hid (isL 7 page (M.say ⟨7, page, false, ma, mc, mxs⟩) = true) := by show _ = _; simp [isL, M.say]
              have HX : Hid (lastY 7 page ((ms.take (k + 1)).map M.say) = mxs) := by show _ = _; rw [HT.out, List.map_append, List.map_singleton, lastY_snoc, HI.out]; rfl
              have hB1 := bel_trans hB bx
              have HV := (row_v hrow hxl).below bx
              have oE1 := own_litE (wr.alloc (.cells #[.int .i64 7, .int .i64 page, .bool false, .slice ma mxs.length mc] 69)) 3 1 (wr.heap.size + 1) (by simp)
              rw [show (wr.alloc (.cells #[.int .i64 7, .int .i64 page, .bool false, .slice ma mxs.length mc] 69)).heap.size = wr.heap.size + 1 by simp] at oE1
              have bE1 := bel_alloc (Below.refl _ (wr.alloc (.cells #[.int .i64 7, .int .i64 page, .bool false, .slice ma mxs.length mc] 69))) (.cells #[] 3)
              have hv1 := HV.below bE1
              have hB2 := bel_trans hB1 bE1
              have hs1 : w.heap.size ≤ wr.heap.size := hB.size
              clear hr hB bx hm hrow HV hB1 bE1
              go_wp2_with (at_builtin; refine wpList_append_rowYtpfppeifppdmbaaGreat rfl (.tmp 39) (.tmp 41) 27 rfl (wr.heap.size + 1) 3 i1 (.int .i64 0) 1 8 Tryz.underlying27 hi1 hz10 hz11 hz12 rfl (by decide) (.slice (some ⟨wr.heap.size + 1, 0, none⟩) 0 0) 0 [] (by rfl) oE1 ma mxs.length mc (mxs.map (Value.int .i64)) (by rfl) (by simp) hv1.2 (by intro u hu; obtain ⟨x, _, rfl⟩ := List.mem_map.1 hu; rfl) (by unfold maxLen; omega) (by omega) (by simp) ?_)
              intro v1 w5 o5 g5
              have hB5 : Below w.heap.size w w5 := hB2.grown g5 hB2.size (fun j hj => by simp [Value.ownBlock] at hj; omega)
              try simp only [Nat.zero_add, List.nil_append] at o5
              obtain ⟨a5, c5, rfl⟩ := owns_slice o5
              have o6 := owns_base o5 (b' := w.heap.size) (by omega)
              clear o5 g5 oE1 hv1 hB2
              go_wp2
              go_roundw
              case rel => exact ⟨k + 1, by omega, by go_num, a5, c5, ret_row' HX.out, own_row' HX.out o6, hB5⟩
              case measure => simp [intOf]; omega
            · have h4' : (kind == 7) = false := by simpa using h4
              have HI : Hid (isL kind page (M.say ⟨kind, page, false, ma, mc, mxs⟩) = false) := by show _ = _; simp [isL, M.say, h4']
              have HX : Hid (lastY kind page ((ms.take (k + 1)).map M.say) = lastY kind page ((ms.take k).map M.say)) := by show _ = _; rw [HT.out, List.map_append, List.map_singleton, lastY_snoc, HI.out]; rfl
              have hr1 := owns_below hr bx
              have hB1 := bel_trans hB bx
              clear hr hB bx hm hrow
              go_wp2
              go_roundw
              case rel => exact ⟨k + 1, by omega, by go_num, a', c', ret_row HX.out, own_row HX.out hr1, hB1⟩
              case measure => simp [intOf]; omega
          ·
            have HI : Hid (isL kind page (M.say ⟨kind, page, true, ma, mc, mxs⟩) = true) := by show _ = _; simp [isL, M.say]
            have HX : Hid (lastY kind page ((ms.take (k + 1)).map M.say) = mxs) := by show _ = _; rw [HT.out, List.map_append, List.map_singleton, lastY_snoc, HI.out]; rfl
            have hB1 := bel_trans hB bx
            have HV := (row_v hrow hxl).below bx
            have oE1 := own_litE (wr.alloc (.cells #[.int .i64 kind, .int .i64 page, .bool true, .slice ma mxs.length mc] 69)) 3 1 (wr.heap.size + 1) (by simp)
            rw [show (wr.alloc (.cells #[.int .i64 kind, .int .i64 page, .bool true, .slice ma mxs.length mc] 69)).heap.size = wr.heap.size + 1 by simp] at oE1
            have bE1 := bel_alloc (Below.refl _ (wr.alloc (.cells #[.int .i64 kind, .int .i64 page, .bool true, .slice ma mxs.length mc] 69))) (.cells #[] 3)
            have hv1 := HV.below bE1
            have hB2 := bel_trans hB1 bE1
            have hs1 : w.heap.size ≤ wr.heap.size := hB.size
            clear hr hB bx hm hrow HV hB1 bE1
            go_wp2_with (at_builtin; refine wpList_append_rowYtpfppeifppdmbaaGreat rfl (.tmp 39) (.tmp 41) 27 rfl (wr.heap.size + 1) 3 i1 (.int .i64 0) 1 8 Tryz.underlying27 hi1 hz10 hz11 hz12 rfl (by decide) (.slice (some ⟨wr.heap.size + 1, 0, none⟩) 0 0) 0 [] (by rfl) oE1 ma mxs.length mc (mxs.map (Value.int .i64)) (by rfl) (by simp) hv1.2 (by intro u hu; obtain ⟨x, _, rfl⟩ := List.mem_map.1 hu; rfl) (by unfold maxLen; omega) (by omega) (by simp) ?_)
            intro v1 w5 o5 g5
            have hB5 : Below w.heap.size w w5 := hB2.grown g5 hB2.size (fun j hj => by simp [Value.ownBlock] at hj; omega)
            try simp only [Nat.zero_add, List.nil_append] at o5
            obtain ⟨a5, c5, rfl⟩ := owns_slice o5
            have o6 := owns_base o5 (b' := w.heap.size) (by omega)
            clear o5 g5 oE1 hv1 hB2
            go_wp2
            go_roundw
            case rel => exact ⟨k + 1, by omega, by go_num, a5, c5, ret_row' HX.out, own_row' HX.out o6, hB5⟩
            case measure => simp [intOf]; omega
        · have h2' : (mp == page) = false := by simpa using fun e => h2 e.symm
          have HI : Hid (isL kind page (M.say ⟨kind, mp, mo, ma, mc, mxs⟩) = false) := by show _ = _; simp [isL, M.say, h2']
          have HX : Hid (lastY kind page ((ms.take (k + 1)).map M.say) = lastY kind page ((ms.take k).map M.say)) := by show _ = _; rw [HT.out, List.map_append, List.map_singleton, lastY_snoc, HI.out]; rfl
          have hr1 := owns_below hr bx
          have hB1 := bel_trans hB bx
          clear hr hB bx hm hrow
          go_wp2
          go_roundw
          case rel => exact ⟨k + 1, by omega, by go_num, a', c', ret_row HX.out, own_row HX.out hr1, hB1⟩
          case measure => simp [intOf]; omega
      · have h1' : (mk == kind) = false := by simpa using fun e => h1 e.symm
        have HI : Hid (isL kind page (M.say ⟨mk, mp, mo, ma, mc, mxs⟩) = false) := by show _ = _; simp [isL, M.say, h1']
        have HX : Hid (lastY kind page ((ms.take (k + 1)).map M.say) = lastY kind page ((ms.take k).map M.say)) := by show _ = _; rw [HT.out, List.map_append, List.map_singleton, lastY_snoc, HI.out]; rfl
        have hr1 := owns_below hr bx
        have hB1 := bel_trans hB bx
        clear hr hB bx hm hrow
        go_wp2
        go_roundw
        case rel => exact ⟨k + 1, by omega, by go_num, a', c', ret_row HX.out, own_row HX.out hr1, hB1⟩
        case measure => simp [intOf]; omega
    · have : k = n := by omega
      subst this
      have HF : Hid (lastY kind page (ms.map M.say) = lastY kind page ((ms.take k).map M.say)) := by show _ = _; rw [List.take_of_length_le (by have := HN.out; omega)]
      go_wp2
      go_ret
      exact ⟨a', c', congrArg Ending.returned (ret_row HF.out), own_row HF.out hr, hB⟩
end Go.Proofs.YtpfppeifppdmbaaGreat
