/- What the specification's PutNum does. -/
import Derived.Test.YtidgiklkgmfmcaaPut
import Derived.Test.YtidgiklkgmfmcaaSpecIn
namespace Go.Proofs.Ytidgiklkgmfmcaa
open Go.RowKit
set_option linter.unusedVariables false

set_option maxRecDepth 100000 in
set_option maxHeartbeats 400000 in
theorem specPutNum_any (n : Int) (w : World) :
    Calls Try.prog 12 #[.int .i64 n] w fun e w' => ∃ v', e = .returned v' ∧ w'.ownsRow w.heap.size 5 1 v' (putb n).length ((putb n).map (Value.int .u8)) ∧ Below w.heap.size w w' := by
  by_cases hin : 0 ≤ n ∧ n ≤ 100000
  · obtain ⟨h0, h1⟩ := hin
    have hd : decide (0 ≤ n ∧ n ≤ 100000) = true := by simp; omega
    rw [putb_in n h0 h1]
    obtain ⟨i0, hi, hz0, hz1, hz2⟩ := info_parts info_u8
    have hl2 := (enc_len 2 n).2
    go_enter Try.func12, Try.ntmps12
    go_wp2_with (go_at_call 24; refine (specIn_any _ _ _ _).mono ?_; rw [hd]; rintro e w1 ⟨rfl, rfl⟩)
    go_loopw [0, 3] (fun i o wr => ∃ (ys : List Int) (q : Int) (f : Nat), 0 ≤ q ∧ q < pw f ∧ q ≤ 100000 ∧ i = .int .i64 q ∧ ys ++ enc f q = enc 2 n ∧ wr.ownsRow w.heap.size 5 1 o ys.length (ys.map (Value.int .u8)) ∧ Below w.heap.size w wr) (fun i _ _ => (intOf i).toNat)
    case atStart => exact ⟨[], n, 2, h0, by simp [pw]; omega, h1, rfl, rfl, World.ownsRow_lit w #[] 0 (Nat.le_refl _) (by simp [maxLen]) rfl, (Below.refl _ _).alloc (Nat.le_refl _) _⟩
    case round =>
      obtain ⟨ys, q, f, hq0, hq1, hq2, rfl, he, hr, hbl⟩ := hrel
      have hlen : ys.length ≤ 3 := by
        have := congrArg List.length he
        simp at this
        omega
      have hsz := hbl.size
      by_cases hlt : q < 128
      · rw [enc_small _ _ hlt] at he
        have HE : Hid (ys ++ [q] = enc 2 n) := he
        clear he hd
        go_wp2_with (at_builtin; refine wpList_append_own _ rfl (.tmp 20) (.tmp 23) 31 rfl w.heap.size 5 i0 (.int .u8 0) 1 1 Try.underlying31 hi hz0 hz1 hz2 rfl (by decide) _ _ _ rfl (hr.alloc _) ⟨wr.heap.size, 0, none⟩ 1 1 [.int .u8 q] rfl rfl (cell_one_new _ _ _) ?c2 ?c3 ?c4 ?c5 ?_)
        case c2 => first | (intro u hu; simp at hu; subst hu; rfl) | rfl
        case c3 => unfold maxLen; omega
        case c4 => omega
        case c5 => first | omega | (simp; omega)
        · intro v' w1 hown' hgrow _
          have hB : Below w.heap.size w w1 := (hbl.alloc (by omega) _).grown hgrow (by simp; omega) (fun k hk => (hr.lt k hk).1)
          clear hgrow hr hbl
          go_wp2
          go_ret
          refine ⟨_, rfl, ?_, hB⟩
          rw [← HE.out]
          simpa using hown'
      · obtain ⟨g, rfl, hg⟩ := pw_step f q hq0 hq1 hlt
        rw [enc_big _ _ hlt] at he
        have HE : Hid ((ys ++ [q % 128 + 128]) ++ enc g (q / 128) = enc 2 n) := app_step ys _ _ _ he
        clear he hd
        go_wp2_with (at_builtin; refine wpList_append_own _ rfl (.tmp 11) (.tmp 16) 31 rfl w.heap.size 5 i0 (.int .u8 0) 1 1 Try.underlying31 hi hz0 hz1 hz2 rfl (by decide) _ _ _ rfl (hr.alloc _) ⟨wr.heap.size, 0, none⟩ 1 1 [.int .u8 (q % 128 + 128)] rfl rfl (cell_one_new _ _ _) ?c2 ?c3 ?c4 ?c5 ?_)
        case c2 => first | (intro u hu; simp at hu; subst hu; rfl) | rfl
        case c3 => unfold maxLen; omega
        case c4 => omega
        case c5 => first | omega | (simp; omega)
        · intro v' w1 hown' hgrow _
          have hB : Below w.heap.size w w1 := (hbl.alloc (by omega) _).grown hgrow (by simp; omega) (fun k hk => (hr.lt k hk).1)
          have ho : w1.ownsRow w.heap.size 5 1 v' (ys ++ [q % 128 + 128]).length ((ys ++ [q % 128 + 128]).map (Value.int .u8)) := by simpa using hown'
          clear hgrow hr hbl hown'
          go_wp2
          go_roundw
          case rel => exact ⟨ys ++ [q % 128 + 128], q / 128, g, by omega, hg, by omega, by go_num, HE.out, ho, hB⟩
          case measure => simp [intOf]; omega
  · have hd : decide (0 ≤ n ∧ n ≤ 100000) = false := by simp; omega
    rw [putb_out n (by omega)]
    go_enter Try.func12, Try.ntmps12
    go_wp2_with (go_at_call 24; refine (specIn_any _ _ _ _).mono ?_; rw [hd]; rintro e w1 ⟨rfl, rfl⟩)
    go_ret
    exact ⟨_, rfl, World.ownsRow_lit w #[] 0 (Nat.le_refl _) (by simp [maxLen]) rfl, (Below.refl _ _).alloc (Nat.le_refl _) _⟩
end Go.Proofs.Ytidgiklkgmfmcaa
