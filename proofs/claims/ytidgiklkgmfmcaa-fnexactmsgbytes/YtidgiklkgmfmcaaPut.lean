/- What appendNum and the two PutNum do: the bytes of the number, in memory of their own. -/
import Derived.Test.YtidgiklkgmfmcaaRows
import Derived.Test.YtidgiklkgmfmcaaBase
import Derived.Test.YtidgiklkgmfmcaaEnc
namespace Go.Proofs.Ytidgiklkgmfmcaa
open Go.RowKit
set_option linter.unusedVariables false

theorem info_u8 : (Try.prog.info? 5).map (fun i => (i.zero, i.size, i.bytes)) = some (some (.int .u8 0), 1, 1) := by kernel_rfl

set_option maxRecDepth 100000 in
set_option maxHeartbeats 400000 in
theorem appendNum_any (base m : Nat) (v : Value) (xs : List Int) (n : Int) (w : World) (hb : base ≤ w.heap.size) (h0 : 0 ≤ n) (h1 : n ≤ 100000) (hm : m ≤ 1000000000) (hown : w.ownsRow base 5 1 v m (xs.map (Value.int .u8))) :
    Calls Try.prog 29 #[v, .int .i64 n] w fun e w' => ∃ v', e = .returned v' ∧ w'.ownsRow base 5 1 v' (xs ++ enc 2 n).length ((xs ++ enc 2 n).map (Value.int .u8)) ∧ Below base w w' := by
  obtain ⟨i0, hi, hz0, hz1, hz2⟩ := info_parts info_u8
  have hxm : Hid (xs.length = m) := by have := hown.1; rw [Nat.mul_one, List.length_map] at this; exact this
  have hown' : w.ownsRow base 5 1 v xs.length (xs.map (Value.int .u8)) := by rw [hxm.out]; exact hown
  have hl2 := (enc_len 2 n).2
  go_enter Try.func29, Try.ntmps29
  go_wp2
  go_loopw [0, 1] (fun o i wr => ∃ (ys : List Int) (q : Int) (f : Nat), 0 ≤ q ∧ q < pw f ∧ q ≤ 100000 ∧ i = .int .i64 q ∧ ys ++ enc f q = xs ++ enc 2 n ∧ wr.ownsRow base 5 1 o ys.length (ys.map (Value.int .u8)) ∧ Below base w wr) (fun _ i _ => (intOf i).toNat)
  case atStart => exact ⟨xs, n, 2, h0, by simp [pw]; omega, h1, rfl, rfl, hown', Below.refl _ _⟩
  case round =>
    obtain ⟨ys, q, f, hq0, hq1, hq2, rfl, he, hr, hbl⟩ := hrel
    have hlen : ys.length ≤ xs.length + 3 := by
      have := congrArg List.length he
      simp at this
      omega
    have hyl : ys.length ≤ 1000000003 := by have := hxm.out; omega
    have hsz := hbl.size
    by_cases hlt : q < 128
    · rw [enc_small _ _ hlt] at he
      have HE : Hid (ys ++ [q] = xs ++ enc 2 n) := he
      clear he
      go_wp2_with (at_builtin; refine wpList_append_own _ rfl (.tmp 16) (.tmp 19) 31 rfl base 5 i0 (.int .u8 0) 1 1 Try.underlying31 hi hz0 hz1 hz2 rfl (by decide) _ _ _ rfl (hr.alloc _) ⟨wr.heap.size, 0, none⟩ 1 1 [.int .u8 q] rfl rfl (cell_one_new _ _ _) ?c2 ?c3 ?c4 ?c5 ?_)
      case c2 => first | (intro u hu; simp at hu; subst hu; rfl) | rfl
      case c3 => unfold maxLen; omega
      case c4 => omega
      case c5 => first | omega | (simp; omega)
      · intro v' w1 hown' hgrow _
        have hB : Below base w w1 := (hbl.alloc (by omega) _).grown hgrow (by simp; omega) (fun k hk => (hr.lt k hk).1)
        clear hgrow hr hbl
        go_wp2
        go_ret
        refine ⟨_, rfl, ?_, hB⟩
        rw [← HE.out]
        simpa using hown'
    · obtain ⟨g, rfl, hg⟩ := pw_step f q hq0 hq1 hlt
      rw [enc_big _ _ hlt] at he
      have HE : Hid ((ys ++ [q % 128 + 128]) ++ enc g (q / 128) = xs ++ enc 2 n) := app_step ys _ _ _ he
      clear he
      go_wp2_with (at_builtin; refine wpList_append_own _ rfl (.tmp 7) (.tmp 12) 31 rfl base 5 i0 (.int .u8 0) 1 1 Try.underlying31 hi hz0 hz1 hz2 rfl (by decide) _ _ _ rfl (hr.alloc _) ⟨wr.heap.size, 0, none⟩ 1 1 [.int .u8 (q % 128 + 128)] rfl rfl (cell_one_new _ _ _) ?c2 ?c3 ?c4 ?c5 ?_)
      case c2 => first | (intro u hu; simp at hu; subst hu; rfl) | rfl
      case c3 => unfold maxLen; omega
      case c4 => omega
      case c5 => first | omega | (simp; omega)
      · intro v' w1 hown' hgrow _
        have hB : Below base w w1 := (hbl.alloc (by omega) _).grown hgrow (by simp; omega) (fun k hk => (hr.lt k hk).1)
        have ho : w1.ownsRow base 5 1 v' (ys ++ [q % 128 + 128]).length ((ys ++ [q % 128 + 128]).map (Value.int .u8)) := by simpa using hown'
        clear hgrow hr hbl hown'
        go_wp2
        go_roundw
        case rel => exact ⟨ys ++ [q % 128 + 128], q / 128, g, by omega, hg, by omega, by go_num, HE.out, ho, hB⟩
        case measure => simp [intOf]; omega

set_option maxHeartbeats 400000 in
theorem putNum_any (n : Int) (w : World) :
    Calls Try.prog 13 #[.int .i64 n] w fun e w' => ∃ v', e = .returned v' ∧ w'.ownsRow w.heap.size 5 1 v' (putb n).length ((putb n).map (Value.int .u8)) ∧ Below w.heap.size w w' := by
  by_cases h0 : n < 0
  · go_enter Try.func13, Try.ntmps13
    go_wp2
    go_ret
    rw [putb_out n (.inl h0)]
    exact ⟨_, rfl, World.ownsRow_nil _ _ _ _, Below.refl _ _⟩
  · by_cases h1 : 100000 < n
    · go_enter Try.func13, Try.ntmps13
      go_wp2
      go_ret
      rw [putb_out n (.inr h1)]
      exact ⟨_, rfl, World.ownsRow_nil _ _ _ _, Below.refl _ _⟩
    · rw [putb_in n (by omega) (by omega)]
      go_enter Try.func13, Try.ntmps13
      go_wp2_with (go_at_call 29; refine (appendNum_any w.heap.size 0 _ [] n w (Nat.le_refl _) (by omega) (by omega) (by omega) (World.ownsRow_nil _ _ _ _)).mono ?_; rintro e w1 ⟨v1, rfl, ho, hb⟩)
      go_ret
      exact ⟨_, rfl, by simpa using ho, hb⟩
end Go.Proofs.Ytidgiklkgmfmcaa
