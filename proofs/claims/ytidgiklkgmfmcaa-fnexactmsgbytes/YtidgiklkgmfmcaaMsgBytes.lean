/- What MsgBytes does. -/
import Derived.Test.YtidgiklkgmfmcaaNums2
import Derived.Test.YtidgiklkgmfmcaaPut
namespace Go.Proofs.Ytidgiklkgmfmcaa
open Go.RowKit
set_option linter.unusedVariables false

set_option maxHeartbeats 1000000 in
theorem msgBytes_any (k p : Int) (o : Bool) (a : Option Addr) (ca : Nat) (xs : List Int) (w : World) (ha : Row .i64 w a xs) :
    Calls Try.prog 21 #[.agg #[.int .i64 k, .int .i64 p, .bool o, .slice a xs.length ca]] w fun e w' => ∃ v, e = .returned v ∧ w'.ownsRow w.heap.size 5 1 v (msgB k p o xs).length ((msgB k p o xs).map (Value.int .u8)) ∧ Below w.heap.size w w' := by
  have bA := bel_alloc (Below.refl w.heap.size w) (.cells #[.int .i64 k, .int .i64 p, .bool o, .slice a xs.length ca] 27)
  have hr := ha.below bA
  by_cases hok : msgOkB k p o xs = true
  · have hin := nums_in hok
    have hnl := nums_len hok
    have HM : Hid (msgB k p o xs = flatB (numsOf k p o xs)) := by show _ = _; unfold msgB; rw [if_pos hok]
    have HOK : Hid (msgOkB k p o xs = true) := hok
    go_enter Try.func21, Try.ntmps21
    go_wp2_with fail
    refine (letter_any k p o a ca xs _ hr).mono ?_
    rintro e w1 ⟨L, rfl, hL, b1⟩
    rw [hL hok]
    have B1 := bel_trans bA b1
    clear hL b1 bA hr ha
    go_wp2_with fail
    refine (nums_any k p o xs _ HOK.out).mono ?_
    rintro e w2 ⟨v2, rfl, o2, b2⟩
    obtain ⟨N, hN⟩ : ∃ N, numsOf k p o xs = N := ⟨_, rfl⟩
    rw [hN] at hin hnl o2 HM
    clear hN hok HOK
    obtain ⟨a2, c2, rfl, q2, _, _⟩ := owns_row o2 (by omega)
    have B2 := bel_trans B1 b2
    clear b2 B1 o2
    go_wp2
    obtain ⟨n, hn⟩ : ∃ n, N.length = n := ⟨_, rfl⟩
    have HN : Hid (N.length = n) := hn
    have hq : ∀ i, i < n → ∃ b off, a2 = some ⟨b, off, none⟩ ∧ w2.cell? ⟨b, off + i, none⟩ = some (.int .i64 (N.getD i 0)) := by rw [← hn]; exact q2.2
    rw [hn] at hnl ⊢
    clear hn q2
    go_loopw [5, 18] (fun v i wr => ∃ j : Nat, j ≤ n ∧ i = .int .i64 j ∧ wr.ownsRow w2.heap.size 5 1 v (flatB (N.take j)).length ((flatB (N.take j)).map (Value.int .u8)) ∧ Below w2.heap.size w2 wr) (fun _ i _ => n - (intOf i).toNat)
    case atStart => exact ⟨0, Nat.zero_le _, rfl, World.ownsRow_nil _ _ _ _, Below.refl _ _⟩
    case round =>
      obtain ⟨j, hj, rfl, hown, hbel⟩ := hrel
      by_cases hlt : j < n
      · obtain ⟨b, off, rfl, hc⟩ := hq j hlt
        have hcr : _ = _ := (hbel.cell (p := ⟨b, off + j, none⟩) (lt_of_cell hc)).trans hc
        have hx := at_in hin j (by have := HN.out; omega)
        have HT : Hid (flatB (N.take (j + 1)) = flatB (N.take j) ++ enc 2 (N.getD j 0)) := flatB_take N j (by have := HN.out; omega)
        have hfl : (flatB (N.take j)).length ≤ 21 := by have h1 := flatB_len (N.take j); have h2 : (N.take j).length ≤ j := List.length_take_le _ _; omega
        obtain ⟨c, hce⟩ : ∃ c, N.getD j 0 = c := ⟨_, rfl⟩
        rw [hce] at hcr hx HT
        have hi' : (j : Int) < (n : Int) := by omega
        have hsz := hbel.size
        clear hc hce hq hin
        obtain ⟨F, hF⟩ : ∃ F, flatB (N.take j) = F := ⟨_, rfl⟩
        rw [hF] at hown HT hfl
        clear hF
        go_wp2_with fail
        refine (appendNum_any w2.heap.size F.length _ F c wr hsz hx.1 hx.2 (by omega) hown).mono ?_
        rintro e w3 ⟨v3, rfl, o3, b3⟩
        have hb3 := hbel.trans b3
        rw [← HT.out] at o3
        clear hown hbel b3
        go_wp2
        go_roundw
        case rel => exact ⟨j + 1, by omega, by go_num, o3, hb3⟩
        case measure => simp [intOf]; omega
      · go_wp2
        go_ret
        have e : N.take j = N := List.take_of_length_le (by have := HN.out; omega)
        rw [e] at hown
        rw [HM.out]
        exact ⟨_, rfl, owns_base hown B2.size, bel_trans B2 hbel⟩
  · have HM : Hid (msgB k p o xs = []) := by show _ = _; unfold msgB; rw [if_neg hok]
    have hok' : msgOkB k p o xs = false := by simpa using hok
    clear hok
    go_enter Try.func21, Try.ntmps21
    go_wp2_with fail
    refine (letter_any k p o a ca xs _ hr).mono ?_
    rintro e w1 ⟨L, rfl, hL, b1⟩
    have B1 := bel_trans bA b1
    clear hL b1 bA hr ha
    go_wp2
    go_ret
    rw [HM.out]
    exact ⟨_, rfl, World.ownsRow_nil _ _ _ _, B1⟩
end Go.Proofs.Ytidgiklkgmfmcaa
