/- What FrameRead does on both sides; the specification's FrameOk. -/
import Derived.Test.YtdopcdpapbfdlaaFrmH
import Derived.Test.YtdopcdpapbfdlaaSpecOk
namespace Go.Proofs.Ytdopcdpapbfdlaa
open Go.RowKit
set_option linter.unusedVariables false

set_option maxHeartbeats 1000000 in
theorem specFrameOk_any (s : Int) (q : Bool) (a : Option Addr) (ca : Nat) (xs : List Int) (w : World) (ha : Row .i64 w a xs) :
    Calls Try.prog 33 #[.agg #[.int .i64 s, .slice a xs.length ca, .bool q]] w fun e w' => e = .returned (.bool (frameOkB s xs)) ∧ Below w.heap.size w w' := by
  have bA := bel_alloc (Below.refl w.heap.size w) (.cells #[.int .i64 s, .slice a xs.length ca, .bool q] 50)
  have hr := ha.below bA
  by_cases h0 : s = 0
  · subst h0
    clear ha hr
    go_enter Try.func33, Try.ntmps33
    go_wp2
    go_ret
    exact ⟨ret_bool (frame_zero xs).symm, bA⟩
  · have hs : (s == 0) = false := by simp [h0]
    have HF : Hid (frameOkB s xs = (decide (0 ≤ s ∧ s ≤ 2) && wordsB xs 4)) := frame_some hs
    clear h0
    cases hd : decide (0 ≤ s ∧ s ≤ 2)
    all_goals
      rw [hd] at HF
      go_enter Try.func33, Try.ntmps33
      go_wp2_with (first | (go_at_call 55; refine (specIn_any _ _ _ _).mono ?_; rintro e w1 ⟨rfl, rfl⟩) | (go_at_call 56; refine (specWords_any a ca xs _ _ hr).mono ?_; rintro e w1 ⟨rfl, rfl⟩))
      go_ret
      exact ⟨ret_bool (HF.out.symm), bA⟩

/-- What FrameRead answers. -/
def readN (s : Int) (xs : List Int) (i : Int) : Int := if frameOkB s xs && decide (0 ≤ i ∧ i < xs.length) then xs.getD i.toNat 0 else 0
def readB (s : Int) (xs : List Int) (i : Int) : Bool := frameOkB s xs && decide (0 ≤ i ∧ i < xs.length)

theorem read_no {s : Int} {xs : List Int} {i : Int} (h : readB s xs i = false) : readN s xs i = 0 := by
  unfold readB at h
  unfold readN
  rw [h]
  rfl
theorem read_yes {s : Int} {xs : List Int} {i : Int} (h : readB s xs i = true) : readN s xs i = xs.getD i.toNat 0 := by
  unfold readB at h
  unfold readN
  rw [h]
  rfl

set_option maxHeartbeats 1000000 in
theorem specRead_any (s : Int) (q : Bool) (a : Option Addr) (ca : Nat) (xs : List Int) (i : Int) (w : World) (ha : Row .i64 w a xs) :
    Calls Try.prog 31 #[.agg #[.int .i64 s, .slice a xs.length ca, .bool q], .int .i64 i] w fun e w' => e = .returned (.tuple #[.int .i64 (readN s xs i), .bool (readB s xs i)]) ∧ Below w.heap.size w w' := by
  have bA := bel_alloc (Below.refl w.heap.size w) (.cells #[.int .i64 s, .slice a xs.length ca, .bool q] 50)
  have XA := Box.new w #[.int .i64 s, .slice a xs.length ca, .bool q] 50
  have hr := ha.below bA
  have hlen := ha.1
  go_enter Try.func31, Try.ntmps31
  go_wp2_with fail
  refine (specFrameOk_any s q a ca xs _ hr).mono ?_
  rintro e w1 ⟨rfl, b1⟩
  have XA := XA.below b1
  have hr := hr.below b1
  have B := bel_trans bA b1
  obtain ⟨x0, x1, x2, zx⟩ := XA.at3
  clear b1 bA ha
  cases hf : frameOkB s xs
  · have HB : Hid (readB s xs i = false) := by show _ = _; unfold readB; rw [hf]; rfl
    clear hf hr
    go_wp2
    go_ret2
    rw [read_no HB.out, HB.out]
    exact ⟨rfl, B⟩
  · have hrB : readB s xs i = decide (0 ≤ i ∧ i < xs.length) := by unfold readB; rw [hf]; rfl
    have hdd : decide (0 ≤ i ∧ i ≤ (xs.length : Int) - 1) = decide (0 ≤ i ∧ i < (xs.length : Int)) := by
      apply decide_eq_decide.2
      omega
    cases hd : decide (0 ≤ i ∧ i < (xs.length : Int))
    · have HB : Hid (readB s xs i = false) := by show _ = _; rw [hrB, hd]
      rw [hd] at hdd
      clear hf hr hrB hd
      go_wp2_with (go_at_call 55; refine (specIn_any _ _ _ _).mono ?_; rintro e w2 ⟨rfl, rfl⟩)
      go_ret2
      rw [read_no HB.out, HB.out]
      exact ⟨rfl, B⟩
    · have HB : Hid (readB s xs i = true) := by show _ = _; rw [hrB, hd]
      rw [hd] at hdd
      obtain ⟨h0, h1⟩ := of_decide_eq_true hd
      obtain ⟨n, rfl⟩ : ∃ n : Nat, i = n := ⟨i.toNat, by omega⟩
      obtain ⟨b, off, rfl, hc⟩ := hr.2 n (by omega)
      have HR := read_yes HB.out
      rw [Int.toNat_natCast] at HR
      rw [← HR] at hc
      have HB2 : Hid (readB s xs n = true) := HB
      obtain ⟨v, hv⟩ : ∃ v, readN s xs n = v := ⟨_, rfl⟩
      rw [hv] at hc
      have h1' : (n : Int) ≤ (xs.length : Int) - 1 := by omega
      clear hf hr hrB hd HR HB
      go_wp2_with (go_at_call 55; refine (specIn_any _ _ _ _).mono ?_; rintro e w2 ⟨rfl, rfl⟩)
      go_ret2
      rw [HB2.out, hv]
      exact ⟨rfl, B⟩

set_option maxRecDepth 100000 in
set_option maxHeartbeats 1000000 in
theorem implRead_any (s : Int) (q : Bool) (a : Option Addr) (ca : Nat) (xs : List Int) (i : Int) (w : World) (ha : Row .i64 w a xs) :
    Calls Try.prog 30 #[.agg #[.int .i64 s, .slice a xs.length ca, .bool q], .int .i64 i] w fun e w' => e = .returned (.tuple #[.int .i64 (readN s xs i), .bool (readB s xs i)]) ∧ Below w.heap.size w w' := by
  have bA := bel_alloc (Below.refl w.heap.size w) (.cells #[.int .i64 s, .slice a xs.length ca, .bool q] 50)
  have hr := ha.below bA
  go_enter Try.func30, Try.ntmps30
  go_wp2_with fail
  refine (holding_any s q a ca xs _ hr).mono ?_
  rintro e w1 ⟨t, c0, c1, c2, c3, r, rfl, hL, b1⟩
  have XH := Box.new w1 #[.int .i64 t, .int .i64 c0, .int .i64 c1, .int .i64 c2, .int .i64 c3, .bool r] 102
  have B := bel_alloc (bel_trans bA b1) (.cells #[.int .i64 t, .int .i64 c0, .int .i64 c1, .int .i64 c2, .int .i64 c3, .bool r] 102)
  clear b1 bA ha hr
  cases hf : frameOkB s xs
  · have HB : Hid (readB s xs i = false) := by show _ = _; unfold readB; rw [hf]; rfl
    clear hf hL XH
    go_wp2
    go_ret2
    rw [read_no HB.out, HB.out]
    exact ⟨rfl, B⟩
  · obtain ⟨rfl, rfl, hW⟩ := hL hf
    rcases hW with ⟨rfl, rfl, rfl, rfl, rfl, rfl⟩ | ⟨hs, rfl, hwb⟩
    · have HB : Hid (readB 0 [] i = false) := by show _ = _; unfold readB; simp
      clear hf hL
      go_wp2_with fail
      refine (empty_yes _ _ _).mono ?_
      rintro e w2 ⟨rfl, b2⟩
      have B := bel_trans B b2
      clear b2
      go_wp2
      go_ret2
      rw [read_no HB.out, HB.out]
      exact ⟨rfl, B⟩
    · have hc0 : 0 ≤ c0 := by
        unfold wordsB at hwb
        simp only [Bool.and_eq_true, List.all_cons] at hwb
        exact (wordB_true hwb.1.1).1
      have hrB : readB t [c0, c1, c2, c3] i = placeB i := by
        unfold readB placeB
        rw [hf, Bool.true_and]
        apply decide_eq_decide.2
        have e4 : (([c0, c1, c2, c3].length : Nat) : Int) = 4 := rfl
        rw [e4]
        omega
      cases hp : placeB i
      · have HB : Hid (readB t [c0, c1, c2, c3] i = false) := by show _ = _; rw [hrB, hp]
        clear hf hL hrB
        go_wp2_with (first | (go_at_call 71; refine (empty_no _ _ c0 c1 c2 c3 _ hc0).mono ?_; rintro e w2 ⟨rfl, b2⟩) | (go_at_call 66; refine (isPlace_any _ _).mono ?_; rintro e w3 ⟨rfl, rfl⟩))
        go_ret2
        rw [read_no HB.out, HB.out]
        exact ⟨rfl, bel_trans B b2⟩
      · have HB : Hid (readB t [c0, c1, c2, c3] i = true) := by show _ = _; rw [hrB, hp]
        have hi : i = 0 ∨ i = 1 ∨ i = 2 ∨ i = 3 := by
          unfold placeB at hp
          have := of_decide_eq_true hp
          omega
        have HR : Hid (readN t [c0, c1, c2, c3] i = [c0, c1, c2, c3].getD i.toNat 0) := read_yes HB.out
        clear hf hL hrB hwb
        rcases hi with rfl | rfl | rfl | rfl
        all_goals
          go_wp2_with fail
          refine (empty_no _ _ c0 c1 c2 c3 _ hc0).mono ?_
          rintro e w2 ⟨rfl, b2⟩
          obtain ⟨h0, h1, h2, h3, h4, h5, zh⟩ := (XH.below b2).at6
          have B2 := bel_trans B b2
          clear b2 XH B
          go_wp2_with (go_at_call 66; refine (isPlace_any _ _).mono ?_; rintro e w3 ⟨rfl, rfl⟩)
          go_ret2
          rw [HR.out, HB.out]
          exact ⟨rfl, B2⟩
end Go.Proofs.Ytdopcdpapbfdlaa
