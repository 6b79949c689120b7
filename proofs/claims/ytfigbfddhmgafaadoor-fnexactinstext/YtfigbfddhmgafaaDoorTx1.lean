/- What the specification's l16Digits answers: a number from 0 on in decimal digits. -/
import Derived.Test.YtfigbfddhmgafaaDoorIn8L
import Derived.Laws.BytesArg
import Derived.Laws.Concat
import Derived.Lib.ItoaNum
namespace Go.Proofs.YtfigbfddhmgafaaDoor
open Go.RowKit
set_option linter.unusedVariables false

/-- The decimal digits of a number. -/
def digs (n : Nat) : List UInt8 := Lib.decDigits n
theorem digs_small {n : Nat} (h : n < 10) : digs n = [UInt8.ofNat (48 + n)] := by unfold digs; rw [Lib.decDigits, dif_pos h]
theorem digs_big {n : Nat} (h : ¬ n < 10) : digs n = digs (n / 10) ++ [UInt8.ofNat (48 + n % 10)] := by unfold digs; rw [Lib.decDigits, dif_neg h]
theorem digs_len (n : Nat) : (digs n).length ≤ n + 1 := by
  induction n using Nat.strongRecOn with
  | _ n ih =>
    by_cases h : n < 10
    · rw [digs_small h]; simp
    · rw [digs_big h]
      have := ih (n / 10) (by omega)
      simp
      omega
/-- A text of bytes. -/
abbrev txt (l : List UInt8) : Value := .string ⟨l.toArray⟩
theorem add_txt {P : Program} (w : World) (x y : List UInt8) (hx : x.length ≤ 8388608) (hy : y.length ≤ 8388608) : (Op.stringOp .add ⟨x.toArray⟩ ⟨y.toArray⟩).run P w = .ok (txt (x ++ y)) w := run_string_add_lists w x y (by omega) (by omega)

set_option maxRecDepth 100000 in
set_option maxHeartbeats 2000000 in
theorem l16Digits_any (n : Nat) (hn : n ≤ 1000000) (w : World) : Calls Tryd.prog 20 #[.int .i64 n] w fun e w' => e = .returned (txt (digs n)) ∧ Below w.heap.size w w' := by
  by_cases h0 : n = 0
  · subst h0
    go_enter Tryd.func20, Tryd.ntmps20
    go_wp2
    go_ret
    exact ⟨by rw [digs_small (by omega)]; rfl, Below.refl _ _⟩
  · have hp : (0 : Int) < n := by omega
    have HL : Hid ((digs n).length ≤ 1000001) := by have := digs_len n; show _ ≤ _; omega
    go_enter Tryd.func20, Tryd.ntmps20
    go_wp2
    go_loopw [0, 3] (fun i v wr => ∃ (m : Nat) (s : List UInt8), i = .int .i64 m ∧ v = txt s ∧ m ≤ n ∧ s.length ≤ 1000001 ∧ ((m = 0 ∧ s = digs n) ∨ (0 < m ∧ digs m ++ s = digs n)) ∧ Below w.heap.size w wr) (fun i _ _ => (intOf i).toNat)
    case atStart => exact ⟨n, [], rfl, rfl, Nat.le_refl _, by simp, .inr ⟨by omega, by simp⟩, Below.refl _ _⟩
    case round =>
      obtain ⟨m, s, rfl, rfl, hm, hs, hd, B⟩ := hrel
      by_cases hm0 : m = 0
      · subst hm0
        have HD : Hid (s = digs n) := by
          rcases hd with h | h
          · exact h.2
          · omega
        clear hd
        go_wp2
        go_ret
        exact ⟨by rw [← HD.out]; rfl, B⟩
      · have hmp : (0 : Int) < m := by omega
        have HD : Hid (digs m ++ s = digs n) := by
          rcases hd with h | h
          · omega
          · exact h.2
        clear hd
        have hconv := run_convert_bytes_arg (P := Tryd.prog) (wr.alloc (.cells #[.int .u8 (48 + (m : Int) % 10)] 5)) 57 5 Tryd.underlying57 Tryd.underlying5 wr.heap.size 0 1 1 [48 + (m : Int) % 10] rfl (fun i hi => by
          obtain rfl : i = 0 := by omega
          exact (Box.new wr #[.int .u8 (48 + (m : Int) % 10)] 5).cell 0) 9 Tryd.underlying9
        obtain ⟨c, hc⟩ : ∃ c : UInt8, UInt8.ofNat (48 + m % 10) = c := ⟨_, rfl⟩
        have e1 : strOfNums [48 + (m : Int) % 10] = ⟨[c].toArray⟩ := by
          rw [← hc]
          simp only [strOfNums, List.map_cons, List.map_nil]
          congr 3
        rw [e1] at hconv
        have hadd := fun W => add_txt (P := Tryd.prog) W [c] s (by simp) (by omega)
        have HC : Hid (UInt8.ofNat (48 + m % 10) = c) := hc
        clear hc e1
        have HK : Hid ((c :: s).length ≤ 1000001 ∧ ((m / 10 = 0 ∧ c :: s = digs n) ∨ (0 < m / 10 ∧ digs (m / 10) ++ (c :: s) = digs n))) := by
          have h1 := HD.out
          by_cases h10 : m < 10
          · rw [digs_small h10, show 48 + m = 48 + m % 10 by omega, HC.out] at h1
            have h2 : c :: s = digs n := h1
            exact ⟨by rw [h2]; exact HL.out, .inl ⟨by omega, h2⟩⟩
          · rw [digs_big h10, HC.out, List.append_assoc] at h1
            have h2 : digs (m / 10) ++ (c :: s) = digs n := h1
            refine ⟨?_, .inr ⟨by omega, h2⟩⟩
            have h3 := congrArg List.length h2
            have h4 := HL.out
            rw [List.length_append] at h3
            omega
        have HB : Hid (Below w.heap.size w (wr.alloc (.cells #[.int .u8 (48 + (m : Int) % 10)] 5))) := bel_alloc B _
        go_wp2
        exact ⟨⟨m / 10, c :: s, by simp, rfl, by omega, HK.out.1, HK.out.2, HB.out⟩, by simp [intOf]; omega⟩
end Go.Proofs.YtfigbfddhmgafaaDoor
