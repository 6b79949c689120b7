/- What both NodeOk do. -/
import Derived.Test.YtmhgmdohibldoaaNdN0
import Derived.Test.YtmhgmdohibldoaaFrmR
import Derived.Test.YtmhgmdohibldoaaSnd
namespace Go.Proofs.Ytmhgmdohibldoaa
open Go.RowKit
set_option linter.unusedVariables false

def allB (n : Nat) (f : Nat → Bool) : Bool := (List.range n).all f
theorem allB_bad {n i : Nat} {f : Nat → Bool} (hi : i < n) (h : f i = false) : allB n f = false := by
  unfold allB
  rw [List.all_eq_false]
  exact ⟨i, by simpa using hi, by simp [h]⟩
theorem allB_ok {n : Nat} {f : Nat → Bool} (h : ∀ i, i < n → f i = true) : allB n f = true := by
  unfold allB
  rw [List.all_eq_true]
  intro i hi
  exact h i (by simpa using hi)
theorem allB_at {n i : Nat} {f : Nat → Bool} (h : allB n f = true) (hi : i < n) : f i = true := by
  unfold allB at h
  rw [List.all_eq_true] at h
  exact h i (by simpa using hi)

def sB (base : Int) (y : List Say) : Bool := decide (0 ≤ base ∧ base ≤ 100000) && (decide (y.length ≤ 30) && (decide (base + y.length ≤ 100000) && y.all okS))
theorem senderB_eq (base : Int) (ms : List M) : senderB base ms = sB base (ms.map M.say) := by
  simp [senderB, sB, Function.comp_def]

def frB (d : FD) : Bool := frameOkB d.s d.xs
def hoB (nodes : Int) (d : HD) : Bool := homeB nodes d.ow d.wh d.ak d.xs d.bs.length d.ws
def nodeOkB (d : ND) (nodes : Int) : Bool := nodeB d.id nodes && (decide (d.nf = 6) && (decide (d.nh = 6) && (decide ((d.no : Int) = nodes) && (decide ((d.ni : Int) = nodes) &&
  (allB d.nf (fun i => frB (d.f i)) && (allB d.nh (fun i => hoB nodes (d.h i)) && (allB d.no (fun i => sB (d.b i) (d.y i)) && allB d.ni (fun i => inB (d.g i) 0 100000))))))))

set_option maxRecDepth 100000 in
set_option maxHeartbeats 1000000 in
theorem allOkF_any (a : Option Addr) (c n : Nat) (d : Nat → FD) (p : Nat → Pl) (w : World) (ha : FR w a n d p) :
    Calls Try.prog 36 #[.slice a n c, .func (.func 37) #[] #[]] w fun e w' => e = .returned (.bool (allB n fun i => frB (d i))) ∧ Below w.heap.size w w' := by
  have hl : n ≤ 1048577 := ha.1
  go_enter Try.func36, Try.ntmps36
  go_wp2
  go_loopw [9] (fun i wr => ∃ k : Nat, k ≤ n ∧ i = .int .i64 k ∧ (∀ i, i < k → frB (d i) = true) ∧ FR wr a n d p ∧ Below w.heap.size w wr) (fun i _ => n - (intOf i).toNat)
  case atStart => exact ⟨0, Nat.zero_le _, rfl, fun i hi => absurd hi (Nat.not_lt_zero i), ha, Below.refl _ _⟩
  case round =>
    obtain ⟨k, hk, rfl, hall, hma, hB⟩ := hrel
    have HA : Hid (∀ i, i < k → frB (d i) = true) := hall
    clear hall ha
    by_cases hlt : k < n
    · have hi : (k : Int) < (n : Int) := by omega
      obtain ⟨ba, oa, rfl, y0, y1, y2⟩ := hma.at hlt
      have ra := hma.2.2 k hlt
      have bx := bel_alloc (Below.refl wr.heap.size wr) (.cells #[.int .i64 (d k).s, .slice (p k).1 (d k).xs.length (p k).2, .bool (d k).q] 71)
      go_wp2_with fail
      refine (frameOk_any (d k).s (d k).q (p k).1 (p k).2 (d k).xs _ (ra.below bx)).mono ?_
      rintro e w1 ⟨rfl, b1⟩
      have hma1 := hma.below (bel_trans bx b1)
      have hB1 := bel_trans hB (bel_trans bx b1)
      clear hma hB b1 y0 y1 y2 ra bx
      cases hf : frameOkB (d k).s (d k).xs
      · have HF : Hid (allB n (fun i => frB (d i)) = false) := allB_bad hlt (by simpa [frB] using hf)
        clear hf
        go_wp2
        go_ret
        exact ⟨ret_bool HF.out.symm, hB1⟩
      · have HT : Hid (∀ i, i < k + 1 → frB (d i) = true) := fun i hi => by
          by_cases e : i = k
          · subst e; simpa [frB] using hf
          · exact HA.out i (by omega)
        clear hf
        go_wp2
        go_roundw
        case rel => exact ⟨k + 1, by omega, by go_num, HT.out, hma1, hB1⟩
        case measure => simp [intOf]; omega
    · have HT : Hid (allB n (fun i => frB (d i)) = true) := allB_ok (fun i hi => HA.out i (by omega))
      clear hma
      go_wp2
      go_ret
      exact ⟨ret_bool HT.out.symm, hB⟩

set_option maxRecDepth 100000 in
set_option maxHeartbeats 1000000 in
theorem allOkS_any (a : Option Addr) (c n : Nat) (b : Nat → Int) (y : Nat → List Say) (p : Nat → Pl) (ms : Nat → List M) (w : World) (ha : SR w a n b y p ms) :
    Calls Try.prog 39 #[.slice a n c, .func (.func 40) #[] #[]] w fun e w' => e = .returned (.bool (allB n fun i => sB (b i) (y i))) ∧ Below w.heap.size w w' := by
  have hl : n ≤ 1048577 := ha.1
  go_enter Try.func39, Try.ntmps39
  go_wp2
  go_loopw [9] (fun i wr => ∃ k : Nat, k ≤ n ∧ i = .int .i64 k ∧ (∀ i, i < k → sB (b i) (y i) = true) ∧ SR wr a n b y p ms ∧ Below w.heap.size w wr) (fun i _ => n - (intOf i).toNat)
  case atStart => exact ⟨0, Nat.zero_le _, rfl, fun i hi => absurd hi (Nat.not_lt_zero i), ha, Below.refl _ _⟩
  case round =>
    obtain ⟨k, hk, rfl, hall, hma, hB⟩ := hrel
    have HA : Hid (∀ i, i < k → sB (b i) (y i) = true) := hall
    clear hall ha
    by_cases hlt : k < n
    · have hi : (k : Int) < (n : Int) := by omega
      obtain ⟨ba, oa, rfl, y0, y1⟩ := hma.at hlt
      have ra := hma.2.2 k hlt
      have HE : Hid (senderB (b k) (ms k) = sB (b k) (y k)) := by show _ = _; rw [senderB_eq, ra.2]
      have HL : (y k).length = (ms k).length := by have := congrArg List.length ra.2; simpa using this.symm
      rw [HL] at y1
      have ra1 := ra.1
      have bx := bel_alloc (Below.refl wr.heap.size wr) (.cells #[.int .i64 (b k), .slice (p k).1 (ms k).length (p k).2] 82)
      clear HL ra
      go_wp2_with fail
      refine (implSender_any (b k) (p k).1 (p k).2 (ms k) _ (ra1.below bx)).mono ?_
      rintro e w1 ⟨rfl, b1⟩
      rw [HE.out]
      have hma1 := hma.below (bel_trans bx b1)
      have hB1 := bel_trans hB (bel_trans bx b1)
      clear hma hB b1 y0 y1 ra1 bx
      cases hf : sB (b k) (y k)
      · have HF : Hid (allB n (fun i => sB (b i) (y i)) = false) := allB_bad hlt hf
        clear hf
        go_wp2
        go_ret
        exact ⟨ret_bool HF.out.symm, hB1⟩
      · have HT : Hid (∀ i, i < k + 1 → sB (b i) (y i) = true) := fun i hi => by
          by_cases e : i = k
          · subst e; exact hf
          · exact HA.out i (by omega)
        clear hf
        go_wp2
        go_roundw
        case rel => exact ⟨k + 1, by omega, by go_num, HT.out, hma1, hB1⟩
        case measure => simp [intOf]; omega
    · have HT : Hid (allB n (fun i => sB (b i) (y i)) = true) := allB_ok (fun i hi => HA.out i (by omega))
      clear hma
      go_wp2
      go_ret
      exact ⟨ret_bool HT.out.symm, hB⟩

theorem isSeq_n (x : Int) (w : World) : Calls Try.prog 35 #[.int .i64 x] w fun e w' => e = .returned (.bool (inB x 0 100000)) ∧ w' = w := by
  by_cases h0 : 0 ≤ x
  · by_cases h1 : x ≤ 100000
    · have hd : inB x 0 100000 = true := by simp [inB, h0, h1]
      rw [hd]
      go_enter Try.func35, Try.ntmps35
      go_wp2
      go_ret
      exact ⟨rfl, rfl⟩
    · have hd : inB x 0 100000 = false := by simp [inB, h1]
      rw [hd]
      have h1' : 100000 < x := by omega
      go_enter Try.func35, Try.ntmps35
      go_wp2
      go_ret
      exact ⟨rfl, rfl⟩
  · have hd : inB x 0 100000 = false := by simp [inB, h0]
    rw [hd]
    have h0' : x < 0 := by omega
    go_enter Try.func35, Try.ntmps35
    go_wp2
    go_ret
    exact ⟨rfl, rfl⟩

theorem gotOk_any (x : Int) (w : World) : Calls Try.prog 34 #[.agg #[.int .i64 x]] w fun e w' => e = .returned (.bool (inB x 0 100000)) ∧ Below w.heap.size w w' := by
  have bA := bel_alloc (Below.refl w.heap.size w) (.cells #[.int .i64 x] 84)
  go_enter Try.func34, Try.ntmps34
  go_wp2_with fail
  refine (isSeq_n x _).mono ?_
  rintro e w1 ⟨rfl, h⟩
  subst h
  go_wp2
  go_ret
  exact ⟨rfl, bA⟩

set_option maxRecDepth 100000 in
set_option maxHeartbeats 1000000 in
theorem allOkG_any (a : Option Addr) (c n : Nat) (g : Nat → Int) (w : World) (ha : GR w a n g) :
    Calls Try.prog 41 #[.slice a n c, .func (.func 34) #[] #[]] w fun e w' => e = .returned (.bool (allB n fun i => inB (g i) 0 100000)) ∧ Below w.heap.size w w' := by
  have hl : n ≤ 1048577 := ha.1
  go_enter Try.func41, Try.ntmps41
  go_wp2
  go_loopw [9] (fun i wr => ∃ k : Nat, k ≤ n ∧ i = .int .i64 k ∧ (∀ i, i < k → inB (g i) 0 100000 = true) ∧ GR wr a n g ∧ Below w.heap.size w wr) (fun i _ => n - (intOf i).toNat)
  case atStart => exact ⟨0, Nat.zero_le _, rfl, fun i hi => absurd hi (Nat.not_lt_zero i), ha, Below.refl _ _⟩
  case round =>
    obtain ⟨k, hk, rfl, hall, hma, hB⟩ := hrel
    have HA : Hid (∀ i, i < k → inB (g i) 0 100000 = true) := hall
    clear hall ha
    by_cases hlt : k < n
    · have hi : (k : Int) < (n : Int) := by omega
      obtain ⟨ba, oa, rfl, y0⟩ := hma.at hlt
      have bx := bel_alloc (Below.refl wr.heap.size wr) (.cells #[.int .i64 (g k)] 84)
      go_wp2_with fail
      refine (gotOk_any (g k) _).mono ?_
      rintro e w1 ⟨rfl, b1⟩
      have hma1 := hma.below (bel_trans bx b1)
      have hB1 := bel_trans hB (bel_trans bx b1)
      clear hma hB b1 y0 bx
      cases hf : inB (g k) 0 100000
      · have HF : Hid (allB n (fun i => inB (g i) 0 100000) = false) := allB_bad hlt hf
        clear hf
        go_wp2
        go_ret
        exact ⟨ret_bool HF.out.symm, hB1⟩
      · have HT : Hid (∀ i, i < k + 1 → inB (g i) 0 100000 = true) := fun i hi => by
          by_cases e : i = k
          · subst e; exact hf
          · exact HA.out i (by omega)
        clear hf
        go_wp2
        go_roundw
        case rel => exact ⟨k + 1, by omega, by go_num, HT.out, hma1, hB1⟩
        case measure => simp [intOf]; omega
    · have HT : Hid (allB n (fun i => inB (g i) 0 100000) = true) := allB_ok (fun i hi => HA.out i (by omega))
      clear hma
      go_wp2
      go_ret
      exact ⟨ret_bool HT.out.symm, hB⟩
end Go.Proofs.Ytmhgmdohibldoaa
