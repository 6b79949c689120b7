/- NdN0 and NdO and NdO2: see the heads of the parts. -/
import Derived.Test.YtpfppeifppdmbaaGreatNdK
import Derived.Test.YtpfppeifppdmbaaGreatHomN
import Derived.Test.YtpfppeifppdmbaaGreatHomO
import Derived.Deep.DeepCutAuto
import Derived.Test.YtpfppeifppdmbaaGreatFrmR
import Derived.Test.YtpfppeifppdmbaaGreatSnd
/- Small facts ahead of both NodeNew. -/
namespace Go.Proofs.YtpfppeifppdmbaaGreat
open Go.RowKit
set_option linter.unusedVariables false

def nodeB (id nodes : Int) : Bool := inB nodes 1 4 && inB id 0 (nodes - 1)

theorem isNode_n (id nodes : Int) (w : World) :
    Calls Tryz.prog 82 #[.int .i64 id, .int .i64 nodes] w fun e w' => e = .returned (.bool (nodeB id nodes)) ∧ w' = w := by
  by_cases h4 : nodes ≤ 4
  · refine (isNode_h id nodes w h4).mono ?_
    rintro e w1 ⟨rfl, h⟩
    refine ⟨ret_bool ?_, h⟩
    unfold nodeB inB
    by_cases h1 : 0 ≤ id <;> by_cases h2 : id ≤ nodes - 1 <;> simp [h1, h2] <;> omega
  · have hd : nodeB id nodes = false := by simp [nodeB, inB, h4]
    rw [hd]
    have h4' : 4 < nodes := by omega
    go_enter Tryz.func82, Tryz.ntmps82
    go_wp2
    go_ret
    exact ⟨rfl, rfl⟩

theorem make_all (t e : TypeId) (z : Value) (size bytes : Nat) (ht : Tryz.prog.underlying t = some (.slice e)) (hinfo : (Tryz.prog.info? e).map (fun i => (i.zero, i.size, i.bytes)) = some (some z, size, bytes)) (n : Nat) (hb : bytes * n ≤ 281474976710656) (hn : n ≤ 9223372036854775807) (W : World) :
    (Instr.makeSlice t (.int .i64 (n : Int)) (.int .i64 (n : Int))).run Tryz.prog W = .ok (.slice (some ⟨W.heap.size, 0, none⟩) n n) (W.alloc (.cells (madeCells z.cells (n * size)) e)) := by
  obtain ⟨i, hi, hzz⟩ := Option.map_eq_some_iff.1 hinfo
  simp only [Prod.mk.injEq] at hzz
  obtain ⟨hz, hs, hbb⟩ := hzz
  have hb' : (i.bytes : Int) * (n : Int) ≤ 281474976710656 := by
    have h : ((i.bytes * n : Nat) : Int) ≤ 281474976710656 := by rw [hbb]; omega
    rwa [Int.natCast_mul] at h
  have hr := run_make (P := Tryz.prog) W t e i z ht hi hz .i64 .i64 n n (by omega) (Int.le_refl _) hb' (by omega)
  simp only [Int.toNat_natCast, hs] at hr
  exact hr

theorem own_last {w : World} {z : Array Value} {e s n g base : Nat} (hg : g = w.heap.size) (hs : z.size = n * s) (hb : base ≤ w.heap.size) (hn : n ≤ maxLen) : (w.alloc (.cells z e)).ownsRow base e s (.slice (some ⟨g, 0, none⟩) n n) n z.toList := by
  subst hg
  exact World.ownsRow_lit w _ n hb hn hs

theorem info_home2 : (Tryz.prog.info? 93).map (fun i => (i.zero, i.size, i.bytes)) = some (some (.agg #[.slice none 0 0, .int .i64 0, .slice none 0 0, .bool false, .int .i64 0, .bool false, .int .i64 0, .slice none 0 0]), 8, 112) := by kernel_rfl
theorem info_sender2 : (Tryz.prog.info? 115).map (fun i => (i.zero, i.size, i.bytes)) = some (some (.agg #[.int .i64 0, .slice none 0 0]), 2, 32) := by kernel_rfl
theorem info_receiver2 : (Tryz.prog.info? 118).map (fun i => (i.zero, i.size, i.bytes)) = some (some (.agg #[.int .i64 0]), 1, 8) := by kernel_rfl

/-- A struct of five cells is stored into its box. -/
theorem lit_box5 {w : World} {m : Nat} {t : TypeId} {c0 c1 c2 c3 c4 d0 d1 d2 d3 d4 : Value} (h : Box w m #[c0, c1, c2, c3, c4] t) :
    Box (((((w.setCell ⟨m, 0, none⟩ d0).setCell ⟨m, 1, none⟩ d1).setCell ⟨m, 2, none⟩ d2).setCell ⟨m, 3, none⟩ d3).setCell ⟨m, 4, none⟩ d4) m #[d0, d1, d2, d3, d4] t := by
  have h0 : Box (w.setCell ⟨m, 0, none⟩ d0) m #[d0, c1, c2, c3, c4] t := heap_setCell_same _ _ 0 _ _ _ h
  have h1 : Box ((w.setCell ⟨m, 0, none⟩ d0).setCell ⟨m, 1, none⟩ d1) m #[d0, d1, c2, c3, c4] t := heap_setCell_same _ _ 1 _ _ _ h0
  have h2 : Box (((w.setCell ⟨m, 0, none⟩ d0).setCell ⟨m, 1, none⟩ d1).setCell ⟨m, 2, none⟩ d2) m #[d0, d1, d2, c3, c4] t := heap_setCell_same _ _ 2 _ _ _ h1
  have h3 : Box ((((w.setCell ⟨m, 0, none⟩ d0).setCell ⟨m, 1, none⟩ d1).setCell ⟨m, 2, none⟩ d2).setCell ⟨m, 3, none⟩ d3) m #[d0, d1, d2, d3, c4] t := heap_setCell_same _ _ 3 _ _ _ h2
  exact heap_setCell_same _ _ 4 _ _ _ h3
theorem lit_own5 {w : World} {m : Nat} {lo e s n : Nat} {v : Value} {xs : List Value} {d0 d1 d2 d3 d4 : Value} (h : w.ownsRow lo e s v n xs) (ne : ∀ j, v.ownBlock = some j → m ≠ j) :
    (((((w.setCell ⟨m, 0, none⟩ d0).setCell ⟨m, 1, none⟩ d1).setCell ⟨m, 2, none⟩ d2).setCell ⟨m, 3, none⟩ d3).setCell ⟨m, 4, none⟩ d4).ownsRow lo e s v n xs :=
  owns_setCell (owns_setCell (owns_setCell (owns_setCell (owns_setCell h ne _) ne _) ne _) ne _) ne _
theorem lit_bel5 {w0 w : World} {m : Nat} {d0 d1 d2 d3 d4 : Value} (h : Below w0.heap.size w0 w) (hm : w0.heap.size ≤ m) :
    Below w0.heap.size w0 (((((w.setCell ⟨m, 0, none⟩ d0).setCell ⟨m, 1, none⟩ d1).setCell ⟨m, 2, none⟩ d2).setCell ⟨m, 3, none⟩ d3).setCell ⟨m, 4, none⟩ d4) :=
  bel_setCell (bel_setCell (bel_setCell (bel_setCell (bel_setCell h _ _ hm) _ _ hm) _ _ hm) _ _ hm) _ _ hm
theorem lit_ne {w : World} {m lo e s n : Nat} {cs : Array Value} {t : TypeId} {v : Value} {xs : List Value} (h : Box w m cs t) (o : w.ownsRow lo e s v n xs) (he : e ≠ t) (hj : v.ownBlock = some m) : False := by
  rcases o.2 with ⟨rfl, _⟩ | ⟨g, cap, cur, rfl, _, hg, _⟩
  · simp [Value.ownBlock] at hj
  · simp [Value.ownBlock] at hj
    subst hj
    unfold Box at h
    rw [h] at hg
    simp at hg
    exact he hg.2.symm
end Go.Proofs.YtpfppeifppdmbaaGreat

/- What both NodeOk do. -/
namespace Go.Proofs.YtpfppeifppdmbaaGreat
open Go.RowKit
set_option linter.unusedVariables false

def allB (n : Nat) (f : Nat → Bool) : Bool := (List.range n).all f
theorem allB_bad {n i : Nat} {f : Nat → Bool} (hi : i < n) (h : f i = false) : allB n f = false := by
  unfold allB
  rw [List.all_eq_false]
  exact ⟨i, by simpa using hi, by simp [h]⟩
theorem allB_ok {n : Nat} {f : Nat → Bool} (h : ∀ i, i < n → f i = true) : allB n f = true := by
  unfold allB
  rw [List.all_eq_true]
  intro i hi
  exact h i (by simpa using hi)
theorem allB_at {n i : Nat} {f : Nat → Bool} (h : allB n f = true) (hi : i < n) : f i = true := by
  unfold allB at h
  rw [List.all_eq_true] at h
  exact h i (by simpa using hi)

def sB (base : Int) (y : List Say) : Bool := decide (0 ≤ base ∧ base ≤ 100000) && (decide (y.length ≤ 30) && (decide (base + y.length ≤ 100000) && y.all okS))
theorem senderB_eq (base : Int) (ms : List M) : senderB base ms = sB base (ms.map M.say) := by
  simp [senderB, sB, Function.comp_def]

def frB (d : FD) : Bool := frameOkB d.s d.xs
def hoB (nodes : Int) (d : HD) : Bool := homeB nodes d.ow d.wh d.ak d.xs d.bs.length d.ws
def nodeOkB (d : ND) (nodes : Int) : Bool := nodeB d.id nodes && (decide (d.nf = 6) && (decide (d.nh = 6) && (decide ((d.no : Int) = nodes) && (decide ((d.ni : Int) = nodes) &&
  (allB d.nf (fun i => frB (d.f i)) && (allB d.nh (fun i => hoB nodes (d.h i)) && (allB d.no (fun i => sB (d.b i) (d.y i)) && allB d.ni (fun i => inB (d.g i) 0 100000))))))))

set_option maxRecDepth 100000 in
set_option maxHeartbeats 1000000 in
theorem allOkF_any (a : Option Addr) (c n : Nat) (d : Nat → FD) (p : Nat → Pl) (w : World) (ha : FR w a n d p) :
    Calls Tryz.prog 87 #[.slice a n c, .func (.func 88) #[] #[]] w fun e w' => e = .returned (.bool (allB n fun i => frB (d i))) ∧ Below w.heap.size w w' := by
  have hl : n ≤ 1048577 := ha.1
  go_enter Tryz.func87, Tryz.ntmps87
  go_wp2
  go_loopw [9] (fun i wr => ∃ k : Nat, k ≤ n ∧ i = .int .i64 k ∧ (∀ i, i < k → frB (d i) = true) ∧ FR wr a n d p ∧ Below w.heap.size w wr) (fun i _ => n - (intOf i).toNat)
  case atStart => exact ⟨0, Nat.zero_le _, rfl, fun i hi => absurd hi (Nat.not_lt_zero i), ha, Below.refl _ _⟩
  case round =>
    obtain ⟨k, hk, rfl, hall, hma, hB⟩ := hrel
    have HA : Hid (∀ i, i < k → frB (d i) = true) := hall
    clear hall ha
    by_cases hlt : k < n
    · have hi : (k : Int) < (n : Int) := by omega
      obtain ⟨ba, oa, rfl, y0, y1, y2⟩ := hma.at hlt
      have ra := hma.2.2 k hlt
      have bx := bel_alloc (Below.refl wr.heap.size wr) (.cells #[.int .i64 (d k).s, .slice (p k).1 (d k).xs.length (p k).2, .bool (d k).q] 95)
      go_wp2_with fail
      refine (frameOk_any (d k).s (d k).q (p k).1 (p k).2 (d k).xs _ (ra.below bx)).mono ?_
      rintro e w1 ⟨rfl, b1⟩
      have hma1 := hma.below (bel_trans bx b1)
      have hB1 := bel_trans hB (bel_trans bx b1)
      clear hma hB b1 y0 y1 y2 ra bx
      cases hf : frameOkB (d k).s (d k).xs
      · have HF : Hid (allB n (fun i => frB (d i)) = false) := allB_bad hlt (by simpa [frB] using hf)
        clear hf
        go_wp2
        go_ret
        exact ⟨ret_bool HF.out.symm, hB1⟩
      · have HT : Hid (∀ i, i < k + 1 → frB (d i) = true) := fun i hi => by
          by_cases e : i = k
          · subst e; simpa [frB] using hf
          · exact HA.out i (by omega)
        clear hf
        go_wp2
        go_roundw
        case rel => exact ⟨k + 1, by omega, by go_num, HT.out, hma1, hB1⟩
        case measure => simp [intOf]; omega
    · have HT : Hid (allB n (fun i => frB (d i)) = true) := allB_ok (fun i hi => HA.out i (by omega))
      clear hma
      go_wp2
      go_ret
      exact ⟨ret_bool HT.out.symm, hB⟩

set_option maxRecDepth 100000 in
set_option maxHeartbeats 1000000 in
theorem allOkS_any (a : Option Addr) (c n : Nat) (b : Nat → Int) (y : Nat → List Say) (p : Nat → Pl) (ms : Nat → List M) (w : World) (ha : SR w a n b y p ms) :
    Calls Tryz.prog 90 #[.slice a n c, .func (.func 91) #[] #[]] w fun e w' => e = .returned (.bool (allB n fun i => sB (b i) (y i))) ∧ Below w.heap.size w w' := by
  have hl : n ≤ 1048577 := ha.1
  go_enter Tryz.func90, Tryz.ntmps90
  go_wp2
  go_loopw [9] (fun i wr => ∃ k : Nat, k ≤ n ∧ i = .int .i64 k ∧ (∀ i, i < k → sB (b i) (y i) = true) ∧ SR wr a n b y p ms ∧ Below w.heap.size w wr) (fun i _ => n - (intOf i).toNat)
  case atStart => exact ⟨0, Nat.zero_le _, rfl, fun i hi => absurd hi (Nat.not_lt_zero i), ha, Below.refl _ _⟩
  case round =>
    obtain ⟨k, hk, rfl, hall, hma, hB⟩ := hrel
    have HA : Hid (∀ i, i < k → sB (b i) (y i) = true) := hall
    clear hall ha
    by_cases hlt : k < n
    · have hi : (k : Int) < (n : Int) := by omega
      obtain ⟨ba, oa, rfl, y0, y1⟩ := hma.at hlt
      have ra := hma.2.2 k hlt
      have HE : Hid (senderB (b k) (ms k) = sB (b k) (y k)) := by show _ = _; rw [senderB_eq, ra.2]
      have HL : (y k).length = (ms k).length := by have := congrArg List.length ra.2; simpa using this.symm
      rw [HL] at y1
      have ra1 := ra.1
      have bx := bel_alloc (Below.refl wr.heap.size wr) (.cells #[.int .i64 (b k), .slice (p k).1 (ms k).length (p k).2] 115)
      clear HL ra
      go_wp2_with fail
      refine (implSender_any (b k) (p k).1 (p k).2 (ms k) _ (ra1.below bx)).mono ?_
      rintro e w1 ⟨rfl, b1⟩
      rw [HE.out]
      have hma1 := hma.below (bel_trans bx b1)
      have hB1 := bel_trans hB (bel_trans bx b1)
      clear hma hB b1 y0 y1 ra1 bx
      cases hf : sB (b k) (y k)
      · have HF : Hid (allB n (fun i => sB (b i) (y i)) = false) := allB_bad hlt hf
        clear hf
        go_wp2
        go_ret
        exact ⟨ret_bool HF.out.symm, hB1⟩
      · have HT : Hid (∀ i, i < k + 1 → sB (b i) (y i) = true) := fun i hi => by
          by_cases e : i = k
          · subst e; exact hf
          · exact HA.out i (by omega)
        clear hf
        go_wp2
        go_roundw
        case rel => exact ⟨k + 1, by omega, by go_num, HT.out, hma1, hB1⟩
        case measure => simp [intOf]; omega
    · have HT : Hid (allB n (fun i => sB (b i) (y i)) = true) := allB_ok (fun i hi => HA.out i (by omega))
      clear hma
      go_wp2
      go_ret
      exact ⟨ret_bool HT.out.symm, hB⟩

theorem isSeq_n (x : Int) (w : World) : Calls Tryz.prog 86 #[.int .i64 x] w fun e w' => e = .returned (.bool (inB x 0 100000)) ∧ w' = w := by
  by_cases h0 : 0 ≤ x
  · by_cases h1 : x ≤ 100000
    · have hd : inB x 0 100000 = true := by simp [inB, h0, h1]
      rw [hd]
      go_enter Tryz.func86, Tryz.ntmps86
      go_wp2
      go_ret
      exact ⟨rfl, rfl⟩
    · have hd : inB x 0 100000 = false := by simp [inB, h1]
      rw [hd]
      have h1' : 100000 < x := by omega
      go_enter Tryz.func86, Tryz.ntmps86
      go_wp2
      go_ret
      exact ⟨rfl, rfl⟩
  · have hd : inB x 0 100000 = false := by simp [inB, h0]
    rw [hd]
    have h0' : x < 0 := by omega
    go_enter Tryz.func86, Tryz.ntmps86
    go_wp2
    go_ret
    exact ⟨rfl, rfl⟩

theorem gotOk_any (x : Int) (w : World) : Calls Tryz.prog 85 #[.agg #[.int .i64 x]] w fun e w' => e = .returned (.bool (inB x 0 100000)) ∧ Below w.heap.size w w' := by
  have bA := bel_alloc (Below.refl w.heap.size w) (.cells #[.int .i64 x] 118)
  go_enter Tryz.func85, Tryz.ntmps85
  go_wp2_with fail
  refine (isSeq_n x _).mono ?_
  rintro e w1 ⟨rfl, h⟩
  subst h
  go_wp2
  go_ret
  exact ⟨rfl, bA⟩

set_option maxRecDepth 100000 in
set_option maxHeartbeats 1000000 in
theorem allOkG_any (a : Option Addr) (c n : Nat) (g : Nat → Int) (w : World) (ha : GR w a n g) :
    Calls Tryz.prog 92 #[.slice a n c, .func (.func 85) #[] #[]] w fun e w' => e = .returned (.bool (allB n fun i => inB (g i) 0 100000)) ∧ Below w.heap.size w w' := by
  have hl : n ≤ 1048577 := ha.1
  go_enter Tryz.func92, Tryz.ntmps92
  go_wp2
  go_loopw [9] (fun i wr => ∃ k : Nat, k ≤ n ∧ i = .int .i64 k ∧ (∀ i, i < k → inB (g i) 0 100000 = true) ∧ GR wr a n g ∧ Below w.heap.size w wr) (fun i _ => n - (intOf i).toNat)
  case atStart => exact ⟨0, Nat.zero_le _, rfl, fun i hi => absurd hi (Nat.not_lt_zero i), ha, Below.refl _ _⟩
  case round =>
    obtain ⟨k, hk, rfl, hall, hma, hB⟩ := hrel
    have HA : Hid (∀ i, i < k → inB (g i) 0 100000 = true) := hall
    clear hall ha
    by_cases hlt : k < n
    · have hi : (k : Int) < (n : Int) := by omega
      obtain ⟨ba, oa, rfl, y0⟩ := hma.at hlt
      have bx := bel_alloc (Below.refl wr.heap.size wr) (.cells #[.int .i64 (g k)] 118)
      go_wp2_with fail
      refine (gotOk_any (g k) _).mono ?_
      rintro e w1 ⟨rfl, b1⟩
      have hma1 := hma.below (bel_trans bx b1)
      have hB1 := bel_trans hB (bel_trans bx b1)
      clear hma hB b1 y0 bx
      cases hf : inB (g k) 0 100000
      · have HF : Hid (allB n (fun i => inB (g i) 0 100000) = false) := allB_bad hlt hf
        clear hf
        go_wp2
        go_ret
        exact ⟨ret_bool HF.out.symm, hB1⟩
      · have HT : Hid (∀ i, i < k + 1 → inB (g i) 0 100000 = true) := fun i hi => by
          by_cases e : i = k
          · subst e; exact hf
          · exact HA.out i (by omega)
        clear hf
        go_wp2
        go_roundw
        case rel => exact ⟨k + 1, by omega, by go_num, HT.out, hma1, hB1⟩
        case measure => simp [intOf]; omega
    · have HT : Hid (allB n (fun i => inB (g i) 0 100000) = true) := allB_ok (fun i hi => HA.out i (by omega))
      clear hma
      go_wp2
      go_ret
      exact ⟨ret_bool HT.out.symm, hB⟩
end Go.Proofs.YtpfppeifppdmbaaGreat

/- What both NodeOk do: the whole. -/
namespace Go.Proofs.YtpfppeifppdmbaaGreat
open Go.RowKit
set_option linter.unusedVariables false

set_option maxRecDepth 100000 in
set_option maxHeartbeats 1000000 in
theorem homeOk1_any (d : HD) (p : HP) (nb : Nat) (nodes : Int) (w : World) (hX : Box w nb #[.int .i64 nodes] 3) (hb : d.bs.length ≤ 1048577) (hl : Row .i64 w p.l.1 d.xs) (hq : VRow w p.q.1 (wv d.ws)) :
    Calls Tryz.prog 83 #[.agg #[.slice p.l.1 d.xs.length p.l.2, .int .i64 d.ow, .slice p.r.1 d.bs.length p.r.2, .bool d.bz, .int .i64 d.wh, .bool d.wo, .int .i64 d.ak, .slice p.q.1 d.ws.length p.q.2], .pointer (some ⟨nb, 0, none⟩)] w fun e w' => e = .returned (.bool (hoB nodes d)) ∧ Below w.heap.size w w' := by
  have bA := bel_alloc (Below.refl w.heap.size w) (.cells #[.slice p.l.1 d.xs.length p.l.2, .int .i64 d.ow, .slice p.r.1 d.bs.length p.r.2, .bool d.bz, .int .i64 d.wh, .bool d.wo, .int .i64 d.ak, .slice p.q.1 d.ws.length p.q.2] 93)
  replace hX := hX.below bA
  have x0 := hX.cell 0
  have zx := hX.lt
  replace hl := hl.below bA
  replace hq := hq.below bA
  go_enter Tryz.func83, Tryz.ntmps83
  go_wp2_with fail
  refine (implHomeOk_any nodes d.ow d.wh d.ak d.bz d.wo p.l.1 p.r.1 p.q.1 p.l.2 d.bs.length p.r.2 p.q.2 d.xs d.ws _ hb hl hq).mono ?_
  rintro e w1 ⟨rfl, b1⟩
  have B := bel_trans bA b1
  clear bA b1 hX x0 zx hl hq
  go_wp2
  go_ret
  exact ⟨rfl, B⟩

set_option maxRecDepth 100000 in
set_option maxHeartbeats 1000000 in
theorem allOkH_any (a : Option Addr) (c n nb : Nat) (nodes : Int) (d : Nat → HD) (p : Nat → HP) (w : World) (hX : Box w nb #[.int .i64 nodes] 3) (hb : ∀ i, i < n → (d i).bs.length ≤ 1048577) (ha : HR2 w a n d p) :
    Calls Tryz.prog 89 #[.slice a n c, .func (.func 83) #[] #[.pointer (some ⟨nb, 0, none⟩)]] w fun e w' => e = .returned (.bool (allB n fun i => hoB nodes (d i))) ∧ Below w.heap.size w w' := by
  have hl : n ≤ 1048577 := ha.1
  have HBS : Hid (∀ i, i < n → (d i).bs.length ≤ 1048577) := hb
  clear hb
  go_enter Tryz.func89, Tryz.ntmps89
  go_wp2
  go_loopw [9] (fun i wr => ∃ k : Nat, k ≤ n ∧ i = .int .i64 k ∧ (∀ i, i < k → hoB nodes (d i) = true) ∧ HR2 wr a n d p ∧ Box wr nb #[.int .i64 nodes] 3 ∧ Below w.heap.size w wr) (fun i _ => n - (intOf i).toNat)
  case atStart => exact ⟨0, Nat.zero_le _, rfl, fun i hi => absurd hi (Nat.not_lt_zero i), ha, hX, Below.refl _ _⟩
  case round =>
    obtain ⟨k, hk, rfl, hall, hma, hX1, hB⟩ := hrel
    have HA : Hid (∀ i, i < k → hoB nodes (d i) = true) := hall
    clear hall ha hX
    by_cases hlt : k < n
    · have hi : (k : Int) < (n : Int) := by omega
      obtain ⟨ba, oa, rfl, y0, y1, y2, y3, y4, y5, y6, y7⟩ := hma.at hlt
      have ra := hma.2.2 k hlt
      have bx := bel_alloc (Below.refl wr.heap.size wr) (.cells #[.slice (p k).l.1 (d k).xs.length (p k).l.2, .int .i64 (d k).ow, .slice (p k).r.1 (d k).bs.length (p k).r.2, .bool (d k).bz, .int .i64 (d k).wh, .bool (d k).wo, .int .i64 (d k).ak, .slice (p k).q.1 (d k).ws.length (p k).q.2] 93)
      have r1 := ra.1.below bx
      have r2 := ra.2.2.below bx
      have hX2 := hX1.below bx
      clear ra
      go_wp2_with fail
      refine (homeOk1_any (d k) (p k) nb nodes _ hX2 (HBS.out k hlt) r1 r2).mono ?_
      rintro e w1 ⟨rfl, b1⟩
      have hma1 := hma.below (bel_trans bx b1)
      have hX3 := hX1.below (bel_trans bx b1)
      have hB1 := bel_trans hB (bel_trans bx b1)
      clear hma hB b1 y0 y1 y2 y3 y4 y5 y6 y7 r1 r2 bx hX1 hX2
      cases hf : hoB nodes (d k)
      · have HF : Hid (allB n (fun i => hoB nodes (d i)) = false) := allB_bad hlt hf
        clear hf hX3 hma1
        go_wp2
        go_ret
        exact ⟨ret_bool HF.out.symm, hB1⟩
      · have HT : Hid (∀ i, i < k + 1 → hoB nodes (d i) = true) := fun i hi => by
          by_cases e : i = k
          · subst e; exact hf
          · exact HA.out i (by omega)
        clear hf
        go_wp2
        go_roundw
        case rel => exact ⟨k + 1, by omega, by go_num, HT.out, hma1, hX3, hB1⟩
        case measure => simp [intOf]; omega
    · have HT : Hid (allB n (fun i => hoB nodes (d i)) = true) := allB_ok (fun i hi => HA.out i (by omega))
      clear hma hX1
      go_wp2
      go_ret
      exact ⟨ret_bool HT.out.symm, hB⟩

theorem nodeOk_bad {d : ND} {nodes : Int} (h : nodeB d.id nodes = false ∨ d.nf ≠ 6 ∨ d.nh ≠ 6 ∨ (d.no : Int) ≠ nodes ∨ (d.ni : Int) ≠ nodes) : nodeOkB d nodes = false := by
  unfold nodeOkB
  rcases h with h | h | h | h | h <;> simp [h]
theorem nodeOk_good {d : ND} {nodes : Int} (h : nodeB d.id nodes = true) (h1 : d.nf = 6) (h2 : d.nh = 6) (h3 : (d.no : Int) = nodes) (h4 : (d.ni : Int) = nodes) :
    nodeOkB d nodes = (allB d.nf (fun i => frB (d.f i)) && (allB d.nh (fun i => hoB nodes (d.h i)) && (allB d.no (fun i => sB (d.b i) (d.y i)) && allB d.ni (fun i => inB (d.g i) 0 100000)))) := by
  unfold nodeOkB
  simp [h, h1, h2, h3, h4]

set_option maxRecDepth 100000 in
set_option maxHeartbeats 4000000 in
theorem implNodeOk_any (d : ND) (p : NP) (nodes : Int) (w : World) (hbs : ∀ i, i < d.nh → (d.h i).bs.length ≤ 1048577) (hR : NR w d p) :
    Calls Tryz.prog 55 #[.agg (ncells d p), .int .i64 nodes] w fun e w' => e = .returned (.bool (nodeOkB d nodes)) ∧ Below w.heap.size w w' := by
  have B := bel_alloc (bel_alloc (Below.refl w.heap.size w) (.cells (ncells d p) 67)) (.cells #[.int .i64 nodes] 3)
  obtain ⟨X, XN⟩ := Box.two w (ncells d p) #[.int .i64 nodes] 67 3
  replace hR := hR.below B
  have n1 : d.nf ≤ 1048577 := hR.f.1
  have n2 : d.nh ≤ 1048577 := hR.h.1
  have n3 : d.no ≤ 1048577 := hR.o.1
  have n4 : d.ni ≤ 1048577 := hR.i.1
  have HBS : Hid (∀ i, i < d.nh → (d.h i).bs.length ≤ 1048577) := hbs
  clear hbs
  by_cases a0 : nodeB d.id nodes = true
  case neg =>
    have HE : Hid (nodeOkB d nodes = false) := nodeOk_bad (.inl (by simpa using a0))
    have G0 : Hid (nodeB d.id nodes = false) := by show _ = _; simpa using a0
    clear a0 hR X XN
    go_enter Tryz.func55, Tryz.ntmps55
    go_wp2_with fail
    refine (isNode_n d.id nodes _).mono ?_
    rintro e w1 ⟨rfl, h⟩
    subst h
    rw [G0.out]
    go_wp2
    go_ret
    exact ⟨ret_bool HE.out.symm, B⟩
  by_cases a1 : d.nf = 6
  case neg =>
    have HE : Hid (nodeOkB d nodes = false) := nodeOk_bad (.inr (.inl a1))
    have G0 : Hid (nodeB d.id nodes = true) := by show _ = _; simpa using a0
    have e1 : ((d.nf : Int) != 6) = true := by simp; omega
    clear a0 a1 hR X XN
    go_enter Tryz.func55, Tryz.ntmps55
    go_wp2_with fail
    refine (isNode_n d.id nodes _).mono ?_
    rintro e w1 ⟨rfl, h⟩
    subst h
    rw [G0.out]
    go_wp2
    go_ret
    exact ⟨ret_bool HE.out.symm, B⟩
  by_cases a2 : d.nh = 6
  case neg =>
    have HE : Hid (nodeOkB d nodes = false) := nodeOk_bad (.inr (.inr (.inl a2)))
    have G0 : Hid (nodeB d.id nodes = true) := by show _ = _; simpa using a0
    have e1 : ((d.nf : Int) != 6) = false := by simp; omega
    have e2 : ((d.nh : Int) != 6) = true := by simp; omega
    clear a0 a1 a2 hR X XN
    go_enter Tryz.func55, Tryz.ntmps55
    go_wp2_with fail
    refine (isNode_n d.id nodes _).mono ?_
    rintro e w1 ⟨rfl, h⟩
    subst h
    rw [G0.out]
    go_wp2
    go_ret
    exact ⟨ret_bool HE.out.symm, B⟩
  by_cases a3 : (d.no : Int) = nodes
  case neg =>
    have HE : Hid (nodeOkB d nodes = false) := nodeOk_bad (.inr (.inr (.inr (.inl a3))))
    have G0 : Hid (nodeB d.id nodes = true) := by show _ = _; simpa using a0
    have e1 : ((d.nf : Int) != 6) = false := by simp; omega
    have e2 : ((d.nh : Int) != 6) = false := by simp; omega
    have e3 : ((d.no : Int) != nodes) = true := by simp; omega
    clear a0 a1 a2 a3 hR X XN
    go_enter Tryz.func55, Tryz.ntmps55
    go_wp2_with fail
    refine (isNode_n d.id nodes _).mono ?_
    rintro e w1 ⟨rfl, h⟩
    subst h
    rw [G0.out]
    go_wp2
    go_ret
    exact ⟨ret_bool HE.out.symm, B⟩
  by_cases a4 : (d.ni : Int) = nodes
  case neg =>
    have HE : Hid (nodeOkB d nodes = false) := nodeOk_bad (.inr (.inr (.inr (.inr a4))))
    have G0 : Hid (nodeB d.id nodes = true) := by show _ = _; simpa using a0
    have e1 : ((d.nf : Int) != 6) = false := by simp; omega
    have e2 : ((d.nh : Int) != 6) = false := by simp; omega
    have e3 : ((d.no : Int) != nodes) = false := by simp; omega
    have e4 : ((d.ni : Int) != nodes) = true := by simp; omega
    clear a0 a1 a2 a3 a4 hR X XN
    go_enter Tryz.func55, Tryz.ntmps55
    go_wp2_with fail
    refine (isNode_n d.id nodes _).mono ?_
    rintro e w1 ⟨rfl, h⟩
    subst h
    rw [G0.out]
    go_wp2
    go_ret
    exact ⟨ret_bool HE.out.symm, B⟩
  have HE : Hid _ := nodeOk_good a0 a1 a2 a3 a4
  have G0 : Hid (nodeB d.id nodes = true) := a0
  have e1 : ((d.nf : Int) != 6) = false := by simp; omega
  have e2 : ((d.nh : Int) != 6) = false := by simp; omega
  have e3 : ((d.no : Int) != nodes) = false := by simp; omega
  have e4 : ((d.ni : Int) != nodes) = false := by simp; omega
  clear a0 a1 a2 a3 a4
  go_enter Tryz.func55, Tryz.ntmps55
  go_wp2_with fail
  refine (isNode_n d.id nodes _).mono ?_
  rintro e w1 ⟨rfl, h⟩
  subst h
  rw [G0.out]
  go_wp2_with fail
  refine (allOkF_any p.f.1 p.f.2 d.nf d.f p.fp _ hR.f).mono ?_
  rintro e w1 ⟨rfl, b1⟩
  replace X := X.below b1
  replace XN := XN.below b1
  replace hR := hR.below b1
  replace B := bel_trans B b1
  clear b1
  cases r0 : allB d.nf (fun i => frB (d.f i))
  case false =>
    have R0 : Hid (allB d.nf (fun i => frB (d.f i)) = false) := r0
    clear r0 hR X XN
    go_wp2
    go_ret
    exact ⟨ret_bool (by rw [HE.out, R0.out]; rfl), B⟩
  have R0 : Hid (allB d.nf (fun i => frB (d.f i)) = true) := r0
  clear r0
  obtain ⟨x0, x1, x2, x3, x4, zx⟩ := X.at5
  have z0 := XN.cell 0
  go_wp2_with fail
  refine (allOkH_any p.h.1 p.h.2 d.nh (w.heap.size + 1) nodes d.h p.hp _ XN HBS.out hR.h).mono ?_
  rintro e w1 ⟨rfl, b1⟩
  replace X := X.below b1
  replace XN := XN.below b1
  replace hR := hR.below b1
  replace B := bel_trans B b1
  clear b1
  clear x0 x1 x2 x3 x4 zx z0
  cases r1 : allB d.nh (fun i => hoB nodes (d.h i))
  case false =>
    have R1 : Hid (allB d.nh (fun i => hoB nodes (d.h i)) = false) := r1
    clear r1 hR X XN
    go_wp2
    go_ret
    exact ⟨ret_bool (by rw [HE.out, R0.out, R1.out]; rfl), B⟩
  have R1 : Hid (allB d.nh (fun i => hoB nodes (d.h i)) = true) := r1
  clear r1
  obtain ⟨x0, x1, x2, x3, x4, zx⟩ := X.at5
  have z0 := XN.cell 0
  go_wp2_with fail
  refine (allOkS_any p.o.1 p.o.2 d.no d.b d.y p.op p.ms _ hR.o).mono ?_
  rintro e w1 ⟨rfl, b1⟩
  replace X := X.below b1
  replace XN := XN.below b1
  replace hR := hR.below b1
  replace B := bel_trans B b1
  clear b1
  clear x0 x1 x2 x3 x4 zx z0
  cases r2 : allB d.no (fun i => sB (d.b i) (d.y i))
  case false =>
    have R2 : Hid (allB d.no (fun i => sB (d.b i) (d.y i)) = false) := r2
    clear r2 hR X XN
    go_wp2
    go_ret
    exact ⟨ret_bool (by rw [HE.out, R0.out, R1.out, R2.out]; rfl), B⟩
  have R2 : Hid (allB d.no (fun i => sB (d.b i) (d.y i)) = true) := r2
  clear r2
  obtain ⟨x0, x1, x2, x3, x4, zx⟩ := X.at5
  have z0 := XN.cell 0
  go_wp2_with fail
  refine (allOkG_any p.i.1 p.i.2 d.ni d.g _ hR.i).mono ?_
  rintro e w1 ⟨rfl, b1⟩
  replace X := X.below b1
  replace XN := XN.below b1
  replace hR := hR.below b1
  replace B := bel_trans B b1
  clear b1
  clear x0 x1 x2 x3 x4 zx z0
  clear hR X XN
  generalize allB d.ni (fun i => inB (d.g i) 0 100000) = r3 at HE ⊢
  go_wp2
  go_ret
  exact ⟨ret_bool (by rw [HE.out, R0.out, R1.out, R2.out]; simp), B⟩

end Go.Proofs.YtpfppeifppdmbaaGreat
