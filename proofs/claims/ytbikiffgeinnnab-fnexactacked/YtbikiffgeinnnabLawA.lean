/- For every sender and every number the law FnExactAcked returns true: Acked answers as the specification, writes into no argument, keeps nothing of one, and its answer owns its memory, behind another call too. Conditions: none. -/
import Derived.Test.YtbikiffgeinnnabOpenS
import Derived.Test.YtbikiffgeinnnabSpecA
import Derived.Test.YtbikiffgeinnnabMark2
import Derived.Deep.RegionWith
import Derived.BigRegion
import Derived.Deep.RegionHeld3
namespace Go.Proofs.Ytbikiffgeinnnab
open Go.ChangeShapes Go.WideShapes Go.ChangeAt Go.RowKit
set_option linter.unusedVariables false

namespace LawFnExactAcked
theorem keep4b {W W' : World} (b : Below W.heap.size W W') {a0 a1 a2 a3 : Addr} {u0 u1 u2 u3 : Value}
    (h : W.cell? a0 = some u0 ∧ W.cell? a1 = some u1 ∧ W.cell? a2 = some u2 ∧ W.cell? a3 = some u3) :
    W'.cell? a0 = some u0 ∧ W'.cell? a1 = some u1 ∧ W'.cell? a2 = some u2 ∧ W'.cell? a3 = some u3 :=
  ⟨cell_later b h.1, cell_later b h.2.1, cell_later b h.2.2.1, cell_later b h.2.2.2⟩
theorem ltMono {a : Option Addr} {c : Nat} {ms : List M} {hi hi' : Nat} (h : Deep.Lt a c ms hi) (hl : hi ≤ hi') : Deep.Lt a c ms hi' := ⟨fun j hj => Nat.lt_of_lt_of_le (h.1 j hj) hl, fun m hm j hj => Nat.lt_of_lt_of_le (h.2 m hm j hj) hl⟩

/-- What Acked answers, said of the messages alone. -/
def AP2 (B' : Int) (L : List M) (w : World) (e : Ending) (w' : World) : Prop :=
  ∃ (a' : Option Addr) (c' : Nat) (ds : List M), e = .returned (.agg #[.int .i64 B', .slice a' L.length c']) ∧ ds.map M.say = L.map M.say ∧ Deep w' w.heap.size a' c' ds ∧ Below w.heap.size w w'

theorem conv {B n : Int} {ms ds : List M} {B' : Int} {L : List M} {w w' : World} {e : Ending} (h : APost B n ds w e w') (hs : ds.map M.say = ms.map M.say) (hB : ackN B n ms = B') (hL : ackL B n ms = L) : AP2 B' L w e w' := by
  obtain ⟨a1, c1, es, he, hes, hD, hb⟩ := h
  have hl : ds.length = ms.length := by have := congrArg List.length hs; simpa using this
  have hon : ackOn B n ds = ackOn B n ms := by unfold ackOn; rw [senderB_say B hs, hl]
  have hN : ackN B n ds = B' := by rw [← hB]; unfold ackN; rw [hon]
  have hes2 : es.map M.say = L.map M.say := by
    rw [hes, ← hL]
    unfold ackL
    rw [hon]
    split
    · rw [List.map_drop, List.map_drop, hs]
    · exact hs
  have hle : es.length = L.length := by have := congrArg List.length hes2; simpa using this
  rw [hN, hle] at he
  exact ⟨a1, c1, es, he, hes2, hD, hb⟩

theorem spec2 (B : Int) (a : Option Addr) (c : Nat) (ds ms : List M) (n : Int) (B' : Int) (L : List M) (len : Nat) (w : World) (hn : ds.length = len) (ha : MRow w a ds) (hl : len ≤ 1048576) (hxs : ∀ x ∈ ds, x.xs.length ≤ 1048577) (hs : ds.map M.say = ms.map M.say) (hB : ackN B n ms = B') (hL : ackL B n ms = L) :
    Calls Try.prog 33 #[.agg #[.int .i64 B, .slice a len c], .int .i64 n] w fun e w' => AP2 B' L w e w' := by
  subst hn
  exact (specAcked_any B a c ds n w ha hl hxs).mono fun e w' h => conv h hs hB hL
theorem impl2 (B : Int) (a : Option Addr) (c : Nat) (ds ms : List M) (n : Int) (B' : Int) (L : List M) (len : Nat) (w : World) (hn : ds.length = len) (ha : MRow w a ds) (hl : len ≤ 1048576) (hc : len ≤ c) (hxs : ∀ x ∈ ds, x.xs.length ≤ 1048577) (hs : ds.map M.say = ms.map M.say) (hB : ackN B n ms = B') (hL : ackL B n ms = L) :
    Calls Try.prog 34 #[.agg #[.int .i64 B, .slice a len c], .int .i64 n] w fun e w' => AP2 B' L w e w' := by
  subst hn
  exact (implAcked_any B a c ds n w ha hl hc hxs).mono fun e w' h => conv h hs hB hL

set_option maxRecDepth 100000 in
set_option maxHeartbeats 8000000 in
theorem walk (B : Int) (a : Option Addr) (ca : Nat) (ms : List M) (n : Int) (w : World) (hcw : MCame w a ca ms ∧ (Lit.int .i64 B).wf = true) (wn : (Lit.int .i64 n).wf = true) :
    Calls Try.prog 8 #[.agg #[.int .i64 B, .slice a ms.length ca], .int .i64 n] w fun e w' => e = .returned (.bool true) ∧ Below w.heap.size w w' := by
  obtain ⟨hc, _⟩ := hcw
  clear wn
  have bA := bel_alloc (Below.refl w.heap.size w) (.cells #[.int .i64 B, .slice a ms.length ca] 44)
  have XA := Box.new w #[.int .i64 B, .slice a ms.length ca] 44
  have hc := hc.below bA
  go_enter Try.func8, Try.ntmps8
  go_wp2_with fail
  refine (szSender_any B a ca ms _ hc).mono ?_
  rintro e w2 ⟨r, rfl, hsz, b1⟩
  have XA := XA.below b1
  have hc := hc.below b1
  have B1 := bel_trans bA b1
  clear b1 bA
  rcases hsz with rfl | ⟨h0, h1, hml, hxl⟩
  · clear hc XA
    go_wp2
    go_ret
    exact ⟨rfl, B1⟩
  · have hd : decide (r < 0) = false := by simp; omega
    have hr := hc.mrow hml hxl
    clear hc
    obtain ⟨B', hB'⟩ : ∃ B', ackN B n ms = B' := ⟨_, rfl⟩
    have HB : Hid (ackN B n ms = B') := hB'
    obtain ⟨L, hL⟩ : ∃ L, ackL B n ms = L := ⟨_, rfl⟩
    have HL : Hid (ackL B n ms = L) := hL
    have hLl : L.length ≤ 1048576 := by
      rw [← hL]
      unfold ackL
      split
      · simp; omega
      · omega
    have hLx : ∀ m ∈ L, m.xs.length ≤ 1048576 := by
      rw [← hL]
      unfold ackL
      split
      · exact fun m hm => hxl m (List.mem_of_mem_drop hm)
      · exact hxl
    clear hB' hL
    have zA := XA.lt
    obtain ⟨x0, x1, zx⟩ := XA.at2
    go_wp2_with fail
    refine (toSender_any B a ca ms _ hml hxl hr).mono ?_
    rintro e w0 ⟨a0, c0, d0, rfl, s0, D0, b0⟩
    have hl0 : d0.length = ms.length := by have h := congrArg List.length s0; simpa using h
    clear x0 x1 zx hd
    have Bn := b0
    go_wp2_with fail
    refine (spec2 B a0 c0 d0 ms n B' L ms.length _ hl0 (D0.mrow (by omega) (say_len s0 hxl)) hml (say_len s0 hxl) s0 HB.out HL.out).mono ?_
    rintro e wc ⟨aW, cW, dW, rfl, sW, DW, bW⟩
    have hlW : dW.length = L.length := by have h := congrArg List.length sW; simpa using h
    have Bn := bel_trans Bn bW
    have LW := DW.lt
    have z0 := b0.size
    have zn := Bn.size
    clear b0 bW D0
    obtain ⟨x0, x1, zx⟩ := (XA.below Bn).at2
    go_wp2_with fail
    have bx := bel_alloc (Below.refl wc.heap.size wc) (.cells #[.int .i64 B', .slice aW L.length cW] 49)
    have XW := Box.new wc #[.int .i64 B', .slice aW L.length cW] 49
    have DW := DW.below bx
    have Bn := bel_trans Bn bx
    clear bx x0 x1 zx
    refine (toSender_any B a ca ms _ hml hxl (hr.below Bn)).mono ?_
    rintro e w3 ⟨a3, c3, d3, rfl, s3, D3, b3⟩
    have hl3 : d3.length = ms.length := by have h := congrArg List.length s3; simpa using h
    have D3 : Deep w3 (wc.heap.size + 1) a3 c3 d3 := D3.base (by simp)
    have XW := XW.below b3
    have DW := DW.below b3
    have Bn := bel_trans Bn b3
    have z3 : wc.heap.size + 1 ≤ w3.heap.size := by have := b3.size; simp at this; omega
    have L3 := D3.lt
    have hc3 : ms.length ≤ c3 := by have h := D3.row; rw [hl3] at h; exact owns_capA h
    clear b3
    go_wp2_with fail
    have bx := bel_alloc (Below.refl w3.heap.size w3) (.cells #[.int .i64 B, .slice a3 ms.length c3] 49)
    have X3 := Box.new w3 #[.int .i64 B, .slice a3 ms.length c3] 49
    have XW := XW.below bx
    have DW := DW.below bx
    have D3 := D3.below bx
    have Bn := bel_trans Bn bx
    clear bx
    refine (impl2 B a3 c3 d3 ms n B' L ms.length _ hl3 (D3.mrow (by omega) (say_len s3 hxl)) hml hc3 (say_len s3 hxl) s3 HB.out HL.out).mono ?_
    rintro e w6 ⟨a6, c6, d6, rfl, s6, D6, b6⟩
    have hl6 : d6.length = L.length := by have h := congrArg List.length s6; simpa using h
    have z6 : w3.heap.size + 1 ≤ w6.heap.size := by have := b6.size; simp at this; omega
    have D6 : Deep w6 (w3.heap.size + 1) a6 c6 d6 := D6.base (by simp)
    have L6 := D6.lt
    have X3 := X3.below b6
    have XW := XW.below b6
    have DW := DW.below b6
    have D3 := D3.below b6
    have Bn := bel_trans Bn b6
    clear b6
    obtain ⟨x0, x1, zx⟩ := XW.at2
    go_wp2_with fail
    have bx := bel_alloc (Below.refl w6.heap.size w6) (.cells #[.int .i64 B', .slice a6 L.length c6] 49)
    have X6 := Box.new w6 #[.int .i64 B', .slice a6 L.length c6] 49
    have X3 := X3.below bx
    have XW := XW.below bx
    have DW := DW.below bx
    have D3 := D3.below bx
    have D6 := D6.below bx
    have Bn := bel_trans Bn bx
    clear bx x0 x1 zx
    refine (eqSender_any B' a6 aW c6 cW d6 dW L.length _ hl6 (sW.trans s6.symm) (D6.mrow (by omega) (say_len s6 hLx)) (DW.mrow (by omega) (say_len sW hLx))).mono ?_
    rintro e w7 ⟨rfl, b7⟩
    have X6 := X6.below b7
    have X3 := X3.below b7
    have XW := XW.below b7
    have DW := DW.below b7
    have D3 := D3.below b7
    have D6 := D6.below b7
    have Bn := bel_trans Bn b7
    clear b7
    obtain ⟨x0, x1, zx⟩ := (XA.below Bn).at2
    obtain ⟨y0, y1, zy⟩ := X3.at2
    have q3 := D3.mrow (by omega) (say_len s3 hxl)
    have hrn := hr.below Bn
    go_wp2_with fail
    go_region_held3 (fun w' => w'.cell? ⟨w.heap.size, 0, none⟩ = some (.int .i64 B) ∧ w'.cell? ⟨w.heap.size, 1, none⟩ = some (.slice a ms.length ca) ∧ w'.cell? ⟨w3.heap.size, 0, none⟩ = some (.int .i64 B) ∧ w'.cell? ⟨w3.heap.size, 1, none⟩ = some (.slice a3 ms.length c3))
      (first | (with_reducible exact keep4b b9 ‹_›) | (with_reducible exact keep4b b8 ‹_›) | go_keep)
      (first | (go_at_call 26; refine (toSender_any B a ca ms _ hml hxl ?_).mono ?_; exact hrn; rintro e w8 ⟨a8, c8, d8, rfl, s8, D8, b8⟩; have q8 := D8.mrow (by have h := congrArg List.length s8; simp at h; omega) (say_len s8 hxl)) | (go_at_call 28; refine (eqSender_any B a3 a8 c3 c8 d3 d8 ms.length _ ?_ ?_ ?_ ?_).mono ?_; exact hl3; exact s8.trans s3.symm; exact q3.below (bel_undrew b8); exact q8; rintro e w9 ⟨rfl, b9⟩))
    have b79 := bel_trans (bel_undrew b8) b9
    have X6 := X6.below b79
    have X3 := X3.below b79
    have XW := XW.below b79
    have DW := DW.below b79
    have D3 := D3.below b79
    have D6 := D6.below b79
    have Bn := bel_trans Bn b79
    clear b79 b8 b9 q3 q8 D8 s8 x0 x1 zx y0 y1 zy hrn
    obtain ⟨y0, y1, zy⟩ := X3.at2
    have hmk := markSender_any B (wc.heap.size + 1) w3.heap.size a3 c3 d3 1 w9 (by omega) (by omega) (by omega) (say_len s3 hxl) D3 L3
    rw [hl3] at hmk
    obtain ⟨kx, hkx⟩ : ∃ kx, markEnd 1 d3 = kx := ⟨_, rfl⟩
    have hkb : 1 ≤ kx := by
      have h := markEnd_bound 1 d3 1048577 (say_len s3 hxl)
      omega
    rw [hkx] at hmk
    clear hkx
    go_wp2_with fail
    refine hmk.mono ?_
    rintro e w12 ⟨rfl, _, K12⟩
    have XW := XW.keep K12 (.inl (by omega))
    have DW := DW.keepLow K12 (ltMono LW (by omega))
    have X6 := X6.keep K12 (.inr (by omega))
    have D6 := D6.keepHigh K12 (by omega)
    have Bn := K12.bel Bn (by omega)
    clear K12 D3 X3 y0 y1 zy hmk
    have hd : decide (kx < 0) = false := by simp; omega
    obtain ⟨x0, x1, zx⟩ := XW.at2
    obtain ⟨y0, y1, zy⟩ := X6.at2
    go_wp2_with fail
    refine (eqSender_any B' a6 aW c6 cW d6 dW L.length _ hl6 (sW.trans s6.symm) (D6.mrow (by omega) (say_len s6 hLx)) (DW.mrow (by omega) (say_len sW hLx))).mono ?_
    rintro e w14 ⟨rfl, b14⟩
    have X6 := X6.below b14
    have XW := XW.below b14
    have DW := DW.below b14
    have D6 := D6.below b14
    have Bn := bel_trans Bn b14
    clear b14 x0 x1 zx y0 y1 zy hd
    obtain ⟨y0, y1, zy⟩ := X6.at2
    have hmk := markSender_any B' (w3.heap.size + 1) w6.heap.size a6 c6 d6 1 w14 (by omega) (by omega) (by omega) (say_len s6 hLx) D6 L6
    rw [hl6] at hmk
    go_wp2_with fail
    refine hmk.mono ?_
    rintro e w15 ⟨rfl, D6, K15⟩
    have XW := XW.keep K15 (.inl (by omega))
    have DW := DW.keepLow K15 (ltMono LW (by omega))
    have X6 := X6.keep K15 (.inr (by omega))
    have Bn := K15.bel Bn (by omega)
    clear K15 y0 y1 zy hmk
    obtain ⟨y0, y1, zy⟩ := X6.at2
    have hhd : ∀ w', Deep w' (w3.heap.size + 1) a6 c6 (markMs 1 d6) → Calls Try.prog 32 #[.agg #[.int .i64 B', .slice a6 L.length c6], .int .i64 1] w' fun e w'' => e = .returned (.int .i64 (markEnd 1 d6)) ∧ Below w'.heap.size w' w'' := fun w' hD => by
      have h := heldSender_any B' (w3.heap.size + 1) a6 c6 d6 1 w' (by omega) (by omega) (by omega) (say_len s6 hLx) hD
      rw [hl6] at h
      exact h
    have HHD : Hid (∀ w', Deep w' (w3.heap.size + 1) a6 c6 (markMs 1 d6) → Calls Try.prog 32 #[.agg #[.int .i64 B', .slice a6 L.length c6], .int .i64 1] w' fun e w'' => e = .returned (.int .i64 (markEnd 1 d6)) ∧ Below w'.heap.size w' w'') := hhd
    have hge : 1 ≤ markEnd 1 d6 := (markEnd_bound 1 d6 1048577 (say_len s6 hLx)).1
    obtain ⟨ke, hke⟩ : ∃ ke, markEnd 1 d6 = ke := ⟨_, rfl⟩
    rw [hke] at hge
    have HKE : Hid (markEnd 1 d6 = ke) := hke
    rw [hke]
    clear hke hhd
    go_wp2_with fail
    refine (HHD.out _ D6).mono ?_
    rintro e w16 ⟨rfl, b16⟩
    rw [HKE.out]
    have X6 := X6.below b16
    have XW := XW.below b16
    have DW := DW.below b16
    have D6 := D6.below b16
    have Bn := bel_trans Bn b16
    clear b16 y0 y1 zy
    have hd : decide (ke < 0) = false := by simp; omega
    obtain ⟨x0, x1, zx⟩ := (XA.below Bn).at2
    go_wp2_with fail
    refine (toSender_any B a ca ms _ hml hxl (hr.below Bn)).mono ?_
    rintro e w17 ⟨a7, c7, d7, rfl, s7, D7, b17⟩
    have hl7 : d7.length = ms.length := by have h := congrArg List.length s7; simpa using h
    have hc7 : ms.length ≤ c7 := by have h := D7.row; rw [hl7] at h; exact owns_capA h
    have X6 := X6.below b17
    have XW := XW.below b17
    have DW := DW.below b17
    have D6 := D6.below b17
    have Bn := bel_trans Bn b17
    clear b17 x0 x1 zx
    go_wp2_with fail
    refine (impl2 B a7 c7 d7 ms n B' L ms.length _ hl7 (D7.mrow (by omega) (say_len s7 hxl)) hml hc7 (say_len s7 hxl) s7 HB.out HL.out).mono ?_
    rintro e w18 ⟨aH, cH, dH, rfl, sH, DH, b18⟩
    have hlH : dH.length = L.length := by have h := congrArg List.length sH; simpa using h
    have X6 := X6.below b18
    have XW := XW.below b18
    have DW := DW.below b18
    have D6 := D6.below b18
    have Bn := bel_trans Bn b18
    clear b18 D7
    obtain ⟨x0, x1, zx⟩ := XW.at2
    go_wp2_with fail
    have bx := bel_alloc (Below.refl w18.heap.size w18) (.cells #[.int .i64 B', .slice aH L.length cH] 49)
    have X6 := X6.below bx
    have DW := DW.below bx
    have D6 := D6.below bx
    have DH := DH.below bx
    have Bn := bel_trans Bn bx
    clear bx x0 x1 zx
    refine (eqSender_any B' aH aW cH cW dH dW L.length _ hlH (sW.trans sH.symm) (DH.mrow (by omega) (say_len sH hLx)) (DW.mrow (by omega) (say_len sW hLx))).mono ?_
    rintro e w19 ⟨rfl, b19⟩
    have X6 := X6.below b19
    have D6 := D6.below b19
    have Bn := bel_trans Bn b19
    clear b19 DW XW DH
    obtain ⟨y0, y1, zy⟩ := X6.at2
    go_wp2_with fail
    refine (HHD.out _ D6).mono ?_
    rintro e w20 ⟨rfl, b20⟩
    rw [HKE.out]
    have Bn := bel_trans (bel_trans B1 Bn) b20
    clear b20 y0 y1 zy D6 X6
    go_wp2
    go_ret
    exact ⟨rfl, Bn⟩

set_option maxRecDepth 100000 in
theorem lifted (os : Os) (started : os.Started) (H : Type) (enc : TypeId × Value → H) :
    ReturnsInHanded {} Try.checked os 8 .any (Rows.fnExactAckedSpec.pre6 enc Try.prog Try.f8 Rows.fnExactAckedRow.domain false) (Rows.fnExactAckedSpec.post enc Try.prog Try.f8 false true false false) := by
  refine returnsInHanded_of_change (C := Try.checked) own started (by kernel_rfl) Try.func8
    (ChangeSpec.witness6 (enc := enc) (C := Try.checked) false ⟨#[], #[.agg #[.int .i64 0, .slice none 0 0], .int .i64 0], []⟩ 8 (by kernel_rfl) (by kernel_rfl) (by kernel_rfl) (by kernel_rfl)) ?_
  intro W base args ds gs before hval0 hW hcnd _
  have hval : ∀ (j : Nat) t v, Try.f8.params[j]? = some t → args[j]? = some v → Value.okWide Try.prog W .any base t v := hval0
  have hW' := hW
  obtain ⟨p, q, hA0, hV, rfl, hfz, hnd⟩ := hW
  have hA : DataW.TrodAll enc Try.prog W 0 (fun _ => true) true Try.f8.params.toList args.toList ds p := hA0
  rw [Try.params8] at hA hval
  obtain ⟨v0, vs0, d0, ds0, p0, q0, hargs, rfl, rfl, h0, r0⟩ := trodAll_cons hA
  obtain ⟨v1, vs1, d1, ds1, p1, q1, rfl, rfl, rfl, h1, r1⟩ := trodAll_cons r0
  obtain ⟨rfl, rfl, rfl⟩ := trodAll_nil r1
  obtain rfl : args = #[v0, v1] := by cases args; simp_all
  obtain ⟨rfl, rfl⟩ := trodVars_none hV
  have k0 := h0
  have lt0 : ∀ x ∈ p0, x.block < W.heap.size := by obtain ⟨m, hm⟩ := k0; exact DataW.trod_lt m _ _ _ hm
  obtain ⟨f0, a0, cap0, x0, rfl, w0⟩ := open_sender (hval 0 44 v0 rfl rfl) h0
  obtain ⟨a1, rfl, rfl, rfl, w1⟩ := open_int Try.underlying3 (hval 1 3 v1 rfl rfl) h1
  clear hA0 hval0
  refine (walk f0 a0 cap0 x0 a1 W w0 w1).mono fun e W' ⟨he, bel⟩ => ?_
  subst he
  exact ⟨_, rfl, _, _, _, [], _, [], hW', trodAll_mk1 (shut_bool Try.underlying4 _), (trodAll_cons_mk (Below.trod laidOut (by kernel_rfl) (of_decide_eq_true (by kernel_rfl)) k0 bel lt0) (trodAll_cons_mk (shut_int Try.underlying3 w1) trodAll_mk0)), rfl, bel.frame _, fun h => by cases h⟩

theorem over : Rows.fnExactAckedRow.holds Try.pinned (OpenSpec.ofChange Rows.fnExactAckedSpec) :=
  OpenClaim.holds_of_wide 8 Try.f8 rfl rfl rfl rfl rfl rfl rfl ⟨rfl, rfl, rfl, rfl, rfl⟩ rfl rfl rfl rfl rfl (by kernel_rfl) Try.func8 (by kernel_rfl)
    (of_decide_eq_true (by kernel_rfl)) (by unfold Func.isWrapper; first | (rw [if_pos (by decide +kernel)]; kernel_rfl) | (rw [if_neg (by decide +kernel)]; exact ⟨rfl, rfl⟩))
    (fun os started H enc _ => lifted os started H enc)
end LawFnExactAcked

theorem fnExactAcked_holds : Rows.FnExactAckedSaid := LawFnExactAcked.over
#print axioms fnExactAcked_holds
end Go.Proofs.Ytbikiffgeinnnab
