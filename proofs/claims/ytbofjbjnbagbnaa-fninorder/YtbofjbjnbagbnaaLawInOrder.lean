/- For every list of bytes the law FnInOrder returns true: whatever a net does with what was sent, what has arrived is a beginning of what was queued, in order. Conditions: none. -/
import Derived.Test.YtbofjbjnbagbnaaInL
import Derived.Test.YtbofjbjnbagbnaaOpen
import Derived.BigQuiet
import Derived.Deep.QuietTactic
namespace Go.Proofs.Ytbofjbjnbagbnaa
open Go.ChangeShapes Go.WideShapes Go.ChangeAt Go.RowKit
set_option linter.unusedVariables false

theorem bigI_any (a : Option Addr) (n ca : Nat) (w : World) (hl : (n : Int) ≤ 1048576) :
    Calls Try.prog 4 #[.slice a n ca] w fun e w' => e = .returned (.bool false) ∧ w' = w := by
  go_enter Try.func4, Try.ntmps4
  go_wp2
  go_ret
  exact ⟨ret_bool (by simp; omega), rfl⟩

theorem own_empty (w : World) (lo e size : Nat) (h : lo ≤ w.heap.size) : (w.alloc (.cells #[] e)).ownsRow lo e size (.slice (some ⟨w.heap.size, 0, none⟩) 0 0) 0 [] :=
  ⟨by simp, .inr ⟨w.heap.size, 0, #[], rfl, h, heap_alloc_new w _, Nat.le_refl _, Nat.zero_le _, by simp, by simp⟩⟩

theorem St.zero : (⟨[], 0, 0, [], [], [], []⟩ : St).Ok := ⟨Nat.le_refl _, Nat.le_refl _, rfl, by simp, rfl, rfl, by simp, by simp, by simp, by simp, by simp⟩

theorem lies_zero (w : World) : Lies (((((w.alloc (.cells #[.int .i64 0, .slice none 0 0] 26)).alloc (.cells #[.int .i64 0] 28)).alloc (.cells #[] 37)).alloc (.cells #[] 33)).alloc (.cells #[] 33))
    w.heap.size w.heap.size (w.heap.size + 1) (.slice (some ⟨w.heap.size + 1 + 1, 0, none⟩) 0 0) (.slice (some ⟨w.heap.size + 1 + 1 + 1, 0, none⟩) 0 0) (.slice (some ⟨w.heap.size + 1 + 1 + 1 + 1, 0, none⟩) 0 0) none 0 ⟨[], 0, 0, [], [], [], []⟩ := by
  obtain ⟨X, Y⟩ := Box.two w #[.int .i64 0, .slice none 0 0] #[.int .i64 0] 26 28
  have z2 : ((w.alloc (.cells #[.int .i64 0, .slice none 0 0] 26)).alloc (.cells #[.int .i64 0] 28)).heap.size = w.heap.size + 1 + 1 := by simp
  generalize ((w.alloc (.cells #[.int .i64 0, .slice none 0 0] 26)).alloc (.cells #[.int .i64 0] 28)) = W at X Y z2 ⊢
  have b1 := bel_alloc (Below.refl W.heap.size W) (.cells #[] 37)
  have o1 := own_empty W w.heap.size 37 8 (by omega)
  have z3 : (W.alloc (.cells #[] 37)).heap.size = w.heap.size + 1 + 1 + 1 := by simp [z2]
  replace X := X.below b1
  replace Y := Y.below b1
  rw [z2] at o1
  generalize W.alloc (.cells #[] 37) = W2 at X Y o1 z3 ⊢
  have b2 := bel_alloc (Below.refl W2.heap.size W2) (.cells #[] 33)
  have o2 := own_empty W2 w.heap.size 33 4 (by omega)
  have z4 : (W2.alloc (.cells #[] 33)).heap.size = w.heap.size + 1 + 1 + 1 + 1 := by simp [z3]
  replace X := X.below b2
  replace Y := Y.below b2
  replace o1 := owns_below o1 b2
  rw [z3] at o2
  generalize W2.alloc (.cells #[] 33) = W3 at X Y o1 o2 z4 ⊢
  have b3 := bel_alloc (Below.refl W3.heap.size W3) (.cells #[] 33)
  have o3 := own_empty W3 w.heap.size 33 4 (by omega)
  rw [z4] at o3
  refine ⟨Nat.le_refl _, by omega, X.below b3, Y.below b3, World.ownsRow_nil _ _ _ _, owns_below o1 b3, owns_below o2 b3, o3, fun j _ h => by simp [Value.ownBlock] at h, fun j _ h => by simp [Value.ownBlock] at h, fun j h h' => ?_⟩
  simp [Value.ownBlock] at h h'
  omega

/-- A page of a row of messages. -/
theorem page_at {w : World} {lo e L : Nat} {v : Value} {ms : List M} {i : Nat} {m : M} (h : w.ownsRow lo e 4 v L (flat ms)) (hm : ms[i]? = some m) : ∃ g c, v = .slice (some ⟨g, 0, none⟩) L c ∧ w.cell? ⟨g, i * 4 + 1, none⟩ = some (.int .i64 m.p) := by
  have hl : ms.length = L := by have := h.1; rw [flat_length] at this; omega
  have hi := (List.getElem?_eq_some_iff.1 hm).1
  obtain ⟨g, c, rfl, _, _⟩ := h.form (by omega)
  refine ⟨g, c, rfl, ?_⟩
  rw [h.cellAt (i * 4 + 1) (by omega), flat_get ms i m hm 1 (by omega)]
  rfl

namespace LawFnInOrder
set_option maxRecDepth 1000000 in
set_option maxHeartbeats 8000000 in
theorem walk (a : Option Addr) (ca : Nat) (bs : List Int) (w : World) (hc : Came .u8 w a ca bs) :
    Calls Try.prog 3 #[.slice a bs.length ca] w fun e w' => e = .returned (.bool true) ∧ Below w.heap.size w w' := by
  by_cases hl : 1048576 < bs.length
  · have hn : bs.length ≤ maxLen := Nat.le_trans hc.1 hc.2.1
    have hl' : (1048576 : Int) < bs.length := by omega
    clear hc
    go_enter Try.func3, Try.ntmps3
    go_wp2
    go_ret
    exact ⟨rfl, Below.refl _ _⟩
  · have hr := hc.row (by omega)
    have hby := hc.bytes
    have hbs : Hid (∀ x ∈ bs, 0 ≤ x ∧ x ≤ 255) := fun x hx => by have := hby x hx; omega
    have hl' : (bs.length : Int) ≤ 1048576 := by omega
    have hln : bs.length ≤ 1048576 := by omega
    have HL0 : Hid (Lies (((((w.alloc (.cells #[.int .i64 0, .slice none 0 0] 26)).alloc (.cells #[.int .i64 0] 28)).alloc (.cells #[] 37)).alloc (.cells #[] 33)).alloc (.cells #[] 33)) w.heap.size w.heap.size (w.heap.size + 1) (.slice (some ⟨w.heap.size + 1 + 1, 0, none⟩) 0 0) (.slice (some ⟨w.heap.size + 1 + 1 + 1, 0, none⟩) 0 0) (.slice (some ⟨w.heap.size + 1 + 1 + 1 + 1, 0, none⟩) 0 0) none 0 ⟨[], 0, 0, [], [], [], []⟩) := lies_zero w
    have HB0 : Hid (Below w.heap.size w (((((w.alloc (.cells #[.int .i64 0, .slice none 0 0] 26)).alloc (.cells #[.int .i64 0] 28)).alloc (.cells #[] 37)).alloc (.cells #[] 33)).alloc (.cells #[] 33))) := bel_alloc (bel_alloc (bel_alloc (bel_alloc (bel_alloc (Below.refl _ _) _) _) _) _) _
    clear hc hby hl
    go_enter Try.func3, Try.ntmps3
    go_wp2_with fail
    refine (bigI_any a bs.length ca _ hl').mono ?_
    rintro e w0 ⟨rfl, h⟩
    subst h
    go_wp2
    refine inLoop (sB := w0.heap.size) (rB := w0.heap.size + 1) hr hbs.out hln ?_ ?_ ?_
    · intro c a d v w h
      cases d <;> exact h
    · intro act wx hI
      unfold WI at hI
      obtain ⟨v5, hI⟩ := hI
      obtain ⟨v6, hI⟩ := hI
      obtain ⟨v7, hI⟩ := hI
      obtain ⟨v8, hI⟩ := hI
      obtain ⟨u9, hI⟩ := hI
      obtain ⟨u10, hI⟩ := hI
      obtain ⟨u11, hI⟩ := hI
      obtain ⟨u12, hI⟩ := hI
      obtain ⟨u13, hI⟩ := hI
      obtain ⟨u14, hI⟩ := hI
      obtain ⟨u15, hI⟩ := hI
      obtain ⟨u16, hI⟩ := hI
      obtain ⟨u17, hI⟩ := hI
      obtain ⟨u18, hI⟩ := hI
      obtain ⟨u27, hI⟩ := hI
      obtain ⟨u28, hI⟩ := hI
      obtain ⟨u29, hI⟩ := hI
      obtain ⟨u30, hI⟩ := hI
      obtain ⟨u31, hI⟩ := hI
      obtain ⟨u32, hI⟩ := hI
      obtain ⟨u33, hI⟩ := hI
      obtain ⟨u34, hI⟩ := hI
      obtain ⟨u35, hI⟩ := hI
      obtain ⟨u36, hI⟩ := hI
      obtain ⟨u37, hI⟩ := hI
      obtain ⟨u38, hI⟩ := hI
      obtain ⟨u39, hI⟩ := hI
      obtain ⟨u40, hI⟩ := hI
      obtain ⟨u41, hI⟩ := hI
      obtain ⟨u42, hI⟩ := hI
      obtain ⟨u43, hI⟩ := hI
      obtain ⟨u44, hI⟩ := hI
      obtain ⟨u45, hI⟩ := hI
      obtain ⟨u46, hI⟩ := hI
      obtain ⟨u47, hI⟩ := hI
      obtain ⟨u48, hI⟩ := hI
      obtain ⟨u49, hI⟩ := hI
      obtain ⟨u50, hI⟩ := hI
      obtain ⟨u51, hI⟩ := hI
      obtain ⟨u52, hI⟩ := hI
      obtain ⟨u53, hI⟩ := hI
      obtain ⟨u54, hI⟩ := hI
      obtain ⟨u55, hI⟩ := hI
      obtain ⟨u56, hI⟩ := hI
      obtain ⟨u57, hI⟩ := hI
      obtain ⟨u58, hI⟩ := hI
      obtain ⟨u59, hI⟩ := hI
      obtain ⟨u60, hI⟩ := hI
      obtain ⟨u61, hI⟩ := hI
      obtain ⟨u62, hI⟩ := hI
      obtain ⟨u63, hI⟩ := hI
      obtain ⟨u64, hI⟩ := hI
      obtain ⟨u65, hI⟩ := hI
      obtain ⟨u66, hI⟩ := hI
      obtain ⟨u67, hI⟩ := hI
      obtain ⟨u68, hI⟩ := hI
      obtain ⟨u69, hI⟩ := hI
      obtain ⟨u70, hI⟩ := hI
      obtain ⟨u71, hI⟩ := hI
      obtain ⟨u72, hI⟩ := hI
      obtain ⟨u73, hI⟩ := hI
      obtain ⟨u74, hI⟩ := hI
      obtain ⟨u75, hI⟩ := hI
      obtain ⟨u76, hI⟩ := hI
      obtain ⟨u77, hI⟩ := hI
      obtain ⟨u78, hI⟩ := hI
      obtain ⟨u79, hI⟩ := hI
      obtain ⟨u80, hI⟩ := hI
      obtain ⟨u81, hI⟩ := hI
      obtain ⟨u82, hI⟩ := hI
      obtain ⟨u83, hI⟩ := hI
      obtain ⟨u84, hI⟩ := hI
      obtain ⟨u85, hI⟩ := hI
      obtain ⟨u86, hI⟩ := hI
      obtain ⟨u87, hI⟩ := hI
      obtain ⟨u88, hI⟩ := hI
      obtain ⟨u89, hI⟩ := hI
      obtain ⟨u90, hI⟩ := hI
      obtain ⟨u91, hI⟩ := hI
      obtain ⟨u92, hI⟩ := hI
      obtain ⟨u93, hI⟩ := hI
      obtain ⟨u94, hI⟩ := hI
      obtain ⟨u95, hI⟩ := hI
      obtain ⟨u96, hI⟩ := hI
      obtain ⟨u97, hI⟩ := hI
      obtain ⟨u98, hI⟩ := hI
      obtain ⟨u99, hI⟩ := hI
      obtain ⟨u100, hI⟩ := hI
      obtain ⟨u101, hI⟩ := hI
      obtain ⟨u102, hI⟩ := hI
      obtain ⟨u103, hI⟩ := hI
      obtain ⟨u104, hI⟩ := hI
      obtain ⟨u105, hI⟩ := hI
      obtain ⟨u106, hI⟩ := hI
      obtain ⟨u107, hI⟩ := hI
      obtain ⟨u108, hI⟩ := hI
      obtain ⟨u109, hI⟩ := hI
      obtain ⟨u110, hI⟩ := hI
      obtain ⟨u111, hI⟩ := hI
      obtain ⟨u112, hI⟩ := hI
      obtain ⟨u113, hI⟩ := hI
      obtain ⟨u114, hI⟩ := hI
      obtain ⟨u115, hI⟩ := hI
      obtain ⟨u116, hI⟩ := hI
      obtain ⟨u117, hI⟩ := hI
      obtain ⟨u118, hI⟩ := hI
      obtain ⟨u119, hI⟩ := hI
      obtain ⟨u120, hI⟩ := hI
      obtain ⟨u121, hI⟩ := hI
      obtain ⟨u122, hI⟩ := hI
      obtain ⟨hrel, rfl⟩ := hI
      obtain ⟨k, aq, cq, S, rfl, hk, ok, hP, hN, hL, hB⟩ := hrel
      obtain ⟨a6, c6, rfl⟩ := owns_slice hL.a
      obtain ⟨a7, c7, rfl⟩ := owns_slice hL.g
      obtain ⟨s0, s1, sz⟩ := hL.s.at2
      have r0 := hL.r.cell 0
      have rz := hL.r.lt
      have h1 : S.gg.length ≤ S.aa.length := by have := ok.gl; have := ok.al; have := ok.gp; omega
      have h2 : S.b ≤ S.g := ok.bg
      have h3 : S.aa.length ≤ 60 := by have := ok.al; omega
      have h4 : S.g ≤ 60 := by have := ok.gp; omega
      have e1 : decide ((S.aa.length : Int) < (S.gg.length : Int)) = false := by simp; omega
      have e2 : decide ((S.g : Int) < (S.b : Int)) = false := by simp; omega
      have HB : Hid (Below w0.heap.size w0 wx) := hB
      have HS : Hid (senderB S.b S.qs = true) := ok.right (by omega)
      have HQ := hL.mrow ok
      have HP : Hid (∀ i, i < S.gg.length → ∃ g7 g6 c7' c6' p, Value.slice a7 S.gg.length c7 = .slice (some ⟨g7, 0, none⟩) S.gg.length c7' ∧ Value.slice a6 S.aa.length c6 = .slice (some ⟨g6, 0, none⟩) S.aa.length c6' ∧ wx.cell? ⟨g7, i * 4 + 1, none⟩ = some (.int .i64 p) ∧ wx.cell? ⟨g6, i * 4 + 1, none⟩ = some (.int .i64 p)) := fun i hi => by
        obtain ⟨m7, hm7⟩ : ∃ m, S.gg[i]? = some m := ⟨_, List.getElem?_eq_getElem hi⟩
        obtain ⟨m6, hm6⟩ : ∃ m, S.aa[i]? = some m := ⟨_, List.getElem?_eq_getElem (by omega)⟩
        obtain ⟨g7, c7', e7, p7⟩ := page_at hL.g hm7
        obtain ⟨g6, c6', e6, p6⟩ := page_at hL.a hm6
        have a1 := ok.hg i m7 hm7
        have a2 := ok.ha i m6 hm6
        simp [Asks, M.say] at a1 a2
        rw [a1.2.1] at p7
        rw [a2.2.1] at p6
        exact ⟨g7, g6, c7', c6', _, e7, e6, p7, p6⟩
      clear hL hB ok hP hN hr hbs hl' hln HL0 HB0
      go_wp2
      go_loopw [19] (fun i wr => ∃ n d : Nat, n ≤ S.gg.length ∧ i = .int .i64 n ∧ wr = wx.drewN d) (fun i _ => S.gg.length - (intOf i).toNat)
      case atStart => exact ⟨0, 0, Nat.zero_le _, rfl, rfl⟩
      case round =>
        obtain ⟨n, d, hn, rfl, rfl⟩ := hrel
        by_cases hlt : n < S.gg.length
        · obtain ⟨g7, g6, c7', c6', p, e7, e6, p7, p6⟩ := HP.out n hlt
          simp only [Value.slice.injEq] at e7 e6
          obtain ⟨rfl, _, rfl⟩ := e7
          obtain ⟨rfl, _, rfl⟩ := e6
          have hi : (n : Int) < (S.gg.length : Int) := by omega
          have hi2 : (n : Int) < (S.aa.length : Int) := by omega
          go_wp2
          go_quiet (fail)
          go_wp2
          go_roundw
          case rel => exact ⟨n + 1, d + nq, by omega, by go_num, rfl⟩
          case measure => simp [intOf]; omega
        · have hi : (S.gg.length : Int) ≤ (n : Int) := by omega
          go_wp2_with fail
          refine (implSender_any S.b aq cq S.qs _ (HQ.dr (d := d) rfl)).mono ?_
          rintro e w9 ⟨rfl, b9⟩
          have B9 := bel_trans (below_drewN HB.out d) b9
          rw [HS.out]
          go_wp2
          go_ret
          exact ⟨rfl, B9⟩
    · exact ⟨0, none, 0, ⟨[], 0, 0, [], [], [], []⟩, rfl, by omega, St.zero, by simp, by simp, HL0.out, HB0.out⟩

set_option maxRecDepth 100000 in
theorem lifted (os : Os) (started : os.Started) (H : Type) (enc : TypeId × Value → H) :
    ReturnsInHanded {} Try.checked os 3 .any (Rows.fnInOrderSpec.pre6 enc Try.prog Try.f3 Rows.fnInOrderRow.domain false) (Rows.fnInOrderSpec.post enc Try.prog Try.f3 false true false false) := by
  refine returnsInHanded_of_change (C := Try.checked) own started (by kernel_rfl) Try.func3
    (ChangeSpec.witness6 (enc := enc) (C := Try.checked) false ⟨#[], #[.slice none 0 0], []⟩ 8 (by kernel_rfl) (by kernel_rfl) (by kernel_rfl) (by kernel_rfl)) ?_
  intro W base args ds gs before hval0 hW hcnd _
  have hval : ∀ (j : Nat) t v, Try.f3.params[j]? = some t → args[j]? = some v → Value.okWide Try.prog W .any base t v := hval0
  have hW' := hW
  obtain ⟨p, q, hA0, hV, rfl, hfz, hnd⟩ := hW
  have hA : DataW.TrodAll enc Try.prog W 0 (fun _ => true) true Try.f3.params.toList args.toList ds p := hA0
  rw [Try.params3] at hA hval
  obtain ⟨v0, vs0, d0, ds0, p0, q0, hargs, rfl, rfl, h0, r0⟩ := trodAll_cons hA
  obtain ⟨rfl, rfl, rfl⟩ := trodAll_nil r0
  obtain rfl : args = #[v0] := by cases args; simp_all
  obtain ⟨rfl, rfl⟩ := trodVars_none hV
  obtain ⟨a0, len0, cap0, rfl⟩ := okWide_slice Try.underlying22 (hval 0 22 v0 rfl rfl)
  have k0 := h0
  have lt0 : ∀ x ∈ p0, x.block < W.heap.size := by obtain ⟨m, hm⟩ := k0; exact DataW.trod_lt m _ _ _ hm
  obtain ⟨x0, rfl, w0⟩ : ∃ xs : List Int, xs.length = len0 ∧ Came .u8 W a0 cap0 xs := by
    obtain ⟨fuel, hf⟩ := h0
    rcases open_ints Try.underlying22 Try.underlying5 (by kernel_rfl) hf with ⟨hcs, _⟩ | ⟨x, l, c, zs, hcs, _, hl, hm, hz, _, hcell, hwz⟩
    · simp [Value.cells] at hcs
      obtain ⟨rfl, rfl, rfl⟩ := hcs
      exact ⟨[], rfl, came_nil _ _⟩
    · simp [Value.cells] at hcs
      obtain ⟨rfl, rfl, rfl⟩ := hcs
      have hc := came_of hl hm (by simpa using hz) hcell hwz
      exact ⟨_, hc.1, hc.2⟩
  clear hA0 hval0
  refine (walk a0 cap0 x0 W w0).mono fun e W' ⟨he, bel⟩ => ?_
  subst he
  exact ⟨_, rfl, _, _, _, [], _, [], hW', trodAll_mk1 (shut_bool Try.underlying4 _), (trodAll_cons_mk (Below.trod laidOut (by kernel_rfl) (of_decide_eq_true (by kernel_rfl)) k0 bel lt0) trodAll_mk0), rfl, bel.frame _, fun h => by cases h⟩

theorem over : Rows.fnInOrderRow.holds Try.pinned (OpenSpec.ofChange Rows.fnInOrderSpec) :=
  OpenClaim.holds_of_wide 3 Try.f3 rfl rfl rfl rfl rfl rfl rfl ⟨rfl, rfl, rfl, rfl, rfl⟩ rfl rfl rfl rfl rfl (by kernel_rfl) Try.func3 (by kernel_rfl)
    (of_decide_eq_true (by kernel_rfl)) (by unfold Func.isWrapper; first | (rw [if_pos (by decide +kernel)]; kernel_rfl) | (rw [if_neg (by decide +kernel)]; exact ⟨rfl, rfl⟩))
    (fun os started H enc _ => lifted os started H enc)
end LawFnInOrder

theorem fnInOrder_holds : Rows.FnInOrderSaid := LawFnInOrder.over
#print axioms fnInOrder_holds
end Go.Proofs.Ytbofjbjnbagbnaa
