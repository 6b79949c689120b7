/- What both NodeOk do: the whole. -/
import Derived.Test.YtiaiomjoapbalaaNdO
namespace Go.Proofs.Ytiaiomjoapbalaa
open Go.RowKit
set_option linter.unusedVariables false

set_option maxRecDepth 100000 in
set_option maxHeartbeats 1000000 in
theorem homeOk1_any (d : HD) (p : HP) (nb : Nat) (nodes : Int) (w : World) (hX : Box w nb #[.int .i64 nodes] 3) (hb : d.bs.length ≤ 1048577) (hl : Row .i64 w p.l.1 d.xs) (hq : VRow w p.q.1 (wv d.ws)) :
    Calls Try.prog 49 #[.agg #[.slice p.l.1 d.xs.length p.l.2, .int .i64 d.ow, .slice p.r.1 d.bs.length p.r.2, .bool d.bz, .int .i64 d.wh, .bool d.wo, .int .i64 d.ak, .slice p.q.1 d.ws.length p.q.2], .pointer (some ⟨nb, 0, none⟩)] w fun e w' => e = .returned (.bool (hoB nodes d)) ∧ Below w.heap.size w w' := by
  have bA := bel_alloc (Below.refl w.heap.size w) (.cells #[.slice p.l.1 d.xs.length p.l.2, .int .i64 d.ow, .slice p.r.1 d.bs.length p.r.2, .bool d.bz, .int .i64 d.wh, .bool d.wo, .int .i64 d.ak, .slice p.q.1 d.ws.length p.q.2] 89)
  replace hX := hX.below bA
  have x0 := hX.cell 0
  have zx := hX.lt
  replace hl := hl.below bA
  replace hq := hq.below bA
  go_enter Try.func49, Try.ntmps49
  go_wp2_with fail
  refine (implHomeOk_any nodes d.ow d.wh d.ak d.bz d.wo p.l.1 p.r.1 p.q.1 p.l.2 d.bs.length p.r.2 p.q.2 d.xs d.ws _ hb hl hq).mono ?_
  rintro e w1 ⟨rfl, b1⟩
  have B := bel_trans bA b1
  clear bA b1 hX x0 zx hl hq
  go_wp2
  go_ret
  exact ⟨rfl, B⟩

set_option maxRecDepth 100000 in
set_option maxHeartbeats 1000000 in
theorem allOkH_any (a : Option Addr) (c n nb : Nat) (nodes : Int) (d : Nat → HD) (p : Nat → HP) (w : World) (hX : Box w nb #[.int .i64 nodes] 3) (hb : ∀ i, i < n → (d i).bs.length ≤ 1048577) (ha : HR2 w a n d p) :
    Calls Try.prog 55 #[.slice a n c, .func (.func 49) #[] #[.pointer (some ⟨nb, 0, none⟩)]] w fun e w' => e = .returned (.bool (allB n fun i => hoB nodes (d i))) ∧ Below w.heap.size w w' := by
  have hl : n ≤ 1048577 := ha.1
  have HBS : Hid (∀ i, i < n → (d i).bs.length ≤ 1048577) := hb
  clear hb
  go_enter Try.func55, Try.ntmps55
  go_wp2
  go_loopw [9] (fun i wr => ∃ k : Nat, k ≤ n ∧ i = .int .i64 k ∧ (∀ i, i < k → hoB nodes (d i) = true) ∧ HR2 wr a n d p ∧ Box wr nb #[.int .i64 nodes] 3 ∧ Below w.heap.size w wr) (fun i _ => n - (intOf i).toNat)
  case atStart => exact ⟨0, Nat.zero_le _, rfl, fun i hi => absurd hi (Nat.not_lt_zero i), ha, hX, Below.refl _ _⟩
  case round =>
    obtain ⟨k, hk, rfl, hall, hma, hX1, hB⟩ := hrel
    have HA : Hid (∀ i, i < k → hoB nodes (d i) = true) := hall
    clear hall ha hX
    by_cases hlt : k < n
    · have hi : (k : Int) < (n : Int) := by omega
      obtain ⟨ba, oa, rfl, y0, y1, y2, y3, y4, y5, y6, y7⟩ := hma.at hlt
      have ra := hma.2.2 k hlt
      have bx := bel_alloc (Below.refl wr.heap.size wr) (.cells #[.slice (p k).l.1 (d k).xs.length (p k).l.2, .int .i64 (d k).ow, .slice (p k).r.1 (d k).bs.length (p k).r.2, .bool (d k).bz, .int .i64 (d k).wh, .bool (d k).wo, .int .i64 (d k).ak, .slice (p k).q.1 (d k).ws.length (p k).q.2] 89)
      have r1 := ra.1.below bx
      have r2 := ra.2.2.below bx
      have hX2 := hX1.below bx
      clear ra
      go_wp2_with fail
      refine (homeOk1_any (d k) (p k) nb nodes _ hX2 (HBS.out k hlt) r1 r2).mono ?_
      rintro e w1 ⟨rfl, b1⟩
      have hma1 := hma.below (bel_trans bx b1)
      have hX3 := hX1.below (bel_trans bx b1)
      have hB1 := bel_trans hB (bel_trans bx b1)
      clear hma hB b1 y0 y1 y2 y3 y4 y5 y6 y7 r1 r2 bx hX1 hX2
      cases hf : hoB nodes (d k)
      · have HF : Hid (allB n (fun i => hoB nodes (d i)) = false) := allB_bad hlt hf
        clear hf hX3 hma1
        go_wp2
        go_ret
        exact ⟨ret_bool HF.out.symm, hB1⟩
      · have HT : Hid (∀ i, i < k + 1 → hoB nodes (d i) = true) := fun i hi => by
          by_cases e : i = k
          · subst e; exact hf
          · exact HA.out i (by omega)
        clear hf
        go_wp2
        go_roundw
        case rel => exact ⟨k + 1, by omega, by go_num, HT.out, hma1, hX3, hB1⟩
        case measure => simp [intOf]; omega
    · have HT : Hid (allB n (fun i => hoB nodes (d i)) = true) := allB_ok (fun i hi => HA.out i (by omega))
      clear hma hX1
      go_wp2
      go_ret
      exact ⟨ret_bool HT.out.symm, hB⟩

theorem nodeOk_bad {d : ND} {nodes : Int} (h : nodeB d.id nodes = false ∨ d.nf ≠ 6 ∨ d.nh ≠ 6 ∨ (d.no : Int) ≠ nodes ∨ (d.ni : Int) ≠ nodes) : nodeOkB d nodes = false := by
  unfold nodeOkB
  rcases h with h | h | h | h | h <;> simp [h]
theorem nodeOk_good {d : ND} {nodes : Int} (h : nodeB d.id nodes = true) (h1 : d.nf = 6) (h2 : d.nh = 6) (h3 : (d.no : Int) = nodes) (h4 : (d.ni : Int) = nodes) :
    nodeOkB d nodes = (allB d.nf (fun i => frB (d.f i)) && (allB d.nh (fun i => hoB nodes (d.h i)) && (allB d.no (fun i => sB (d.b i) (d.y i)) && allB d.ni (fun i => inB (d.g i) 0 100000)))) := by
  unfold nodeOkB
  simp [h, h1, h2, h3, h4]

set_option maxRecDepth 100000 in
set_option maxHeartbeats 4000000 in
theorem implNodeOk_any (d : ND) (p : NP) (nodes : Int) (w : World) (hbs : ∀ i, i < d.nh → (d.h i).bs.length ≤ 1048577) (hR : NR w d p) :
    Calls Try.prog 28 #[.agg (ncells d p), .int .i64 nodes] w fun e w' => e = .returned (.bool (nodeOkB d nodes)) ∧ Below w.heap.size w w' := by
  have B := bel_alloc (bel_alloc (Below.refl w.heap.size w) (.cells (ncells d p) 48)) (.cells #[.int .i64 nodes] 3)
  obtain ⟨X, XN⟩ := Box.two w (ncells d p) #[.int .i64 nodes] 48 3
  replace hR := hR.below B
  have n1 : d.nf ≤ 1048577 := hR.f.1
  have n2 : d.nh ≤ 1048577 := hR.h.1
  have n3 : d.no ≤ 1048577 := hR.o.1
  have n4 : d.ni ≤ 1048577 := hR.i.1
  have HBS : Hid (∀ i, i < d.nh → (d.h i).bs.length ≤ 1048577) := hbs
  clear hbs
  by_cases a0 : nodeB d.id nodes = true
  case neg =>
    have HE : Hid (nodeOkB d nodes = false) := nodeOk_bad (.inl (by simpa using a0))
    have G0 : Hid (nodeB d.id nodes = false) := by show _ = _; simpa using a0
    clear a0 hR X XN
    go_enter Try.func28, Try.ntmps28
    go_wp2_with fail
    refine (isNode_n d.id nodes _).mono ?_
    rintro e w1 ⟨rfl, h⟩
    subst h
    rw [G0.out]
    go_wp2
    go_ret
    exact ⟨ret_bool HE.out.symm, B⟩
  by_cases a1 : d.nf = 6
  case neg =>
    have HE : Hid (nodeOkB d nodes = false) := nodeOk_bad (.inr (.inl a1))
    have G0 : Hid (nodeB d.id nodes = true) := by show _ = _; simpa using a0
    have e1 : ((d.nf : Int) != 6) = true := by simp; omega
    clear a0 a1 hR X XN
    go_enter Try.func28, Try.ntmps28
    go_wp2_with fail
    refine (isNode_n d.id nodes _).mono ?_
    rintro e w1 ⟨rfl, h⟩
    subst h
    rw [G0.out]
    go_wp2
    go_ret
    exact ⟨ret_bool HE.out.symm, B⟩
  by_cases a2 : d.nh = 6
  case neg =>
    have HE : Hid (nodeOkB d nodes = false) := nodeOk_bad (.inr (.inr (.inl a2)))
    have G0 : Hid (nodeB d.id nodes = true) := by show _ = _; simpa using a0
    have e1 : ((d.nf : Int) != 6) = false := by simp; omega
    have e2 : ((d.nh : Int) != 6) = true := by simp; omega
    clear a0 a1 a2 hR X XN
    go_enter Try.func28, Try.ntmps28
    go_wp2_with fail
    refine (isNode_n d.id nodes _).mono ?_
    rintro e w1 ⟨rfl, h⟩
    subst h
    rw [G0.out]
    go_wp2
    go_ret
    exact ⟨ret_bool HE.out.symm, B⟩
  by_cases a3 : (d.no : Int) = nodes
  case neg =>
    have HE : Hid (nodeOkB d nodes = false) := nodeOk_bad (.inr (.inr (.inr (.inl a3))))
    have G0 : Hid (nodeB d.id nodes = true) := by show _ = _; simpa using a0
    have e1 : ((d.nf : Int) != 6) = false := by simp; omega
    have e2 : ((d.nh : Int) != 6) = false := by simp; omega
    have e3 : ((d.no : Int) != nodes) = true := by simp; omega
    clear a0 a1 a2 a3 hR X XN
    go_enter Try.func28, Try.ntmps28
    go_wp2_with fail
    refine (isNode_n d.id nodes _).mono ?_
    rintro e w1 ⟨rfl, h⟩
    subst h
    rw [G0.out]
    go_wp2
    go_ret
    exact ⟨ret_bool HE.out.symm, B⟩
  by_cases a4 : (d.ni : Int) = nodes
  case neg =>
    have HE : Hid (nodeOkB d nodes = false) := nodeOk_bad (.inr (.inr (.inr (.inr a4))))
    have G0 : Hid (nodeB d.id nodes = true) := by show _ = _; simpa using a0
    have e1 : ((d.nf : Int) != 6) = false := by simp; omega
    have e2 : ((d.nh : Int) != 6) = false := by simp; omega
    have e3 : ((d.no : Int) != nodes) = false := by simp; omega
    have e4 : ((d.ni : Int) != nodes) = true := by simp; omega
    clear a0 a1 a2 a3 a4 hR X XN
    go_enter Try.func28, Try.ntmps28
    go_wp2_with fail
    refine (isNode_n d.id nodes _).mono ?_
    rintro e w1 ⟨rfl, h⟩
    subst h
    rw [G0.out]
    go_wp2
    go_ret
    exact ⟨ret_bool HE.out.symm, B⟩
  have HE : Hid _ := nodeOk_good a0 a1 a2 a3 a4
  have G0 : Hid (nodeB d.id nodes = true) := a0
  have e1 : ((d.nf : Int) != 6) = false := by simp; omega
  have e2 : ((d.nh : Int) != 6) = false := by simp; omega
  have e3 : ((d.no : Int) != nodes) = false := by simp; omega
  have e4 : ((d.ni : Int) != nodes) = false := by simp; omega
  clear a0 a1 a2 a3 a4
  go_enter Try.func28, Try.ntmps28
  go_wp2_with fail
  refine (isNode_n d.id nodes _).mono ?_
  rintro e w1 ⟨rfl, h⟩
  subst h
  rw [G0.out]
  go_wp2_with fail
  refine (allOkF_any p.f.1 p.f.2 d.nf d.f p.fp _ hR.f).mono ?_
  rintro e w1 ⟨rfl, b1⟩
  replace X := X.below b1
  replace XN := XN.below b1
  replace hR := hR.below b1
  replace B := bel_trans B b1
  clear b1
  cases r0 : allB d.nf (fun i => frB (d.f i))
  case false =>
    have R0 : Hid (allB d.nf (fun i => frB (d.f i)) = false) := r0
    clear r0 hR X XN
    go_wp2
    go_ret
    exact ⟨ret_bool (by rw [HE.out, R0.out]; rfl), B⟩
  have R0 : Hid (allB d.nf (fun i => frB (d.f i)) = true) := r0
  clear r0
  obtain ⟨x0, x1, x2, x3, x4, zx⟩ := X.at5
  have z0 := XN.cell 0
  go_wp2_with fail
  refine (allOkH_any p.h.1 p.h.2 d.nh (w.heap.size + 1) nodes d.h p.hp _ XN HBS.out hR.h).mono ?_
  rintro e w1 ⟨rfl, b1⟩
  replace X := X.below b1
  replace XN := XN.below b1
  replace hR := hR.below b1
  replace B := bel_trans B b1
  clear b1
  clear x0 x1 x2 x3 x4 zx z0
  cases r1 : allB d.nh (fun i => hoB nodes (d.h i))
  case false =>
    have R1 : Hid (allB d.nh (fun i => hoB nodes (d.h i)) = false) := r1
    clear r1 hR X XN
    go_wp2
    go_ret
    exact ⟨ret_bool (by rw [HE.out, R0.out, R1.out]; rfl), B⟩
  have R1 : Hid (allB d.nh (fun i => hoB nodes (d.h i)) = true) := r1
  clear r1
  obtain ⟨x0, x1, x2, x3, x4, zx⟩ := X.at5
  have z0 := XN.cell 0
  go_wp2_with fail
  refine (allOkS_any p.o.1 p.o.2 d.no d.b d.y p.op p.ms _ hR.o).mono ?_
  rintro e w1 ⟨rfl, b1⟩
  replace X := X.below b1
  replace XN := XN.below b1
  replace hR := hR.below b1
  replace B := bel_trans B b1
  clear b1
  clear x0 x1 x2 x3 x4 zx z0
  cases r2 : allB d.no (fun i => sB (d.b i) (d.y i))
  case false =>
    have R2 : Hid (allB d.no (fun i => sB (d.b i) (d.y i)) = false) := r2
    clear r2 hR X XN
    go_wp2
    go_ret
    exact ⟨ret_bool (by rw [HE.out, R0.out, R1.out, R2.out]; rfl), B⟩
  have R2 : Hid (allB d.no (fun i => sB (d.b i) (d.y i)) = true) := r2
  clear r2
  obtain ⟨x0, x1, x2, x3, x4, zx⟩ := X.at5
  have z0 := XN.cell 0
  go_wp2_with fail
  refine (allOkG_any p.i.1 p.i.2 d.ni d.g _ hR.i).mono ?_
  rintro e w1 ⟨rfl, b1⟩
  replace X := X.below b1
  replace XN := XN.below b1
  replace hR := hR.below b1
  replace B := bel_trans B b1
  clear b1
  clear x0 x1 x2 x3 x4 zx z0
  clear hR X XN
  generalize allB d.ni (fun i => inB (d.g i) 0 100000) = r3 at HE ⊢
  go_wp2
  go_ret
  exact ⟨ret_bool (by rw [HE.out, R0.out, R1.out, R2.out]; simp), B⟩

end Go.Proofs.Ytiaiomjoapbalaa
