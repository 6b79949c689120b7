/- A statement of the law FnExactCoreHear, taken out of its code (written by mk12h.py). -/
import Derived.Test.YtafikmpgmnhgcaaCo3
namespace Go.Proofs.Ytafikmpgmnhgcaa
open Go.ChangeShapes Go.WideShapes Go.ChangeAt Go.RowKit
set_option linter.unusedVariables false

namespace LawFnExactCoreHear
set_option maxRecDepth 100000 in
set_option maxHeartbeats 8000000 in
theorem r8 {u0 u1 u4 u5 u6 u7 u8 u9 u10 u11 u12 u13 u14 u15 u16 u17 u18 u19 u20 u21 u22 u23 u24 u25 u26 u27 u28 u29 u30 u31 u32 u33 u34 u35 u36 u37 u38 u39 u40 u41 u42 u43 u44 u45 u46 u47 u48 u49 u50 u51 u52 u53 u54 u55 u56 u57 u58 u59 u60 u61 u62 u63 u64 u65 u66 u67 u68 u69 u70 u71 u72 u73 u74 u75 u76 u77 u78 u79 u80 u81 u82 u83 u84 u85 u86 u87 u88 u89 u90 u91 : Value} {bA bM : Nat} {d g : CoD} {p : CoP} {k pg : Int} {o : Bool} {am : Option Addr} {cm : Nat} {ms : List Int} {w2 : World} {K : Act → World → Prop} {RR : Ending → World → Prop}
    (hs : CoS d) (hr : CoR w2 d p) (hms : ms.length ≤ 1048576) (hm : Row .i64 w2 am ms) (XA : Box w2 bA (ccells d p) 27) (XM : Box w2 bM #[.int .i64 k, .int .i64 pg, .bool o, .slice am ms.length cm] 29)
    (HS : Hid (∀ (p : CoP) (a : Option Addr) (c : Nat) (W : World), CoR W d p → Row .i64 W a ms → Calls Try.prog 6 #[.agg (ccells d p), .agg #[.int .i64 k, .int .i64 pg, .bool o, .slice a ms.length c]] W (CoreP g W)))
    (hK : Hid (∀ (v24 v25 v26 v27 v28 s : Value) (wx : World), AC w2 g s wx → K ⟨#[u0, u1, .pointer (some ⟨bA, 0, none⟩), .pointer (some ⟨bM, 0, none⟩), u4, u5, s, u7, u8, u9, u10, u11, u12, u13, u14, u15, u16, u17, u18, u19, u20, u21, u22, u23, v24, v25, v26, v27, v28, u29, u30, u31, u32, u33, u34, u35, u36, u37, u38, u39, u40, u41, u42, u43, u44, u45, u46, u47, u48, u49, u50, u51, u52, u53, u54, u55, u56, u57, u58, u59, u60, u61, u62, u63, u64, u65, u66, u67, u68, u69, u70, u71, u72, u73, u74, u75, u76, u77, u78, u79, u80, u81, u82, u83, u84, u85, u86, u87, u88, u89, u90, u91], []⟩ wx)) :
    Code.wp Try.prog ((Try.f3.body.bind (findReg 8)).getD .skip) (Exit.then K (bodyPost Try.prog Try.f3 RR)) ⟨#[u0, u1, .pointer (some ⟨bA, 0, none⟩), .pointer (some ⟨bM, 0, none⟩), u4, u5, u6, u7, u8, u9, u10, u11, u12, u13, u14, u15, u16, u17, u18, u19, u20, u21, u22, u23, u24, u25, u26, u27, u28, u29, u30, u31, u32, u33, u34, u35, u36, u37, u38, u39, u40, u41, u42, u43, u44, u45, u46, u47, u48, u49, u50, u51, u52, u53, u54, u55, u56, u57, u58, u59, u60, u61, u62, u63, u64, u65, u66, u67, u68, u69, u70, u71, u72, u73, u74, u75, u76, u77, u78, u79, u80, u81, u82, u83, u84, u85, u86, u87, u88, u89, u90, u91], []⟩ w2 := by
  conv => arg 2; whnf
  obtain ⟨x0, x1, x2, x3, zx⟩ := XA.at4
  obtain ⟨y0, y1, y2, y3, zy⟩ := XM.at4
  refine wp_region_held_drew (S := fun W => Below w2.heap.size w2 W) (by kernel_rfl) ?_ (fun hHeld => ?_)
  · exact below_drewN (Below.refl _ _) 1
  obtain ⟨V0, hV0⟩ : ∃ V, w2.drew = V := ⟨_, rfl⟩
  rw [hV0] at hHeld ⊢
  clear hV0
  have hs_V0 : w2.heap.size ≤ V0.heap.size := hHeld.size
  refine wpAnyH_take (i := 0) (oi := { dst := some 24, op := Op.load 27 (Operand.tmp 2), type := 27, pos := "exact.go:3623", after := #[], guard := none }) (v := .agg (ccells d p)) rfl (by kernel_rfl) (by kernel_rfl) (by kernel_rfl) (fun _ _ _ h => h) (Or.inl ⟨by rfl, ?hy1⟩) (by assumption) ?rest1
  case hy1 => intro W hS; have c0 := cell_later hS x0; have c1 := cell_later hS x1; have c2 := cell_later hS x2; have c3 := cell_later hS x3; go_simp; try (with_reducible rfl)
  simp only [Act.put, List.setIfInBounds_toArray, List.set_cons_zero, List.set_cons_succ]
  refine wpAnyH_take (i := 2) (oi := { dst := some 26, op := Op.load 29 (Operand.tmp 3), type := 29, pos := "exact.go:3623", after := #[], guard := none }) (v := .agg #[.int .i64 k, .int .i64 pg, .bool o, .slice am ms.length cm]) rfl (by kernel_rfl) (by kernel_rfl) (by kernel_rfl) (fun _ _ _ h => h) (Or.inl ⟨by rfl, ?hy2⟩) (by assumption) ?rest2
  case hy2 => intro W hS; have c0 := cell_later hS y0; have c1 := cell_later hS y1; have c2 := cell_later hS y2; have c3 := cell_later hS y3; go_simp; try (with_reducible rfl)
  simp only [Act.put, List.setIfInBounds_toArray, List.set_cons_zero, List.set_cons_succ]
  refine wpAnyH_ready (rs := [1, 5]) (by kernel_rfl) (by simp) ?_
  refine AllReadyH.cons (o := { dst := some 25, op := Op.call { callee := Callee.value (Operand.func 7), args := #[Operand.tmp 24], argTypes := #[27] }, type := 35, pos := "exact.go:3623", after := #[{ on := 0, ground := Ground.data }], guard := none }) rfl (fun K2 hK2 => ?_) (AllReadyH.cons (o := { dst := some 6, op := Op.alloc 35, type := 0, pos := "exact.go:3623", after := #[], guard := none }) rfl (fun K2 hK2 => ?_) AllReadyH.nil)
  · go_simp
    refine (toCore_own d p _ hs (hr.below hHeld)).mono ?_
    rintro e w3 ⟨p3, rfl, E3, l3, b3⟩
    go_wp2_with fail
    refine hK2.out _ _ ?_ (fun hHeld2 => ?_)
    · exact bel_trans hHeld b3
    clear hK2 K2 hHeld
    have hHeld := hHeld2
    clear hHeld2
    try simp only [Act.put, List.setIfInBounds_toArray, List.set_cons_zero, List.set_cons_succ]
    have hz3 := b3.size
    have hs_w3 : w2.heap.size ≤ w3.heap.size := hHeld.size
    clear b3
    refine wpAnyH_ready (rs := [3, 5]) (by kernel_rfl) (by simp) ?_
    refine AllReadyH.cons (o := { dst := some 27, op := Op.call { callee := Callee.value (Operand.func 8), args := #[Operand.tmp 26], argTypes := #[29] }, type := 38, pos := "exact.go:3623", after := #[{ on := 2, ground := Ground.data }, { on := 1, ground := Ground.chain }], guard := none }) rfl (fun K2 hK2 => ?_) (AllReadyH.cons (o := { dst := some 6, op := Op.alloc 35, type := 0, pos := "exact.go:3623", after := #[], guard := none }) rfl (fun K2 hK2 => ?_) AllReadyH.nil)
    · go_simp
      refine (toMsg_any k pg o am cm ms _ hms (hm.below hHeld)).mono ?_
      rintro e w4 ⟨v4, rfl, O4, b4⟩
      obtain ⟨a4, c4, rfl⟩ := owns_slice O4
      go_wp2_with fail
      refine hK2.out _ _ ?_ (fun hHeld2 => ?_)
      · exact bel_trans hHeld b4
      clear hK2 K2 hHeld
      have hHeld := hHeld2
      clear hHeld2
      try simp only [Act.put, List.setIfInBounds_toArray, List.set_cons_zero, List.set_cons_succ]
      replace E3 := E3.below b4
      have hz4 := b4.size
      have hs_w4 : w2.heap.size ≤ w4.heap.size := hHeld.size
      clear b4
      refine wpAnyH_ready (rs := [4, 5]) (by kernel_rfl) (by simp) ?_
      refine AllReadyH.cons (o := { dst := some 28, op := Op.call { callee := Callee.value (Operand.func 6), args := #[Operand.tmp 25, Operand.tmp 27], argTypes := #[35, 38] }, type := 35, pos := "exact.go:3623", after := #[{ on := 1, ground := Ground.data }, { on := 3, ground := Ground.data }, { on := 3, ground := Ground.chain }], guard := none }) rfl (fun K2 hK2 => ?_) (AllReadyH.cons (o := { dst := some 6, op := Op.alloc 35, type := 0, pos := "exact.go:3623", after := #[], guard := none }) rfl (fun K2 hK2 => ?_) AllReadyH.nil)
      · go_simp
        refine (HS.out p3 a4 c4 _ (E3.cr hs) (owns_row' O4 (by omega))).mono ?_
        rintro e w5 ⟨p5, rfl, E5, l5, b5⟩
        have h5 : ∀ b, QCo g p5 b → b < w5.heap.size := fun b hb => E5.lt hb
        go_wp2_with fail
        refine hK2.out _ _ ?_ (fun hHeld2 => ?_)
        · exact bel_trans hHeld b5
        clear hK2 K2 hHeld
        have hHeld := hHeld2
        clear hHeld2
        try simp only [Act.put, List.setIfInBounds_toArray, List.set_cons_zero, List.set_cons_succ]
        replace E3 := E3.below b5
        replace O4 := owns_below O4 b5
        have hz5 := b5.size
        have hs_w5 : w2.heap.size ≤ w5.heap.size := hHeld.size
        clear b5
        refine wpAnyH_ready (rs := [5]) (by kernel_rfl) (by simp) ?_
        refine AllReadyH.cons (o := { dst := some 6, op := Op.alloc 35, type := 0, pos := "exact.go:3623", after := #[], guard := none }) rfl (fun K2 hK2 => ?_) AllReadyH.nil
        go_simp
        refine hK2.out _ _ ?_ (fun hHeld2 => ?_)
        · exact bel_alloc hHeld _
        clear hK2 K2 hHeld
        have hHeld := hHeld2
        clear hHeld2
        try simp only [Act.put, List.setIfInBounds_toArray, List.set_cons_zero, List.set_cons_succ]
        have XN := Box.new w5 #[.slice none 0 0, .int .i64 0, .int .i64 0, .slice none 0 0] 35
        have bx := bel_alloc (Below.refl w5.heap.size w5) (.cells #[.slice none 0 0, .int .i64 0, .int .i64 0, .slice none 0 0] 35)
        have zA : (w5.alloc (.cells #[.slice none 0 0, .int .i64 0, .int .i64 0, .slice none 0 0] 35)).heap.size = w5.heap.size + 1 := by simp
        obtain ⟨VA, hVA⟩ : ∃ V, w5.alloc (.cells #[.slice none 0 0, .int .i64 0, .int .i64 0, .slice none 0 0] 35) = V := ⟨_, rfl⟩
        rw [hVA] at hHeld XN bx zA ⊢
        obtain ⟨A, eA⟩ : ∃ A, w5.heap.size = A := ⟨_, rfl⟩
        have hA : w2.heap.size ≤ A := by rw [← eA]; exact hs_w5
        rw [eA] at XN ⊢
        have hzA : A < VA.heap.size := XN.lt
        replace E3 := E3.below bx
        replace O4 := owns_below O4 bx
        replace E5 := E5.below bx
        clear hVA bx
        have hs_VA : w2.heap.size ≤ VA.heap.size := hHeld.size
        refine wpAnyH_ready (rs := [6]) (by kernel_rfl) (by simp) ?_
        refine AllReadyH.cons (o := { dst := none, op := Op.store 35 (Operand.tmp 6) (Operand.tmp 28), type := 0, pos := "exact.go:3623", after := #[{ on := 5, ground := Ground.data }, { on := 4, ground := Ground.data }, { on := 4, ground := Ground.chain }, { on := 0, ground := Ground.phase }, { on := 1, ground := Ground.phase }, { on := 2, ground := Ground.phase }, { on := 3, ground := Ground.phase }, { on := 4, ground := Ground.phase }, { on := 5, ground := Ground.phase }], guard := none }) rfl (fun K2 hK2 => ?_) AllReadyH.nil
        obtain ⟨n0, n1, n2, n3, nz⟩ := XN.at4
        have nf0 := XN.frozen 0
        have nf1 := XN.frozen 1
        have nf2 := XN.frozen 2
        have nf3 := XN.frozen 3
        go_simp
        refine hK2.out _ _ ?_ (fun hHeld2 => ?_)
        · exact bel_setCell (bel_setCell (bel_setCell (bel_setCell hHeld _ _ hA) _ _ hA) _ _ hA) _ _ hA
        try simp only [Act.put, List.setIfInBounds_toArray, List.set_cons_zero, List.set_cons_succ]
        refine wpAnyH_done (by kernel_rfl) ?_ _
        refine hK.out _ _ _ _ _ _ _ ?_
        exact AC.set XN hA (fun h => by have h1 := l5 _ h; have h2 := h5 _ h; omega) E5 (fun b hb => by have h1 := l5 b hb; omega) hHeld
      · go_simp
        refine hK2.out _ _ ?_ (fun hHeld2 => ?_)
        · exact bel_alloc hHeld _
        clear hK2 K2 hHeld
        have hHeld := hHeld2
        clear hHeld2
        try simp only [Act.put, List.setIfInBounds_toArray, List.set_cons_zero, List.set_cons_succ]
        have XN := Box.new w4 #[.slice none 0 0, .int .i64 0, .int .i64 0, .slice none 0 0] 35
        have bx := bel_alloc (Below.refl w4.heap.size w4) (.cells #[.slice none 0 0, .int .i64 0, .int .i64 0, .slice none 0 0] 35)
        have zA : (w4.alloc (.cells #[.slice none 0 0, .int .i64 0, .int .i64 0, .slice none 0 0] 35)).heap.size = w4.heap.size + 1 := by simp
        obtain ⟨VA, hVA⟩ : ∃ V, w4.alloc (.cells #[.slice none 0 0, .int .i64 0, .int .i64 0, .slice none 0 0] 35) = V := ⟨_, rfl⟩
        rw [hVA] at hHeld XN bx zA ⊢
        obtain ⟨A, eA⟩ : ∃ A, w4.heap.size = A := ⟨_, rfl⟩
        have hA : w2.heap.size ≤ A := by rw [← eA]; exact hs_w4
        rw [eA] at XN ⊢
        have hzA : A < VA.heap.size := XN.lt
        replace E3 := E3.below bx
        replace O4 := owns_below O4 bx
        clear hVA bx
        have hs_VA : w2.heap.size ≤ VA.heap.size := hHeld.size
        refine wpAnyH_ready (rs := [4]) (by kernel_rfl) (by simp) ?_
        refine AllReadyH.cons (o := { dst := some 28, op := Op.call { callee := Callee.value (Operand.func 6), args := #[Operand.tmp 25, Operand.tmp 27], argTypes := #[35, 38] }, type := 35, pos := "exact.go:3623", after := #[{ on := 1, ground := Ground.data }, { on := 3, ground := Ground.data }, { on := 3, ground := Ground.chain }], guard := none }) rfl (fun K2 hK2 => ?_) AllReadyH.nil
        go_simp
        refine (HS.out p3 a4 c4 _ (E3.cr hs) (owns_row' O4 (by omega))).mono ?_
        rintro e w5 ⟨p5, rfl, E5, l5, b5⟩
        have h5 : ∀ b, QCo g p5 b → b < w5.heap.size := fun b hb => E5.lt hb
        go_wp2_with fail
        refine hK2.out _ _ ?_ (fun hHeld2 => ?_)
        · exact bel_trans hHeld b5
        clear hK2 K2 hHeld
        have hHeld := hHeld2
        clear hHeld2
        try simp only [Act.put, List.setIfInBounds_toArray, List.set_cons_zero, List.set_cons_succ]
        replace E3 := E3.below b5
        replace O4 := owns_below O4 b5
        replace XN := XN.below b5
        have hz5 := b5.size
        have hs_w5 : w2.heap.size ≤ w5.heap.size := hHeld.size
        clear b5
        refine wpAnyH_ready (rs := [6]) (by kernel_rfl) (by simp) ?_
        refine AllReadyH.cons (o := { dst := none, op := Op.store 35 (Operand.tmp 6) (Operand.tmp 28), type := 0, pos := "exact.go:3623", after := #[{ on := 5, ground := Ground.data }, { on := 4, ground := Ground.data }, { on := 4, ground := Ground.chain }, { on := 0, ground := Ground.phase }, { on := 1, ground := Ground.phase }, { on := 2, ground := Ground.phase }, { on := 3, ground := Ground.phase }, { on := 4, ground := Ground.phase }, { on := 5, ground := Ground.phase }], guard := none }) rfl (fun K2 hK2 => ?_) AllReadyH.nil
        obtain ⟨n0, n1, n2, n3, nz⟩ := XN.at4
        have nf0 := XN.frozen 0
        have nf1 := XN.frozen 1
        have nf2 := XN.frozen 2
        have nf3 := XN.frozen 3
        go_simp
        refine hK2.out _ _ ?_ (fun hHeld2 => ?_)
        · exact bel_setCell (bel_setCell (bel_setCell (bel_setCell hHeld _ _ hA) _ _ hA) _ _ hA) _ _ hA
        try simp only [Act.put, List.setIfInBounds_toArray, List.set_cons_zero, List.set_cons_succ]
        refine wpAnyH_done (by kernel_rfl) ?_ _
        refine hK.out _ _ _ _ _ _ _ ?_
        exact AC.set XN hA (fun h => by have h1 := l5 _ h; have h2 := h5 _ h; omega) E5 (fun b hb => by have h1 := l5 b hb; omega) hHeld
    · go_simp
      refine hK2.out _ _ ?_ (fun hHeld2 => ?_)
      · exact bel_alloc hHeld _
      clear hK2 K2 hHeld
      have hHeld := hHeld2
      clear hHeld2
      try simp only [Act.put, List.setIfInBounds_toArray, List.set_cons_zero, List.set_cons_succ]
      have XN := Box.new w3 #[.slice none 0 0, .int .i64 0, .int .i64 0, .slice none 0 0] 35
      have bx := bel_alloc (Below.refl w3.heap.size w3) (.cells #[.slice none 0 0, .int .i64 0, .int .i64 0, .slice none 0 0] 35)
      have zA : (w3.alloc (.cells #[.slice none 0 0, .int .i64 0, .int .i64 0, .slice none 0 0] 35)).heap.size = w3.heap.size + 1 := by simp
      obtain ⟨VA, hVA⟩ : ∃ V, w3.alloc (.cells #[.slice none 0 0, .int .i64 0, .int .i64 0, .slice none 0 0] 35) = V := ⟨_, rfl⟩
      rw [hVA] at hHeld XN bx zA ⊢
      obtain ⟨A, eA⟩ : ∃ A, w3.heap.size = A := ⟨_, rfl⟩
      have hA : w2.heap.size ≤ A := by rw [← eA]; exact hs_w3
      rw [eA] at XN ⊢
      have hzA : A < VA.heap.size := XN.lt
      replace E3 := E3.below bx
      clear hVA bx
      have hs_VA : w2.heap.size ≤ VA.heap.size := hHeld.size
      refine wpAnyH_ready (rs := [3]) (by kernel_rfl) (by simp) ?_
      refine AllReadyH.cons (o := { dst := some 27, op := Op.call { callee := Callee.value (Operand.func 8), args := #[Operand.tmp 26], argTypes := #[29] }, type := 38, pos := "exact.go:3623", after := #[{ on := 2, ground := Ground.data }, { on := 1, ground := Ground.chain }], guard := none }) rfl (fun K2 hK2 => ?_) AllReadyH.nil
      go_simp
      refine (toMsg_any k pg o am cm ms _ hms (hm.below hHeld)).mono ?_
      rintro e w4 ⟨v4, rfl, O4, b4⟩
      obtain ⟨a4, c4, rfl⟩ := owns_slice O4
      go_wp2_with fail
      refine hK2.out _ _ ?_ (fun hHeld2 => ?_)
      · exact bel_trans hHeld b4
      clear hK2 K2 hHeld
      have hHeld := hHeld2
      clear hHeld2
      try simp only [Act.put, List.setIfInBounds_toArray, List.set_cons_zero, List.set_cons_succ]
      replace E3 := E3.below b4
      replace XN := XN.below b4
      have hz4 := b4.size
      have hs_w4 : w2.heap.size ≤ w4.heap.size := hHeld.size
      clear b4
      refine wpAnyH_ready (rs := [4]) (by kernel_rfl) (by simp) ?_
      refine AllReadyH.cons (o := { dst := some 28, op := Op.call { callee := Callee.value (Operand.func 6), args := #[Operand.tmp 25, Operand.tmp 27], argTypes := #[35, 38] }, type := 35, pos := "exact.go:3623", after := #[{ on := 1, ground := Ground.data }, { on := 3, ground := Ground.data }, { on := 3, ground := Ground.chain }], guard := none }) rfl (fun K2 hK2 => ?_) AllReadyH.nil
      go_simp
      refine (HS.out p3 a4 c4 _ (E3.cr hs) (owns_row' O4 (by omega))).mono ?_
      rintro e w5 ⟨p5, rfl, E5, l5, b5⟩
      have h5 : ∀ b, QCo g p5 b → b < w5.heap.size := fun b hb => E5.lt hb
      go_wp2_with fail
      refine hK2.out _ _ ?_ (fun hHeld2 => ?_)
      · exact bel_trans hHeld b5
      clear hK2 K2 hHeld
      have hHeld := hHeld2
      clear hHeld2
      try simp only [Act.put, List.setIfInBounds_toArray, List.set_cons_zero, List.set_cons_succ]
      replace E3 := E3.below b5
      replace O4 := owns_below O4 b5
      replace XN := XN.below b5
      have hz5 := b5.size
      have hs_w5 : w2.heap.size ≤ w5.heap.size := hHeld.size
      clear b5
      refine wpAnyH_ready (rs := [6]) (by kernel_rfl) (by simp) ?_
      refine AllReadyH.cons (o := { dst := none, op := Op.store 35 (Operand.tmp 6) (Operand.tmp 28), type := 0, pos := "exact.go:3623", after := #[{ on := 5, ground := Ground.data }, { on := 4, ground := Ground.data }, { on := 4, ground := Ground.chain }, { on := 0, ground := Ground.phase }, { on := 1, ground := Ground.phase }, { on := 2, ground := Ground.phase }, { on := 3, ground := Ground.phase }, { on := 4, ground := Ground.phase }, { on := 5, ground := Ground.phase }], guard := none }) rfl (fun K2 hK2 => ?_) AllReadyH.nil
      obtain ⟨n0, n1, n2, n3, nz⟩ := XN.at4
      have nf0 := XN.frozen 0
      have nf1 := XN.frozen 1
      have nf2 := XN.frozen 2
      have nf3 := XN.frozen 3
      go_simp
      refine hK2.out _ _ ?_ (fun hHeld2 => ?_)
      · exact bel_setCell (bel_setCell (bel_setCell (bel_setCell hHeld _ _ hA) _ _ hA) _ _ hA) _ _ hA
      try simp only [Act.put, List.setIfInBounds_toArray, List.set_cons_zero, List.set_cons_succ]
      refine wpAnyH_done (by kernel_rfl) ?_ _
      refine hK.out _ _ _ _ _ _ _ ?_
      exact AC.set XN hA (fun h => by have h1 := l5 _ h; have h2 := h5 _ h; omega) E5 (fun b hb => by have h1 := l5 b hb; omega) hHeld
  · go_simp
    refine hK2.out _ _ ?_ (fun hHeld2 => ?_)
    · exact bel_alloc hHeld _
    clear hK2 K2 hHeld
    have hHeld := hHeld2
    clear hHeld2
    try simp only [Act.put, List.setIfInBounds_toArray, List.set_cons_zero, List.set_cons_succ]
    have XN := Box.new V0 #[.slice none 0 0, .int .i64 0, .int .i64 0, .slice none 0 0] 35
    have bx := bel_alloc (Below.refl V0.heap.size V0) (.cells #[.slice none 0 0, .int .i64 0, .int .i64 0, .slice none 0 0] 35)
    have zA : (V0.alloc (.cells #[.slice none 0 0, .int .i64 0, .int .i64 0, .slice none 0 0] 35)).heap.size = V0.heap.size + 1 := by simp
    obtain ⟨VA, hVA⟩ : ∃ V, V0.alloc (.cells #[.slice none 0 0, .int .i64 0, .int .i64 0, .slice none 0 0] 35) = V := ⟨_, rfl⟩
    rw [hVA] at hHeld XN bx zA ⊢
    obtain ⟨A, eA⟩ : ∃ A, V0.heap.size = A := ⟨_, rfl⟩
    have hA : w2.heap.size ≤ A := by rw [← eA]; exact hs_V0
    rw [eA] at XN ⊢
    have hzA : A < VA.heap.size := XN.lt
    clear hVA bx
    have hs_VA : w2.heap.size ≤ VA.heap.size := hHeld.size
    refine wpAnyH_ready (rs := [1]) (by kernel_rfl) (by simp) ?_
    refine AllReadyH.cons (o := { dst := some 25, op := Op.call { callee := Callee.value (Operand.func 7), args := #[Operand.tmp 24], argTypes := #[27] }, type := 35, pos := "exact.go:3623", after := #[{ on := 0, ground := Ground.data }], guard := none }) rfl (fun K2 hK2 => ?_) AllReadyH.nil
    go_simp
    refine (toCore_own d p _ hs (hr.below hHeld)).mono ?_
    rintro e w3 ⟨p3, rfl, E3, l3, b3⟩
    go_wp2_with fail
    refine hK2.out _ _ ?_ (fun hHeld2 => ?_)
    · exact bel_trans hHeld b3
    clear hK2 K2 hHeld
    have hHeld := hHeld2
    clear hHeld2
    try simp only [Act.put, List.setIfInBounds_toArray, List.set_cons_zero, List.set_cons_succ]
    replace XN := XN.below b3
    have hz3 := b3.size
    have hs_w3 : w2.heap.size ≤ w3.heap.size := hHeld.size
    clear b3
    refine wpAnyH_ready (rs := [3]) (by kernel_rfl) (by simp) ?_
    refine AllReadyH.cons (o := { dst := some 27, op := Op.call { callee := Callee.value (Operand.func 8), args := #[Operand.tmp 26], argTypes := #[29] }, type := 38, pos := "exact.go:3623", after := #[{ on := 2, ground := Ground.data }, { on := 1, ground := Ground.chain }], guard := none }) rfl (fun K2 hK2 => ?_) AllReadyH.nil
    go_simp
    refine (toMsg_any k pg o am cm ms _ hms (hm.below hHeld)).mono ?_
    rintro e w4 ⟨v4, rfl, O4, b4⟩
    obtain ⟨a4, c4, rfl⟩ := owns_slice O4
    go_wp2_with fail
    refine hK2.out _ _ ?_ (fun hHeld2 => ?_)
    · exact bel_trans hHeld b4
    clear hK2 K2 hHeld
    have hHeld := hHeld2
    clear hHeld2
    try simp only [Act.put, List.setIfInBounds_toArray, List.set_cons_zero, List.set_cons_succ]
    replace E3 := E3.below b4
    replace XN := XN.below b4
    have hz4 := b4.size
    have hs_w4 : w2.heap.size ≤ w4.heap.size := hHeld.size
    clear b4
    refine wpAnyH_ready (rs := [4]) (by kernel_rfl) (by simp) ?_
    refine AllReadyH.cons (o := { dst := some 28, op := Op.call { callee := Callee.value (Operand.func 6), args := #[Operand.tmp 25, Operand.tmp 27], argTypes := #[35, 38] }, type := 35, pos := "exact.go:3623", after := #[{ on := 1, ground := Ground.data }, { on := 3, ground := Ground.data }, { on := 3, ground := Ground.chain }], guard := none }) rfl (fun K2 hK2 => ?_) AllReadyH.nil
    go_simp
    refine (HS.out p3 a4 c4 _ (E3.cr hs) (owns_row' O4 (by omega))).mono ?_
    rintro e w5 ⟨p5, rfl, E5, l5, b5⟩
    have h5 : ∀ b, QCo g p5 b → b < w5.heap.size := fun b hb => E5.lt hb
    go_wp2_with fail
    refine hK2.out _ _ ?_ (fun hHeld2 => ?_)
    · exact bel_trans hHeld b5
    clear hK2 K2 hHeld
    have hHeld := hHeld2
    clear hHeld2
    try simp only [Act.put, List.setIfInBounds_toArray, List.set_cons_zero, List.set_cons_succ]
    replace E3 := E3.below b5
    replace O4 := owns_below O4 b5
    replace XN := XN.below b5
    have hz5 := b5.size
    have hs_w5 : w2.heap.size ≤ w5.heap.size := hHeld.size
    clear b5
    refine wpAnyH_ready (rs := [6]) (by kernel_rfl) (by simp) ?_
    refine AllReadyH.cons (o := { dst := none, op := Op.store 35 (Operand.tmp 6) (Operand.tmp 28), type := 0, pos := "exact.go:3623", after := #[{ on := 5, ground := Ground.data }, { on := 4, ground := Ground.data }, { on := 4, ground := Ground.chain }, { on := 0, ground := Ground.phase }, { on := 1, ground := Ground.phase }, { on := 2, ground := Ground.phase }, { on := 3, ground := Ground.phase }, { on := 4, ground := Ground.phase }, { on := 5, ground := Ground.phase }], guard := none }) rfl (fun K2 hK2 => ?_) AllReadyH.nil
    obtain ⟨n0, n1, n2, n3, nz⟩ := XN.at4
    have nf0 := XN.frozen 0
    have nf1 := XN.frozen 1
    have nf2 := XN.frozen 2
    have nf3 := XN.frozen 3
    go_simp
    refine hK2.out _ _ ?_ (fun hHeld2 => ?_)
    · exact bel_setCell (bel_setCell (bel_setCell (bel_setCell hHeld _ _ hA) _ _ hA) _ _ hA) _ _ hA
    try simp only [Act.put, List.setIfInBounds_toArray, List.set_cons_zero, List.set_cons_succ]
    refine wpAnyH_done (by kernel_rfl) ?_ _
    refine hK.out _ _ _ _ _ _ _ ?_
    exact AC.set XN hA (fun h => by have h1 := l5 _ h; have h2 := h5 _ h; omega) E5 (fun b hb => by have h1 := l5 b hb; omega) hHeld
end LawFnExactCoreHear
end Go.Proofs.Ytafikmpgmnhgcaa
