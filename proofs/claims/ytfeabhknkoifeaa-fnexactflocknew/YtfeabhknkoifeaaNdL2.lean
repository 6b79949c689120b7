/- What the drawn regions that build a new node do (written by mklit.py). -/
import Derived.Test.YtfeabhknkoifeaaNdN0
namespace Go.Proofs.Ytfeabhknkoifeaa
open Go.RowKit
set_option linter.unusedVariables false

def specLitOps : Array Oper := #[{ dst := some 19, op := Op.move (Operand.tmp 0), type := 3, pos := "l05_node.go:26", after := #[], guard := none }, { dst := some 20, op := Op.makeSlice 47 (Operand.const (Value.int IntKind.i64 6)) (Operand.const (Value.int IntKind.i64 6)), type := 47, pos := "l05_node.go:26", after := #[], guard := none }, { dst := some 21, op := Op.move (Operand.tmp 1), type := 3, pos := "l05_node.go:26", after := #[], guard := none }, { dst := some 22, op := Op.makeSlice 49 (Operand.tmp 21) (Operand.tmp 21), type := 49, pos := "l05_node.go:26", after := #[{ on := 2, ground := Ground.data }, { on := 2, ground := Ground.data }], guard := none }, { dst := some 23, op := Op.move (Operand.tmp 1), type := 3, pos := "l05_node.go:26", after := #[], guard := none }, { dst := some 24, op := Op.makeSlice 50 (Operand.tmp 23) (Operand.tmp 23), type := 50, pos := "l05_node.go:26", after := #[{ on := 4, ground := Ground.data }, { on := 4, ground := Ground.data }], guard := none }, { dst := some 25, op := Op.build 52 #[(0, Operand.tmp 19), (1, Operand.tmp 20), (3, Operand.tmp 22), (4, Operand.tmp 24)], type := 52, pos := "l05_node.go:26", after := #[{ on := 0, ground := Ground.data }, { on := 1, ground := Ground.data }, { on := 3, ground := Ground.data }, { on := 5, ground := Ground.data }], guard := none }, { dst := some 6, op := Op.alloc 52, type := 0, pos := "l05_node.go:26", after := #[], guard := none }, { dst := none, op := Op.store 52 (Operand.tmp 6) (Operand.tmp 25), type := 0, pos := "l05_node.go:26", after := #[{ on := 7, ground := Ground.data }, { on := 6, ground := Ground.data }, { on := 0, ground := Ground.phase }, { on := 1, ground := Ground.phase }, { on := 2, ground := Ground.phase }, { on := 3, ground := Ground.phase }, { on := 4, ground := Ground.phase }, { on := 5, ground := Ground.phase }, { on := 6, ground := Ground.phase }, { on := 7, ground := Ground.phase }], guard := none }]
set_option maxRecDepth 100000 in
set_option maxHeartbeats 8000000 in
theorem specLit (Q : Exit → Act → World → Prop) (hq0 : ∀ (c : _) (a : Act) (k : Tmp) (v : Value) (w : World), Q (.panic c) (a.put (some k) v) w → Q (.panic c) a w) (id : Int) (n : Nat) (h1 : 1 ≤ n) (h4 : n ≤ 4) (u2 u3 u4 u5 u6 u7 u8 u9 u10 u11 u12 u13 u14 u15 u16 u17 u18 u19 u20 u21 u22 u23 u24 u25 u26 u27 u28 u29 u30 u31 u32 u33 u34 u35 u36 u37 : Value) (w : World) (zf zi zo : Array Value) (mk20 : ∀ W : World, (Instr.makeSlice 47 (.int .i64 6) (.int .i64 6)).run Try.prog W = .ok (.slice (some ⟨W.heap.size, 0, none⟩) 6 6) (W.alloc (.cells zf 101))) (hz20 : zf.size = 6 * 3) (mk22 : ∀ W : World, (Instr.makeSlice 49 (.int .i64 (n : Int)) (.int .i64 (n : Int))).run Try.prog W = .ok (.slice (some ⟨W.heap.size, 0, none⟩) n n) (W.alloc (.cells zo 106))) (hz22 : zo.size = n * 2) (mk24 : ∀ W : World, (Instr.makeSlice 50 (.int .i64 (n : Int)) (.int .i64 (n : Int))).run Try.prog W = .ok (.slice (some ⟨W.heap.size, 0, none⟩) n n) (W.alloc (.cells zi 109))) (hz24 : zi.size = n * 1)
    (hQ : ∀ (m g20 g22 g24 : Nat) (wx : World), w.heap.size ≤ m → Box wx m #[.int .i64 id, (Value.slice (some ⟨g20, 0, none⟩) 6 6), .slice none 0 0, (Value.slice (some ⟨g22, 0, none⟩) n n), (Value.slice (some ⟨g24, 0, none⟩) n n)] 52 → wx.ownsRow w.heap.size 101 3 (Value.slice (some ⟨g20, 0, none⟩) 6 6) 6 zf.toList → wx.ownsRow w.heap.size 106 2 (Value.slice (some ⟨g22, 0, none⟩) n n) n zo.toList → wx.ownsRow w.heap.size 109 1 (Value.slice (some ⟨g24, 0, none⟩) n n) n zi.toList → Below w.heap.size w wx → Q .normal ⟨#[(Value.int .i64 id), (Value.int .i64 n), u2, u3, u4, u5, (Value.pointer (some ⟨m, 0, none⟩)), u7, u8, u9, u10, u11, u12, u13, u14, u15, u16, u17, u18, (Value.int .i64 id), (Value.slice (some ⟨g20, 0, none⟩) 6 6), (Value.int .i64 n), (Value.slice (some ⟨g22, 0, none⟩) n n), (Value.int .i64 n), (Value.slice (some ⟨g24, 0, none⟩) n n), (Value.agg #[.int .i64 id, (Value.slice (some ⟨g20, 0, none⟩) 6 6), .slice none 0 0, (Value.slice (some ⟨g22, 0, none⟩) n n), (Value.slice (some ⟨g24, 0, none⟩) n n)]), u26, u27, u28, u29, u30, u31, u32, u33, u34, u35, u36, u37], []⟩ wx) :
    (Code.region 3 specLitOps true).wp Try.prog Q ⟨#[(Value.int .i64 id), (Value.int .i64 n), u2, u3, u4, u5, u6, u7, u8, u9, u10, u11, u12, u13, u14, u15, u16, u17, u18, u19, u20, u21, u22, u23, u24, u25, u26, u27, u28, u29, u30, u31, u32, u33, u34, u35, u36, u37], []⟩ w := by
  have HQ : Hid _ := hQ
  have HP : Hid _ := hq0
  clear hQ hq0
  have s_1111 : Hid (∀ (g20 g22 g24 m : Nat) (wx : World) (o20 : wx.ownsRow w.heap.size 101 3 (Value.slice (some ⟨g20, 0, none⟩) 6 6) 6 zf.toList) (o22 : wx.ownsRow w.heap.size 106 2 (Value.slice (some ⟨g22, 0, none⟩) n n) n zo.toList) (o24 : wx.ownsRow w.heap.size 109 1 (Value.slice (some ⟨g24, 0, none⟩) n n) n zi.toList) (hm : w.heap.size ≤ m) (X : Box wx m #[.int .i64 0, .slice none 0 0, .slice none 0 0, .slice none 0 0, .slice none 0 0] 52) (B : Below w.heap.size w wx), wpAnyH Try.prog .any specLitOps Q (fun _ => True) 2 #[true, true, true, true, true, true, false, true, false] ⟨#[(Value.int .i64 id), (Value.int .i64 n), u2, u3, u4, u5, (Value.pointer (some ⟨m, 0, none⟩)), u7, u8, u9, u10, u11, u12, u13, u14, u15, u16, u17, u18, (Value.int .i64 id), (Value.slice (some ⟨g20, 0, none⟩) 6 6), (Value.int .i64 n), (Value.slice (some ⟨g22, 0, none⟩) n n), (Value.int .i64 n), (Value.slice (some ⟨g24, 0, none⟩) n n), u25, u26, u27, u28, u29, u30, u31, u32, u33, u34, u35, u36, u37], []⟩ wx) := by
    intro g20 g22 g24 m wx o20 o22 o24 hm X B
    refine wpAnyH_take (i := 6) (oi := { dst := some 25, op := Op.build 52 #[(0, Operand.tmp 19), (1, Operand.tmp 20), (3, Operand.tmp 22), (4, Operand.tmp 24)], type := 52, pos := "l05_node.go:26", after := #[{ on := 0, ground := Ground.data }, { on := 1, ground := Ground.data }, { on := 3, ground := Ground.data }, { on := 5, ground := Ground.data }], guard := none }) (v := .agg #[.int .i64 id, (Value.slice (some ⟨g20, 0, none⟩) 6 6), .slice none 0 0, (Value.slice (some ⟨g22, 0, none⟩) n n), (Value.slice (some ⟨g24, 0, none⟩) n n)]) rfl (by kernel_rfl) (by kernel_rfl) (by kernel_rfl) (fun _ _ _ h => HP.out _ _ _ _ _ h) (Or.inl ⟨by rfl, ?_⟩) True.intro ?_
    · intro w hSw
      go_simp
      try (with_reducible rfl)
    simp only [Act.put, List.setIfInBounds_toArray, List.set_cons_zero, List.set_cons_succ]
    have zx := X.lt
    have c0 := X.cell 0
    have f0 := X.frozen 0
    have c1 := X.cell 1
    have f1 := X.frozen 1
    have c2 := X.cell 2
    have f2 := X.frozen 2
    have c3 := X.cell 3
    have f3 := X.frozen 3
    have c4 := X.cell 4
    have f4 := X.frozen 4
    refine wpAnyH_ready (rs := [8]) (by kernel_rfl) (by simp) ?_
    refine AllReadyH.cons (o := { dst := none, op := Op.store 52 (Operand.tmp 6) (Operand.tmp 25), type := 0, pos := "l05_node.go:26", after := #[{ on := 7, ground := Ground.data }, { on := 6, ground := Ground.data }, { on := 0, ground := Ground.phase }, { on := 1, ground := Ground.phase }, { on := 2, ground := Ground.phase }, { on := 3, ground := Ground.phase }, { on := 4, ground := Ground.phase }, { on := 5, ground := Ground.phase }, { on := 6, ground := Ground.phase }, { on := 7, ground := Ground.phase }], guard := none }) rfl (fun K2 hK2 => ?_) AllReadyH.nil
    go_simp
    refine hK2.out _ _ True.intro (fun _ => ?_)
    try simp only [List.setIfInBounds_toArray, List.set_cons_zero, List.set_cons_succ]
    refine wpAnyH_done (by kernel_rfl) ?_ _
    refine HQ.out m g20 g22 g24 _ hm ?_ ?_ ?_ ?_ ?_
    · exact lit_box5 X
    · have ne : ∀ j, (Value.slice (some ⟨g20, 0, none⟩) 6 6).ownBlock = some j → m ≠ j := fun j hj e => lit_ne X o20 (by decide) (by rw [hj, e])
      exact lit_own5 o20 ne
    · have ne : ∀ j, (Value.slice (some ⟨g22, 0, none⟩) n n).ownBlock = some j → m ≠ j := fun j hj e => lit_ne X o22 (by decide) (by rw [hj, e])
      exact lit_own5 o22 ne
    · have ne : ∀ j, (Value.slice (some ⟨g24, 0, none⟩) n n).ownBlock = some j → m ≠ j := fun j hj e => lit_ne X o24 (by decide) (by rw [hj, e])
      exact lit_own5 o24 ne
    · exact lit_bel5 B hm
  have s_1110 : Hid (∀ (g20 g22 g24 : Nat) (wx : World) (o20 : wx.ownsRow w.heap.size 101 3 (Value.slice (some ⟨g20, 0, none⟩) 6 6) 6 zf.toList) (o22 : wx.ownsRow w.heap.size 106 2 (Value.slice (some ⟨g22, 0, none⟩) n n) n zo.toList) (o24 : wx.ownsRow w.heap.size 109 1 (Value.slice (some ⟨g24, 0, none⟩) n n) n zi.toList) (B : Below w.heap.size w wx), wpAnyH Try.prog .any specLitOps Q (fun _ => True) 3 #[true, true, true, true, true, true, false, false, false] ⟨#[(Value.int .i64 id), (Value.int .i64 n), u2, u3, u4, u5, u6, u7, u8, u9, u10, u11, u12, u13, u14, u15, u16, u17, u18, (Value.int .i64 id), (Value.slice (some ⟨g20, 0, none⟩) 6 6), (Value.int .i64 n), (Value.slice (some ⟨g22, 0, none⟩) n n), (Value.int .i64 n), (Value.slice (some ⟨g24, 0, none⟩) n n), u25, u26, u27, u28, u29, u30, u31, u32, u33, u34, u35, u36, u37], []⟩ wx) := by
    intro g20 g22 g24 wx o20 o22 o24 B
    refine wpAnyH_take (i := 6) (oi := { dst := some 25, op := Op.build 52 #[(0, Operand.tmp 19), (1, Operand.tmp 20), (3, Operand.tmp 22), (4, Operand.tmp 24)], type := 52, pos := "l05_node.go:26", after := #[{ on := 0, ground := Ground.data }, { on := 1, ground := Ground.data }, { on := 3, ground := Ground.data }, { on := 5, ground := Ground.data }], guard := none }) (v := .agg #[.int .i64 id, (Value.slice (some ⟨g20, 0, none⟩) 6 6), .slice none 0 0, (Value.slice (some ⟨g22, 0, none⟩) n n), (Value.slice (some ⟨g24, 0, none⟩) n n)]) rfl (by kernel_rfl) (by kernel_rfl) (by kernel_rfl) (fun _ _ _ h => HP.out _ _ _ _ _ h) (Or.inl ⟨by rfl, ?_⟩) True.intro ?_
    · intro w hSw
      go_simp
      try (with_reducible rfl)
    simp only [Act.put, List.setIfInBounds_toArray, List.set_cons_zero, List.set_cons_succ]
    refine wpAnyH_ready (rs := [7]) (by kernel_rfl) (by simp) ?_
    refine AllReadyH.cons (o := { dst := some 6, op := Op.alloc 52, type := 0, pos := "l05_node.go:26", after := #[], guard := none }) rfl (fun K2 hK2 => ?_) AllReadyH.nil
    go_simp
    have bx := bel_alloc (Below.refl wx.heap.size wx) (.cells #[.int .i64 0, .slice none 0 0, .slice none 0 0, .slice none 0 0, .slice none 0 0] 52)
    have X := Box.new wx #[.int .i64 0, .slice none 0 0, .slice none 0 0, .slice none 0 0, .slice none 0 0] 52
    obtain ⟨wy, hy⟩ : ∃ wy, wx.alloc (.cells #[.int .i64 0, .slice none 0 0, .slice none 0 0, .slice none 0 0, .slice none 0 0] 52) = wy := ⟨_, rfl⟩
    refine hK2.out _ _ True.intro (fun _ => ?_)
    try simp only [List.setIfInBounds_toArray, List.set_cons_zero, List.set_cons_succ]
    obtain ⟨m, em⟩ : ∃ m, wx.heap.size = m := ⟨_, rfl⟩
    have hm : w.heap.size ≤ m := by rw [← em]; exact B.size
    rw [hy] at bx X ⊢
    rw [em] at X ⊢
    replace o20 := owns_below o20 bx
    replace o22 := owns_below o22 bx
    replace o24 := owns_below o24 bx
    replace B := bel_trans B bx
    clear bx hy em hK2 K2
    have zx := X.lt
    have c0 := X.cell 0
    have f0 := X.frozen 0
    have c1 := X.cell 1
    have f1 := X.frozen 1
    have c2 := X.cell 2
    have f2 := X.frozen 2
    have c3 := X.cell 3
    have f3 := X.frozen 3
    have c4 := X.cell 4
    have f4 := X.frozen 4
    refine wpAnyH_ready (rs := [8]) (by kernel_rfl) (by simp) ?_
    refine AllReadyH.cons (o := { dst := none, op := Op.store 52 (Operand.tmp 6) (Operand.tmp 25), type := 0, pos := "l05_node.go:26", after := #[{ on := 7, ground := Ground.data }, { on := 6, ground := Ground.data }, { on := 0, ground := Ground.phase }, { on := 1, ground := Ground.phase }, { on := 2, ground := Ground.phase }, { on := 3, ground := Ground.phase }, { on := 4, ground := Ground.phase }, { on := 5, ground := Ground.phase }, { on := 6, ground := Ground.phase }, { on := 7, ground := Ground.phase }], guard := none }) rfl (fun K2 hK2 => ?_) AllReadyH.nil
    go_simp
    refine hK2.out _ _ True.intro (fun _ => ?_)
    try simp only [List.setIfInBounds_toArray, List.set_cons_zero, List.set_cons_succ]
    refine wpAnyH_done (by kernel_rfl) ?_ _
    refine HQ.out m g20 g22 g24 _ hm ?_ ?_ ?_ ?_ ?_
    · exact lit_box5 X
    · have ne : ∀ j, (Value.slice (some ⟨g20, 0, none⟩) 6 6).ownBlock = some j → m ≠ j := fun j hj e => lit_ne X o20 (by decide) (by rw [hj, e])
      exact lit_own5 o20 ne
    · have ne : ∀ j, (Value.slice (some ⟨g22, 0, none⟩) n n).ownBlock = some j → m ≠ j := fun j hj e => lit_ne X o22 (by decide) (by rw [hj, e])
      exact lit_own5 o22 ne
    · have ne : ∀ j, (Value.slice (some ⟨g24, 0, none⟩) n n).ownBlock = some j → m ≠ j := fun j hj e => lit_ne X o24 (by decide) (by rw [hj, e])
      exact lit_own5 o24 ne
    · exact lit_bel5 B hm
  have s_1101 : Hid (∀ (g20 g22 m : Nat) (wx : World) (o20 : wx.ownsRow w.heap.size 101 3 (Value.slice (some ⟨g20, 0, none⟩) 6 6) 6 zf.toList) (o22 : wx.ownsRow w.heap.size 106 2 (Value.slice (some ⟨g22, 0, none⟩) n n) n zo.toList) (hm : w.heap.size ≤ m) (X : Box wx m #[.int .i64 0, .slice none 0 0, .slice none 0 0, .slice none 0 0, .slice none 0 0] 52) (B : Below w.heap.size w wx), wpAnyH Try.prog .any specLitOps Q (fun _ => True) 3 #[true, true, true, true, true, false, false, true, false] ⟨#[(Value.int .i64 id), (Value.int .i64 n), u2, u3, u4, u5, (Value.pointer (some ⟨m, 0, none⟩)), u7, u8, u9, u10, u11, u12, u13, u14, u15, u16, u17, u18, (Value.int .i64 id), (Value.slice (some ⟨g20, 0, none⟩) 6 6), (Value.int .i64 n), (Value.slice (some ⟨g22, 0, none⟩) n n), (Value.int .i64 n), u24, u25, u26, u27, u28, u29, u30, u31, u32, u33, u34, u35, u36, u37], []⟩ wx) := by
    intro g20 g22 m wx o20 o22 hm X B
    refine wpAnyH_ready (rs := [5]) (by kernel_rfl) (by simp) ?_
    refine AllReadyH.cons (o := { dst := some 24, op := Op.makeSlice 50 (Operand.tmp 23) (Operand.tmp 23), type := 50, pos := "l05_node.go:26", after := #[{ on := 4, ground := Ground.data }, { on := 4, ground := Ground.data }], guard := none }) rfl (fun K2 hK2 => ?r5) AllReadyH.nil
    case r5 =>
      go_simp
      have bx := bel_alloc (Below.refl wx.heap.size wx) (.cells zi 109)
      refine hK2.out _ _ True.intro (fun _ => ?_)
      try simp only [List.setIfInBounds_toArray, List.set_cons_zero, List.set_cons_succ]
      exact s_1111.out g20 g22 _ m _ (owns_below o20 bx) (owns_below o22 bx) (own_last rfl hz24 B.size (by unfold maxLen; omega)) hm (X.below bx) (bel_trans B bx)
  have s_1011 : Hid (∀ (g20 g24 m : Nat) (wx : World) (o20 : wx.ownsRow w.heap.size 101 3 (Value.slice (some ⟨g20, 0, none⟩) 6 6) 6 zf.toList) (o24 : wx.ownsRow w.heap.size 109 1 (Value.slice (some ⟨g24, 0, none⟩) n n) n zi.toList) (hm : w.heap.size ≤ m) (X : Box wx m #[.int .i64 0, .slice none 0 0, .slice none 0 0, .slice none 0 0, .slice none 0 0] 52) (B : Below w.heap.size w wx), wpAnyH Try.prog .any specLitOps Q (fun _ => True) 3 #[true, true, true, false, true, true, false, true, false] ⟨#[(Value.int .i64 id), (Value.int .i64 n), u2, u3, u4, u5, (Value.pointer (some ⟨m, 0, none⟩)), u7, u8, u9, u10, u11, u12, u13, u14, u15, u16, u17, u18, (Value.int .i64 id), (Value.slice (some ⟨g20, 0, none⟩) 6 6), (Value.int .i64 n), u22, (Value.int .i64 n), (Value.slice (some ⟨g24, 0, none⟩) n n), u25, u26, u27, u28, u29, u30, u31, u32, u33, u34, u35, u36, u37], []⟩ wx) := by
    intro g20 g24 m wx o20 o24 hm X B
    refine wpAnyH_ready (rs := [3]) (by kernel_rfl) (by simp) ?_
    refine AllReadyH.cons (o := { dst := some 22, op := Op.makeSlice 49 (Operand.tmp 21) (Operand.tmp 21), type := 49, pos := "l05_node.go:26", after := #[{ on := 2, ground := Ground.data }, { on := 2, ground := Ground.data }], guard := none }) rfl (fun K2 hK2 => ?r3) AllReadyH.nil
    case r3 =>
      go_simp
      have bx := bel_alloc (Below.refl wx.heap.size wx) (.cells zo 106)
      refine hK2.out _ _ True.intro (fun _ => ?_)
      try simp only [List.setIfInBounds_toArray, List.set_cons_zero, List.set_cons_succ]
      exact s_1111.out g20 _ g24 m _ (owns_below o20 bx) (own_last rfl hz22 B.size (by unfold maxLen; omega)) (owns_below o24 bx) hm (X.below bx) (bel_trans B bx)
  have s_0111 : Hid (∀ (g22 g24 m : Nat) (wx : World) (o22 : wx.ownsRow w.heap.size 106 2 (Value.slice (some ⟨g22, 0, none⟩) n n) n zo.toList) (o24 : wx.ownsRow w.heap.size 109 1 (Value.slice (some ⟨g24, 0, none⟩) n n) n zi.toList) (hm : w.heap.size ≤ m) (X : Box wx m #[.int .i64 0, .slice none 0 0, .slice none 0 0, .slice none 0 0, .slice none 0 0] 52) (B : Below w.heap.size w wx), wpAnyH Try.prog .any specLitOps Q (fun _ => True) 3 #[true, false, true, true, true, true, false, true, false] ⟨#[(Value.int .i64 id), (Value.int .i64 n), u2, u3, u4, u5, (Value.pointer (some ⟨m, 0, none⟩)), u7, u8, u9, u10, u11, u12, u13, u14, u15, u16, u17, u18, (Value.int .i64 id), u20, (Value.int .i64 n), (Value.slice (some ⟨g22, 0, none⟩) n n), (Value.int .i64 n), (Value.slice (some ⟨g24, 0, none⟩) n n), u25, u26, u27, u28, u29, u30, u31, u32, u33, u34, u35, u36, u37], []⟩ wx) := by
    intro g22 g24 m wx o22 o24 hm X B
    refine wpAnyH_ready (rs := [1]) (by kernel_rfl) (by simp) ?_
    refine AllReadyH.cons (o := { dst := some 20, op := Op.makeSlice 47 (Operand.const (Value.int IntKind.i64 6)) (Operand.const (Value.int IntKind.i64 6)), type := 47, pos := "l05_node.go:26", after := #[], guard := none }) rfl (fun K2 hK2 => ?r1) AllReadyH.nil
    case r1 =>
      go_simp
      have bx := bel_alloc (Below.refl wx.heap.size wx) (.cells zf 101)
      refine hK2.out _ _ True.intro (fun _ => ?_)
      try simp only [List.setIfInBounds_toArray, List.set_cons_zero, List.set_cons_succ]
      exact s_1111.out _ g22 g24 m _ (own_last rfl hz20 B.size (by unfold maxLen; omega)) (owns_below o22 bx) (owns_below o24 bx) hm (X.below bx) (bel_trans B bx)
  have s_1100 : Hid (∀ (g20 g22 : Nat) (wx : World) (o20 : wx.ownsRow w.heap.size 101 3 (Value.slice (some ⟨g20, 0, none⟩) 6 6) 6 zf.toList) (o22 : wx.ownsRow w.heap.size 106 2 (Value.slice (some ⟨g22, 0, none⟩) n n) n zo.toList) (B : Below w.heap.size w wx), wpAnyH Try.prog .any specLitOps Q (fun _ => True) 4 #[true, true, true, true, true, false, false, false, false] ⟨#[(Value.int .i64 id), (Value.int .i64 n), u2, u3, u4, u5, u6, u7, u8, u9, u10, u11, u12, u13, u14, u15, u16, u17, u18, (Value.int .i64 id), (Value.slice (some ⟨g20, 0, none⟩) 6 6), (Value.int .i64 n), (Value.slice (some ⟨g22, 0, none⟩) n n), (Value.int .i64 n), u24, u25, u26, u27, u28, u29, u30, u31, u32, u33, u34, u35, u36, u37], []⟩ wx) := by
    intro g20 g22 wx o20 o22 B
    refine wpAnyH_ready (rs := [5, 7]) (by kernel_rfl) (by simp) ?_
    refine AllReadyH.cons (o := { dst := some 24, op := Op.makeSlice 50 (Operand.tmp 23) (Operand.tmp 23), type := 50, pos := "l05_node.go:26", after := #[{ on := 4, ground := Ground.data }, { on := 4, ground := Ground.data }], guard := none }) rfl (fun K2 hK2 => ?r5) (AllReadyH.cons (o := { dst := some 6, op := Op.alloc 52, type := 0, pos := "l05_node.go:26", after := #[], guard := none }) rfl (fun K2 hK2 => ?r7) AllReadyH.nil)
    case r5 =>
      go_simp
      have bx := bel_alloc (Below.refl wx.heap.size wx) (.cells zi 109)
      refine hK2.out _ _ True.intro (fun _ => ?_)
      try simp only [List.setIfInBounds_toArray, List.set_cons_zero, List.set_cons_succ]
      exact s_1110.out g20 g22 _ _ (owns_below o20 bx) (owns_below o22 bx) (own_last rfl hz24 B.size (by unfold maxLen; omega)) (bel_trans B bx)
    case r7 =>
      go_simp
      have bx := bel_alloc (Below.refl wx.heap.size wx) (.cells #[.int .i64 0, .slice none 0 0, .slice none 0 0, .slice none 0 0, .slice none 0 0] 52)
      refine hK2.out _ _ True.intro (fun _ => ?_)
      try simp only [List.setIfInBounds_toArray, List.set_cons_zero, List.set_cons_succ]
      exact s_1101.out g20 g22 _ _ (owns_below o20 bx) (owns_below o22 bx) B.size (Box.new wx #[.int .i64 0, .slice none 0 0, .slice none 0 0, .slice none 0 0, .slice none 0 0] 52) (bel_trans B bx)
  have s_1010 : Hid (∀ (g20 g24 : Nat) (wx : World) (o20 : wx.ownsRow w.heap.size 101 3 (Value.slice (some ⟨g20, 0, none⟩) 6 6) 6 zf.toList) (o24 : wx.ownsRow w.heap.size 109 1 (Value.slice (some ⟨g24, 0, none⟩) n n) n zi.toList) (B : Below w.heap.size w wx), wpAnyH Try.prog .any specLitOps Q (fun _ => True) 4 #[true, true, true, false, true, true, false, false, false] ⟨#[(Value.int .i64 id), (Value.int .i64 n), u2, u3, u4, u5, u6, u7, u8, u9, u10, u11, u12, u13, u14, u15, u16, u17, u18, (Value.int .i64 id), (Value.slice (some ⟨g20, 0, none⟩) 6 6), (Value.int .i64 n), u22, (Value.int .i64 n), (Value.slice (some ⟨g24, 0, none⟩) n n), u25, u26, u27, u28, u29, u30, u31, u32, u33, u34, u35, u36, u37], []⟩ wx) := by
    intro g20 g24 wx o20 o24 B
    refine wpAnyH_ready (rs := [3, 7]) (by kernel_rfl) (by simp) ?_
    refine AllReadyH.cons (o := { dst := some 22, op := Op.makeSlice 49 (Operand.tmp 21) (Operand.tmp 21), type := 49, pos := "l05_node.go:26", after := #[{ on := 2, ground := Ground.data }, { on := 2, ground := Ground.data }], guard := none }) rfl (fun K2 hK2 => ?r3) (AllReadyH.cons (o := { dst := some 6, op := Op.alloc 52, type := 0, pos := "l05_node.go:26", after := #[], guard := none }) rfl (fun K2 hK2 => ?r7) AllReadyH.nil)
    case r3 =>
      go_simp
      have bx := bel_alloc (Below.refl wx.heap.size wx) (.cells zo 106)
      refine hK2.out _ _ True.intro (fun _ => ?_)
      try simp only [List.setIfInBounds_toArray, List.set_cons_zero, List.set_cons_succ]
      exact s_1110.out g20 _ g24 _ (owns_below o20 bx) (own_last rfl hz22 B.size (by unfold maxLen; omega)) (owns_below o24 bx) (bel_trans B bx)
    case r7 =>
      go_simp
      have bx := bel_alloc (Below.refl wx.heap.size wx) (.cells #[.int .i64 0, .slice none 0 0, .slice none 0 0, .slice none 0 0, .slice none 0 0] 52)
      refine hK2.out _ _ True.intro (fun _ => ?_)
      try simp only [List.setIfInBounds_toArray, List.set_cons_zero, List.set_cons_succ]
      exact s_1011.out g20 g24 _ _ (owns_below o20 bx) (owns_below o24 bx) B.size (Box.new wx #[.int .i64 0, .slice none 0 0, .slice none 0 0, .slice none 0 0, .slice none 0 0] 52) (bel_trans B bx)
  have s_1001 : Hid (∀ (g20 m : Nat) (wx : World) (o20 : wx.ownsRow w.heap.size 101 3 (Value.slice (some ⟨g20, 0, none⟩) 6 6) 6 zf.toList) (hm : w.heap.size ≤ m) (X : Box wx m #[.int .i64 0, .slice none 0 0, .slice none 0 0, .slice none 0 0, .slice none 0 0] 52) (B : Below w.heap.size w wx), wpAnyH Try.prog .any specLitOps Q (fun _ => True) 4 #[true, true, true, false, true, false, false, true, false] ⟨#[(Value.int .i64 id), (Value.int .i64 n), u2, u3, u4, u5, (Value.pointer (some ⟨m, 0, none⟩)), u7, u8, u9, u10, u11, u12, u13, u14, u15, u16, u17, u18, (Value.int .i64 id), (Value.slice (some ⟨g20, 0, none⟩) 6 6), (Value.int .i64 n), u22, (Value.int .i64 n), u24, u25, u26, u27, u28, u29, u30, u31, u32, u33, u34, u35, u36, u37], []⟩ wx) := by
    intro g20 m wx o20 hm X B
    refine wpAnyH_ready (rs := [3, 5]) (by kernel_rfl) (by simp) ?_
    refine AllReadyH.cons (o := { dst := some 22, op := Op.makeSlice 49 (Operand.tmp 21) (Operand.tmp 21), type := 49, pos := "l05_node.go:26", after := #[{ on := 2, ground := Ground.data }, { on := 2, ground := Ground.data }], guard := none }) rfl (fun K2 hK2 => ?r3) (AllReadyH.cons (o := { dst := some 24, op := Op.makeSlice 50 (Operand.tmp 23) (Operand.tmp 23), type := 50, pos := "l05_node.go:26", after := #[{ on := 4, ground := Ground.data }, { on := 4, ground := Ground.data }], guard := none }) rfl (fun K2 hK2 => ?r5) AllReadyH.nil)
    case r3 =>
      go_simp
      have bx := bel_alloc (Below.refl wx.heap.size wx) (.cells zo 106)
      refine hK2.out _ _ True.intro (fun _ => ?_)
      try simp only [List.setIfInBounds_toArray, List.set_cons_zero, List.set_cons_succ]
      exact s_1101.out g20 _ m _ (owns_below o20 bx) (own_last rfl hz22 B.size (by unfold maxLen; omega)) hm (X.below bx) (bel_trans B bx)
    case r5 =>
      go_simp
      have bx := bel_alloc (Below.refl wx.heap.size wx) (.cells zi 109)
      refine hK2.out _ _ True.intro (fun _ => ?_)
      try simp only [List.setIfInBounds_toArray, List.set_cons_zero, List.set_cons_succ]
      exact s_1011.out g20 _ m _ (owns_below o20 bx) (own_last rfl hz24 B.size (by unfold maxLen; omega)) hm (X.below bx) (bel_trans B bx)
  have s_0110 : Hid (∀ (g22 g24 : Nat) (wx : World) (o22 : wx.ownsRow w.heap.size 106 2 (Value.slice (some ⟨g22, 0, none⟩) n n) n zo.toList) (o24 : wx.ownsRow w.heap.size 109 1 (Value.slice (some ⟨g24, 0, none⟩) n n) n zi.toList) (B : Below w.heap.size w wx), wpAnyH Try.prog .any specLitOps Q (fun _ => True) 4 #[true, false, true, true, true, true, false, false, false] ⟨#[(Value.int .i64 id), (Value.int .i64 n), u2, u3, u4, u5, u6, u7, u8, u9, u10, u11, u12, u13, u14, u15, u16, u17, u18, (Value.int .i64 id), u20, (Value.int .i64 n), (Value.slice (some ⟨g22, 0, none⟩) n n), (Value.int .i64 n), (Value.slice (some ⟨g24, 0, none⟩) n n), u25, u26, u27, u28, u29, u30, u31, u32, u33, u34, u35, u36, u37], []⟩ wx) := by
    intro g22 g24 wx o22 o24 B
    refine wpAnyH_ready (rs := [1, 7]) (by kernel_rfl) (by simp) ?_
    refine AllReadyH.cons (o := { dst := some 20, op := Op.makeSlice 47 (Operand.const (Value.int IntKind.i64 6)) (Operand.const (Value.int IntKind.i64 6)), type := 47, pos := "l05_node.go:26", after := #[], guard := none }) rfl (fun K2 hK2 => ?r1) (AllReadyH.cons (o := { dst := some 6, op := Op.alloc 52, type := 0, pos := "l05_node.go:26", after := #[], guard := none }) rfl (fun K2 hK2 => ?r7) AllReadyH.nil)
    case r1 =>
      go_simp
      have bx := bel_alloc (Below.refl wx.heap.size wx) (.cells zf 101)
      refine hK2.out _ _ True.intro (fun _ => ?_)
      try simp only [List.setIfInBounds_toArray, List.set_cons_zero, List.set_cons_succ]
      exact s_1110.out _ g22 g24 _ (own_last rfl hz20 B.size (by unfold maxLen; omega)) (owns_below o22 bx) (owns_below o24 bx) (bel_trans B bx)
    case r7 =>
      go_simp
      have bx := bel_alloc (Below.refl wx.heap.size wx) (.cells #[.int .i64 0, .slice none 0 0, .slice none 0 0, .slice none 0 0, .slice none 0 0] 52)
      refine hK2.out _ _ True.intro (fun _ => ?_)
      try simp only [List.setIfInBounds_toArray, List.set_cons_zero, List.set_cons_succ]
      exact s_0111.out g22 g24 _ _ (owns_below o22 bx) (owns_below o24 bx) B.size (Box.new wx #[.int .i64 0, .slice none 0 0, .slice none 0 0, .slice none 0 0, .slice none 0 0] 52) (bel_trans B bx)
  have s_0101 : Hid (∀ (g22 m : Nat) (wx : World) (o22 : wx.ownsRow w.heap.size 106 2 (Value.slice (some ⟨g22, 0, none⟩) n n) n zo.toList) (hm : w.heap.size ≤ m) (X : Box wx m #[.int .i64 0, .slice none 0 0, .slice none 0 0, .slice none 0 0, .slice none 0 0] 52) (B : Below w.heap.size w wx), wpAnyH Try.prog .any specLitOps Q (fun _ => True) 4 #[true, false, true, true, true, false, false, true, false] ⟨#[(Value.int .i64 id), (Value.int .i64 n), u2, u3, u4, u5, (Value.pointer (some ⟨m, 0, none⟩)), u7, u8, u9, u10, u11, u12, u13, u14, u15, u16, u17, u18, (Value.int .i64 id), u20, (Value.int .i64 n), (Value.slice (some ⟨g22, 0, none⟩) n n), (Value.int .i64 n), u24, u25, u26, u27, u28, u29, u30, u31, u32, u33, u34, u35, u36, u37], []⟩ wx) := by
    intro g22 m wx o22 hm X B
    refine wpAnyH_ready (rs := [1, 5]) (by kernel_rfl) (by simp) ?_
    refine AllReadyH.cons (o := { dst := some 20, op := Op.makeSlice 47 (Operand.const (Value.int IntKind.i64 6)) (Operand.const (Value.int IntKind.i64 6)), type := 47, pos := "l05_node.go:26", after := #[], guard := none }) rfl (fun K2 hK2 => ?r1) (AllReadyH.cons (o := { dst := some 24, op := Op.makeSlice 50 (Operand.tmp 23) (Operand.tmp 23), type := 50, pos := "l05_node.go:26", after := #[{ on := 4, ground := Ground.data }, { on := 4, ground := Ground.data }], guard := none }) rfl (fun K2 hK2 => ?r5) AllReadyH.nil)
    case r1 =>
      go_simp
      have bx := bel_alloc (Below.refl wx.heap.size wx) (.cells zf 101)
      refine hK2.out _ _ True.intro (fun _ => ?_)
      try simp only [List.setIfInBounds_toArray, List.set_cons_zero, List.set_cons_succ]
      exact s_1101.out _ g22 m _ (own_last rfl hz20 B.size (by unfold maxLen; omega)) (owns_below o22 bx) hm (X.below bx) (bel_trans B bx)
    case r5 =>
      go_simp
      have bx := bel_alloc (Below.refl wx.heap.size wx) (.cells zi 109)
      refine hK2.out _ _ True.intro (fun _ => ?_)
      try simp only [List.setIfInBounds_toArray, List.set_cons_zero, List.set_cons_succ]
      exact s_0111.out g22 _ m _ (owns_below o22 bx) (own_last rfl hz24 B.size (by unfold maxLen; omega)) hm (X.below bx) (bel_trans B bx)
  have s_0011 : Hid (∀ (g24 m : Nat) (wx : World) (o24 : wx.ownsRow w.heap.size 109 1 (Value.slice (some ⟨g24, 0, none⟩) n n) n zi.toList) (hm : w.heap.size ≤ m) (X : Box wx m #[.int .i64 0, .slice none 0 0, .slice none 0 0, .slice none 0 0, .slice none 0 0] 52) (B : Below w.heap.size w wx), wpAnyH Try.prog .any specLitOps Q (fun _ => True) 4 #[true, false, true, false, true, true, false, true, false] ⟨#[(Value.int .i64 id), (Value.int .i64 n), u2, u3, u4, u5, (Value.pointer (some ⟨m, 0, none⟩)), u7, u8, u9, u10, u11, u12, u13, u14, u15, u16, u17, u18, (Value.int .i64 id), u20, (Value.int .i64 n), u22, (Value.int .i64 n), (Value.slice (some ⟨g24, 0, none⟩) n n), u25, u26, u27, u28, u29, u30, u31, u32, u33, u34, u35, u36, u37], []⟩ wx) := by
    intro g24 m wx o24 hm X B
    refine wpAnyH_ready (rs := [1, 3]) (by kernel_rfl) (by simp) ?_
    refine AllReadyH.cons (o := { dst := some 20, op := Op.makeSlice 47 (Operand.const (Value.int IntKind.i64 6)) (Operand.const (Value.int IntKind.i64 6)), type := 47, pos := "l05_node.go:26", after := #[], guard := none }) rfl (fun K2 hK2 => ?r1) (AllReadyH.cons (o := { dst := some 22, op := Op.makeSlice 49 (Operand.tmp 21) (Operand.tmp 21), type := 49, pos := "l05_node.go:26", after := #[{ on := 2, ground := Ground.data }, { on := 2, ground := Ground.data }], guard := none }) rfl (fun K2 hK2 => ?r3) AllReadyH.nil)
    case r1 =>
      go_simp
      have bx := bel_alloc (Below.refl wx.heap.size wx) (.cells zf 101)
      refine hK2.out _ _ True.intro (fun _ => ?_)
      try simp only [List.setIfInBounds_toArray, List.set_cons_zero, List.set_cons_succ]
      exact s_1011.out _ g24 m _ (own_last rfl hz20 B.size (by unfold maxLen; omega)) (owns_below o24 bx) hm (X.below bx) (bel_trans B bx)
    case r3 =>
      go_simp
      have bx := bel_alloc (Below.refl wx.heap.size wx) (.cells zo 106)
      refine hK2.out _ _ True.intro (fun _ => ?_)
      try simp only [List.setIfInBounds_toArray, List.set_cons_zero, List.set_cons_succ]
      exact s_0111.out _ g24 m _ (own_last rfl hz22 B.size (by unfold maxLen; omega)) (owns_below o24 bx) hm (X.below bx) (bel_trans B bx)
  have s_1000 : Hid (∀ (g20 : Nat) (wx : World) (o20 : wx.ownsRow w.heap.size 101 3 (Value.slice (some ⟨g20, 0, none⟩) 6 6) 6 zf.toList) (B : Below w.heap.size w wx), wpAnyH Try.prog .any specLitOps Q (fun _ => True) 5 #[true, true, true, false, true, false, false, false, false] ⟨#[(Value.int .i64 id), (Value.int .i64 n), u2, u3, u4, u5, u6, u7, u8, u9, u10, u11, u12, u13, u14, u15, u16, u17, u18, (Value.int .i64 id), (Value.slice (some ⟨g20, 0, none⟩) 6 6), (Value.int .i64 n), u22, (Value.int .i64 n), u24, u25, u26, u27, u28, u29, u30, u31, u32, u33, u34, u35, u36, u37], []⟩ wx) := by
    intro g20 wx o20 B
    refine wpAnyH_ready (rs := [3, 5, 7]) (by kernel_rfl) (by simp) ?_
    refine AllReadyH.cons (o := { dst := some 22, op := Op.makeSlice 49 (Operand.tmp 21) (Operand.tmp 21), type := 49, pos := "l05_node.go:26", after := #[{ on := 2, ground := Ground.data }, { on := 2, ground := Ground.data }], guard := none }) rfl (fun K2 hK2 => ?r3) (AllReadyH.cons (o := { dst := some 24, op := Op.makeSlice 50 (Operand.tmp 23) (Operand.tmp 23), type := 50, pos := "l05_node.go:26", after := #[{ on := 4, ground := Ground.data }, { on := 4, ground := Ground.data }], guard := none }) rfl (fun K2 hK2 => ?r5) (AllReadyH.cons (o := { dst := some 6, op := Op.alloc 52, type := 0, pos := "l05_node.go:26", after := #[], guard := none }) rfl (fun K2 hK2 => ?r7) AllReadyH.nil))
    case r3 =>
      go_simp
      have bx := bel_alloc (Below.refl wx.heap.size wx) (.cells zo 106)
      refine hK2.out _ _ True.intro (fun _ => ?_)
      try simp only [List.setIfInBounds_toArray, List.set_cons_zero, List.set_cons_succ]
      exact s_1100.out g20 _ _ (owns_below o20 bx) (own_last rfl hz22 B.size (by unfold maxLen; omega)) (bel_trans B bx)
    case r5 =>
      go_simp
      have bx := bel_alloc (Below.refl wx.heap.size wx) (.cells zi 109)
      refine hK2.out _ _ True.intro (fun _ => ?_)
      try simp only [List.setIfInBounds_toArray, List.set_cons_zero, List.set_cons_succ]
      exact s_1010.out g20 _ _ (owns_below o20 bx) (own_last rfl hz24 B.size (by unfold maxLen; omega)) (bel_trans B bx)
    case r7 =>
      go_simp
      have bx := bel_alloc (Below.refl wx.heap.size wx) (.cells #[.int .i64 0, .slice none 0 0, .slice none 0 0, .slice none 0 0, .slice none 0 0] 52)
      refine hK2.out _ _ True.intro (fun _ => ?_)
      try simp only [List.setIfInBounds_toArray, List.set_cons_zero, List.set_cons_succ]
      exact s_1001.out g20 _ _ (owns_below o20 bx) B.size (Box.new wx #[.int .i64 0, .slice none 0 0, .slice none 0 0, .slice none 0 0, .slice none 0 0] 52) (bel_trans B bx)
  have s_0100 : Hid (∀ (g22 : Nat) (wx : World) (o22 : wx.ownsRow w.heap.size 106 2 (Value.slice (some ⟨g22, 0, none⟩) n n) n zo.toList) (B : Below w.heap.size w wx), wpAnyH Try.prog .any specLitOps Q (fun _ => True) 5 #[true, false, true, true, true, false, false, false, false] ⟨#[(Value.int .i64 id), (Value.int .i64 n), u2, u3, u4, u5, u6, u7, u8, u9, u10, u11, u12, u13, u14, u15, u16, u17, u18, (Value.int .i64 id), u20, (Value.int .i64 n), (Value.slice (some ⟨g22, 0, none⟩) n n), (Value.int .i64 n), u24, u25, u26, u27, u28, u29, u30, u31, u32, u33, u34, u35, u36, u37], []⟩ wx) := by
    intro g22 wx o22 B
    refine wpAnyH_ready (rs := [1, 5, 7]) (by kernel_rfl) (by simp) ?_
    refine AllReadyH.cons (o := { dst := some 20, op := Op.makeSlice 47 (Operand.const (Value.int IntKind.i64 6)) (Operand.const (Value.int IntKind.i64 6)), type := 47, pos := "l05_node.go:26", after := #[], guard := none }) rfl (fun K2 hK2 => ?r1) (AllReadyH.cons (o := { dst := some 24, op := Op.makeSlice 50 (Operand.tmp 23) (Operand.tmp 23), type := 50, pos := "l05_node.go:26", after := #[{ on := 4, ground := Ground.data }, { on := 4, ground := Ground.data }], guard := none }) rfl (fun K2 hK2 => ?r5) (AllReadyH.cons (o := { dst := some 6, op := Op.alloc 52, type := 0, pos := "l05_node.go:26", after := #[], guard := none }) rfl (fun K2 hK2 => ?r7) AllReadyH.nil))
    case r1 =>
      go_simp
      have bx := bel_alloc (Below.refl wx.heap.size wx) (.cells zf 101)
      refine hK2.out _ _ True.intro (fun _ => ?_)
      try simp only [List.setIfInBounds_toArray, List.set_cons_zero, List.set_cons_succ]
      exact s_1100.out _ g22 _ (own_last rfl hz20 B.size (by unfold maxLen; omega)) (owns_below o22 bx) (bel_trans B bx)
    case r5 =>
      go_simp
      have bx := bel_alloc (Below.refl wx.heap.size wx) (.cells zi 109)
      refine hK2.out _ _ True.intro (fun _ => ?_)
      try simp only [List.setIfInBounds_toArray, List.set_cons_zero, List.set_cons_succ]
      exact s_0110.out g22 _ _ (owns_below o22 bx) (own_last rfl hz24 B.size (by unfold maxLen; omega)) (bel_trans B bx)
    case r7 =>
      go_simp
      have bx := bel_alloc (Below.refl wx.heap.size wx) (.cells #[.int .i64 0, .slice none 0 0, .slice none 0 0, .slice none 0 0, .slice none 0 0] 52)
      refine hK2.out _ _ True.intro (fun _ => ?_)
      try simp only [List.setIfInBounds_toArray, List.set_cons_zero, List.set_cons_succ]
      exact s_0101.out g22 _ _ (owns_below o22 bx) B.size (Box.new wx #[.int .i64 0, .slice none 0 0, .slice none 0 0, .slice none 0 0, .slice none 0 0] 52) (bel_trans B bx)
  have s_0010 : Hid (∀ (g24 : Nat) (wx : World) (o24 : wx.ownsRow w.heap.size 109 1 (Value.slice (some ⟨g24, 0, none⟩) n n) n zi.toList) (B : Below w.heap.size w wx), wpAnyH Try.prog .any specLitOps Q (fun _ => True) 5 #[true, false, true, false, true, true, false, false, false] ⟨#[(Value.int .i64 id), (Value.int .i64 n), u2, u3, u4, u5, u6, u7, u8, u9, u10, u11, u12, u13, u14, u15, u16, u17, u18, (Value.int .i64 id), u20, (Value.int .i64 n), u22, (Value.int .i64 n), (Value.slice (some ⟨g24, 0, none⟩) n n), u25, u26, u27, u28, u29, u30, u31, u32, u33, u34, u35, u36, u37], []⟩ wx) := by
    intro g24 wx o24 B
    refine wpAnyH_ready (rs := [1, 3, 7]) (by kernel_rfl) (by simp) ?_
    refine AllReadyH.cons (o := { dst := some 20, op := Op.makeSlice 47 (Operand.const (Value.int IntKind.i64 6)) (Operand.const (Value.int IntKind.i64 6)), type := 47, pos := "l05_node.go:26", after := #[], guard := none }) rfl (fun K2 hK2 => ?r1) (AllReadyH.cons (o := { dst := some 22, op := Op.makeSlice 49 (Operand.tmp 21) (Operand.tmp 21), type := 49, pos := "l05_node.go:26", after := #[{ on := 2, ground := Ground.data }, { on := 2, ground := Ground.data }], guard := none }) rfl (fun K2 hK2 => ?r3) (AllReadyH.cons (o := { dst := some 6, op := Op.alloc 52, type := 0, pos := "l05_node.go:26", after := #[], guard := none }) rfl (fun K2 hK2 => ?r7) AllReadyH.nil))
    case r1 =>
      go_simp
      have bx := bel_alloc (Below.refl wx.heap.size wx) (.cells zf 101)
      refine hK2.out _ _ True.intro (fun _ => ?_)
      try simp only [List.setIfInBounds_toArray, List.set_cons_zero, List.set_cons_succ]
      exact s_1010.out _ g24 _ (own_last rfl hz20 B.size (by unfold maxLen; omega)) (owns_below o24 bx) (bel_trans B bx)
    case r3 =>
      go_simp
      have bx := bel_alloc (Below.refl wx.heap.size wx) (.cells zo 106)
      refine hK2.out _ _ True.intro (fun _ => ?_)
      try simp only [List.setIfInBounds_toArray, List.set_cons_zero, List.set_cons_succ]
      exact s_0110.out _ g24 _ (own_last rfl hz22 B.size (by unfold maxLen; omega)) (owns_below o24 bx) (bel_trans B bx)
    case r7 =>
      go_simp
      have bx := bel_alloc (Below.refl wx.heap.size wx) (.cells #[.int .i64 0, .slice none 0 0, .slice none 0 0, .slice none 0 0, .slice none 0 0] 52)
      refine hK2.out _ _ True.intro (fun _ => ?_)
      try simp only [List.setIfInBounds_toArray, List.set_cons_zero, List.set_cons_succ]
      exact s_0011.out g24 _ _ (owns_below o24 bx) B.size (Box.new wx #[.int .i64 0, .slice none 0 0, .slice none 0 0, .slice none 0 0, .slice none 0 0] 52) (bel_trans B bx)
  have s_0001 : Hid (∀ (m : Nat) (wx : World) (hm : w.heap.size ≤ m) (X : Box wx m #[.int .i64 0, .slice none 0 0, .slice none 0 0, .slice none 0 0, .slice none 0 0] 52) (B : Below w.heap.size w wx), wpAnyH Try.prog .any specLitOps Q (fun _ => True) 5 #[true, false, true, false, true, false, false, true, false] ⟨#[(Value.int .i64 id), (Value.int .i64 n), u2, u3, u4, u5, (Value.pointer (some ⟨m, 0, none⟩)), u7, u8, u9, u10, u11, u12, u13, u14, u15, u16, u17, u18, (Value.int .i64 id), u20, (Value.int .i64 n), u22, (Value.int .i64 n), u24, u25, u26, u27, u28, u29, u30, u31, u32, u33, u34, u35, u36, u37], []⟩ wx) := by
    intro m wx hm X B
    refine wpAnyH_ready (rs := [1, 3, 5]) (by kernel_rfl) (by simp) ?_
    refine AllReadyH.cons (o := { dst := some 20, op := Op.makeSlice 47 (Operand.const (Value.int IntKind.i64 6)) (Operand.const (Value.int IntKind.i64 6)), type := 47, pos := "l05_node.go:26", after := #[], guard := none }) rfl (fun K2 hK2 => ?r1) (AllReadyH.cons (o := { dst := some 22, op := Op.makeSlice 49 (Operand.tmp 21) (Operand.tmp 21), type := 49, pos := "l05_node.go:26", after := #[{ on := 2, ground := Ground.data }, { on := 2, ground := Ground.data }], guard := none }) rfl (fun K2 hK2 => ?r3) (AllReadyH.cons (o := { dst := some 24, op := Op.makeSlice 50 (Operand.tmp 23) (Operand.tmp 23), type := 50, pos := "l05_node.go:26", after := #[{ on := 4, ground := Ground.data }, { on := 4, ground := Ground.data }], guard := none }) rfl (fun K2 hK2 => ?r5) AllReadyH.nil))
    case r1 =>
      go_simp
      have bx := bel_alloc (Below.refl wx.heap.size wx) (.cells zf 101)
      refine hK2.out _ _ True.intro (fun _ => ?_)
      try simp only [List.setIfInBounds_toArray, List.set_cons_zero, List.set_cons_succ]
      exact s_1001.out _ m _ (own_last rfl hz20 B.size (by unfold maxLen; omega)) hm (X.below bx) (bel_trans B bx)
    case r3 =>
      go_simp
      have bx := bel_alloc (Below.refl wx.heap.size wx) (.cells zo 106)
      refine hK2.out _ _ True.intro (fun _ => ?_)
      try simp only [List.setIfInBounds_toArray, List.set_cons_zero, List.set_cons_succ]
      exact s_0101.out _ m _ (own_last rfl hz22 B.size (by unfold maxLen; omega)) hm (X.below bx) (bel_trans B bx)
    case r5 =>
      go_simp
      have bx := bel_alloc (Below.refl wx.heap.size wx) (.cells zi 109)
      refine hK2.out _ _ True.intro (fun _ => ?_)
      try simp only [List.setIfInBounds_toArray, List.set_cons_zero, List.set_cons_succ]
      exact s_0011.out _ m _ (own_last rfl hz24 B.size (by unfold maxLen; omega)) hm (X.below bx) (bel_trans B bx)
  have s_0000 : Hid (∀ (wx : World) (B : Below w.heap.size w wx), wpAnyH Try.prog .any specLitOps Q (fun _ => True) 6 #[true, false, true, false, true, false, false, false, false] ⟨#[(Value.int .i64 id), (Value.int .i64 n), u2, u3, u4, u5, u6, u7, u8, u9, u10, u11, u12, u13, u14, u15, u16, u17, u18, (Value.int .i64 id), u20, (Value.int .i64 n), u22, (Value.int .i64 n), u24, u25, u26, u27, u28, u29, u30, u31, u32, u33, u34, u35, u36, u37], []⟩ wx) := by
    intro  wx  B
    refine wpAnyH_ready (rs := [1, 3, 5, 7]) (by kernel_rfl) (by simp) ?_
    refine AllReadyH.cons (o := { dst := some 20, op := Op.makeSlice 47 (Operand.const (Value.int IntKind.i64 6)) (Operand.const (Value.int IntKind.i64 6)), type := 47, pos := "l05_node.go:26", after := #[], guard := none }) rfl (fun K2 hK2 => ?r1) (AllReadyH.cons (o := { dst := some 22, op := Op.makeSlice 49 (Operand.tmp 21) (Operand.tmp 21), type := 49, pos := "l05_node.go:26", after := #[{ on := 2, ground := Ground.data }, { on := 2, ground := Ground.data }], guard := none }) rfl (fun K2 hK2 => ?r3) (AllReadyH.cons (o := { dst := some 24, op := Op.makeSlice 50 (Operand.tmp 23) (Operand.tmp 23), type := 50, pos := "l05_node.go:26", after := #[{ on := 4, ground := Ground.data }, { on := 4, ground := Ground.data }], guard := none }) rfl (fun K2 hK2 => ?r5) (AllReadyH.cons (o := { dst := some 6, op := Op.alloc 52, type := 0, pos := "l05_node.go:26", after := #[], guard := none }) rfl (fun K2 hK2 => ?r7) AllReadyH.nil)))
    case r1 =>
      go_simp
      have bx := bel_alloc (Below.refl wx.heap.size wx) (.cells zf 101)
      refine hK2.out _ _ True.intro (fun _ => ?_)
      try simp only [List.setIfInBounds_toArray, List.set_cons_zero, List.set_cons_succ]
      exact s_1000.out _ _ (own_last rfl hz20 B.size (by unfold maxLen; omega)) (bel_trans B bx)
    case r3 =>
      go_simp
      have bx := bel_alloc (Below.refl wx.heap.size wx) (.cells zo 106)
      refine hK2.out _ _ True.intro (fun _ => ?_)
      try simp only [List.setIfInBounds_toArray, List.set_cons_zero, List.set_cons_succ]
      exact s_0100.out _ _ (own_last rfl hz22 B.size (by unfold maxLen; omega)) (bel_trans B bx)
    case r5 =>
      go_simp
      have bx := bel_alloc (Below.refl wx.heap.size wx) (.cells zi 109)
      refine hK2.out _ _ True.intro (fun _ => ?_)
      try simp only [List.setIfInBounds_toArray, List.set_cons_zero, List.set_cons_succ]
      exact s_0010.out _ _ (own_last rfl hz24 B.size (by unfold maxLen; omega)) (bel_trans B bx)
    case r7 =>
      go_simp
      have bx := bel_alloc (Below.refl wx.heap.size wx) (.cells #[.int .i64 0, .slice none 0 0, .slice none 0 0, .slice none 0 0, .slice none 0 0] 52)
      refine hK2.out _ _ True.intro (fun _ => ?_)
      try simp only [List.setIfInBounds_toArray, List.set_cons_zero, List.set_cons_succ]
      exact s_0001.out _ _ B.size (Box.new wx #[.int .i64 0, .slice none 0 0, .slice none 0 0, .slice none 0 0, .slice none 0 0] 52) (bel_trans B bx)
  refine wp_region_held_drew (S := fun _ => True) (by kernel_rfl) True.intro (fun _ => ?_)
  have hrep : Array.replicate (Array.size specLitOps) false = #[false, false, false, false, false, false, false, false, false] := rfl
  rw [hrep]
  show wpAnyH _ _ _ _ _ 9 _ _ _
  refine wpAnyH_take (i := 0) (oi := { dst := some 19, op := Op.move (Operand.tmp 0), type := 3, pos := "l05_node.go:26", after := #[], guard := none }) (v := (Value.int .i64 id)) rfl (by kernel_rfl) (by kernel_rfl) (by kernel_rfl) (fun _ _ _ h => HP.out _ _ _ _ _ h) (Or.inl ⟨by rfl, ?_⟩) True.intro ?_
  · intro w hSw
    go_simp
    try (with_reducible rfl)
  simp only [Act.put, List.setIfInBounds_toArray, List.set_cons_zero, List.set_cons_succ]
  refine wpAnyH_take (i := 2) (oi := { dst := some 21, op := Op.move (Operand.tmp 1), type := 3, pos := "l05_node.go:26", after := #[], guard := none }) (v := (Value.int .i64 n)) rfl (by kernel_rfl) (by kernel_rfl) (by kernel_rfl) (fun _ _ _ h => HP.out _ _ _ _ _ h) (Or.inl ⟨by rfl, ?_⟩) True.intro ?_
  · intro w hSw
    go_simp
    try (with_reducible rfl)
  simp only [Act.put, List.setIfInBounds_toArray, List.set_cons_zero, List.set_cons_succ]
  refine wpAnyH_take (i := 4) (oi := { dst := some 23, op := Op.move (Operand.tmp 1), type := 3, pos := "l05_node.go:26", after := #[], guard := none }) (v := (Value.int .i64 n)) rfl (by kernel_rfl) (by kernel_rfl) (by kernel_rfl) (fun _ _ _ h => HP.out _ _ _ _ _ h) (Or.inl ⟨by rfl, ?_⟩) True.intro ?_
  · intro w hSw
    go_simp
    try (with_reducible rfl)
  simp only [Act.put, List.setIfInBounds_toArray, List.set_cons_zero, List.set_cons_succ]
  exact s_0000.out _ (below_drewN (Below.refl _ _) 1)
end Go.Proofs.Ytfeabhknkoifeaa
