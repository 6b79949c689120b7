/- What the drawn regions that build a new node do (written by mklit.py). -/
import Derived.Test.YtpahjfijpjgdnaaNdN0
namespace Go.Proofs.Ytpahjfijpjgdnaa
open Go.RowKit
set_option linter.unusedVariables false

def implLitOps : Array Oper := #[{ dst := some 13, op := Op.move (Operand.tmp 0), type := 3, pos := "l05_node.go:54", after := #[], guard := none }, { dst := some 14, op := Op.makeSlice 81 (Operand.const (Value.int IntKind.i64 6)) (Operand.const (Value.int IntKind.i64 6)), type := 81, pos := "l05_node.go:54", after := #[], guard := none }, { dst := some 15, op := Op.makeSlice 82 (Operand.const (Value.int IntKind.i64 6)) (Operand.const (Value.int IntKind.i64 6)), type := 82, pos := "l05_node.go:54", after := #[], guard := none }, { dst := some 16, op := Op.move (Operand.tmp 1), type := 3, pos := "l05_node.go:54", after := #[], guard := none }, { dst := some 17, op := Op.makeSlice 83 (Operand.tmp 16) (Operand.tmp 16), type := 83, pos := "l05_node.go:54", after := #[{ on := 3, ground := Ground.data }, { on := 3, ground := Ground.data }], guard := none }, { dst := some 18, op := Op.move (Operand.tmp 1), type := 3, pos := "l05_node.go:54", after := #[], guard := none }, { dst := some 19, op := Op.makeSlice 84 (Operand.tmp 18) (Operand.tmp 18), type := 84, pos := "l05_node.go:54", after := #[{ on := 5, ground := Ground.data }, { on := 5, ground := Ground.data }], guard := none }, { dst := some 20, op := Op.build 86 #[(0, Operand.tmp 13), (1, Operand.tmp 14), (2, Operand.tmp 15), (3, Operand.tmp 17), (4, Operand.tmp 19)], type := 86, pos := "l05_node.go:54", after := #[{ on := 0, ground := Ground.data }, { on := 1, ground := Ground.data }, { on := 2, ground := Ground.data }, { on := 4, ground := Ground.data }, { on := 6, ground := Ground.data }], guard := none }, { dst := some 6, op := Op.alloc 86, type := 0, pos := "l05_node.go:54", after := #[], guard := none }, { dst := none, op := Op.store 86 (Operand.tmp 6) (Operand.tmp 20), type := 0, pos := "l05_node.go:54", after := #[{ on := 8, ground := Ground.data }, { on := 7, ground := Ground.data }, { on := 0, ground := Ground.phase }, { on := 1, ground := Ground.phase }, { on := 2, ground := Ground.phase }, { on := 3, ground := Ground.phase }, { on := 4, ground := Ground.phase }, { on := 5, ground := Ground.phase }, { on := 6, ground := Ground.phase }, { on := 7, ground := Ground.phase }, { on := 8, ground := Ground.phase }], guard := none }]
set_option maxRecDepth 100000 in
set_option maxHeartbeats 8000000 in
theorem implLit (Q : Exit → Act → World → Prop) (hq0 : ∀ (c : _) (a : Act) (k : Tmp) (v : Value) (w : World), Q (.panic c) (a.put (some k) v) w → Q (.panic c) a w) (id : Int) (n : Nat) (h1 : 1 ≤ n) (h4 : n ≤ 4) (u2 u3 u4 u5 u6 u7 u8 u9 u10 u11 u12 u13 u14 u15 u16 u17 u18 u19 u20 u21 u22 u23 u24 u25 u26 u27 u28 u29 u30 u31 u32 u33 u34 : Value) (w : World) (zf zh zi zo : Array Value) (mk14 : ∀ W : World, (Instr.makeSlice 81 (.int .i64 6) (.int .i64 6)).run Try.prog W = .ok (.slice (some ⟨W.heap.size, 0, none⟩) 6 6) (W.alloc (.cells zf 140))) (hz14 : zf.size = 6 * 3) (mk15 : ∀ W : World, (Instr.makeSlice 82 (.int .i64 6) (.int .i64 6)).run Try.prog W = .ok (.slice (some ⟨W.heap.size, 0, none⟩) 6 6) (W.alloc (.cells zh 145))) (hz15 : zh.size = 6 * 8) (mk17 : ∀ W : World, (Instr.makeSlice 83 (.int .i64 (n : Int)) (.int .i64 (n : Int))).run Try.prog W = .ok (.slice (some ⟨W.heap.size, 0, none⟩) n n) (W.alloc (.cells zo 149))) (hz17 : zo.size = n * 2) (mk19 : ∀ W : World, (Instr.makeSlice 84 (.int .i64 (n : Int)) (.int .i64 (n : Int))).run Try.prog W = .ok (.slice (some ⟨W.heap.size, 0, none⟩) n n) (W.alloc (.cells zi 152))) (hz19 : zi.size = n * 1)
    (hQ : ∀ (m g14 g15 g17 g19 : Nat) (wx : World), w.heap.size ≤ m → Box wx m #[.int .i64 id, (Value.slice (some ⟨g14, 0, none⟩) 6 6), (Value.slice (some ⟨g15, 0, none⟩) 6 6), (Value.slice (some ⟨g17, 0, none⟩) n n), (Value.slice (some ⟨g19, 0, none⟩) n n)] 86 → wx.ownsRow w.heap.size 140 3 (Value.slice (some ⟨g14, 0, none⟩) 6 6) 6 zf.toList → wx.ownsRow w.heap.size 145 8 (Value.slice (some ⟨g15, 0, none⟩) 6 6) 6 zh.toList → wx.ownsRow w.heap.size 149 2 (Value.slice (some ⟨g17, 0, none⟩) n n) n zo.toList → wx.ownsRow w.heap.size 152 1 (Value.slice (some ⟨g19, 0, none⟩) n n) n zi.toList → Below w.heap.size w wx → Q .normal ⟨#[(Value.int .i64 id), (Value.int .i64 n), u2, u3, u4, u5, (Value.pointer (some ⟨m, 0, none⟩)), u7, u8, u9, u10, u11, u12, (Value.int .i64 id), (Value.slice (some ⟨g14, 0, none⟩) 6 6), (Value.slice (some ⟨g15, 0, none⟩) 6 6), (Value.int .i64 n), (Value.slice (some ⟨g17, 0, none⟩) n n), (Value.int .i64 n), (Value.slice (some ⟨g19, 0, none⟩) n n), (Value.agg #[.int .i64 id, (Value.slice (some ⟨g14, 0, none⟩) 6 6), (Value.slice (some ⟨g15, 0, none⟩) 6 6), (Value.slice (some ⟨g17, 0, none⟩) n n), (Value.slice (some ⟨g19, 0, none⟩) n n)]), u21, u22, u23, u24, u25, u26, u27, u28, u29, u30, u31, u32, u33, u34], []⟩ wx) :
    (Code.region 3 implLitOps true).wp Try.prog Q ⟨#[(Value.int .i64 id), (Value.int .i64 n), u2, u3, u4, u5, u6, u7, u8, u9, u10, u11, u12, u13, u14, u15, u16, u17, u18, u19, u20, u21, u22, u23, u24, u25, u26, u27, u28, u29, u30, u31, u32, u33, u34], []⟩ w := by
  have HQ : Hid _ := hQ
  have HP : Hid _ := hq0
  clear hQ hq0
  have s_11111 : Hid (∀ (g14 g15 g17 g19 m : Nat) (wx : World) (o14 : wx.ownsRow w.heap.size 140 3 (Value.slice (some ⟨g14, 0, none⟩) 6 6) 6 zf.toList) (o15 : wx.ownsRow w.heap.size 145 8 (Value.slice (some ⟨g15, 0, none⟩) 6 6) 6 zh.toList) (o17 : wx.ownsRow w.heap.size 149 2 (Value.slice (some ⟨g17, 0, none⟩) n n) n zo.toList) (o19 : wx.ownsRow w.heap.size 152 1 (Value.slice (some ⟨g19, 0, none⟩) n n) n zi.toList) (hm : w.heap.size ≤ m) (X : Box wx m #[.int .i64 0, .slice none 0 0, .slice none 0 0, .slice none 0 0, .slice none 0 0] 86) (B : Below w.heap.size w wx), wpAnyH Try.prog .any implLitOps Q (fun _ => True) 2 #[true, true, true, true, true, true, true, false, true, false] ⟨#[(Value.int .i64 id), (Value.int .i64 n), u2, u3, u4, u5, (Value.pointer (some ⟨m, 0, none⟩)), u7, u8, u9, u10, u11, u12, (Value.int .i64 id), (Value.slice (some ⟨g14, 0, none⟩) 6 6), (Value.slice (some ⟨g15, 0, none⟩) 6 6), (Value.int .i64 n), (Value.slice (some ⟨g17, 0, none⟩) n n), (Value.int .i64 n), (Value.slice (some ⟨g19, 0, none⟩) n n), u20, u21, u22, u23, u24, u25, u26, u27, u28, u29, u30, u31, u32, u33, u34], []⟩ wx) := by
    intro g14 g15 g17 g19 m wx o14 o15 o17 o19 hm X B
    refine wpAnyH_take (i := 7) (oi := { dst := some 20, op := Op.build 86 #[(0, Operand.tmp 13), (1, Operand.tmp 14), (2, Operand.tmp 15), (3, Operand.tmp 17), (4, Operand.tmp 19)], type := 86, pos := "l05_node.go:54", after := #[{ on := 0, ground := Ground.data }, { on := 1, ground := Ground.data }, { on := 2, ground := Ground.data }, { on := 4, ground := Ground.data }, { on := 6, ground := Ground.data }], guard := none }) (v := .agg #[.int .i64 id, (Value.slice (some ⟨g14, 0, none⟩) 6 6), (Value.slice (some ⟨g15, 0, none⟩) 6 6), (Value.slice (some ⟨g17, 0, none⟩) n n), (Value.slice (some ⟨g19, 0, none⟩) n n)]) rfl (by kernel_rfl) (by kernel_rfl) (by kernel_rfl) (fun _ _ _ h => HP.out _ _ _ _ _ h) (Or.inl ⟨by rfl, ?_⟩) True.intro ?_
    · intro w hSw
      go_simp
      try (with_reducible rfl)
    simp only [Act.put, List.setIfInBounds_toArray, List.set_cons_zero, List.set_cons_succ]
    have zx := X.lt
    have c0 := X.cell 0
    have f0 := X.frozen 0
    have c1 := X.cell 1
    have f1 := X.frozen 1
    have c2 := X.cell 2
    have f2 := X.frozen 2
    have c3 := X.cell 3
    have f3 := X.frozen 3
    have c4 := X.cell 4
    have f4 := X.frozen 4
    refine wpAnyH_ready (rs := [9]) (by kernel_rfl) (by simp) ?_
    refine AllReadyH.cons (o := { dst := none, op := Op.store 86 (Operand.tmp 6) (Operand.tmp 20), type := 0, pos := "l05_node.go:54", after := #[{ on := 8, ground := Ground.data }, { on := 7, ground := Ground.data }, { on := 0, ground := Ground.phase }, { on := 1, ground := Ground.phase }, { on := 2, ground := Ground.phase }, { on := 3, ground := Ground.phase }, { on := 4, ground := Ground.phase }, { on := 5, ground := Ground.phase }, { on := 6, ground := Ground.phase }, { on := 7, ground := Ground.phase }, { on := 8, ground := Ground.phase }], guard := none }) rfl (fun K2 hK2 => ?_) AllReadyH.nil
    go_simp
    refine hK2.out _ _ True.intro (fun _ => ?_)
    try simp only [List.setIfInBounds_toArray, List.set_cons_zero, List.set_cons_succ]
    refine wpAnyH_done (by kernel_rfl) ?_ _
    refine HQ.out m g14 g15 g17 g19 _ hm ?_ ?_ ?_ ?_ ?_ ?_
    · exact lit_box5 X
    · have ne : ∀ j, (Value.slice (some ⟨g14, 0, none⟩) 6 6).ownBlock = some j → m ≠ j := fun j hj e => lit_ne X o14 (by decide) (by rw [hj, e])
      exact lit_own5 o14 ne
    · have ne : ∀ j, (Value.slice (some ⟨g15, 0, none⟩) 6 6).ownBlock = some j → m ≠ j := fun j hj e => lit_ne X o15 (by decide) (by rw [hj, e])
      exact lit_own5 o15 ne
    · have ne : ∀ j, (Value.slice (some ⟨g17, 0, none⟩) n n).ownBlock = some j → m ≠ j := fun j hj e => lit_ne X o17 (by decide) (by rw [hj, e])
      exact lit_own5 o17 ne
    · have ne : ∀ j, (Value.slice (some ⟨g19, 0, none⟩) n n).ownBlock = some j → m ≠ j := fun j hj e => lit_ne X o19 (by decide) (by rw [hj, e])
      exact lit_own5 o19 ne
    · exact lit_bel5 B hm
  have s_11110 : Hid (∀ (g14 g15 g17 g19 : Nat) (wx : World) (o14 : wx.ownsRow w.heap.size 140 3 (Value.slice (some ⟨g14, 0, none⟩) 6 6) 6 zf.toList) (o15 : wx.ownsRow w.heap.size 145 8 (Value.slice (some ⟨g15, 0, none⟩) 6 6) 6 zh.toList) (o17 : wx.ownsRow w.heap.size 149 2 (Value.slice (some ⟨g17, 0, none⟩) n n) n zo.toList) (o19 : wx.ownsRow w.heap.size 152 1 (Value.slice (some ⟨g19, 0, none⟩) n n) n zi.toList) (B : Below w.heap.size w wx), wpAnyH Try.prog .any implLitOps Q (fun _ => True) 3 #[true, true, true, true, true, true, true, false, false, false] ⟨#[(Value.int .i64 id), (Value.int .i64 n), u2, u3, u4, u5, u6, u7, u8, u9, u10, u11, u12, (Value.int .i64 id), (Value.slice (some ⟨g14, 0, none⟩) 6 6), (Value.slice (some ⟨g15, 0, none⟩) 6 6), (Value.int .i64 n), (Value.slice (some ⟨g17, 0, none⟩) n n), (Value.int .i64 n), (Value.slice (some ⟨g19, 0, none⟩) n n), u20, u21, u22, u23, u24, u25, u26, u27, u28, u29, u30, u31, u32, u33, u34], []⟩ wx) := by
    intro g14 g15 g17 g19 wx o14 o15 o17 o19 B
    refine wpAnyH_take (i := 7) (oi := { dst := some 20, op := Op.build 86 #[(0, Operand.tmp 13), (1, Operand.tmp 14), (2, Operand.tmp 15), (3, Operand.tmp 17), (4, Operand.tmp 19)], type := 86, pos := "l05_node.go:54", after := #[{ on := 0, ground := Ground.data }, { on := 1, ground := Ground.data }, { on := 2, ground := Ground.data }, { on := 4, ground := Ground.data }, { on := 6, ground := Ground.data }], guard := none }) (v := .agg #[.int .i64 id, (Value.slice (some ⟨g14, 0, none⟩) 6 6), (Value.slice (some ⟨g15, 0, none⟩) 6 6), (Value.slice (some ⟨g17, 0, none⟩) n n), (Value.slice (some ⟨g19, 0, none⟩) n n)]) rfl (by kernel_rfl) (by kernel_rfl) (by kernel_rfl) (fun _ _ _ h => HP.out _ _ _ _ _ h) (Or.inl ⟨by rfl, ?_⟩) True.intro ?_
    · intro w hSw
      go_simp
      try (with_reducible rfl)
    simp only [Act.put, List.setIfInBounds_toArray, List.set_cons_zero, List.set_cons_succ]
    refine wpAnyH_ready (rs := [8]) (by kernel_rfl) (by simp) ?_
    refine AllReadyH.cons (o := { dst := some 6, op := Op.alloc 86, type := 0, pos := "l05_node.go:54", after := #[], guard := none }) rfl (fun K2 hK2 => ?_) AllReadyH.nil
    go_simp
    have bx := bel_alloc (Below.refl wx.heap.size wx) (.cells #[.int .i64 0, .slice none 0 0, .slice none 0 0, .slice none 0 0, .slice none 0 0] 86)
    have X := Box.new wx #[.int .i64 0, .slice none 0 0, .slice none 0 0, .slice none 0 0, .slice none 0 0] 86
    obtain ⟨wy, hy⟩ : ∃ wy, wx.alloc (.cells #[.int .i64 0, .slice none 0 0, .slice none 0 0, .slice none 0 0, .slice none 0 0] 86) = wy := ⟨_, rfl⟩
    refine hK2.out _ _ True.intro (fun _ => ?_)
    try simp only [List.setIfInBounds_toArray, List.set_cons_zero, List.set_cons_succ]
    obtain ⟨m, em⟩ : ∃ m, wx.heap.size = m := ⟨_, rfl⟩
    have hm : w.heap.size ≤ m := by rw [← em]; exact B.size
    rw [hy] at bx X ⊢
    rw [em] at X ⊢
    replace o14 := owns_below o14 bx
    replace o15 := owns_below o15 bx
    replace o17 := owns_below o17 bx
    replace o19 := owns_below o19 bx
    replace B := bel_trans B bx
    clear bx hy em hK2 K2
    have zx := X.lt
    have c0 := X.cell 0
    have f0 := X.frozen 0
    have c1 := X.cell 1
    have f1 := X.frozen 1
    have c2 := X.cell 2
    have f2 := X.frozen 2
    have c3 := X.cell 3
    have f3 := X.frozen 3
    have c4 := X.cell 4
    have f4 := X.frozen 4
    refine wpAnyH_ready (rs := [9]) (by kernel_rfl) (by simp) ?_
    refine AllReadyH.cons (o := { dst := none, op := Op.store 86 (Operand.tmp 6) (Operand.tmp 20), type := 0, pos := "l05_node.go:54", after := #[{ on := 8, ground := Ground.data }, { on := 7, ground := Ground.data }, { on := 0, ground := Ground.phase }, { on := 1, ground := Ground.phase }, { on := 2, ground := Ground.phase }, { on := 3, ground := Ground.phase }, { on := 4, ground := Ground.phase }, { on := 5, ground := Ground.phase }, { on := 6, ground := Ground.phase }, { on := 7, ground := Ground.phase }, { on := 8, ground := Ground.phase }], guard := none }) rfl (fun K2 hK2 => ?_) AllReadyH.nil
    go_simp
    refine hK2.out _ _ True.intro (fun _ => ?_)
    try simp only [List.setIfInBounds_toArray, List.set_cons_zero, List.set_cons_succ]
    refine wpAnyH_done (by kernel_rfl) ?_ _
    refine HQ.out m g14 g15 g17 g19 _ hm ?_ ?_ ?_ ?_ ?_ ?_
    · exact lit_box5 X
    · have ne : ∀ j, (Value.slice (some ⟨g14, 0, none⟩) 6 6).ownBlock = some j → m ≠ j := fun j hj e => lit_ne X o14 (by decide) (by rw [hj, e])
      exact lit_own5 o14 ne
    · have ne : ∀ j, (Value.slice (some ⟨g15, 0, none⟩) 6 6).ownBlock = some j → m ≠ j := fun j hj e => lit_ne X o15 (by decide) (by rw [hj, e])
      exact lit_own5 o15 ne
    · have ne : ∀ j, (Value.slice (some ⟨g17, 0, none⟩) n n).ownBlock = some j → m ≠ j := fun j hj e => lit_ne X o17 (by decide) (by rw [hj, e])
      exact lit_own5 o17 ne
    · have ne : ∀ j, (Value.slice (some ⟨g19, 0, none⟩) n n).ownBlock = some j → m ≠ j := fun j hj e => lit_ne X o19 (by decide) (by rw [hj, e])
      exact lit_own5 o19 ne
    · exact lit_bel5 B hm
  have s_11101 : Hid (∀ (g14 g15 g17 m : Nat) (wx : World) (o14 : wx.ownsRow w.heap.size 140 3 (Value.slice (some ⟨g14, 0, none⟩) 6 6) 6 zf.toList) (o15 : wx.ownsRow w.heap.size 145 8 (Value.slice (some ⟨g15, 0, none⟩) 6 6) 6 zh.toList) (o17 : wx.ownsRow w.heap.size 149 2 (Value.slice (some ⟨g17, 0, none⟩) n n) n zo.toList) (hm : w.heap.size ≤ m) (X : Box wx m #[.int .i64 0, .slice none 0 0, .slice none 0 0, .slice none 0 0, .slice none 0 0] 86) (B : Below w.heap.size w wx), wpAnyH Try.prog .any implLitOps Q (fun _ => True) 3 #[true, true, true, true, true, true, false, false, true, false] ⟨#[(Value.int .i64 id), (Value.int .i64 n), u2, u3, u4, u5, (Value.pointer (some ⟨m, 0, none⟩)), u7, u8, u9, u10, u11, u12, (Value.int .i64 id), (Value.slice (some ⟨g14, 0, none⟩) 6 6), (Value.slice (some ⟨g15, 0, none⟩) 6 6), (Value.int .i64 n), (Value.slice (some ⟨g17, 0, none⟩) n n), (Value.int .i64 n), u19, u20, u21, u22, u23, u24, u25, u26, u27, u28, u29, u30, u31, u32, u33, u34], []⟩ wx) := by
    intro g14 g15 g17 m wx o14 o15 o17 hm X B
    refine wpAnyH_ready (rs := [6]) (by kernel_rfl) (by simp) ?_
    refine AllReadyH.cons (o := { dst := some 19, op := Op.makeSlice 84 (Operand.tmp 18) (Operand.tmp 18), type := 84, pos := "l05_node.go:54", after := #[{ on := 5, ground := Ground.data }, { on := 5, ground := Ground.data }], guard := none }) rfl (fun K2 hK2 => ?r6) AllReadyH.nil
    case r6 =>
      go_simp
      have bx := bel_alloc (Below.refl wx.heap.size wx) (.cells zi 152)
      refine hK2.out _ _ True.intro (fun _ => ?_)
      try simp only [List.setIfInBounds_toArray, List.set_cons_zero, List.set_cons_succ]
      exact s_11111.out g14 g15 g17 _ m _ (owns_below o14 bx) (owns_below o15 bx) (owns_below o17 bx) (own_last rfl hz19 B.size (by unfold maxLen; omega)) hm (X.below bx) (bel_trans B bx)
  have s_11011 : Hid (∀ (g14 g15 g19 m : Nat) (wx : World) (o14 : wx.ownsRow w.heap.size 140 3 (Value.slice (some ⟨g14, 0, none⟩) 6 6) 6 zf.toList) (o15 : wx.ownsRow w.heap.size 145 8 (Value.slice (some ⟨g15, 0, none⟩) 6 6) 6 zh.toList) (o19 : wx.ownsRow w.heap.size 152 1 (Value.slice (some ⟨g19, 0, none⟩) n n) n zi.toList) (hm : w.heap.size ≤ m) (X : Box wx m #[.int .i64 0, .slice none 0 0, .slice none 0 0, .slice none 0 0, .slice none 0 0] 86) (B : Below w.heap.size w wx), wpAnyH Try.prog .any implLitOps Q (fun _ => True) 3 #[true, true, true, true, false, true, true, false, true, false] ⟨#[(Value.int .i64 id), (Value.int .i64 n), u2, u3, u4, u5, (Value.pointer (some ⟨m, 0, none⟩)), u7, u8, u9, u10, u11, u12, (Value.int .i64 id), (Value.slice (some ⟨g14, 0, none⟩) 6 6), (Value.slice (some ⟨g15, 0, none⟩) 6 6), (Value.int .i64 n), u17, (Value.int .i64 n), (Value.slice (some ⟨g19, 0, none⟩) n n), u20, u21, u22, u23, u24, u25, u26, u27, u28, u29, u30, u31, u32, u33, u34], []⟩ wx) := by
    intro g14 g15 g19 m wx o14 o15 o19 hm X B
    refine wpAnyH_ready (rs := [4]) (by kernel_rfl) (by simp) ?_
    refine AllReadyH.cons (o := { dst := some 17, op := Op.makeSlice 83 (Operand.tmp 16) (Operand.tmp 16), type := 83, pos := "l05_node.go:54", after := #[{ on := 3, ground := Ground.data }, { on := 3, ground := Ground.data }], guard := none }) rfl (fun K2 hK2 => ?r4) AllReadyH.nil
    case r4 =>
      go_simp
      have bx := bel_alloc (Below.refl wx.heap.size wx) (.cells zo 149)
      refine hK2.out _ _ True.intro (fun _ => ?_)
      try simp only [List.setIfInBounds_toArray, List.set_cons_zero, List.set_cons_succ]
      exact s_11111.out g14 g15 _ g19 m _ (owns_below o14 bx) (owns_below o15 bx) (own_last rfl hz17 B.size (by unfold maxLen; omega)) (owns_below o19 bx) hm (X.below bx) (bel_trans B bx)
  have s_10111 : Hid (∀ (g14 g17 g19 m : Nat) (wx : World) (o14 : wx.ownsRow w.heap.size 140 3 (Value.slice (some ⟨g14, 0, none⟩) 6 6) 6 zf.toList) (o17 : wx.ownsRow w.heap.size 149 2 (Value.slice (some ⟨g17, 0, none⟩) n n) n zo.toList) (o19 : wx.ownsRow w.heap.size 152 1 (Value.slice (some ⟨g19, 0, none⟩) n n) n zi.toList) (hm : w.heap.size ≤ m) (X : Box wx m #[.int .i64 0, .slice none 0 0, .slice none 0 0, .slice none 0 0, .slice none 0 0] 86) (B : Below w.heap.size w wx), wpAnyH Try.prog .any implLitOps Q (fun _ => True) 3 #[true, true, false, true, true, true, true, false, true, false] ⟨#[(Value.int .i64 id), (Value.int .i64 n), u2, u3, u4, u5, (Value.pointer (some ⟨m, 0, none⟩)), u7, u8, u9, u10, u11, u12, (Value.int .i64 id), (Value.slice (some ⟨g14, 0, none⟩) 6 6), u15, (Value.int .i64 n), (Value.slice (some ⟨g17, 0, none⟩) n n), (Value.int .i64 n), (Value.slice (some ⟨g19, 0, none⟩) n n), u20, u21, u22, u23, u24, u25, u26, u27, u28, u29, u30, u31, u32, u33, u34], []⟩ wx) := by
    intro g14 g17 g19 m wx o14 o17 o19 hm X B
    refine wpAnyH_ready (rs := [2]) (by kernel_rfl) (by simp) ?_
    refine AllReadyH.cons (o := { dst := some 15, op := Op.makeSlice 82 (Operand.const (Value.int IntKind.i64 6)) (Operand.const (Value.int IntKind.i64 6)), type := 82, pos := "l05_node.go:54", after := #[], guard := none }) rfl (fun K2 hK2 => ?r2) AllReadyH.nil
    case r2 =>
      go_simp
      have bx := bel_alloc (Below.refl wx.heap.size wx) (.cells zh 145)
      refine hK2.out _ _ True.intro (fun _ => ?_)
      try simp only [List.setIfInBounds_toArray, List.set_cons_zero, List.set_cons_succ]
      exact s_11111.out g14 _ g17 g19 m _ (owns_below o14 bx) (own_last rfl hz15 B.size (by unfold maxLen; omega)) (owns_below o17 bx) (owns_below o19 bx) hm (X.below bx) (bel_trans B bx)
  have s_01111 : Hid (∀ (g15 g17 g19 m : Nat) (wx : World) (o15 : wx.ownsRow w.heap.size 145 8 (Value.slice (some ⟨g15, 0, none⟩) 6 6) 6 zh.toList) (o17 : wx.ownsRow w.heap.size 149 2 (Value.slice (some ⟨g17, 0, none⟩) n n) n zo.toList) (o19 : wx.ownsRow w.heap.size 152 1 (Value.slice (some ⟨g19, 0, none⟩) n n) n zi.toList) (hm : w.heap.size ≤ m) (X : Box wx m #[.int .i64 0, .slice none 0 0, .slice none 0 0, .slice none 0 0, .slice none 0 0] 86) (B : Below w.heap.size w wx), wpAnyH Try.prog .any implLitOps Q (fun _ => True) 3 #[true, false, true, true, true, true, true, false, true, false] ⟨#[(Value.int .i64 id), (Value.int .i64 n), u2, u3, u4, u5, (Value.pointer (some ⟨m, 0, none⟩)), u7, u8, u9, u10, u11, u12, (Value.int .i64 id), u14, (Value.slice (some ⟨g15, 0, none⟩) 6 6), (Value.int .i64 n), (Value.slice (some ⟨g17, 0, none⟩) n n), (Value.int .i64 n), (Value.slice (some ⟨g19, 0, none⟩) n n), u20, u21, u22, u23, u24, u25, u26, u27, u28, u29, u30, u31, u32, u33, u34], []⟩ wx) := by
    intro g15 g17 g19 m wx o15 o17 o19 hm X B
    refine wpAnyH_ready (rs := [1]) (by kernel_rfl) (by simp) ?_
    refine AllReadyH.cons (o := { dst := some 14, op := Op.makeSlice 81 (Operand.const (Value.int IntKind.i64 6)) (Operand.const (Value.int IntKind.i64 6)), type := 81, pos := "l05_node.go:54", after := #[], guard := none }) rfl (fun K2 hK2 => ?r1) AllReadyH.nil
    case r1 =>
      go_simp
      have bx := bel_alloc (Below.refl wx.heap.size wx) (.cells zf 140)
      refine hK2.out _ _ True.intro (fun _ => ?_)
      try simp only [List.setIfInBounds_toArray, List.set_cons_zero, List.set_cons_succ]
      exact s_11111.out _ g15 g17 g19 m _ (own_last rfl hz14 B.size (by unfold maxLen; omega)) (owns_below o15 bx) (owns_below o17 bx) (owns_below o19 bx) hm (X.below bx) (bel_trans B bx)
  have s_11100 : Hid (∀ (g14 g15 g17 : Nat) (wx : World) (o14 : wx.ownsRow w.heap.size 140 3 (Value.slice (some ⟨g14, 0, none⟩) 6 6) 6 zf.toList) (o15 : wx.ownsRow w.heap.size 145 8 (Value.slice (some ⟨g15, 0, none⟩) 6 6) 6 zh.toList) (o17 : wx.ownsRow w.heap.size 149 2 (Value.slice (some ⟨g17, 0, none⟩) n n) n zo.toList) (B : Below w.heap.size w wx), wpAnyH Try.prog .any implLitOps Q (fun _ => True) 4 #[true, true, true, true, true, true, false, false, false, false] ⟨#[(Value.int .i64 id), (Value.int .i64 n), u2, u3, u4, u5, u6, u7, u8, u9, u10, u11, u12, (Value.int .i64 id), (Value.slice (some ⟨g14, 0, none⟩) 6 6), (Value.slice (some ⟨g15, 0, none⟩) 6 6), (Value.int .i64 n), (Value.slice (some ⟨g17, 0, none⟩) n n), (Value.int .i64 n), u19, u20, u21, u22, u23, u24, u25, u26, u27, u28, u29, u30, u31, u32, u33, u34], []⟩ wx) := by
    intro g14 g15 g17 wx o14 o15 o17 B
    refine wpAnyH_ready (rs := [6, 8]) (by kernel_rfl) (by simp) ?_
    refine AllReadyH.cons (o := { dst := some 19, op := Op.makeSlice 84 (Operand.tmp 18) (Operand.tmp 18), type := 84, pos := "l05_node.go:54", after := #[{ on := 5, ground := Ground.data }, { on := 5, ground := Ground.data }], guard := none }) rfl (fun K2 hK2 => ?r6) (AllReadyH.cons (o := { dst := some 6, op := Op.alloc 86, type := 0, pos := "l05_node.go:54", after := #[], guard := none }) rfl (fun K2 hK2 => ?r8) AllReadyH.nil)
    case r6 =>
      go_simp
      have bx := bel_alloc (Below.refl wx.heap.size wx) (.cells zi 152)
      refine hK2.out _ _ True.intro (fun _ => ?_)
      try simp only [List.setIfInBounds_toArray, List.set_cons_zero, List.set_cons_succ]
      exact s_11110.out g14 g15 g17 _ _ (owns_below o14 bx) (owns_below o15 bx) (owns_below o17 bx) (own_last rfl hz19 B.size (by unfold maxLen; omega)) (bel_trans B bx)
    case r8 =>
      go_simp
      have bx := bel_alloc (Below.refl wx.heap.size wx) (.cells #[.int .i64 0, .slice none 0 0, .slice none 0 0, .slice none 0 0, .slice none 0 0] 86)
      refine hK2.out _ _ True.intro (fun _ => ?_)
      try simp only [List.setIfInBounds_toArray, List.set_cons_zero, List.set_cons_succ]
      exact s_11101.out g14 g15 g17 _ _ (owns_below o14 bx) (owns_below o15 bx) (owns_below o17 bx) B.size (Box.new wx #[.int .i64 0, .slice none 0 0, .slice none 0 0, .slice none 0 0, .slice none 0 0] 86) (bel_trans B bx)
  have s_11010 : Hid (∀ (g14 g15 g19 : Nat) (wx : World) (o14 : wx.ownsRow w.heap.size 140 3 (Value.slice (some ⟨g14, 0, none⟩) 6 6) 6 zf.toList) (o15 : wx.ownsRow w.heap.size 145 8 (Value.slice (some ⟨g15, 0, none⟩) 6 6) 6 zh.toList) (o19 : wx.ownsRow w.heap.size 152 1 (Value.slice (some ⟨g19, 0, none⟩) n n) n zi.toList) (B : Below w.heap.size w wx), wpAnyH Try.prog .any implLitOps Q (fun _ => True) 4 #[true, true, true, true, false, true, true, false, false, false] ⟨#[(Value.int .i64 id), (Value.int .i64 n), u2, u3, u4, u5, u6, u7, u8, u9, u10, u11, u12, (Value.int .i64 id), (Value.slice (some ⟨g14, 0, none⟩) 6 6), (Value.slice (some ⟨g15, 0, none⟩) 6 6), (Value.int .i64 n), u17, (Value.int .i64 n), (Value.slice (some ⟨g19, 0, none⟩) n n), u20, u21, u22, u23, u24, u25, u26, u27, u28, u29, u30, u31, u32, u33, u34], []⟩ wx) := by
    intro g14 g15 g19 wx o14 o15 o19 B
    refine wpAnyH_ready (rs := [4, 8]) (by kernel_rfl) (by simp) ?_
    refine AllReadyH.cons (o := { dst := some 17, op := Op.makeSlice 83 (Operand.tmp 16) (Operand.tmp 16), type := 83, pos := "l05_node.go:54", after := #[{ on := 3, ground := Ground.data }, { on := 3, ground := Ground.data }], guard := none }) rfl (fun K2 hK2 => ?r4) (AllReadyH.cons (o := { dst := some 6, op := Op.alloc 86, type := 0, pos := "l05_node.go:54", after := #[], guard := none }) rfl (fun K2 hK2 => ?r8) AllReadyH.nil)
    case r4 =>
      go_simp
      have bx := bel_alloc (Below.refl wx.heap.size wx) (.cells zo 149)
      refine hK2.out _ _ True.intro (fun _ => ?_)
      try simp only [List.setIfInBounds_toArray, List.set_cons_zero, List.set_cons_succ]
      exact s_11110.out g14 g15 _ g19 _ (owns_below o14 bx) (owns_below o15 bx) (own_last rfl hz17 B.size (by unfold maxLen; omega)) (owns_below o19 bx) (bel_trans B bx)
    case r8 =>
      go_simp
      have bx := bel_alloc (Below.refl wx.heap.size wx) (.cells #[.int .i64 0, .slice none 0 0, .slice none 0 0, .slice none 0 0, .slice none 0 0] 86)
      refine hK2.out _ _ True.intro (fun _ => ?_)
      try simp only [List.setIfInBounds_toArray, List.set_cons_zero, List.set_cons_succ]
      exact s_11011.out g14 g15 g19 _ _ (owns_below o14 bx) (owns_below o15 bx) (owns_below o19 bx) B.size (Box.new wx #[.int .i64 0, .slice none 0 0, .slice none 0 0, .slice none 0 0, .slice none 0 0] 86) (bel_trans B bx)
  have s_11001 : Hid (∀ (g14 g15 m : Nat) (wx : World) (o14 : wx.ownsRow w.heap.size 140 3 (Value.slice (some ⟨g14, 0, none⟩) 6 6) 6 zf.toList) (o15 : wx.ownsRow w.heap.size 145 8 (Value.slice (some ⟨g15, 0, none⟩) 6 6) 6 zh.toList) (hm : w.heap.size ≤ m) (X : Box wx m #[.int .i64 0, .slice none 0 0, .slice none 0 0, .slice none 0 0, .slice none 0 0] 86) (B : Below w.heap.size w wx), wpAnyH Try.prog .any implLitOps Q (fun _ => True) 4 #[true, true, true, true, false, true, false, false, true, false] ⟨#[(Value.int .i64 id), (Value.int .i64 n), u2, u3, u4, u5, (Value.pointer (some ⟨m, 0, none⟩)), u7, u8, u9, u10, u11, u12, (Value.int .i64 id), (Value.slice (some ⟨g14, 0, none⟩) 6 6), (Value.slice (some ⟨g15, 0, none⟩) 6 6), (Value.int .i64 n), u17, (Value.int .i64 n), u19, u20, u21, u22, u23, u24, u25, u26, u27, u28, u29, u30, u31, u32, u33, u34], []⟩ wx) := by
    intro g14 g15 m wx o14 o15 hm X B
    refine wpAnyH_ready (rs := [4, 6]) (by kernel_rfl) (by simp) ?_
    refine AllReadyH.cons (o := { dst := some 17, op := Op.makeSlice 83 (Operand.tmp 16) (Operand.tmp 16), type := 83, pos := "l05_node.go:54", after := #[{ on := 3, ground := Ground.data }, { on := 3, ground := Ground.data }], guard := none }) rfl (fun K2 hK2 => ?r4) (AllReadyH.cons (o := { dst := some 19, op := Op.makeSlice 84 (Operand.tmp 18) (Operand.tmp 18), type := 84, pos := "l05_node.go:54", after := #[{ on := 5, ground := Ground.data }, { on := 5, ground := Ground.data }], guard := none }) rfl (fun K2 hK2 => ?r6) AllReadyH.nil)
    case r4 =>
      go_simp
      have bx := bel_alloc (Below.refl wx.heap.size wx) (.cells zo 149)
      refine hK2.out _ _ True.intro (fun _ => ?_)
      try simp only [List.setIfInBounds_toArray, List.set_cons_zero, List.set_cons_succ]
      exact s_11101.out g14 g15 _ m _ (owns_below o14 bx) (owns_below o15 bx) (own_last rfl hz17 B.size (by unfold maxLen; omega)) hm (X.below bx) (bel_trans B bx)
    case r6 =>
      go_simp
      have bx := bel_alloc (Below.refl wx.heap.size wx) (.cells zi 152)
      refine hK2.out _ _ True.intro (fun _ => ?_)
      try simp only [List.setIfInBounds_toArray, List.set_cons_zero, List.set_cons_succ]
      exact s_11011.out g14 g15 _ m _ (owns_below o14 bx) (owns_below o15 bx) (own_last rfl hz19 B.size (by unfold maxLen; omega)) hm (X.below bx) (bel_trans B bx)
  have s_10110 : Hid (∀ (g14 g17 g19 : Nat) (wx : World) (o14 : wx.ownsRow w.heap.size 140 3 (Value.slice (some ⟨g14, 0, none⟩) 6 6) 6 zf.toList) (o17 : wx.ownsRow w.heap.size 149 2 (Value.slice (some ⟨g17, 0, none⟩) n n) n zo.toList) (o19 : wx.ownsRow w.heap.size 152 1 (Value.slice (some ⟨g19, 0, none⟩) n n) n zi.toList) (B : Below w.heap.size w wx), wpAnyH Try.prog .any implLitOps Q (fun _ => True) 4 #[true, true, false, true, true, true, true, false, false, false] ⟨#[(Value.int .i64 id), (Value.int .i64 n), u2, u3, u4, u5, u6, u7, u8, u9, u10, u11, u12, (Value.int .i64 id), (Value.slice (some ⟨g14, 0, none⟩) 6 6), u15, (Value.int .i64 n), (Value.slice (some ⟨g17, 0, none⟩) n n), (Value.int .i64 n), (Value.slice (some ⟨g19, 0, none⟩) n n), u20, u21, u22, u23, u24, u25, u26, u27, u28, u29, u30, u31, u32, u33, u34], []⟩ wx) := by
    intro g14 g17 g19 wx o14 o17 o19 B
    refine wpAnyH_ready (rs := [2, 8]) (by kernel_rfl) (by simp) ?_
    refine AllReadyH.cons (o := { dst := some 15, op := Op.makeSlice 82 (Operand.const (Value.int IntKind.i64 6)) (Operand.const (Value.int IntKind.i64 6)), type := 82, pos := "l05_node.go:54", after := #[], guard := none }) rfl (fun K2 hK2 => ?r2) (AllReadyH.cons (o := { dst := some 6, op := Op.alloc 86, type := 0, pos := "l05_node.go:54", after := #[], guard := none }) rfl (fun K2 hK2 => ?r8) AllReadyH.nil)
    case r2 =>
      go_simp
      have bx := bel_alloc (Below.refl wx.heap.size wx) (.cells zh 145)
      refine hK2.out _ _ True.intro (fun _ => ?_)
      try simp only [List.setIfInBounds_toArray, List.set_cons_zero, List.set_cons_succ]
      exact s_11110.out g14 _ g17 g19 _ (owns_below o14 bx) (own_last rfl hz15 B.size (by unfold maxLen; omega)) (owns_below o17 bx) (owns_below o19 bx) (bel_trans B bx)
    case r8 =>
      go_simp
      have bx := bel_alloc (Below.refl wx.heap.size wx) (.cells #[.int .i64 0, .slice none 0 0, .slice none 0 0, .slice none 0 0, .slice none 0 0] 86)
      refine hK2.out _ _ True.intro (fun _ => ?_)
      try simp only [List.setIfInBounds_toArray, List.set_cons_zero, List.set_cons_succ]
      exact s_10111.out g14 g17 g19 _ _ (owns_below o14 bx) (owns_below o17 bx) (owns_below o19 bx) B.size (Box.new wx #[.int .i64 0, .slice none 0 0, .slice none 0 0, .slice none 0 0, .slice none 0 0] 86) (bel_trans B bx)
  have s_10101 : Hid (∀ (g14 g17 m : Nat) (wx : World) (o14 : wx.ownsRow w.heap.size 140 3 (Value.slice (some ⟨g14, 0, none⟩) 6 6) 6 zf.toList) (o17 : wx.ownsRow w.heap.size 149 2 (Value.slice (some ⟨g17, 0, none⟩) n n) n zo.toList) (hm : w.heap.size ≤ m) (X : Box wx m #[.int .i64 0, .slice none 0 0, .slice none 0 0, .slice none 0 0, .slice none 0 0] 86) (B : Below w.heap.size w wx), wpAnyH Try.prog .any implLitOps Q (fun _ => True) 4 #[true, true, false, true, true, true, false, false, true, false] ⟨#[(Value.int .i64 id), (Value.int .i64 n), u2, u3, u4, u5, (Value.pointer (some ⟨m, 0, none⟩)), u7, u8, u9, u10, u11, u12, (Value.int .i64 id), (Value.slice (some ⟨g14, 0, none⟩) 6 6), u15, (Value.int .i64 n), (Value.slice (some ⟨g17, 0, none⟩) n n), (Value.int .i64 n), u19, u20, u21, u22, u23, u24, u25, u26, u27, u28, u29, u30, u31, u32, u33, u34], []⟩ wx) := by
    intro g14 g17 m wx o14 o17 hm X B
    refine wpAnyH_ready (rs := [2, 6]) (by kernel_rfl) (by simp) ?_
    refine AllReadyH.cons (o := { dst := some 15, op := Op.makeSlice 82 (Operand.const (Value.int IntKind.i64 6)) (Operand.const (Value.int IntKind.i64 6)), type := 82, pos := "l05_node.go:54", after := #[], guard := none }) rfl (fun K2 hK2 => ?r2) (AllReadyH.cons (o := { dst := some 19, op := Op.makeSlice 84 (Operand.tmp 18) (Operand.tmp 18), type := 84, pos := "l05_node.go:54", after := #[{ on := 5, ground := Ground.data }, { on := 5, ground := Ground.data }], guard := none }) rfl (fun K2 hK2 => ?r6) AllReadyH.nil)
    case r2 =>
      go_simp
      have bx := bel_alloc (Below.refl wx.heap.size wx) (.cells zh 145)
      refine hK2.out _ _ True.intro (fun _ => ?_)
      try simp only [List.setIfInBounds_toArray, List.set_cons_zero, List.set_cons_succ]
      exact s_11101.out g14 _ g17 m _ (owns_below o14 bx) (own_last rfl hz15 B.size (by unfold maxLen; omega)) (owns_below o17 bx) hm (X.below bx) (bel_trans B bx)
    case r6 =>
      go_simp
      have bx := bel_alloc (Below.refl wx.heap.size wx) (.cells zi 152)
      refine hK2.out _ _ True.intro (fun _ => ?_)
      try simp only [List.setIfInBounds_toArray, List.set_cons_zero, List.set_cons_succ]
      exact s_10111.out g14 g17 _ m _ (owns_below o14 bx) (owns_below o17 bx) (own_last rfl hz19 B.size (by unfold maxLen; omega)) hm (X.below bx) (bel_trans B bx)
  have s_10011 : Hid (∀ (g14 g19 m : Nat) (wx : World) (o14 : wx.ownsRow w.heap.size 140 3 (Value.slice (some ⟨g14, 0, none⟩) 6 6) 6 zf.toList) (o19 : wx.ownsRow w.heap.size 152 1 (Value.slice (some ⟨g19, 0, none⟩) n n) n zi.toList) (hm : w.heap.size ≤ m) (X : Box wx m #[.int .i64 0, .slice none 0 0, .slice none 0 0, .slice none 0 0, .slice none 0 0] 86) (B : Below w.heap.size w wx), wpAnyH Try.prog .any implLitOps Q (fun _ => True) 4 #[true, true, false, true, false, true, true, false, true, false] ⟨#[(Value.int .i64 id), (Value.int .i64 n), u2, u3, u4, u5, (Value.pointer (some ⟨m, 0, none⟩)), u7, u8, u9, u10, u11, u12, (Value.int .i64 id), (Value.slice (some ⟨g14, 0, none⟩) 6 6), u15, (Value.int .i64 n), u17, (Value.int .i64 n), (Value.slice (some ⟨g19, 0, none⟩) n n), u20, u21, u22, u23, u24, u25, u26, u27, u28, u29, u30, u31, u32, u33, u34], []⟩ wx) := by
    intro g14 g19 m wx o14 o19 hm X B
    refine wpAnyH_ready (rs := [2, 4]) (by kernel_rfl) (by simp) ?_
    refine AllReadyH.cons (o := { dst := some 15, op := Op.makeSlice 82 (Operand.const (Value.int IntKind.i64 6)) (Operand.const (Value.int IntKind.i64 6)), type := 82, pos := "l05_node.go:54", after := #[], guard := none }) rfl (fun K2 hK2 => ?r2) (AllReadyH.cons (o := { dst := some 17, op := Op.makeSlice 83 (Operand.tmp 16) (Operand.tmp 16), type := 83, pos := "l05_node.go:54", after := #[{ on := 3, ground := Ground.data }, { on := 3, ground := Ground.data }], guard := none }) rfl (fun K2 hK2 => ?r4) AllReadyH.nil)
    case r2 =>
      go_simp
      have bx := bel_alloc (Below.refl wx.heap.size wx) (.cells zh 145)
      refine hK2.out _ _ True.intro (fun _ => ?_)
      try simp only [List.setIfInBounds_toArray, List.set_cons_zero, List.set_cons_succ]
      exact s_11011.out g14 _ g19 m _ (owns_below o14 bx) (own_last rfl hz15 B.size (by unfold maxLen; omega)) (owns_below o19 bx) hm (X.below bx) (bel_trans B bx)
    case r4 =>
      go_simp
      have bx := bel_alloc (Below.refl wx.heap.size wx) (.cells zo 149)
      refine hK2.out _ _ True.intro (fun _ => ?_)
      try simp only [List.setIfInBounds_toArray, List.set_cons_zero, List.set_cons_succ]
      exact s_10111.out g14 _ g19 m _ (owns_below o14 bx) (own_last rfl hz17 B.size (by unfold maxLen; omega)) (owns_below o19 bx) hm (X.below bx) (bel_trans B bx)
  have s_01110 : Hid (∀ (g15 g17 g19 : Nat) (wx : World) (o15 : wx.ownsRow w.heap.size 145 8 (Value.slice (some ⟨g15, 0, none⟩) 6 6) 6 zh.toList) (o17 : wx.ownsRow w.heap.size 149 2 (Value.slice (some ⟨g17, 0, none⟩) n n) n zo.toList) (o19 : wx.ownsRow w.heap.size 152 1 (Value.slice (some ⟨g19, 0, none⟩) n n) n zi.toList) (B : Below w.heap.size w wx), wpAnyH Try.prog .any implLitOps Q (fun _ => True) 4 #[true, false, true, true, true, true, true, false, false, false] ⟨#[(Value.int .i64 id), (Value.int .i64 n), u2, u3, u4, u5, u6, u7, u8, u9, u10, u11, u12, (Value.int .i64 id), u14, (Value.slice (some ⟨g15, 0, none⟩) 6 6), (Value.int .i64 n), (Value.slice (some ⟨g17, 0, none⟩) n n), (Value.int .i64 n), (Value.slice (some ⟨g19, 0, none⟩) n n), u20, u21, u22, u23, u24, u25, u26, u27, u28, u29, u30, u31, u32, u33, u34], []⟩ wx) := by
    intro g15 g17 g19 wx o15 o17 o19 B
    refine wpAnyH_ready (rs := [1, 8]) (by kernel_rfl) (by simp) ?_
    refine AllReadyH.cons (o := { dst := some 14, op := Op.makeSlice 81 (Operand.const (Value.int IntKind.i64 6)) (Operand.const (Value.int IntKind.i64 6)), type := 81, pos := "l05_node.go:54", after := #[], guard := none }) rfl (fun K2 hK2 => ?r1) (AllReadyH.cons (o := { dst := some 6, op := Op.alloc 86, type := 0, pos := "l05_node.go:54", after := #[], guard := none }) rfl (fun K2 hK2 => ?r8) AllReadyH.nil)
    case r1 =>
      go_simp
      have bx := bel_alloc (Below.refl wx.heap.size wx) (.cells zf 140)
      refine hK2.out _ _ True.intro (fun _ => ?_)
      try simp only [List.setIfInBounds_toArray, List.set_cons_zero, List.set_cons_succ]
      exact s_11110.out _ g15 g17 g19 _ (own_last rfl hz14 B.size (by unfold maxLen; omega)) (owns_below o15 bx) (owns_below o17 bx) (owns_below o19 bx) (bel_trans B bx)
    case r8 =>
      go_simp
      have bx := bel_alloc (Below.refl wx.heap.size wx) (.cells #[.int .i64 0, .slice none 0 0, .slice none 0 0, .slice none 0 0, .slice none 0 0] 86)
      refine hK2.out _ _ True.intro (fun _ => ?_)
      try simp only [List.setIfInBounds_toArray, List.set_cons_zero, List.set_cons_succ]
      exact s_01111.out g15 g17 g19 _ _ (owns_below o15 bx) (owns_below o17 bx) (owns_below o19 bx) B.size (Box.new wx #[.int .i64 0, .slice none 0 0, .slice none 0 0, .slice none 0 0, .slice none 0 0] 86) (bel_trans B bx)
  have s_01101 : Hid (∀ (g15 g17 m : Nat) (wx : World) (o15 : wx.ownsRow w.heap.size 145 8 (Value.slice (some ⟨g15, 0, none⟩) 6 6) 6 zh.toList) (o17 : wx.ownsRow w.heap.size 149 2 (Value.slice (some ⟨g17, 0, none⟩) n n) n zo.toList) (hm : w.heap.size ≤ m) (X : Box wx m #[.int .i64 0, .slice none 0 0, .slice none 0 0, .slice none 0 0, .slice none 0 0] 86) (B : Below w.heap.size w wx), wpAnyH Try.prog .any implLitOps Q (fun _ => True) 4 #[true, false, true, true, true, true, false, false, true, false] ⟨#[(Value.int .i64 id), (Value.int .i64 n), u2, u3, u4, u5, (Value.pointer (some ⟨m, 0, none⟩)), u7, u8, u9, u10, u11, u12, (Value.int .i64 id), u14, (Value.slice (some ⟨g15, 0, none⟩) 6 6), (Value.int .i64 n), (Value.slice (some ⟨g17, 0, none⟩) n n), (Value.int .i64 n), u19, u20, u21, u22, u23, u24, u25, u26, u27, u28, u29, u30, u31, u32, u33, u34], []⟩ wx) := by
    intro g15 g17 m wx o15 o17 hm X B
    refine wpAnyH_ready (rs := [1, 6]) (by kernel_rfl) (by simp) ?_
    refine AllReadyH.cons (o := { dst := some 14, op := Op.makeSlice 81 (Operand.const (Value.int IntKind.i64 6)) (Operand.const (Value.int IntKind.i64 6)), type := 81, pos := "l05_node.go:54", after := #[], guard := none }) rfl (fun K2 hK2 => ?r1) (AllReadyH.cons (o := { dst := some 19, op := Op.makeSlice 84 (Operand.tmp 18) (Operand.tmp 18), type := 84, pos := "l05_node.go:54", after := #[{ on := 5, ground := Ground.data }, { on := 5, ground := Ground.data }], guard := none }) rfl (fun K2 hK2 => ?r6) AllReadyH.nil)
    case r1 =>
      go_simp
      have bx := bel_alloc (Below.refl wx.heap.size wx) (.cells zf 140)
      refine hK2.out _ _ True.intro (fun _ => ?_)
      try simp only [List.setIfInBounds_toArray, List.set_cons_zero, List.set_cons_succ]
      exact s_11101.out _ g15 g17 m _ (own_last rfl hz14 B.size (by unfold maxLen; omega)) (owns_below o15 bx) (owns_below o17 bx) hm (X.below bx) (bel_trans B bx)
    case r6 =>
      go_simp
      have bx := bel_alloc (Below.refl wx.heap.size wx) (.cells zi 152)
      refine hK2.out _ _ True.intro (fun _ => ?_)
      try simp only [List.setIfInBounds_toArray, List.set_cons_zero, List.set_cons_succ]
      exact s_01111.out g15 g17 _ m _ (owns_below o15 bx) (owns_below o17 bx) (own_last rfl hz19 B.size (by unfold maxLen; omega)) hm (X.below bx) (bel_trans B bx)
  have s_01011 : Hid (∀ (g15 g19 m : Nat) (wx : World) (o15 : wx.ownsRow w.heap.size 145 8 (Value.slice (some ⟨g15, 0, none⟩) 6 6) 6 zh.toList) (o19 : wx.ownsRow w.heap.size 152 1 (Value.slice (some ⟨g19, 0, none⟩) n n) n zi.toList) (hm : w.heap.size ≤ m) (X : Box wx m #[.int .i64 0, .slice none 0 0, .slice none 0 0, .slice none 0 0, .slice none 0 0] 86) (B : Below w.heap.size w wx), wpAnyH Try.prog .any implLitOps Q (fun _ => True) 4 #[true, false, true, true, false, true, true, false, true, false] ⟨#[(Value.int .i64 id), (Value.int .i64 n), u2, u3, u4, u5, (Value.pointer (some ⟨m, 0, none⟩)), u7, u8, u9, u10, u11, u12, (Value.int .i64 id), u14, (Value.slice (some ⟨g15, 0, none⟩) 6 6), (Value.int .i64 n), u17, (Value.int .i64 n), (Value.slice (some ⟨g19, 0, none⟩) n n), u20, u21, u22, u23, u24, u25, u26, u27, u28, u29, u30, u31, u32, u33, u34], []⟩ wx) := by
    intro g15 g19 m wx o15 o19 hm X B
    refine wpAnyH_ready (rs := [1, 4]) (by kernel_rfl) (by simp) ?_
    refine AllReadyH.cons (o := { dst := some 14, op := Op.makeSlice 81 (Operand.const (Value.int IntKind.i64 6)) (Operand.const (Value.int IntKind.i64 6)), type := 81, pos := "l05_node.go:54", after := #[], guard := none }) rfl (fun K2 hK2 => ?r1) (AllReadyH.cons (o := { dst := some 17, op := Op.makeSlice 83 (Operand.tmp 16) (Operand.tmp 16), type := 83, pos := "l05_node.go:54", after := #[{ on := 3, ground := Ground.data }, { on := 3, ground := Ground.data }], guard := none }) rfl (fun K2 hK2 => ?r4) AllReadyH.nil)
    case r1 =>
      go_simp
      have bx := bel_alloc (Below.refl wx.heap.size wx) (.cells zf 140)
      refine hK2.out _ _ True.intro (fun _ => ?_)
      try simp only [List.setIfInBounds_toArray, List.set_cons_zero, List.set_cons_succ]
      exact s_11011.out _ g15 g19 m _ (own_last rfl hz14 B.size (by unfold maxLen; omega)) (owns_below o15 bx) (owns_below o19 bx) hm (X.below bx) (bel_trans B bx)
    case r4 =>
      go_simp
      have bx := bel_alloc (Below.refl wx.heap.size wx) (.cells zo 149)
      refine hK2.out _ _ True.intro (fun _ => ?_)
      try simp only [List.setIfInBounds_toArray, List.set_cons_zero, List.set_cons_succ]
      exact s_01111.out g15 _ g19 m _ (owns_below o15 bx) (own_last rfl hz17 B.size (by unfold maxLen; omega)) (owns_below o19 bx) hm (X.below bx) (bel_trans B bx)
  have s_00111 : Hid (∀ (g17 g19 m : Nat) (wx : World) (o17 : wx.ownsRow w.heap.size 149 2 (Value.slice (some ⟨g17, 0, none⟩) n n) n zo.toList) (o19 : wx.ownsRow w.heap.size 152 1 (Value.slice (some ⟨g19, 0, none⟩) n n) n zi.toList) (hm : w.heap.size ≤ m) (X : Box wx m #[.int .i64 0, .slice none 0 0, .slice none 0 0, .slice none 0 0, .slice none 0 0] 86) (B : Below w.heap.size w wx), wpAnyH Try.prog .any implLitOps Q (fun _ => True) 4 #[true, false, false, true, true, true, true, false, true, false] ⟨#[(Value.int .i64 id), (Value.int .i64 n), u2, u3, u4, u5, (Value.pointer (some ⟨m, 0, none⟩)), u7, u8, u9, u10, u11, u12, (Value.int .i64 id), u14, u15, (Value.int .i64 n), (Value.slice (some ⟨g17, 0, none⟩) n n), (Value.int .i64 n), (Value.slice (some ⟨g19, 0, none⟩) n n), u20, u21, u22, u23, u24, u25, u26, u27, u28, u29, u30, u31, u32, u33, u34], []⟩ wx) := by
    intro g17 g19 m wx o17 o19 hm X B
    refine wpAnyH_ready (rs := [1, 2]) (by kernel_rfl) (by simp) ?_
    refine AllReadyH.cons (o := { dst := some 14, op := Op.makeSlice 81 (Operand.const (Value.int IntKind.i64 6)) (Operand.const (Value.int IntKind.i64 6)), type := 81, pos := "l05_node.go:54", after := #[], guard := none }) rfl (fun K2 hK2 => ?r1) (AllReadyH.cons (o := { dst := some 15, op := Op.makeSlice 82 (Operand.const (Value.int IntKind.i64 6)) (Operand.const (Value.int IntKind.i64 6)), type := 82, pos := "l05_node.go:54", after := #[], guard := none }) rfl (fun K2 hK2 => ?r2) AllReadyH.nil)
    case r1 =>
      go_simp
      have bx := bel_alloc (Below.refl wx.heap.size wx) (.cells zf 140)
      refine hK2.out _ _ True.intro (fun _ => ?_)
      try simp only [List.setIfInBounds_toArray, List.set_cons_zero, List.set_cons_succ]
      exact s_10111.out _ g17 g19 m _ (own_last rfl hz14 B.size (by unfold maxLen; omega)) (owns_below o17 bx) (owns_below o19 bx) hm (X.below bx) (bel_trans B bx)
    case r2 =>
      go_simp
      have bx := bel_alloc (Below.refl wx.heap.size wx) (.cells zh 145)
      refine hK2.out _ _ True.intro (fun _ => ?_)
      try simp only [List.setIfInBounds_toArray, List.set_cons_zero, List.set_cons_succ]
      exact s_01111.out _ g17 g19 m _ (own_last rfl hz15 B.size (by unfold maxLen; omega)) (owns_below o17 bx) (owns_below o19 bx) hm (X.below bx) (bel_trans B bx)
  have s_11000 : Hid (∀ (g14 g15 : Nat) (wx : World) (o14 : wx.ownsRow w.heap.size 140 3 (Value.slice (some ⟨g14, 0, none⟩) 6 6) 6 zf.toList) (o15 : wx.ownsRow w.heap.size 145 8 (Value.slice (some ⟨g15, 0, none⟩) 6 6) 6 zh.toList) (B : Below w.heap.size w wx), wpAnyH Try.prog .any implLitOps Q (fun _ => True) 5 #[true, true, true, true, false, true, false, false, false, false] ⟨#[(Value.int .i64 id), (Value.int .i64 n), u2, u3, u4, u5, u6, u7, u8, u9, u10, u11, u12, (Value.int .i64 id), (Value.slice (some ⟨g14, 0, none⟩) 6 6), (Value.slice (some ⟨g15, 0, none⟩) 6 6), (Value.int .i64 n), u17, (Value.int .i64 n), u19, u20, u21, u22, u23, u24, u25, u26, u27, u28, u29, u30, u31, u32, u33, u34], []⟩ wx) := by
    intro g14 g15 wx o14 o15 B
    refine wpAnyH_ready (rs := [4, 6, 8]) (by kernel_rfl) (by simp) ?_
    refine AllReadyH.cons (o := { dst := some 17, op := Op.makeSlice 83 (Operand.tmp 16) (Operand.tmp 16), type := 83, pos := "l05_node.go:54", after := #[{ on := 3, ground := Ground.data }, { on := 3, ground := Ground.data }], guard := none }) rfl (fun K2 hK2 => ?r4) (AllReadyH.cons (o := { dst := some 19, op := Op.makeSlice 84 (Operand.tmp 18) (Operand.tmp 18), type := 84, pos := "l05_node.go:54", after := #[{ on := 5, ground := Ground.data }, { on := 5, ground := Ground.data }], guard := none }) rfl (fun K2 hK2 => ?r6) (AllReadyH.cons (o := { dst := some 6, op := Op.alloc 86, type := 0, pos := "l05_node.go:54", after := #[], guard := none }) rfl (fun K2 hK2 => ?r8) AllReadyH.nil))
    case r4 =>
      go_simp
      have bx := bel_alloc (Below.refl wx.heap.size wx) (.cells zo 149)
      refine hK2.out _ _ True.intro (fun _ => ?_)
      try simp only [List.setIfInBounds_toArray, List.set_cons_zero, List.set_cons_succ]
      exact s_11100.out g14 g15 _ _ (owns_below o14 bx) (owns_below o15 bx) (own_last rfl hz17 B.size (by unfold maxLen; omega)) (bel_trans B bx)
    case r6 =>
      go_simp
      have bx := bel_alloc (Below.refl wx.heap.size wx) (.cells zi 152)
      refine hK2.out _ _ True.intro (fun _ => ?_)
      try simp only [List.setIfInBounds_toArray, List.set_cons_zero, List.set_cons_succ]
      exact s_11010.out g14 g15 _ _ (owns_below o14 bx) (owns_below o15 bx) (own_last rfl hz19 B.size (by unfold maxLen; omega)) (bel_trans B bx)
    case r8 =>
      go_simp
      have bx := bel_alloc (Below.refl wx.heap.size wx) (.cells #[.int .i64 0, .slice none 0 0, .slice none 0 0, .slice none 0 0, .slice none 0 0] 86)
      refine hK2.out _ _ True.intro (fun _ => ?_)
      try simp only [List.setIfInBounds_toArray, List.set_cons_zero, List.set_cons_succ]
      exact s_11001.out g14 g15 _ _ (owns_below o14 bx) (owns_below o15 bx) B.size (Box.new wx #[.int .i64 0, .slice none 0 0, .slice none 0 0, .slice none 0 0, .slice none 0 0] 86) (bel_trans B bx)
  have s_10100 : Hid (∀ (g14 g17 : Nat) (wx : World) (o14 : wx.ownsRow w.heap.size 140 3 (Value.slice (some ⟨g14, 0, none⟩) 6 6) 6 zf.toList) (o17 : wx.ownsRow w.heap.size 149 2 (Value.slice (some ⟨g17, 0, none⟩) n n) n zo.toList) (B : Below w.heap.size w wx), wpAnyH Try.prog .any implLitOps Q (fun _ => True) 5 #[true, true, false, true, true, true, false, false, false, false] ⟨#[(Value.int .i64 id), (Value.int .i64 n), u2, u3, u4, u5, u6, u7, u8, u9, u10, u11, u12, (Value.int .i64 id), (Value.slice (some ⟨g14, 0, none⟩) 6 6), u15, (Value.int .i64 n), (Value.slice (some ⟨g17, 0, none⟩) n n), (Value.int .i64 n), u19, u20, u21, u22, u23, u24, u25, u26, u27, u28, u29, u30, u31, u32, u33, u34], []⟩ wx) := by
    intro g14 g17 wx o14 o17 B
    refine wpAnyH_ready (rs := [2, 6, 8]) (by kernel_rfl) (by simp) ?_
    refine AllReadyH.cons (o := { dst := some 15, op := Op.makeSlice 82 (Operand.const (Value.int IntKind.i64 6)) (Operand.const (Value.int IntKind.i64 6)), type := 82, pos := "l05_node.go:54", after := #[], guard := none }) rfl (fun K2 hK2 => ?r2) (AllReadyH.cons (o := { dst := some 19, op := Op.makeSlice 84 (Operand.tmp 18) (Operand.tmp 18), type := 84, pos := "l05_node.go:54", after := #[{ on := 5, ground := Ground.data }, { on := 5, ground := Ground.data }], guard := none }) rfl (fun K2 hK2 => ?r6) (AllReadyH.cons (o := { dst := some 6, op := Op.alloc 86, type := 0, pos := "l05_node.go:54", after := #[], guard := none }) rfl (fun K2 hK2 => ?r8) AllReadyH.nil))
    case r2 =>
      go_simp
      have bx := bel_alloc (Below.refl wx.heap.size wx) (.cells zh 145)
      refine hK2.out _ _ True.intro (fun _ => ?_)
      try simp only [List.setIfInBounds_toArray, List.set_cons_zero, List.set_cons_succ]
      exact s_11100.out g14 _ g17 _ (owns_below o14 bx) (own_last rfl hz15 B.size (by unfold maxLen; omega)) (owns_below o17 bx) (bel_trans B bx)
    case r6 =>
      go_simp
      have bx := bel_alloc (Below.refl wx.heap.size wx) (.cells zi 152)
      refine hK2.out _ _ True.intro (fun _ => ?_)
      try simp only [List.setIfInBounds_toArray, List.set_cons_zero, List.set_cons_succ]
      exact s_10110.out g14 g17 _ _ (owns_below o14 bx) (owns_below o17 bx) (own_last rfl hz19 B.size (by unfold maxLen; omega)) (bel_trans B bx)
    case r8 =>
      go_simp
      have bx := bel_alloc (Below.refl wx.heap.size wx) (.cells #[.int .i64 0, .slice none 0 0, .slice none 0 0, .slice none 0 0, .slice none 0 0] 86)
      refine hK2.out _ _ True.intro (fun _ => ?_)
      try simp only [List.setIfInBounds_toArray, List.set_cons_zero, List.set_cons_succ]
      exact s_10101.out g14 g17 _ _ (owns_below o14 bx) (owns_below o17 bx) B.size (Box.new wx #[.int .i64 0, .slice none 0 0, .slice none 0 0, .slice none 0 0, .slice none 0 0] 86) (bel_trans B bx)
  have s_10010 : Hid (∀ (g14 g19 : Nat) (wx : World) (o14 : wx.ownsRow w.heap.size 140 3 (Value.slice (some ⟨g14, 0, none⟩) 6 6) 6 zf.toList) (o19 : wx.ownsRow w.heap.size 152 1 (Value.slice (some ⟨g19, 0, none⟩) n n) n zi.toList) (B : Below w.heap.size w wx), wpAnyH Try.prog .any implLitOps Q (fun _ => True) 5 #[true, true, false, true, false, true, true, false, false, false] ⟨#[(Value.int .i64 id), (Value.int .i64 n), u2, u3, u4, u5, u6, u7, u8, u9, u10, u11, u12, (Value.int .i64 id), (Value.slice (some ⟨g14, 0, none⟩) 6 6), u15, (Value.int .i64 n), u17, (Value.int .i64 n), (Value.slice (some ⟨g19, 0, none⟩) n n), u20, u21, u22, u23, u24, u25, u26, u27, u28, u29, u30, u31, u32, u33, u34], []⟩ wx) := by
    intro g14 g19 wx o14 o19 B
    refine wpAnyH_ready (rs := [2, 4, 8]) (by kernel_rfl) (by simp) ?_
    refine AllReadyH.cons (o := { dst := some 15, op := Op.makeSlice 82 (Operand.const (Value.int IntKind.i64 6)) (Operand.const (Value.int IntKind.i64 6)), type := 82, pos := "l05_node.go:54", after := #[], guard := none }) rfl (fun K2 hK2 => ?r2) (AllReadyH.cons (o := { dst := some 17, op := Op.makeSlice 83 (Operand.tmp 16) (Operand.tmp 16), type := 83, pos := "l05_node.go:54", after := #[{ on := 3, ground := Ground.data }, { on := 3, ground := Ground.data }], guard := none }) rfl (fun K2 hK2 => ?r4) (AllReadyH.cons (o := { dst := some 6, op := Op.alloc 86, type := 0, pos := "l05_node.go:54", after := #[], guard := none }) rfl (fun K2 hK2 => ?r8) AllReadyH.nil))
    case r2 =>
      go_simp
      have bx := bel_alloc (Below.refl wx.heap.size wx) (.cells zh 145)
      refine hK2.out _ _ True.intro (fun _ => ?_)
      try simp only [List.setIfInBounds_toArray, List.set_cons_zero, List.set_cons_succ]
      exact s_11010.out g14 _ g19 _ (owns_below o14 bx) (own_last rfl hz15 B.size (by unfold maxLen; omega)) (owns_below o19 bx) (bel_trans B bx)
    case r4 =>
      go_simp
      have bx := bel_alloc (Below.refl wx.heap.size wx) (.cells zo 149)
      refine hK2.out _ _ True.intro (fun _ => ?_)
      try simp only [List.setIfInBounds_toArray, List.set_cons_zero, List.set_cons_succ]
      exact s_10110.out g14 _ g19 _ (owns_below o14 bx) (own_last rfl hz17 B.size (by unfold maxLen; omega)) (owns_below o19 bx) (bel_trans B bx)
    case r8 =>
      go_simp
      have bx := bel_alloc (Below.refl wx.heap.size wx) (.cells #[.int .i64 0, .slice none 0 0, .slice none 0 0, .slice none 0 0, .slice none 0 0] 86)
      refine hK2.out _ _ True.intro (fun _ => ?_)
      try simp only [List.setIfInBounds_toArray, List.set_cons_zero, List.set_cons_succ]
      exact s_10011.out g14 g19 _ _ (owns_below o14 bx) (owns_below o19 bx) B.size (Box.new wx #[.int .i64 0, .slice none 0 0, .slice none 0 0, .slice none 0 0, .slice none 0 0] 86) (bel_trans B bx)
  have s_10001 : Hid (∀ (g14 m : Nat) (wx : World) (o14 : wx.ownsRow w.heap.size 140 3 (Value.slice (some ⟨g14, 0, none⟩) 6 6) 6 zf.toList) (hm : w.heap.size ≤ m) (X : Box wx m #[.int .i64 0, .slice none 0 0, .slice none 0 0, .slice none 0 0, .slice none 0 0] 86) (B : Below w.heap.size w wx), wpAnyH Try.prog .any implLitOps Q (fun _ => True) 5 #[true, true, false, true, false, true, false, false, true, false] ⟨#[(Value.int .i64 id), (Value.int .i64 n), u2, u3, u4, u5, (Value.pointer (some ⟨m, 0, none⟩)), u7, u8, u9, u10, u11, u12, (Value.int .i64 id), (Value.slice (some ⟨g14, 0, none⟩) 6 6), u15, (Value.int .i64 n), u17, (Value.int .i64 n), u19, u20, u21, u22, u23, u24, u25, u26, u27, u28, u29, u30, u31, u32, u33, u34], []⟩ wx) := by
    intro g14 m wx o14 hm X B
    refine wpAnyH_ready (rs := [2, 4, 6]) (by kernel_rfl) (by simp) ?_
    refine AllReadyH.cons (o := { dst := some 15, op := Op.makeSlice 82 (Operand.const (Value.int IntKind.i64 6)) (Operand.const (Value.int IntKind.i64 6)), type := 82, pos := "l05_node.go:54", after := #[], guard := none }) rfl (fun K2 hK2 => ?r2) (AllReadyH.cons (o := { dst := some 17, op := Op.makeSlice 83 (Operand.tmp 16) (Operand.tmp 16), type := 83, pos := "l05_node.go:54", after := #[{ on := 3, ground := Ground.data }, { on := 3, ground := Ground.data }], guard := none }) rfl (fun K2 hK2 => ?r4) (AllReadyH.cons (o := { dst := some 19, op := Op.makeSlice 84 (Operand.tmp 18) (Operand.tmp 18), type := 84, pos := "l05_node.go:54", after := #[{ on := 5, ground := Ground.data }, { on := 5, ground := Ground.data }], guard := none }) rfl (fun K2 hK2 => ?r6) AllReadyH.nil))
    case r2 =>
      go_simp
      have bx := bel_alloc (Below.refl wx.heap.size wx) (.cells zh 145)
      refine hK2.out _ _ True.intro (fun _ => ?_)
      try simp only [List.setIfInBounds_toArray, List.set_cons_zero, List.set_cons_succ]
      exact s_11001.out g14 _ m _ (owns_below o14 bx) (own_last rfl hz15 B.size (by unfold maxLen; omega)) hm (X.below bx) (bel_trans B bx)
    case r4 =>
      go_simp
      have bx := bel_alloc (Below.refl wx.heap.size wx) (.cells zo 149)
      refine hK2.out _ _ True.intro (fun _ => ?_)
      try simp only [List.setIfInBounds_toArray, List.set_cons_zero, List.set_cons_succ]
      exact s_10101.out g14 _ m _ (owns_below o14 bx) (own_last rfl hz17 B.size (by unfold maxLen; omega)) hm (X.below bx) (bel_trans B bx)
    case r6 =>
      go_simp
      have bx := bel_alloc (Below.refl wx.heap.size wx) (.cells zi 152)
      refine hK2.out _ _ True.intro (fun _ => ?_)
      try simp only [List.setIfInBounds_toArray, List.set_cons_zero, List.set_cons_succ]
      exact s_10011.out g14 _ m _ (owns_below o14 bx) (own_last rfl hz19 B.size (by unfold maxLen; omega)) hm (X.below bx) (bel_trans B bx)
  have s_01100 : Hid (∀ (g15 g17 : Nat) (wx : World) (o15 : wx.ownsRow w.heap.size 145 8 (Value.slice (some ⟨g15, 0, none⟩) 6 6) 6 zh.toList) (o17 : wx.ownsRow w.heap.size 149 2 (Value.slice (some ⟨g17, 0, none⟩) n n) n zo.toList) (B : Below w.heap.size w wx), wpAnyH Try.prog .any implLitOps Q (fun _ => True) 5 #[true, false, true, true, true, true, false, false, false, false] ⟨#[(Value.int .i64 id), (Value.int .i64 n), u2, u3, u4, u5, u6, u7, u8, u9, u10, u11, u12, (Value.int .i64 id), u14, (Value.slice (some ⟨g15, 0, none⟩) 6 6), (Value.int .i64 n), (Value.slice (some ⟨g17, 0, none⟩) n n), (Value.int .i64 n), u19, u20, u21, u22, u23, u24, u25, u26, u27, u28, u29, u30, u31, u32, u33, u34], []⟩ wx) := by
    intro g15 g17 wx o15 o17 B
    refine wpAnyH_ready (rs := [1, 6, 8]) (by kernel_rfl) (by simp) ?_
    refine AllReadyH.cons (o := { dst := some 14, op := Op.makeSlice 81 (Operand.const (Value.int IntKind.i64 6)) (Operand.const (Value.int IntKind.i64 6)), type := 81, pos := "l05_node.go:54", after := #[], guard := none }) rfl (fun K2 hK2 => ?r1) (AllReadyH.cons (o := { dst := some 19, op := Op.makeSlice 84 (Operand.tmp 18) (Operand.tmp 18), type := 84, pos := "l05_node.go:54", after := #[{ on := 5, ground := Ground.data }, { on := 5, ground := Ground.data }], guard := none }) rfl (fun K2 hK2 => ?r6) (AllReadyH.cons (o := { dst := some 6, op := Op.alloc 86, type := 0, pos := "l05_node.go:54", after := #[], guard := none }) rfl (fun K2 hK2 => ?r8) AllReadyH.nil))
    case r1 =>
      go_simp
      have bx := bel_alloc (Below.refl wx.heap.size wx) (.cells zf 140)
      refine hK2.out _ _ True.intro (fun _ => ?_)
      try simp only [List.setIfInBounds_toArray, List.set_cons_zero, List.set_cons_succ]
      exact s_11100.out _ g15 g17 _ (own_last rfl hz14 B.size (by unfold maxLen; omega)) (owns_below o15 bx) (owns_below o17 bx) (bel_trans B bx)
    case r6 =>
      go_simp
      have bx := bel_alloc (Below.refl wx.heap.size wx) (.cells zi 152)
      refine hK2.out _ _ True.intro (fun _ => ?_)
      try simp only [List.setIfInBounds_toArray, List.set_cons_zero, List.set_cons_succ]
      exact s_01110.out g15 g17 _ _ (owns_below o15 bx) (owns_below o17 bx) (own_last rfl hz19 B.size (by unfold maxLen; omega)) (bel_trans B bx)
    case r8 =>
      go_simp
      have bx := bel_alloc (Below.refl wx.heap.size wx) (.cells #[.int .i64 0, .slice none 0 0, .slice none 0 0, .slice none 0 0, .slice none 0 0] 86)
      refine hK2.out _ _ True.intro (fun _ => ?_)
      try simp only [List.setIfInBounds_toArray, List.set_cons_zero, List.set_cons_succ]
      exact s_01101.out g15 g17 _ _ (owns_below o15 bx) (owns_below o17 bx) B.size (Box.new wx #[.int .i64 0, .slice none 0 0, .slice none 0 0, .slice none 0 0, .slice none 0 0] 86) (bel_trans B bx)
  have s_01010 : Hid (∀ (g15 g19 : Nat) (wx : World) (o15 : wx.ownsRow w.heap.size 145 8 (Value.slice (some ⟨g15, 0, none⟩) 6 6) 6 zh.toList) (o19 : wx.ownsRow w.heap.size 152 1 (Value.slice (some ⟨g19, 0, none⟩) n n) n zi.toList) (B : Below w.heap.size w wx), wpAnyH Try.prog .any implLitOps Q (fun _ => True) 5 #[true, false, true, true, false, true, true, false, false, false] ⟨#[(Value.int .i64 id), (Value.int .i64 n), u2, u3, u4, u5, u6, u7, u8, u9, u10, u11, u12, (Value.int .i64 id), u14, (Value.slice (some ⟨g15, 0, none⟩) 6 6), (Value.int .i64 n), u17, (Value.int .i64 n), (Value.slice (some ⟨g19, 0, none⟩) n n), u20, u21, u22, u23, u24, u25, u26, u27, u28, u29, u30, u31, u32, u33, u34], []⟩ wx) := by
    intro g15 g19 wx o15 o19 B
    refine wpAnyH_ready (rs := [1, 4, 8]) (by kernel_rfl) (by simp) ?_
    refine AllReadyH.cons (o := { dst := some 14, op := Op.makeSlice 81 (Operand.const (Value.int IntKind.i64 6)) (Operand.const (Value.int IntKind.i64 6)), type := 81, pos := "l05_node.go:54", after := #[], guard := none }) rfl (fun K2 hK2 => ?r1) (AllReadyH.cons (o := { dst := some 17, op := Op.makeSlice 83 (Operand.tmp 16) (Operand.tmp 16), type := 83, pos := "l05_node.go:54", after := #[{ on := 3, ground := Ground.data }, { on := 3, ground := Ground.data }], guard := none }) rfl (fun K2 hK2 => ?r4) (AllReadyH.cons (o := { dst := some 6, op := Op.alloc 86, type := 0, pos := "l05_node.go:54", after := #[], guard := none }) rfl (fun K2 hK2 => ?r8) AllReadyH.nil))
    case r1 =>
      go_simp
      have bx := bel_alloc (Below.refl wx.heap.size wx) (.cells zf 140)
      refine hK2.out _ _ True.intro (fun _ => ?_)
      try simp only [List.setIfInBounds_toArray, List.set_cons_zero, List.set_cons_succ]
      exact s_11010.out _ g15 g19 _ (own_last rfl hz14 B.size (by unfold maxLen; omega)) (owns_below o15 bx) (owns_below o19 bx) (bel_trans B bx)
    case r4 =>
      go_simp
      have bx := bel_alloc (Below.refl wx.heap.size wx) (.cells zo 149)
      refine hK2.out _ _ True.intro (fun _ => ?_)
      try simp only [List.setIfInBounds_toArray, List.set_cons_zero, List.set_cons_succ]
      exact s_01110.out g15 _ g19 _ (owns_below o15 bx) (own_last rfl hz17 B.size (by unfold maxLen; omega)) (owns_below o19 bx) (bel_trans B bx)
    case r8 =>
      go_simp
      have bx := bel_alloc (Below.refl wx.heap.size wx) (.cells #[.int .i64 0, .slice none 0 0, .slice none 0 0, .slice none 0 0, .slice none 0 0] 86)
      refine hK2.out _ _ True.intro (fun _ => ?_)
      try simp only [List.setIfInBounds_toArray, List.set_cons_zero, List.set_cons_succ]
      exact s_01011.out g15 g19 _ _ (owns_below o15 bx) (owns_below o19 bx) B.size (Box.new wx #[.int .i64 0, .slice none 0 0, .slice none 0 0, .slice none 0 0, .slice none 0 0] 86) (bel_trans B bx)
  have s_01001 : Hid (∀ (g15 m : Nat) (wx : World) (o15 : wx.ownsRow w.heap.size 145 8 (Value.slice (some ⟨g15, 0, none⟩) 6 6) 6 zh.toList) (hm : w.heap.size ≤ m) (X : Box wx m #[.int .i64 0, .slice none 0 0, .slice none 0 0, .slice none 0 0, .slice none 0 0] 86) (B : Below w.heap.size w wx), wpAnyH Try.prog .any implLitOps Q (fun _ => True) 5 #[true, false, true, true, false, true, false, false, true, false] ⟨#[(Value.int .i64 id), (Value.int .i64 n), u2, u3, u4, u5, (Value.pointer (some ⟨m, 0, none⟩)), u7, u8, u9, u10, u11, u12, (Value.int .i64 id), u14, (Value.slice (some ⟨g15, 0, none⟩) 6 6), (Value.int .i64 n), u17, (Value.int .i64 n), u19, u20, u21, u22, u23, u24, u25, u26, u27, u28, u29, u30, u31, u32, u33, u34], []⟩ wx) := by
    intro g15 m wx o15 hm X B
    refine wpAnyH_ready (rs := [1, 4, 6]) (by kernel_rfl) (by simp) ?_
    refine AllReadyH.cons (o := { dst := some 14, op := Op.makeSlice 81 (Operand.const (Value.int IntKind.i64 6)) (Operand.const (Value.int IntKind.i64 6)), type := 81, pos := "l05_node.go:54", after := #[], guard := none }) rfl (fun K2 hK2 => ?r1) (AllReadyH.cons (o := { dst := some 17, op := Op.makeSlice 83 (Operand.tmp 16) (Operand.tmp 16), type := 83, pos := "l05_node.go:54", after := #[{ on := 3, ground := Ground.data }, { on := 3, ground := Ground.data }], guard := none }) rfl (fun K2 hK2 => ?r4) (AllReadyH.cons (o := { dst := some 19, op := Op.makeSlice 84 (Operand.tmp 18) (Operand.tmp 18), type := 84, pos := "l05_node.go:54", after := #[{ on := 5, ground := Ground.data }, { on := 5, ground := Ground.data }], guard := none }) rfl (fun K2 hK2 => ?r6) AllReadyH.nil))
    case r1 =>
      go_simp
      have bx := bel_alloc (Below.refl wx.heap.size wx) (.cells zf 140)
      refine hK2.out _ _ True.intro (fun _ => ?_)
      try simp only [List.setIfInBounds_toArray, List.set_cons_zero, List.set_cons_succ]
      exact s_11001.out _ g15 m _ (own_last rfl hz14 B.size (by unfold maxLen; omega)) (owns_below o15 bx) hm (X.below bx) (bel_trans B bx)
    case r4 =>
      go_simp
      have bx := bel_alloc (Below.refl wx.heap.size wx) (.cells zo 149)
      refine hK2.out _ _ True.intro (fun _ => ?_)
      try simp only [List.setIfInBounds_toArray, List.set_cons_zero, List.set_cons_succ]
      exact s_01101.out g15 _ m _ (owns_below o15 bx) (own_last rfl hz17 B.size (by unfold maxLen; omega)) hm (X.below bx) (bel_trans B bx)
    case r6 =>
      go_simp
      have bx := bel_alloc (Below.refl wx.heap.size wx) (.cells zi 152)
      refine hK2.out _ _ True.intro (fun _ => ?_)
      try simp only [List.setIfInBounds_toArray, List.set_cons_zero, List.set_cons_succ]
      exact s_01011.out g15 _ m _ (owns_below o15 bx) (own_last rfl hz19 B.size (by unfold maxLen; omega)) hm (X.below bx) (bel_trans B bx)
  have s_00110 : Hid (∀ (g17 g19 : Nat) (wx : World) (o17 : wx.ownsRow w.heap.size 149 2 (Value.slice (some ⟨g17, 0, none⟩) n n) n zo.toList) (o19 : wx.ownsRow w.heap.size 152 1 (Value.slice (some ⟨g19, 0, none⟩) n n) n zi.toList) (B : Below w.heap.size w wx), wpAnyH Try.prog .any implLitOps Q (fun _ => True) 5 #[true, false, false, true, true, true, true, false, false, false] ⟨#[(Value.int .i64 id), (Value.int .i64 n), u2, u3, u4, u5, u6, u7, u8, u9, u10, u11, u12, (Value.int .i64 id), u14, u15, (Value.int .i64 n), (Value.slice (some ⟨g17, 0, none⟩) n n), (Value.int .i64 n), (Value.slice (some ⟨g19, 0, none⟩) n n), u20, u21, u22, u23, u24, u25, u26, u27, u28, u29, u30, u31, u32, u33, u34], []⟩ wx) := by
    intro g17 g19 wx o17 o19 B
    refine wpAnyH_ready (rs := [1, 2, 8]) (by kernel_rfl) (by simp) ?_
    refine AllReadyH.cons (o := { dst := some 14, op := Op.makeSlice 81 (Operand.const (Value.int IntKind.i64 6)) (Operand.const (Value.int IntKind.i64 6)), type := 81, pos := "l05_node.go:54", after := #[], guard := none }) rfl (fun K2 hK2 => ?r1) (AllReadyH.cons (o := { dst := some 15, op := Op.makeSlice 82 (Operand.const (Value.int IntKind.i64 6)) (Operand.const (Value.int IntKind.i64 6)), type := 82, pos := "l05_node.go:54", after := #[], guard := none }) rfl (fun K2 hK2 => ?r2) (AllReadyH.cons (o := { dst := some 6, op := Op.alloc 86, type := 0, pos := "l05_node.go:54", after := #[], guard := none }) rfl (fun K2 hK2 => ?r8) AllReadyH.nil))
    case r1 =>
      go_simp
      have bx := bel_alloc (Below.refl wx.heap.size wx) (.cells zf 140)
      refine hK2.out _ _ True.intro (fun _ => ?_)
      try simp only [List.setIfInBounds_toArray, List.set_cons_zero, List.set_cons_succ]
      exact s_10110.out _ g17 g19 _ (own_last rfl hz14 B.size (by unfold maxLen; omega)) (owns_below o17 bx) (owns_below o19 bx) (bel_trans B bx)
    case r2 =>
      go_simp
      have bx := bel_alloc (Below.refl wx.heap.size wx) (.cells zh 145)
      refine hK2.out _ _ True.intro (fun _ => ?_)
      try simp only [List.setIfInBounds_toArray, List.set_cons_zero, List.set_cons_succ]
      exact s_01110.out _ g17 g19 _ (own_last rfl hz15 B.size (by unfold maxLen; omega)) (owns_below o17 bx) (owns_below o19 bx) (bel_trans B bx)
    case r8 =>
      go_simp
      have bx := bel_alloc (Below.refl wx.heap.size wx) (.cells #[.int .i64 0, .slice none 0 0, .slice none 0 0, .slice none 0 0, .slice none 0 0] 86)
      refine hK2.out _ _ True.intro (fun _ => ?_)
      try simp only [List.setIfInBounds_toArray, List.set_cons_zero, List.set_cons_succ]
      exact s_00111.out g17 g19 _ _ (owns_below o17 bx) (owns_below o19 bx) B.size (Box.new wx #[.int .i64 0, .slice none 0 0, .slice none 0 0, .slice none 0 0, .slice none 0 0] 86) (bel_trans B bx)
  have s_00101 : Hid (∀ (g17 m : Nat) (wx : World) (o17 : wx.ownsRow w.heap.size 149 2 (Value.slice (some ⟨g17, 0, none⟩) n n) n zo.toList) (hm : w.heap.size ≤ m) (X : Box wx m #[.int .i64 0, .slice none 0 0, .slice none 0 0, .slice none 0 0, .slice none 0 0] 86) (B : Below w.heap.size w wx), wpAnyH Try.prog .any implLitOps Q (fun _ => True) 5 #[true, false, false, true, true, true, false, false, true, false] ⟨#[(Value.int .i64 id), (Value.int .i64 n), u2, u3, u4, u5, (Value.pointer (some ⟨m, 0, none⟩)), u7, u8, u9, u10, u11, u12, (Value.int .i64 id), u14, u15, (Value.int .i64 n), (Value.slice (some ⟨g17, 0, none⟩) n n), (Value.int .i64 n), u19, u20, u21, u22, u23, u24, u25, u26, u27, u28, u29, u30, u31, u32, u33, u34], []⟩ wx) := by
    intro g17 m wx o17 hm X B
    refine wpAnyH_ready (rs := [1, 2, 6]) (by kernel_rfl) (by simp) ?_
    refine AllReadyH.cons (o := { dst := some 14, op := Op.makeSlice 81 (Operand.const (Value.int IntKind.i64 6)) (Operand.const (Value.int IntKind.i64 6)), type := 81, pos := "l05_node.go:54", after := #[], guard := none }) rfl (fun K2 hK2 => ?r1) (AllReadyH.cons (o := { dst := some 15, op := Op.makeSlice 82 (Operand.const (Value.int IntKind.i64 6)) (Operand.const (Value.int IntKind.i64 6)), type := 82, pos := "l05_node.go:54", after := #[], guard := none }) rfl (fun K2 hK2 => ?r2) (AllReadyH.cons (o := { dst := some 19, op := Op.makeSlice 84 (Operand.tmp 18) (Operand.tmp 18), type := 84, pos := "l05_node.go:54", after := #[{ on := 5, ground := Ground.data }, { on := 5, ground := Ground.data }], guard := none }) rfl (fun K2 hK2 => ?r6) AllReadyH.nil))
    case r1 =>
      go_simp
      have bx := bel_alloc (Below.refl wx.heap.size wx) (.cells zf 140)
      refine hK2.out _ _ True.intro (fun _ => ?_)
      try simp only [List.setIfInBounds_toArray, List.set_cons_zero, List.set_cons_succ]
      exact s_10101.out _ g17 m _ (own_last rfl hz14 B.size (by unfold maxLen; omega)) (owns_below o17 bx) hm (X.below bx) (bel_trans B bx)
    case r2 =>
      go_simp
      have bx := bel_alloc (Below.refl wx.heap.size wx) (.cells zh 145)
      refine hK2.out _ _ True.intro (fun _ => ?_)
      try simp only [List.setIfInBounds_toArray, List.set_cons_zero, List.set_cons_succ]
      exact s_01101.out _ g17 m _ (own_last rfl hz15 B.size (by unfold maxLen; omega)) (owns_below o17 bx) hm (X.below bx) (bel_trans B bx)
    case r6 =>
      go_simp
      have bx := bel_alloc (Below.refl wx.heap.size wx) (.cells zi 152)
      refine hK2.out _ _ True.intro (fun _ => ?_)
      try simp only [List.setIfInBounds_toArray, List.set_cons_zero, List.set_cons_succ]
      exact s_00111.out g17 _ m _ (owns_below o17 bx) (own_last rfl hz19 B.size (by unfold maxLen; omega)) hm (X.below bx) (bel_trans B bx)
  have s_00011 : Hid (∀ (g19 m : Nat) (wx : World) (o19 : wx.ownsRow w.heap.size 152 1 (Value.slice (some ⟨g19, 0, none⟩) n n) n zi.toList) (hm : w.heap.size ≤ m) (X : Box wx m #[.int .i64 0, .slice none 0 0, .slice none 0 0, .slice none 0 0, .slice none 0 0] 86) (B : Below w.heap.size w wx), wpAnyH Try.prog .any implLitOps Q (fun _ => True) 5 #[true, false, false, true, false, true, true, false, true, false] ⟨#[(Value.int .i64 id), (Value.int .i64 n), u2, u3, u4, u5, (Value.pointer (some ⟨m, 0, none⟩)), u7, u8, u9, u10, u11, u12, (Value.int .i64 id), u14, u15, (Value.int .i64 n), u17, (Value.int .i64 n), (Value.slice (some ⟨g19, 0, none⟩) n n), u20, u21, u22, u23, u24, u25, u26, u27, u28, u29, u30, u31, u32, u33, u34], []⟩ wx) := by
    intro g19 m wx o19 hm X B
    refine wpAnyH_ready (rs := [1, 2, 4]) (by kernel_rfl) (by simp) ?_
    refine AllReadyH.cons (o := { dst := some 14, op := Op.makeSlice 81 (Operand.const (Value.int IntKind.i64 6)) (Operand.const (Value.int IntKind.i64 6)), type := 81, pos := "l05_node.go:54", after := #[], guard := none }) rfl (fun K2 hK2 => ?r1) (AllReadyH.cons (o := { dst := some 15, op := Op.makeSlice 82 (Operand.const (Value.int IntKind.i64 6)) (Operand.const (Value.int IntKind.i64 6)), type := 82, pos := "l05_node.go:54", after := #[], guard := none }) rfl (fun K2 hK2 => ?r2) (AllReadyH.cons (o := { dst := some 17, op := Op.makeSlice 83 (Operand.tmp 16) (Operand.tmp 16), type := 83, pos := "l05_node.go:54", after := #[{ on := 3, ground := Ground.data }, { on := 3, ground := Ground.data }], guard := none }) rfl (fun K2 hK2 => ?r4) AllReadyH.nil))
    case r1 =>
      go_simp
      have bx := bel_alloc (Below.refl wx.heap.size wx) (.cells zf 140)
      refine hK2.out _ _ True.intro (fun _ => ?_)
      try simp only [List.setIfInBounds_toArray, List.set_cons_zero, List.set_cons_succ]
      exact s_10011.out _ g19 m _ (own_last rfl hz14 B.size (by unfold maxLen; omega)) (owns_below o19 bx) hm (X.below bx) (bel_trans B bx)
    case r2 =>
      go_simp
      have bx := bel_alloc (Below.refl wx.heap.size wx) (.cells zh 145)
      refine hK2.out _ _ True.intro (fun _ => ?_)
      try simp only [List.setIfInBounds_toArray, List.set_cons_zero, List.set_cons_succ]
      exact s_01011.out _ g19 m _ (own_last rfl hz15 B.size (by unfold maxLen; omega)) (owns_below o19 bx) hm (X.below bx) (bel_trans B bx)
    case r4 =>
      go_simp
      have bx := bel_alloc (Below.refl wx.heap.size wx) (.cells zo 149)
      refine hK2.out _ _ True.intro (fun _ => ?_)
      try simp only [List.setIfInBounds_toArray, List.set_cons_zero, List.set_cons_succ]
      exact s_00111.out _ g19 m _ (own_last rfl hz17 B.size (by unfold maxLen; omega)) (owns_below o19 bx) hm (X.below bx) (bel_trans B bx)
  have s_10000 : Hid (∀ (g14 : Nat) (wx : World) (o14 : wx.ownsRow w.heap.size 140 3 (Value.slice (some ⟨g14, 0, none⟩) 6 6) 6 zf.toList) (B : Below w.heap.size w wx), wpAnyH Try.prog .any implLitOps Q (fun _ => True) 6 #[true, true, false, true, false, true, false, false, false, false] ⟨#[(Value.int .i64 id), (Value.int .i64 n), u2, u3, u4, u5, u6, u7, u8, u9, u10, u11, u12, (Value.int .i64 id), (Value.slice (some ⟨g14, 0, none⟩) 6 6), u15, (Value.int .i64 n), u17, (Value.int .i64 n), u19, u20, u21, u22, u23, u24, u25, u26, u27, u28, u29, u30, u31, u32, u33, u34], []⟩ wx) := by
    intro g14 wx o14 B
    refine wpAnyH_ready (rs := [2, 4, 6, 8]) (by kernel_rfl) (by simp) ?_
    refine AllReadyH.cons (o := { dst := some 15, op := Op.makeSlice 82 (Operand.const (Value.int IntKind.i64 6)) (Operand.const (Value.int IntKind.i64 6)), type := 82, pos := "l05_node.go:54", after := #[], guard := none }) rfl (fun K2 hK2 => ?r2) (AllReadyH.cons (o := { dst := some 17, op := Op.makeSlice 83 (Operand.tmp 16) (Operand.tmp 16), type := 83, pos := "l05_node.go:54", after := #[{ on := 3, ground := Ground.data }, { on := 3, ground := Ground.data }], guard := none }) rfl (fun K2 hK2 => ?r4) (AllReadyH.cons (o := { dst := some 19, op := Op.makeSlice 84 (Operand.tmp 18) (Operand.tmp 18), type := 84, pos := "l05_node.go:54", after := #[{ on := 5, ground := Ground.data }, { on := 5, ground := Ground.data }], guard := none }) rfl (fun K2 hK2 => ?r6) (AllReadyH.cons (o := { dst := some 6, op := Op.alloc 86, type := 0, pos := "l05_node.go:54", after := #[], guard := none }) rfl (fun K2 hK2 => ?r8) AllReadyH.nil)))
    case r2 =>
      go_simp
      have bx := bel_alloc (Below.refl wx.heap.size wx) (.cells zh 145)
      refine hK2.out _ _ True.intro (fun _ => ?_)
      try simp only [List.setIfInBounds_toArray, List.set_cons_zero, List.set_cons_succ]
      exact s_11000.out g14 _ _ (owns_below o14 bx) (own_last rfl hz15 B.size (by unfold maxLen; omega)) (bel_trans B bx)
    case r4 =>
      go_simp
      have bx := bel_alloc (Below.refl wx.heap.size wx) (.cells zo 149)
      refine hK2.out _ _ True.intro (fun _ => ?_)
      try simp only [List.setIfInBounds_toArray, List.set_cons_zero, List.set_cons_succ]
      exact s_10100.out g14 _ _ (owns_below o14 bx) (own_last rfl hz17 B.size (by unfold maxLen; omega)) (bel_trans B bx)
    case r6 =>
      go_simp
      have bx := bel_alloc (Below.refl wx.heap.size wx) (.cells zi 152)
      refine hK2.out _ _ True.intro (fun _ => ?_)
      try simp only [List.setIfInBounds_toArray, List.set_cons_zero, List.set_cons_succ]
      exact s_10010.out g14 _ _ (owns_below o14 bx) (own_last rfl hz19 B.size (by unfold maxLen; omega)) (bel_trans B bx)
    case r8 =>
      go_simp
      have bx := bel_alloc (Below.refl wx.heap.size wx) (.cells #[.int .i64 0, .slice none 0 0, .slice none 0 0, .slice none 0 0, .slice none 0 0] 86)
      refine hK2.out _ _ True.intro (fun _ => ?_)
      try simp only [List.setIfInBounds_toArray, List.set_cons_zero, List.set_cons_succ]
      exact s_10001.out g14 _ _ (owns_below o14 bx) B.size (Box.new wx #[.int .i64 0, .slice none 0 0, .slice none 0 0, .slice none 0 0, .slice none 0 0] 86) (bel_trans B bx)
  have s_01000 : Hid (∀ (g15 : Nat) (wx : World) (o15 : wx.ownsRow w.heap.size 145 8 (Value.slice (some ⟨g15, 0, none⟩) 6 6) 6 zh.toList) (B : Below w.heap.size w wx), wpAnyH Try.prog .any implLitOps Q (fun _ => True) 6 #[true, false, true, true, false, true, false, false, false, false] ⟨#[(Value.int .i64 id), (Value.int .i64 n), u2, u3, u4, u5, u6, u7, u8, u9, u10, u11, u12, (Value.int .i64 id), u14, (Value.slice (some ⟨g15, 0, none⟩) 6 6), (Value.int .i64 n), u17, (Value.int .i64 n), u19, u20, u21, u22, u23, u24, u25, u26, u27, u28, u29, u30, u31, u32, u33, u34], []⟩ wx) := by
    intro g15 wx o15 B
    refine wpAnyH_ready (rs := [1, 4, 6, 8]) (by kernel_rfl) (by simp) ?_
    refine AllReadyH.cons (o := { dst := some 14, op := Op.makeSlice 81 (Operand.const (Value.int IntKind.i64 6)) (Operand.const (Value.int IntKind.i64 6)), type := 81, pos := "l05_node.go:54", after := #[], guard := none }) rfl (fun K2 hK2 => ?r1) (AllReadyH.cons (o := { dst := some 17, op := Op.makeSlice 83 (Operand.tmp 16) (Operand.tmp 16), type := 83, pos := "l05_node.go:54", after := #[{ on := 3, ground := Ground.data }, { on := 3, ground := Ground.data }], guard := none }) rfl (fun K2 hK2 => ?r4) (AllReadyH.cons (o := { dst := some 19, op := Op.makeSlice 84 (Operand.tmp 18) (Operand.tmp 18), type := 84, pos := "l05_node.go:54", after := #[{ on := 5, ground := Ground.data }, { on := 5, ground := Ground.data }], guard := none }) rfl (fun K2 hK2 => ?r6) (AllReadyH.cons (o := { dst := some 6, op := Op.alloc 86, type := 0, pos := "l05_node.go:54", after := #[], guard := none }) rfl (fun K2 hK2 => ?r8) AllReadyH.nil)))
    case r1 =>
      go_simp
      have bx := bel_alloc (Below.refl wx.heap.size wx) (.cells zf 140)
      refine hK2.out _ _ True.intro (fun _ => ?_)
      try simp only [List.setIfInBounds_toArray, List.set_cons_zero, List.set_cons_succ]
      exact s_11000.out _ g15 _ (own_last rfl hz14 B.size (by unfold maxLen; omega)) (owns_below o15 bx) (bel_trans B bx)
    case r4 =>
      go_simp
      have bx := bel_alloc (Below.refl wx.heap.size wx) (.cells zo 149)
      refine hK2.out _ _ True.intro (fun _ => ?_)
      try simp only [List.setIfInBounds_toArray, List.set_cons_zero, List.set_cons_succ]
      exact s_01100.out g15 _ _ (owns_below o15 bx) (own_last rfl hz17 B.size (by unfold maxLen; omega)) (bel_trans B bx)
    case r6 =>
      go_simp
      have bx := bel_alloc (Below.refl wx.heap.size wx) (.cells zi 152)
      refine hK2.out _ _ True.intro (fun _ => ?_)
      try simp only [List.setIfInBounds_toArray, List.set_cons_zero, List.set_cons_succ]
      exact s_01010.out g15 _ _ (owns_below o15 bx) (own_last rfl hz19 B.size (by unfold maxLen; omega)) (bel_trans B bx)
    case r8 =>
      go_simp
      have bx := bel_alloc (Below.refl wx.heap.size wx) (.cells #[.int .i64 0, .slice none 0 0, .slice none 0 0, .slice none 0 0, .slice none 0 0] 86)
      refine hK2.out _ _ True.intro (fun _ => ?_)
      try simp only [List.setIfInBounds_toArray, List.set_cons_zero, List.set_cons_succ]
      exact s_01001.out g15 _ _ (owns_below o15 bx) B.size (Box.new wx #[.int .i64 0, .slice none 0 0, .slice none 0 0, .slice none 0 0, .slice none 0 0] 86) (bel_trans B bx)
  have s_00100 : Hid (∀ (g17 : Nat) (wx : World) (o17 : wx.ownsRow w.heap.size 149 2 (Value.slice (some ⟨g17, 0, none⟩) n n) n zo.toList) (B : Below w.heap.size w wx), wpAnyH Try.prog .any implLitOps Q (fun _ => True) 6 #[true, false, false, true, true, true, false, false, false, false] ⟨#[(Value.int .i64 id), (Value.int .i64 n), u2, u3, u4, u5, u6, u7, u8, u9, u10, u11, u12, (Value.int .i64 id), u14, u15, (Value.int .i64 n), (Value.slice (some ⟨g17, 0, none⟩) n n), (Value.int .i64 n), u19, u20, u21, u22, u23, u24, u25, u26, u27, u28, u29, u30, u31, u32, u33, u34], []⟩ wx) := by
    intro g17 wx o17 B
    refine wpAnyH_ready (rs := [1, 2, 6, 8]) (by kernel_rfl) (by simp) ?_
    refine AllReadyH.cons (o := { dst := some 14, op := Op.makeSlice 81 (Operand.const (Value.int IntKind.i64 6)) (Operand.const (Value.int IntKind.i64 6)), type := 81, pos := "l05_node.go:54", after := #[], guard := none }) rfl (fun K2 hK2 => ?r1) (AllReadyH.cons (o := { dst := some 15, op := Op.makeSlice 82 (Operand.const (Value.int IntKind.i64 6)) (Operand.const (Value.int IntKind.i64 6)), type := 82, pos := "l05_node.go:54", after := #[], guard := none }) rfl (fun K2 hK2 => ?r2) (AllReadyH.cons (o := { dst := some 19, op := Op.makeSlice 84 (Operand.tmp 18) (Operand.tmp 18), type := 84, pos := "l05_node.go:54", after := #[{ on := 5, ground := Ground.data }, { on := 5, ground := Ground.data }], guard := none }) rfl (fun K2 hK2 => ?r6) (AllReadyH.cons (o := { dst := some 6, op := Op.alloc 86, type := 0, pos := "l05_node.go:54", after := #[], guard := none }) rfl (fun K2 hK2 => ?r8) AllReadyH.nil)))
    case r1 =>
      go_simp
      have bx := bel_alloc (Below.refl wx.heap.size wx) (.cells zf 140)
      refine hK2.out _ _ True.intro (fun _ => ?_)
      try simp only [List.setIfInBounds_toArray, List.set_cons_zero, List.set_cons_succ]
      exact s_10100.out _ g17 _ (own_last rfl hz14 B.size (by unfold maxLen; omega)) (owns_below o17 bx) (bel_trans B bx)
    case r2 =>
      go_simp
      have bx := bel_alloc (Below.refl wx.heap.size wx) (.cells zh 145)
      refine hK2.out _ _ True.intro (fun _ => ?_)
      try simp only [List.setIfInBounds_toArray, List.set_cons_zero, List.set_cons_succ]
      exact s_01100.out _ g17 _ (own_last rfl hz15 B.size (by unfold maxLen; omega)) (owns_below o17 bx) (bel_trans B bx)
    case r6 =>
      go_simp
      have bx := bel_alloc (Below.refl wx.heap.size wx) (.cells zi 152)
      refine hK2.out _ _ True.intro (fun _ => ?_)
      try simp only [List.setIfInBounds_toArray, List.set_cons_zero, List.set_cons_succ]
      exact s_00110.out g17 _ _ (owns_below o17 bx) (own_last rfl hz19 B.size (by unfold maxLen; omega)) (bel_trans B bx)
    case r8 =>
      go_simp
      have bx := bel_alloc (Below.refl wx.heap.size wx) (.cells #[.int .i64 0, .slice none 0 0, .slice none 0 0, .slice none 0 0, .slice none 0 0] 86)
      refine hK2.out _ _ True.intro (fun _ => ?_)
      try simp only [List.setIfInBounds_toArray, List.set_cons_zero, List.set_cons_succ]
      exact s_00101.out g17 _ _ (owns_below o17 bx) B.size (Box.new wx #[.int .i64 0, .slice none 0 0, .slice none 0 0, .slice none 0 0, .slice none 0 0] 86) (bel_trans B bx)
  have s_00010 : Hid (∀ (g19 : Nat) (wx : World) (o19 : wx.ownsRow w.heap.size 152 1 (Value.slice (some ⟨g19, 0, none⟩) n n) n zi.toList) (B : Below w.heap.size w wx), wpAnyH Try.prog .any implLitOps Q (fun _ => True) 6 #[true, false, false, true, false, true, true, false, false, false] ⟨#[(Value.int .i64 id), (Value.int .i64 n), u2, u3, u4, u5, u6, u7, u8, u9, u10, u11, u12, (Value.int .i64 id), u14, u15, (Value.int .i64 n), u17, (Value.int .i64 n), (Value.slice (some ⟨g19, 0, none⟩) n n), u20, u21, u22, u23, u24, u25, u26, u27, u28, u29, u30, u31, u32, u33, u34], []⟩ wx) := by
    intro g19 wx o19 B
    refine wpAnyH_ready (rs := [1, 2, 4, 8]) (by kernel_rfl) (by simp) ?_
    refine AllReadyH.cons (o := { dst := some 14, op := Op.makeSlice 81 (Operand.const (Value.int IntKind.i64 6)) (Operand.const (Value.int IntKind.i64 6)), type := 81, pos := "l05_node.go:54", after := #[], guard := none }) rfl (fun K2 hK2 => ?r1) (AllReadyH.cons (o := { dst := some 15, op := Op.makeSlice 82 (Operand.const (Value.int IntKind.i64 6)) (Operand.const (Value.int IntKind.i64 6)), type := 82, pos := "l05_node.go:54", after := #[], guard := none }) rfl (fun K2 hK2 => ?r2) (AllReadyH.cons (o := { dst := some 17, op := Op.makeSlice 83 (Operand.tmp 16) (Operand.tmp 16), type := 83, pos := "l05_node.go:54", after := #[{ on := 3, ground := Ground.data }, { on := 3, ground := Ground.data }], guard := none }) rfl (fun K2 hK2 => ?r4) (AllReadyH.cons (o := { dst := some 6, op := Op.alloc 86, type := 0, pos := "l05_node.go:54", after := #[], guard := none }) rfl (fun K2 hK2 => ?r8) AllReadyH.nil)))
    case r1 =>
      go_simp
      have bx := bel_alloc (Below.refl wx.heap.size wx) (.cells zf 140)
      refine hK2.out _ _ True.intro (fun _ => ?_)
      try simp only [List.setIfInBounds_toArray, List.set_cons_zero, List.set_cons_succ]
      exact s_10010.out _ g19 _ (own_last rfl hz14 B.size (by unfold maxLen; omega)) (owns_below o19 bx) (bel_trans B bx)
    case r2 =>
      go_simp
      have bx := bel_alloc (Below.refl wx.heap.size wx) (.cells zh 145)
      refine hK2.out _ _ True.intro (fun _ => ?_)
      try simp only [List.setIfInBounds_toArray, List.set_cons_zero, List.set_cons_succ]
      exact s_01010.out _ g19 _ (own_last rfl hz15 B.size (by unfold maxLen; omega)) (owns_below o19 bx) (bel_trans B bx)
    case r4 =>
      go_simp
      have bx := bel_alloc (Below.refl wx.heap.size wx) (.cells zo 149)
      refine hK2.out _ _ True.intro (fun _ => ?_)
      try simp only [List.setIfInBounds_toArray, List.set_cons_zero, List.set_cons_succ]
      exact s_00110.out _ g19 _ (own_last rfl hz17 B.size (by unfold maxLen; omega)) (owns_below o19 bx) (bel_trans B bx)
    case r8 =>
      go_simp
      have bx := bel_alloc (Below.refl wx.heap.size wx) (.cells #[.int .i64 0, .slice none 0 0, .slice none 0 0, .slice none 0 0, .slice none 0 0] 86)
      refine hK2.out _ _ True.intro (fun _ => ?_)
      try simp only [List.setIfInBounds_toArray, List.set_cons_zero, List.set_cons_succ]
      exact s_00011.out g19 _ _ (owns_below o19 bx) B.size (Box.new wx #[.int .i64 0, .slice none 0 0, .slice none 0 0, .slice none 0 0, .slice none 0 0] 86) (bel_trans B bx)
  have s_00001 : Hid (∀ (m : Nat) (wx : World) (hm : w.heap.size ≤ m) (X : Box wx m #[.int .i64 0, .slice none 0 0, .slice none 0 0, .slice none 0 0, .slice none 0 0] 86) (B : Below w.heap.size w wx), wpAnyH Try.prog .any implLitOps Q (fun _ => True) 6 #[true, false, false, true, false, true, false, false, true, false] ⟨#[(Value.int .i64 id), (Value.int .i64 n), u2, u3, u4, u5, (Value.pointer (some ⟨m, 0, none⟩)), u7, u8, u9, u10, u11, u12, (Value.int .i64 id), u14, u15, (Value.int .i64 n), u17, (Value.int .i64 n), u19, u20, u21, u22, u23, u24, u25, u26, u27, u28, u29, u30, u31, u32, u33, u34], []⟩ wx) := by
    intro m wx hm X B
    refine wpAnyH_ready (rs := [1, 2, 4, 6]) (by kernel_rfl) (by simp) ?_
    refine AllReadyH.cons (o := { dst := some 14, op := Op.makeSlice 81 (Operand.const (Value.int IntKind.i64 6)) (Operand.const (Value.int IntKind.i64 6)), type := 81, pos := "l05_node.go:54", after := #[], guard := none }) rfl (fun K2 hK2 => ?r1) (AllReadyH.cons (o := { dst := some 15, op := Op.makeSlice 82 (Operand.const (Value.int IntKind.i64 6)) (Operand.const (Value.int IntKind.i64 6)), type := 82, pos := "l05_node.go:54", after := #[], guard := none }) rfl (fun K2 hK2 => ?r2) (AllReadyH.cons (o := { dst := some 17, op := Op.makeSlice 83 (Operand.tmp 16) (Operand.tmp 16), type := 83, pos := "l05_node.go:54", after := #[{ on := 3, ground := Ground.data }, { on := 3, ground := Ground.data }], guard := none }) rfl (fun K2 hK2 => ?r4) (AllReadyH.cons (o := { dst := some 19, op := Op.makeSlice 84 (Operand.tmp 18) (Operand.tmp 18), type := 84, pos := "l05_node.go:54", after := #[{ on := 5, ground := Ground.data }, { on := 5, ground := Ground.data }], guard := none }) rfl (fun K2 hK2 => ?r6) AllReadyH.nil)))
    case r1 =>
      go_simp
      have bx := bel_alloc (Below.refl wx.heap.size wx) (.cells zf 140)
      refine hK2.out _ _ True.intro (fun _ => ?_)
      try simp only [List.setIfInBounds_toArray, List.set_cons_zero, List.set_cons_succ]
      exact s_10001.out _ m _ (own_last rfl hz14 B.size (by unfold maxLen; omega)) hm (X.below bx) (bel_trans B bx)
    case r2 =>
      go_simp
      have bx := bel_alloc (Below.refl wx.heap.size wx) (.cells zh 145)
      refine hK2.out _ _ True.intro (fun _ => ?_)
      try simp only [List.setIfInBounds_toArray, List.set_cons_zero, List.set_cons_succ]
      exact s_01001.out _ m _ (own_last rfl hz15 B.size (by unfold maxLen; omega)) hm (X.below bx) (bel_trans B bx)
    case r4 =>
      go_simp
      have bx := bel_alloc (Below.refl wx.heap.size wx) (.cells zo 149)
      refine hK2.out _ _ True.intro (fun _ => ?_)
      try simp only [List.setIfInBounds_toArray, List.set_cons_zero, List.set_cons_succ]
      exact s_00101.out _ m _ (own_last rfl hz17 B.size (by unfold maxLen; omega)) hm (X.below bx) (bel_trans B bx)
    case r6 =>
      go_simp
      have bx := bel_alloc (Below.refl wx.heap.size wx) (.cells zi 152)
      refine hK2.out _ _ True.intro (fun _ => ?_)
      try simp only [List.setIfInBounds_toArray, List.set_cons_zero, List.set_cons_succ]
      exact s_00011.out _ m _ (own_last rfl hz19 B.size (by unfold maxLen; omega)) hm (X.below bx) (bel_trans B bx)
  have s_00000 : Hid (∀ (wx : World) (B : Below w.heap.size w wx), wpAnyH Try.prog .any implLitOps Q (fun _ => True) 7 #[true, false, false, true, false, true, false, false, false, false] ⟨#[(Value.int .i64 id), (Value.int .i64 n), u2, u3, u4, u5, u6, u7, u8, u9, u10, u11, u12, (Value.int .i64 id), u14, u15, (Value.int .i64 n), u17, (Value.int .i64 n), u19, u20, u21, u22, u23, u24, u25, u26, u27, u28, u29, u30, u31, u32, u33, u34], []⟩ wx) := by
    intro  wx  B
    refine wpAnyH_ready (rs := [1, 2, 4, 6, 8]) (by kernel_rfl) (by simp) ?_
    refine AllReadyH.cons (o := { dst := some 14, op := Op.makeSlice 81 (Operand.const (Value.int IntKind.i64 6)) (Operand.const (Value.int IntKind.i64 6)), type := 81, pos := "l05_node.go:54", after := #[], guard := none }) rfl (fun K2 hK2 => ?r1) (AllReadyH.cons (o := { dst := some 15, op := Op.makeSlice 82 (Operand.const (Value.int IntKind.i64 6)) (Operand.const (Value.int IntKind.i64 6)), type := 82, pos := "l05_node.go:54", after := #[], guard := none }) rfl (fun K2 hK2 => ?r2) (AllReadyH.cons (o := { dst := some 17, op := Op.makeSlice 83 (Operand.tmp 16) (Operand.tmp 16), type := 83, pos := "l05_node.go:54", after := #[{ on := 3, ground := Ground.data }, { on := 3, ground := Ground.data }], guard := none }) rfl (fun K2 hK2 => ?r4) (AllReadyH.cons (o := { dst := some 19, op := Op.makeSlice 84 (Operand.tmp 18) (Operand.tmp 18), type := 84, pos := "l05_node.go:54", after := #[{ on := 5, ground := Ground.data }, { on := 5, ground := Ground.data }], guard := none }) rfl (fun K2 hK2 => ?r6) (AllReadyH.cons (o := { dst := some 6, op := Op.alloc 86, type := 0, pos := "l05_node.go:54", after := #[], guard := none }) rfl (fun K2 hK2 => ?r8) AllReadyH.nil))))
    case r1 =>
      go_simp
      have bx := bel_alloc (Below.refl wx.heap.size wx) (.cells zf 140)
      refine hK2.out _ _ True.intro (fun _ => ?_)
      try simp only [List.setIfInBounds_toArray, List.set_cons_zero, List.set_cons_succ]
      exact s_10000.out _ _ (own_last rfl hz14 B.size (by unfold maxLen; omega)) (bel_trans B bx)
    case r2 =>
      go_simp
      have bx := bel_alloc (Below.refl wx.heap.size wx) (.cells zh 145)
      refine hK2.out _ _ True.intro (fun _ => ?_)
      try simp only [List.setIfInBounds_toArray, List.set_cons_zero, List.set_cons_succ]
      exact s_01000.out _ _ (own_last rfl hz15 B.size (by unfold maxLen; omega)) (bel_trans B bx)
    case r4 =>
      go_simp
      have bx := bel_alloc (Below.refl wx.heap.size wx) (.cells zo 149)
      refine hK2.out _ _ True.intro (fun _ => ?_)
      try simp only [List.setIfInBounds_toArray, List.set_cons_zero, List.set_cons_succ]
      exact s_00100.out _ _ (own_last rfl hz17 B.size (by unfold maxLen; omega)) (bel_trans B bx)
    case r6 =>
      go_simp
      have bx := bel_alloc (Below.refl wx.heap.size wx) (.cells zi 152)
      refine hK2.out _ _ True.intro (fun _ => ?_)
      try simp only [List.setIfInBounds_toArray, List.set_cons_zero, List.set_cons_succ]
      exact s_00010.out _ _ (own_last rfl hz19 B.size (by unfold maxLen; omega)) (bel_trans B bx)
    case r8 =>
      go_simp
      have bx := bel_alloc (Below.refl wx.heap.size wx) (.cells #[.int .i64 0, .slice none 0 0, .slice none 0 0, .slice none 0 0, .slice none 0 0] 86)
      refine hK2.out _ _ True.intro (fun _ => ?_)
      try simp only [List.setIfInBounds_toArray, List.set_cons_zero, List.set_cons_succ]
      exact s_00001.out _ _ B.size (Box.new wx #[.int .i64 0, .slice none 0 0, .slice none 0 0, .slice none 0 0, .slice none 0 0] 86) (bel_trans B bx)
  refine wp_region_held_drew (S := fun _ => True) (by kernel_rfl) True.intro (fun _ => ?_)
  have hrep : Array.replicate (Array.size implLitOps) false = #[false, false, false, false, false, false, false, false, false, false] := rfl
  rw [hrep]
  show wpAnyH _ _ _ _ _ 10 _ _ _
  refine wpAnyH_take (i := 0) (oi := { dst := some 13, op := Op.move (Operand.tmp 0), type := 3, pos := "l05_node.go:54", after := #[], guard := none }) (v := (Value.int .i64 id)) rfl (by kernel_rfl) (by kernel_rfl) (by kernel_rfl) (fun _ _ _ h => HP.out _ _ _ _ _ h) (Or.inl ⟨by rfl, ?_⟩) True.intro ?_
  · intro w hSw
    go_simp
    try (with_reducible rfl)
  simp only [Act.put, List.setIfInBounds_toArray, List.set_cons_zero, List.set_cons_succ]
  refine wpAnyH_take (i := 3) (oi := { dst := some 16, op := Op.move (Operand.tmp 1), type := 3, pos := "l05_node.go:54", after := #[], guard := none }) (v := (Value.int .i64 n)) rfl (by kernel_rfl) (by kernel_rfl) (by kernel_rfl) (fun _ _ _ h => HP.out _ _ _ _ _ h) (Or.inl ⟨by rfl, ?_⟩) True.intro ?_
  · intro w hSw
    go_simp
    try (with_reducible rfl)
  simp only [Act.put, List.setIfInBounds_toArray, List.set_cons_zero, List.set_cons_succ]
  refine wpAnyH_take (i := 5) (oi := { dst := some 18, op := Op.move (Operand.tmp 1), type := 3, pos := "l05_node.go:54", after := #[], guard := none }) (v := (Value.int .i64 n)) rfl (by kernel_rfl) (by kernel_rfl) (by kernel_rfl) (fun _ _ _ h => HP.out _ _ _ _ _ h) (Or.inl ⟨by rfl, ?_⟩) True.intro ?_
  · intro w hSw
    go_simp
    try (with_reducible rfl)
  simp only [Act.put, List.setIfInBounds_toArray, List.set_cons_zero, List.set_cons_succ]
  exact s_00000.out _ (below_drewN (Below.refl _ _) 1)
end Go.Proofs.Ytpahjfijpjgdnaa
