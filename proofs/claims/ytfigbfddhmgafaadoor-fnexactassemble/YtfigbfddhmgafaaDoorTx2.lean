/- What the specification's InsText answers (written by mk16.py). -/
import Derived.Test.YtfigbfddhmgafaaDoorTx1
import Derived.Deep.RegionHeld3
namespace Go.Proofs.YtfigbfddhmgafaaDoor
open Go.RowKit
set_option linter.unusedVariables false

def nameT (op : Int) : List UInt8 :=
  if op = 1 then [115, 101, 116] else if op = 2 then [97, 100, 100] else if op = 3 then [109, 111, 114, 101] else if op = 4 then [108, 111, 97, 100] else if op = 5 then [115, 116, 111, 114, 101] else if op = 6 then [115, 119, 97, 112] else if op = 7 then [122, 101, 114, 111] else if op = 8 then [106, 117, 109, 112] else if op = 9 then [104, 97, 108, 116] else [115, 117, 98]

set_option maxRecDepth 100000 in
set_option maxHeartbeats 1000000 in
theorem l16Names_any (w : World) : Calls Tryd.prog 19 #[] w fun e w' => e = .returned (.slice (some ⟨w.heap.size, 0, none⟩) 11 11) ∧ Box w' w.heap.size #[txt [], txt [115, 101, 116], txt [97, 100, 100], txt [109, 111, 114, 101], txt [108, 111, 97, 100], txt [115, 116, 111, 114, 101], txt [115, 119, 97, 112], txt [122, 101, 114, 111], txt [106, 117, 109, 112], txt [104, 97, 108, 116], txt [115, 117, 98]] 9 ∧ Below w.heap.size w w' := by
  go_enter Tryd.func19, Tryd.ntmps19
  go_wp2
  go_ret
  exact ⟨rfl, Box.new w _ _, bel_alloc (Below.refl _ _) _⟩

def regT (k : Nat) : List UInt8 := [32, 114] ++ digs k
def numT (k : Nat) : List UInt8 := [32] ++ digs k
/-- A place as text, op by op. -/
def opT (op : Int) (r a b n : Nat) : List UInt8 :=
  if op = 1 then nameT op ++ (regT r ++ numT n) else if op = 2 then nameT op ++ (regT r ++ (regT a ++ regT b)) else if op = 3 then nameT op ++ (regT r ++ (regT a ++ numT n)) else if op = 4 then nameT op ++ (regT r ++ (regT a ++ numT n)) else if op = 5 then nameT op ++ (regT a ++ (regT b ++ numT n)) else if op = 6 then nameT op ++ (regT r ++ (regT a ++ (regT b ++ numT n))) else if op = 7 then nameT op ++ (regT a ++ numT n) else if op = 8 then nameT op ++ numT n else if op = 9 then nameT op else nameT op ++ (regT r ++ (regT a ++ regT b))
def insT (op r a b n : Int) : List UInt8 := if insB op r a b n then opT op r.toNat a.toNat b.toNat n.toNat else []

set_option maxRecDepth 100000 in
set_option maxHeartbeats 4000000 in
theorem insText_1 (r a b n : Nat) (w : World) (hr : r ≤ 3) (ha : a ≤ 3) (hb : b ≤ 3) (hn : n ≤ 63) (hi : insB 1 r a b n = true) :
    Calls Tryd.prog 6 #[.agg (icells 1 r a b n)] w fun e w' => e = .returned (txt (opT 1 r a b n)) ∧ Below w.heap.size w w' := by
  have B := bel_alloc (Below.refl w.heap.size w) (.cells (icells 1 r a b n) 25)
  have X := Box.new w (icells 1 r a b n) 25
  have HI : Hid (insB 1 r a b n = true) := hi
  clear hi
  obtain ⟨x0, x1, x2, x3, x4, xz⟩ := X.at5i
  go_enter Tryd.func6, Tryd.ntmps6
  go_wp2_with fail
  refine (specInsOk_any 1 r a b n _).mono ?_
  rintro e w1 ⟨rfl, b1⟩
  rw [HI.out]
  replace X := X.below b1
  replace B := bel_trans B b1
  clear b1 x0 x1 x2 x3 x4 xz
  obtain ⟨x0, x1, x2, x3, x4, xz⟩ := X.at5i
  go_wp2_with fail
  refine (l8Has_any 1 _).mono ?_
  rintro e w2 ⟨rfl, b2⟩
  rw [show tab 1 = 9 from rfl]
  replace X := X.below b2
  replace B := bel_trans B b2
  clear b2 x0 x1 x2 x3 x4 xz
  obtain ⟨x0, x1, x2, x3, x4, xz⟩ := X.at5i
  go_wp2_with fail
  refine wp_region_held_drew (S := fun W => Below w2.heap.size w2 W) (by kernel_rfl) ?_ (fun hHeld => ?_)
  · exact below_drewN (Below.refl _ _) 1
  obtain ⟨V0, hV0⟩ : ∃ V, w2.drew = V := ⟨_, rfl⟩
  rw [hV0] at hHeld ⊢
  clear hV0
  have hs_V0 : w2.heap.size ≤ V0.heap.size := hHeld.size
  refine wpAnyH_take (i := 1) (oi := { dst := some 12, op := Op.fieldAddr 25 (Operand.tmp 1) 0, type := 0, pos := "l16_text.go:27", after := #[], guard := none }) (v := ?vv1) rfl (by kernel_rfl) (by kernel_rfl) (by kernel_rfl) (fun _ _ _ h => h) (Or.inl ⟨by rfl, ?hy1⟩) (by assumption) ?rest1
  case hy1 => intro W hS; go_simp; try (with_reducible rfl)
  simp only [Act.put, List.setIfInBounds_toArray, List.set_cons_zero, List.set_cons_succ]
  refine wpAnyH_take (i := 2) (oi := { dst := some 13, op := Op.load 3 (Operand.tmp 12), type := 3, pos := "l16_text.go:27", after := #[{ on := 1, ground := Ground.data }], guard := none }) (v := ?vv2) rfl (by kernel_rfl) (by kernel_rfl) (by kernel_rfl) (fun _ _ _ h => h) (Or.inl ⟨by rfl, ?hy2⟩) (by assumption) ?rest2
  case hy2 => intro W hS; have c0 := cell_later hS x0; go_simp; try (with_reducible rfl)
  simp only [Act.put, List.setIfInBounds_toArray, List.set_cons_zero, List.set_cons_succ]
  refine wpAnyH_ready (rs := [0]) (by kernel_rfl) (by simp) ?_
  refine AllReadyH.cons (o := { dst := some 11, op := Op.call { callee := Callee.value (Operand.func 19), args := #[], argTypes := #[] }, type := 39, pos := "l16_text.go:27", after := #[], guard := none }) rfl (fun K2 hK2 => ?_) AllReadyH.nil
  go_simp
  refine (l16Names_any _).mono ?_
  rintro e w3 ⟨rfl, N3, b3⟩
  have n3 := N3.cell 1
  simp only [List.getElem?_toArray, List.getElem?_cons_succ, List.getElem?_cons_zero] at n3
  go_wp2_with fail
  refine hK2.out _ _ ?_ (fun hHeld2 => ?_)
  · exact bel_trans hHeld b3
  clear hK2 K2 hHeld
  have hHeld := hHeld2
  clear hHeld2
  try simp only [Act.put, List.setIfInBounds_toArray, List.set_cons_zero, List.set_cons_succ]
  have hz3 := b3.size
  have hs_w3 : w2.heap.size ≤ w3.heap.size := hHeld.size
  clear b3
  refine wpAnyH_take (i := 3) (oi := { dst := some 14, op := Op.indexAddr 39 (Operand.tmp 11) (Operand.tmp 13), type := 0, pos := "l16_text.go:27", after := #[{ on := 0, ground := Ground.data }, { on := 2, ground := Ground.data }], guard := none }) (v := ?vv3) rfl (by kernel_rfl) (by kernel_rfl) (by kernel_rfl) (fun _ _ _ h => h) (Or.inl ⟨by rfl, ?hy3⟩) (by assumption) ?rest3
  case hy3 => intro W hS; go_simp; try (with_reducible rfl)
  simp only [Act.put, List.setIfInBounds_toArray, List.set_cons_zero, List.set_cons_succ]
  refine wpAnyH_ready (rs := [4]) (by kernel_rfl) (by simp) ?_
  refine AllReadyH.cons (o := { dst := some 15, op := Op.load 9 (Operand.tmp 14), type := 9, pos := "l16_text.go:27", after := #[{ on := 3, ground := Ground.data }], guard := none }) rfl (fun K2 hK2 => ?_) AllReadyH.nil
  go_simp
  refine hK2.out _ _ ?_ (fun hHeld2 => ?_)
  · exact hHeld
  clear hK2 K2 hHeld
  have hHeld := hHeld2
  clear hHeld2
  try simp only [Act.put, List.setIfInBounds_toArray, List.set_cons_zero, List.set_cons_succ]
  refine wpAnyH_take (i := 5) (oi := { dst := some 4, op := Op.assign (Operand.tmp 15), type := 9, pos := "l16_text.go:27", after := #[{ on := 4, ground := Ground.data }, { on := 0, ground := Ground.chain }, { on := 0, ground := Ground.phase }, { on := 1, ground := Ground.phase }, { on := 2, ground := Ground.phase }, { on := 3, ground := Ground.phase }, { on := 4, ground := Ground.phase }], guard := none }) (v := ?vv4) rfl (by kernel_rfl) (by kernel_rfl) (by kernel_rfl) (fun _ _ _ h => h) (Or.inl ⟨by rfl, ?hy4⟩) (by assumption) ?rest4
  case hy4 => intro W hS; go_simp; try (with_reducible rfl)
  simp only [Act.put, List.setIfInBounds_toArray, List.set_cons_zero, List.set_cons_succ]
  refine wpAnyH_done (by kernel_rfl) ?_ _
  replace X := X.below hHeld
  replace B := bel_trans B hHeld
  clear hHeld x0 x1 x2 x3 x4 xz n3 N3 hz3 hs_w3 hs_V0
  obtain ⟨x0, x1, x2, x3, x4, xz⟩ := X.at5i
  go_wp2_with fail
  refine (l16Digits_any r (by omega) _).mono ?_
  rintro e v1 ⟨rfl, b4⟩
  replace X := X.below b4
  replace B := bel_trans B b4
  have L1 := digs_len r
  clear b4 x0 x1 x2 x3 x4 xz
  obtain ⟨x0, x1, x2, x3, x4, xz⟩ := X.at5i
  obtain ⟨g1, eg1⟩ : ∃ g, digs r = g := ⟨_, rfl⟩
  have G1 : Hid (digs r = g1) := eg1
  rw [eg1] at L1 ⊢
  clear eg1
  go_wp2_with fail
  refine (l16Digits_any n (by omega) _).mono ?_
  rintro e v2 ⟨rfl, b4⟩
  replace X := X.below b4
  replace B := bel_trans B b4
  have L2 := digs_len n
  clear b4 x0 x1 x2 x3 x4 xz
  obtain ⟨x0, x1, x2, x3, x4, xz⟩ := X.at5i
  obtain ⟨g2, eg2⟩ : ∃ g, digs n = g := ⟨_, rfl⟩
  have G2 : Hid (digs n = g2) := eg2
  rw [eg2] at L2 ⊢
  clear eg2
  go_wp2
  go_ret
  refine ⟨?_, B⟩
  show Ending.returned (.string ((⟨[115, 101, 116].toArray⟩ : ByteArray) ++ (⟨[32, 114].toArray⟩ : ByteArray) ++ (⟨g1.toArray⟩ : ByteArray) ++ (⟨[32].toArray⟩ : ByteArray) ++ (⟨g2.toArray⟩ : ByteArray))) = _
  simp only [ByteArray.mk_append_mk]
  rw [← G1.out, ← G2.out]
  simp [opT, nameT, regT, numT]

set_option maxRecDepth 100000 in
set_option maxHeartbeats 4000000 in
theorem insText_2 (r a b n : Nat) (w : World) (hr : r ≤ 3) (ha : a ≤ 3) (hb : b ≤ 3) (hn : n ≤ 63) (hi : insB 2 r a b n = true) :
    Calls Tryd.prog 6 #[.agg (icells 2 r a b n)] w fun e w' => e = .returned (txt (opT 2 r a b n)) ∧ Below w.heap.size w w' := by
  have B := bel_alloc (Below.refl w.heap.size w) (.cells (icells 2 r a b n) 25)
  have X := Box.new w (icells 2 r a b n) 25
  have HI : Hid (insB 2 r a b n = true) := hi
  clear hi
  obtain ⟨x0, x1, x2, x3, x4, xz⟩ := X.at5i
  go_enter Tryd.func6, Tryd.ntmps6
  go_wp2_with fail
  refine (specInsOk_any 2 r a b n _).mono ?_
  rintro e w1 ⟨rfl, b1⟩
  rw [HI.out]
  replace X := X.below b1
  replace B := bel_trans B b1
  clear b1 x0 x1 x2 x3 x4 xz
  obtain ⟨x0, x1, x2, x3, x4, xz⟩ := X.at5i
  go_wp2_with fail
  refine (l8Has_any 2 _).mono ?_
  rintro e w2 ⟨rfl, b2⟩
  rw [show tab 2 = 7 from rfl]
  replace X := X.below b2
  replace B := bel_trans B b2
  clear b2 x0 x1 x2 x3 x4 xz
  obtain ⟨x0, x1, x2, x3, x4, xz⟩ := X.at5i
  go_wp2_with fail
  refine wp_region_held_drew (S := fun W => Below w2.heap.size w2 W) (by kernel_rfl) ?_ (fun hHeld => ?_)
  · exact below_drewN (Below.refl _ _) 1
  obtain ⟨V0, hV0⟩ : ∃ V, w2.drew = V := ⟨_, rfl⟩
  rw [hV0] at hHeld ⊢
  clear hV0
  have hs_V0 : w2.heap.size ≤ V0.heap.size := hHeld.size
  refine wpAnyH_take (i := 1) (oi := { dst := some 12, op := Op.fieldAddr 25 (Operand.tmp 1) 0, type := 0, pos := "l16_text.go:27", after := #[], guard := none }) (v := ?vv5) rfl (by kernel_rfl) (by kernel_rfl) (by kernel_rfl) (fun _ _ _ h => h) (Or.inl ⟨by rfl, ?hy5⟩) (by assumption) ?rest5
  case hy5 => intro W hS; go_simp; try (with_reducible rfl)
  simp only [Act.put, List.setIfInBounds_toArray, List.set_cons_zero, List.set_cons_succ]
  refine wpAnyH_take (i := 2) (oi := { dst := some 13, op := Op.load 3 (Operand.tmp 12), type := 3, pos := "l16_text.go:27", after := #[{ on := 1, ground := Ground.data }], guard := none }) (v := ?vv6) rfl (by kernel_rfl) (by kernel_rfl) (by kernel_rfl) (fun _ _ _ h => h) (Or.inl ⟨by rfl, ?hy6⟩) (by assumption) ?rest6
  case hy6 => intro W hS; have c0 := cell_later hS x0; go_simp; try (with_reducible rfl)
  simp only [Act.put, List.setIfInBounds_toArray, List.set_cons_zero, List.set_cons_succ]
  refine wpAnyH_ready (rs := [0]) (by kernel_rfl) (by simp) ?_
  refine AllReadyH.cons (o := { dst := some 11, op := Op.call { callee := Callee.value (Operand.func 19), args := #[], argTypes := #[] }, type := 39, pos := "l16_text.go:27", after := #[], guard := none }) rfl (fun K2 hK2 => ?_) AllReadyH.nil
  go_simp
  refine (l16Names_any _).mono ?_
  rintro e w3 ⟨rfl, N3, b3⟩
  have n3 := N3.cell 2
  simp only [List.getElem?_toArray, List.getElem?_cons_succ, List.getElem?_cons_zero] at n3
  go_wp2_with fail
  refine hK2.out _ _ ?_ (fun hHeld2 => ?_)
  · exact bel_trans hHeld b3
  clear hK2 K2 hHeld
  have hHeld := hHeld2
  clear hHeld2
  try simp only [Act.put, List.setIfInBounds_toArray, List.set_cons_zero, List.set_cons_succ]
  have hz3 := b3.size
  have hs_w3 : w2.heap.size ≤ w3.heap.size := hHeld.size
  clear b3
  refine wpAnyH_take (i := 3) (oi := { dst := some 14, op := Op.indexAddr 39 (Operand.tmp 11) (Operand.tmp 13), type := 0, pos := "l16_text.go:27", after := #[{ on := 0, ground := Ground.data }, { on := 2, ground := Ground.data }], guard := none }) (v := ?vv7) rfl (by kernel_rfl) (by kernel_rfl) (by kernel_rfl) (fun _ _ _ h => h) (Or.inl ⟨by rfl, ?hy7⟩) (by assumption) ?rest7
  case hy7 => intro W hS; go_simp; try (with_reducible rfl)
  simp only [Act.put, List.setIfInBounds_toArray, List.set_cons_zero, List.set_cons_succ]
  refine wpAnyH_ready (rs := [4]) (by kernel_rfl) (by simp) ?_
  refine AllReadyH.cons (o := { dst := some 15, op := Op.load 9 (Operand.tmp 14), type := 9, pos := "l16_text.go:27", after := #[{ on := 3, ground := Ground.data }], guard := none }) rfl (fun K2 hK2 => ?_) AllReadyH.nil
  go_simp
  refine hK2.out _ _ ?_ (fun hHeld2 => ?_)
  · exact hHeld
  clear hK2 K2 hHeld
  have hHeld := hHeld2
  clear hHeld2
  try simp only [Act.put, List.setIfInBounds_toArray, List.set_cons_zero, List.set_cons_succ]
  refine wpAnyH_take (i := 5) (oi := { dst := some 4, op := Op.assign (Operand.tmp 15), type := 9, pos := "l16_text.go:27", after := #[{ on := 4, ground := Ground.data }, { on := 0, ground := Ground.chain }, { on := 0, ground := Ground.phase }, { on := 1, ground := Ground.phase }, { on := 2, ground := Ground.phase }, { on := 3, ground := Ground.phase }, { on := 4, ground := Ground.phase }], guard := none }) (v := ?vv8) rfl (by kernel_rfl) (by kernel_rfl) (by kernel_rfl) (fun _ _ _ h => h) (Or.inl ⟨by rfl, ?hy8⟩) (by assumption) ?rest8
  case hy8 => intro W hS; go_simp; try (with_reducible rfl)
  simp only [Act.put, List.setIfInBounds_toArray, List.set_cons_zero, List.set_cons_succ]
  refine wpAnyH_done (by kernel_rfl) ?_ _
  replace X := X.below hHeld
  replace B := bel_trans B hHeld
  clear hHeld x0 x1 x2 x3 x4 xz n3 N3 hz3 hs_w3 hs_V0
  obtain ⟨x0, x1, x2, x3, x4, xz⟩ := X.at5i
  go_wp2_with fail
  refine (l16Digits_any r (by omega) _).mono ?_
  rintro e v1 ⟨rfl, b4⟩
  replace X := X.below b4
  replace B := bel_trans B b4
  have L1 := digs_len r
  clear b4 x0 x1 x2 x3 x4 xz
  obtain ⟨x0, x1, x2, x3, x4, xz⟩ := X.at5i
  obtain ⟨g1, eg1⟩ : ∃ g, digs r = g := ⟨_, rfl⟩
  have G1 : Hid (digs r = g1) := eg1
  rw [eg1] at L1 ⊢
  clear eg1
  go_wp2_with fail
  refine (l16Digits_any a (by omega) _).mono ?_
  rintro e v2 ⟨rfl, b4⟩
  replace X := X.below b4
  replace B := bel_trans B b4
  have L2 := digs_len a
  clear b4 x0 x1 x2 x3 x4 xz
  obtain ⟨x0, x1, x2, x3, x4, xz⟩ := X.at5i
  obtain ⟨g2, eg2⟩ : ∃ g, digs a = g := ⟨_, rfl⟩
  have G2 : Hid (digs a = g2) := eg2
  rw [eg2] at L2 ⊢
  clear eg2
  go_wp2_with fail
  refine (l16Digits_any b (by omega) _).mono ?_
  rintro e v3 ⟨rfl, b4⟩
  replace X := X.below b4
  replace B := bel_trans B b4
  have L3 := digs_len b
  clear b4 x0 x1 x2 x3 x4 xz
  obtain ⟨x0, x1, x2, x3, x4, xz⟩ := X.at5i
  obtain ⟨g3, eg3⟩ : ∃ g, digs b = g := ⟨_, rfl⟩
  have G3 : Hid (digs b = g3) := eg3
  rw [eg3] at L3 ⊢
  clear eg3
  go_wp2
  go_ret
  refine ⟨?_, B⟩
  show Ending.returned (.string ((⟨[97, 100, 100].toArray⟩ : ByteArray) ++ (⟨[32, 114].toArray⟩ : ByteArray) ++ (⟨g1.toArray⟩ : ByteArray) ++ (⟨[32, 114].toArray⟩ : ByteArray) ++ (⟨g2.toArray⟩ : ByteArray) ++ (⟨[32, 114].toArray⟩ : ByteArray) ++ (⟨g3.toArray⟩ : ByteArray))) = _
  simp only [ByteArray.mk_append_mk]
  rw [← G1.out, ← G2.out, ← G3.out]
  simp [opT, nameT, regT]

set_option maxRecDepth 100000 in
set_option maxHeartbeats 4000000 in
theorem insText_3 (r a b n : Nat) (w : World) (hr : r ≤ 3) (ha : a ≤ 3) (hb : b ≤ 3) (hn : n ≤ 63) (hi : insB 3 r a b n = true) :
    Calls Tryd.prog 6 #[.agg (icells 3 r a b n)] w fun e w' => e = .returned (txt (opT 3 r a b n)) ∧ Below w.heap.size w w' := by
  have B := bel_alloc (Below.refl w.heap.size w) (.cells (icells 3 r a b n) 25)
  have X := Box.new w (icells 3 r a b n) 25
  have HI : Hid (insB 3 r a b n = true) := hi
  clear hi
  obtain ⟨x0, x1, x2, x3, x4, xz⟩ := X.at5i
  go_enter Tryd.func6, Tryd.ntmps6
  go_wp2_with fail
  refine (specInsOk_any 3 r a b n _).mono ?_
  rintro e w1 ⟨rfl, b1⟩
  rw [HI.out]
  replace X := X.below b1
  replace B := bel_trans B b1
  clear b1 x0 x1 x2 x3 x4 xz
  obtain ⟨x0, x1, x2, x3, x4, xz⟩ := X.at5i
  go_wp2_with fail
  refine (l8Has_any 3 _).mono ?_
  rintro e w2 ⟨rfl, b2⟩
  rw [show tab 3 = 11 from rfl]
  replace X := X.below b2
  replace B := bel_trans B b2
  clear b2 x0 x1 x2 x3 x4 xz
  obtain ⟨x0, x1, x2, x3, x4, xz⟩ := X.at5i
  go_wp2_with fail
  refine wp_region_held_drew (S := fun W => Below w2.heap.size w2 W) (by kernel_rfl) ?_ (fun hHeld => ?_)
  · exact below_drewN (Below.refl _ _) 1
  obtain ⟨V0, hV0⟩ : ∃ V, w2.drew = V := ⟨_, rfl⟩
  rw [hV0] at hHeld ⊢
  clear hV0
  have hs_V0 : w2.heap.size ≤ V0.heap.size := hHeld.size
  refine wpAnyH_take (i := 1) (oi := { dst := some 12, op := Op.fieldAddr 25 (Operand.tmp 1) 0, type := 0, pos := "l16_text.go:27", after := #[], guard := none }) (v := ?vv9) rfl (by kernel_rfl) (by kernel_rfl) (by kernel_rfl) (fun _ _ _ h => h) (Or.inl ⟨by rfl, ?hy9⟩) (by assumption) ?rest9
  case hy9 => intro W hS; go_simp; try (with_reducible rfl)
  simp only [Act.put, List.setIfInBounds_toArray, List.set_cons_zero, List.set_cons_succ]
  refine wpAnyH_take (i := 2) (oi := { dst := some 13, op := Op.load 3 (Operand.tmp 12), type := 3, pos := "l16_text.go:27", after := #[{ on := 1, ground := Ground.data }], guard := none }) (v := ?vv10) rfl (by kernel_rfl) (by kernel_rfl) (by kernel_rfl) (fun _ _ _ h => h) (Or.inl ⟨by rfl, ?hy10⟩) (by assumption) ?rest10
  case hy10 => intro W hS; have c0 := cell_later hS x0; go_simp; try (with_reducible rfl)
  simp only [Act.put, List.setIfInBounds_toArray, List.set_cons_zero, List.set_cons_succ]
  refine wpAnyH_ready (rs := [0]) (by kernel_rfl) (by simp) ?_
  refine AllReadyH.cons (o := { dst := some 11, op := Op.call { callee := Callee.value (Operand.func 19), args := #[], argTypes := #[] }, type := 39, pos := "l16_text.go:27", after := #[], guard := none }) rfl (fun K2 hK2 => ?_) AllReadyH.nil
  go_simp
  refine (l16Names_any _).mono ?_
  rintro e w3 ⟨rfl, N3, b3⟩
  have n3 := N3.cell 3
  simp only [List.getElem?_toArray, List.getElem?_cons_succ, List.getElem?_cons_zero] at n3
  go_wp2_with fail
  refine hK2.out _ _ ?_ (fun hHeld2 => ?_)
  · exact bel_trans hHeld b3
  clear hK2 K2 hHeld
  have hHeld := hHeld2
  clear hHeld2
  try simp only [Act.put, List.setIfInBounds_toArray, List.set_cons_zero, List.set_cons_succ]
  have hz3 := b3.size
  have hs_w3 : w2.heap.size ≤ w3.heap.size := hHeld.size
  clear b3
  refine wpAnyH_take (i := 3) (oi := { dst := some 14, op := Op.indexAddr 39 (Operand.tmp 11) (Operand.tmp 13), type := 0, pos := "l16_text.go:27", after := #[{ on := 0, ground := Ground.data }, { on := 2, ground := Ground.data }], guard := none }) (v := ?vv11) rfl (by kernel_rfl) (by kernel_rfl) (by kernel_rfl) (fun _ _ _ h => h) (Or.inl ⟨by rfl, ?hy11⟩) (by assumption) ?rest11
  case hy11 => intro W hS; go_simp; try (with_reducible rfl)
  simp only [Act.put, List.setIfInBounds_toArray, List.set_cons_zero, List.set_cons_succ]
  refine wpAnyH_ready (rs := [4]) (by kernel_rfl) (by simp) ?_
  refine AllReadyH.cons (o := { dst := some 15, op := Op.load 9 (Operand.tmp 14), type := 9, pos := "l16_text.go:27", after := #[{ on := 3, ground := Ground.data }], guard := none }) rfl (fun K2 hK2 => ?_) AllReadyH.nil
  go_simp
  refine hK2.out _ _ ?_ (fun hHeld2 => ?_)
  · exact hHeld
  clear hK2 K2 hHeld
  have hHeld := hHeld2
  clear hHeld2
  try simp only [Act.put, List.setIfInBounds_toArray, List.set_cons_zero, List.set_cons_succ]
  refine wpAnyH_take (i := 5) (oi := { dst := some 4, op := Op.assign (Operand.tmp 15), type := 9, pos := "l16_text.go:27", after := #[{ on := 4, ground := Ground.data }, { on := 0, ground := Ground.chain }, { on := 0, ground := Ground.phase }, { on := 1, ground := Ground.phase }, { on := 2, ground := Ground.phase }, { on := 3, ground := Ground.phase }, { on := 4, ground := Ground.phase }], guard := none }) (v := ?vv12) rfl (by kernel_rfl) (by kernel_rfl) (by kernel_rfl) (fun _ _ _ h => h) (Or.inl ⟨by rfl, ?hy12⟩) (by assumption) ?rest12
  case hy12 => intro W hS; go_simp; try (with_reducible rfl)
  simp only [Act.put, List.setIfInBounds_toArray, List.set_cons_zero, List.set_cons_succ]
  refine wpAnyH_done (by kernel_rfl) ?_ _
  replace X := X.below hHeld
  replace B := bel_trans B hHeld
  clear hHeld x0 x1 x2 x3 x4 xz n3 N3 hz3 hs_w3 hs_V0
  obtain ⟨x0, x1, x2, x3, x4, xz⟩ := X.at5i
  go_wp2_with fail
  refine (l16Digits_any r (by omega) _).mono ?_
  rintro e v1 ⟨rfl, b4⟩
  replace X := X.below b4
  replace B := bel_trans B b4
  have L1 := digs_len r
  clear b4 x0 x1 x2 x3 x4 xz
  obtain ⟨x0, x1, x2, x3, x4, xz⟩ := X.at5i
  obtain ⟨g1, eg1⟩ : ∃ g, digs r = g := ⟨_, rfl⟩
  have G1 : Hid (digs r = g1) := eg1
  rw [eg1] at L1 ⊢
  clear eg1
  go_wp2_with fail
  refine (l16Digits_any a (by omega) _).mono ?_
  rintro e v2 ⟨rfl, b4⟩
  replace X := X.below b4
  replace B := bel_trans B b4
  have L2 := digs_len a
  clear b4 x0 x1 x2 x3 x4 xz
  obtain ⟨x0, x1, x2, x3, x4, xz⟩ := X.at5i
  obtain ⟨g2, eg2⟩ : ∃ g, digs a = g := ⟨_, rfl⟩
  have G2 : Hid (digs a = g2) := eg2
  rw [eg2] at L2 ⊢
  clear eg2
  go_wp2_with fail
  refine (l16Digits_any n (by omega) _).mono ?_
  rintro e v3 ⟨rfl, b4⟩
  replace X := X.below b4
  replace B := bel_trans B b4
  have L3 := digs_len n
  clear b4 x0 x1 x2 x3 x4 xz
  obtain ⟨x0, x1, x2, x3, x4, xz⟩ := X.at5i
  obtain ⟨g3, eg3⟩ : ∃ g, digs n = g := ⟨_, rfl⟩
  have G3 : Hid (digs n = g3) := eg3
  rw [eg3] at L3 ⊢
  clear eg3
  go_wp2
  go_ret
  refine ⟨?_, B⟩
  show Ending.returned (.string ((⟨[109, 111, 114, 101].toArray⟩ : ByteArray) ++ (⟨[32, 114].toArray⟩ : ByteArray) ++ (⟨g1.toArray⟩ : ByteArray) ++ (⟨[32, 114].toArray⟩ : ByteArray) ++ (⟨g2.toArray⟩ : ByteArray) ++ (⟨[32].toArray⟩ : ByteArray) ++ (⟨g3.toArray⟩ : ByteArray))) = _
  simp only [ByteArray.mk_append_mk]
  rw [← G1.out, ← G2.out, ← G3.out]
  simp [opT, nameT, regT, numT]

set_option maxRecDepth 100000 in
set_option maxHeartbeats 4000000 in
theorem insText_4 (r a b n : Nat) (w : World) (hr : r ≤ 3) (ha : a ≤ 3) (hb : b ≤ 3) (hn : n ≤ 63) (hi : insB 4 r a b n = true) :
    Calls Tryd.prog 6 #[.agg (icells 4 r a b n)] w fun e w' => e = .returned (txt (opT 4 r a b n)) ∧ Below w.heap.size w w' := by
  have B := bel_alloc (Below.refl w.heap.size w) (.cells (icells 4 r a b n) 25)
  have X := Box.new w (icells 4 r a b n) 25
  have HI : Hid (insB 4 r a b n = true) := hi
  clear hi
  obtain ⟨x0, x1, x2, x3, x4, xz⟩ := X.at5i
  go_enter Tryd.func6, Tryd.ntmps6
  go_wp2_with fail
  refine (specInsOk_any 4 r a b n _).mono ?_
  rintro e w1 ⟨rfl, b1⟩
  rw [HI.out]
  replace X := X.below b1
  replace B := bel_trans B b1
  clear b1 x0 x1 x2 x3 x4 xz
  obtain ⟨x0, x1, x2, x3, x4, xz⟩ := X.at5i
  go_wp2_with fail
  refine (l8Has_any 4 _).mono ?_
  rintro e w2 ⟨rfl, b2⟩
  rw [show tab 4 = 11 from rfl]
  replace X := X.below b2
  replace B := bel_trans B b2
  clear b2 x0 x1 x2 x3 x4 xz
  obtain ⟨x0, x1, x2, x3, x4, xz⟩ := X.at5i
  go_wp2_with fail
  refine wp_region_held_drew (S := fun W => Below w2.heap.size w2 W) (by kernel_rfl) ?_ (fun hHeld => ?_)
  · exact below_drewN (Below.refl _ _) 1
  obtain ⟨V0, hV0⟩ : ∃ V, w2.drew = V := ⟨_, rfl⟩
  rw [hV0] at hHeld ⊢
  clear hV0
  have hs_V0 : w2.heap.size ≤ V0.heap.size := hHeld.size
  refine wpAnyH_take (i := 1) (oi := { dst := some 12, op := Op.fieldAddr 25 (Operand.tmp 1) 0, type := 0, pos := "l16_text.go:27", after := #[], guard := none }) (v := ?vv13) rfl (by kernel_rfl) (by kernel_rfl) (by kernel_rfl) (fun _ _ _ h => h) (Or.inl ⟨by rfl, ?hy13⟩) (by assumption) ?rest13
  case hy13 => intro W hS; go_simp; try (with_reducible rfl)
  simp only [Act.put, List.setIfInBounds_toArray, List.set_cons_zero, List.set_cons_succ]
  refine wpAnyH_take (i := 2) (oi := { dst := some 13, op := Op.load 3 (Operand.tmp 12), type := 3, pos := "l16_text.go:27", after := #[{ on := 1, ground := Ground.data }], guard := none }) (v := ?vv14) rfl (by kernel_rfl) (by kernel_rfl) (by kernel_rfl) (fun _ _ _ h => h) (Or.inl ⟨by rfl, ?hy14⟩) (by assumption) ?rest14
  case hy14 => intro W hS; have c0 := cell_later hS x0; go_simp; try (with_reducible rfl)
  simp only [Act.put, List.setIfInBounds_toArray, List.set_cons_zero, List.set_cons_succ]
  refine wpAnyH_ready (rs := [0]) (by kernel_rfl) (by simp) ?_
  refine AllReadyH.cons (o := { dst := some 11, op := Op.call { callee := Callee.value (Operand.func 19), args := #[], argTypes := #[] }, type := 39, pos := "l16_text.go:27", after := #[], guard := none }) rfl (fun K2 hK2 => ?_) AllReadyH.nil
  go_simp
  refine (l16Names_any _).mono ?_
  rintro e w3 ⟨rfl, N3, b3⟩
  have n3 := N3.cell 4
  simp only [List.getElem?_toArray, List.getElem?_cons_succ, List.getElem?_cons_zero] at n3
  go_wp2_with fail
  refine hK2.out _ _ ?_ (fun hHeld2 => ?_)
  · exact bel_trans hHeld b3
  clear hK2 K2 hHeld
  have hHeld := hHeld2
  clear hHeld2
  try simp only [Act.put, List.setIfInBounds_toArray, List.set_cons_zero, List.set_cons_succ]
  have hz3 := b3.size
  have hs_w3 : w2.heap.size ≤ w3.heap.size := hHeld.size
  clear b3
  refine wpAnyH_take (i := 3) (oi := { dst := some 14, op := Op.indexAddr 39 (Operand.tmp 11) (Operand.tmp 13), type := 0, pos := "l16_text.go:27", after := #[{ on := 0, ground := Ground.data }, { on := 2, ground := Ground.data }], guard := none }) (v := ?vv15) rfl (by kernel_rfl) (by kernel_rfl) (by kernel_rfl) (fun _ _ _ h => h) (Or.inl ⟨by rfl, ?hy15⟩) (by assumption) ?rest15
  case hy15 => intro W hS; go_simp; try (with_reducible rfl)
  simp only [Act.put, List.setIfInBounds_toArray, List.set_cons_zero, List.set_cons_succ]
  refine wpAnyH_ready (rs := [4]) (by kernel_rfl) (by simp) ?_
  refine AllReadyH.cons (o := { dst := some 15, op := Op.load 9 (Operand.tmp 14), type := 9, pos := "l16_text.go:27", after := #[{ on := 3, ground := Ground.data }], guard := none }) rfl (fun K2 hK2 => ?_) AllReadyH.nil
  go_simp
  refine hK2.out _ _ ?_ (fun hHeld2 => ?_)
  · exact hHeld
  clear hK2 K2 hHeld
  have hHeld := hHeld2
  clear hHeld2
  try simp only [Act.put, List.setIfInBounds_toArray, List.set_cons_zero, List.set_cons_succ]
  refine wpAnyH_take (i := 5) (oi := { dst := some 4, op := Op.assign (Operand.tmp 15), type := 9, pos := "l16_text.go:27", after := #[{ on := 4, ground := Ground.data }, { on := 0, ground := Ground.chain }, { on := 0, ground := Ground.phase }, { on := 1, ground := Ground.phase }, { on := 2, ground := Ground.phase }, { on := 3, ground := Ground.phase }, { on := 4, ground := Ground.phase }], guard := none }) (v := ?vv16) rfl (by kernel_rfl) (by kernel_rfl) (by kernel_rfl) (fun _ _ _ h => h) (Or.inl ⟨by rfl, ?hy16⟩) (by assumption) ?rest16
  case hy16 => intro W hS; go_simp; try (with_reducible rfl)
  simp only [Act.put, List.setIfInBounds_toArray, List.set_cons_zero, List.set_cons_succ]
  refine wpAnyH_done (by kernel_rfl) ?_ _
  replace X := X.below hHeld
  replace B := bel_trans B hHeld
  clear hHeld x0 x1 x2 x3 x4 xz n3 N3 hz3 hs_w3 hs_V0
  obtain ⟨x0, x1, x2, x3, x4, xz⟩ := X.at5i
  go_wp2_with fail
  refine (l16Digits_any r (by omega) _).mono ?_
  rintro e v1 ⟨rfl, b4⟩
  replace X := X.below b4
  replace B := bel_trans B b4
  have L1 := digs_len r
  clear b4 x0 x1 x2 x3 x4 xz
  obtain ⟨x0, x1, x2, x3, x4, xz⟩ := X.at5i
  obtain ⟨g1, eg1⟩ : ∃ g, digs r = g := ⟨_, rfl⟩
  have G1 : Hid (digs r = g1) := eg1
  rw [eg1] at L1 ⊢
  clear eg1
  go_wp2_with fail
  refine (l16Digits_any a (by omega) _).mono ?_
  rintro e v2 ⟨rfl, b4⟩
  replace X := X.below b4
  replace B := bel_trans B b4
  have L2 := digs_len a
  clear b4 x0 x1 x2 x3 x4 xz
  obtain ⟨x0, x1, x2, x3, x4, xz⟩ := X.at5i
  obtain ⟨g2, eg2⟩ : ∃ g, digs a = g := ⟨_, rfl⟩
  have G2 : Hid (digs a = g2) := eg2
  rw [eg2] at L2 ⊢
  clear eg2
  go_wp2_with fail
  refine (l16Digits_any n (by omega) _).mono ?_
  rintro e v3 ⟨rfl, b4⟩
  replace X := X.below b4
  replace B := bel_trans B b4
  have L3 := digs_len n
  clear b4 x0 x1 x2 x3 x4 xz
  obtain ⟨x0, x1, x2, x3, x4, xz⟩ := X.at5i
  obtain ⟨g3, eg3⟩ : ∃ g, digs n = g := ⟨_, rfl⟩
  have G3 : Hid (digs n = g3) := eg3
  rw [eg3] at L3 ⊢
  clear eg3
  go_wp2
  go_ret
  refine ⟨?_, B⟩
  show Ending.returned (.string ((⟨[108, 111, 97, 100].toArray⟩ : ByteArray) ++ (⟨[32, 114].toArray⟩ : ByteArray) ++ (⟨g1.toArray⟩ : ByteArray) ++ (⟨[32, 114].toArray⟩ : ByteArray) ++ (⟨g2.toArray⟩ : ByteArray) ++ (⟨[32].toArray⟩ : ByteArray) ++ (⟨g3.toArray⟩ : ByteArray))) = _
  simp only [ByteArray.mk_append_mk]
  rw [← G1.out, ← G2.out, ← G3.out]
  simp [opT, nameT, regT, numT]

set_option maxRecDepth 100000 in
set_option maxHeartbeats 4000000 in
theorem insText_5 (r a b n : Nat) (w : World) (hr : r ≤ 3) (ha : a ≤ 3) (hb : b ≤ 3) (hn : n ≤ 63) (hi : insB 5 r a b n = true) :
    Calls Tryd.prog 6 #[.agg (icells 5 r a b n)] w fun e w' => e = .returned (txt (opT 5 r a b n)) ∧ Below w.heap.size w w' := by
  have B := bel_alloc (Below.refl w.heap.size w) (.cells (icells 5 r a b n) 25)
  have X := Box.new w (icells 5 r a b n) 25
  have HI : Hid (insB 5 r a b n = true) := hi
  clear hi
  obtain ⟨x0, x1, x2, x3, x4, xz⟩ := X.at5i
  go_enter Tryd.func6, Tryd.ntmps6
  go_wp2_with fail
  refine (specInsOk_any 5 r a b n _).mono ?_
  rintro e w1 ⟨rfl, b1⟩
  rw [HI.out]
  replace X := X.below b1
  replace B := bel_trans B b1
  clear b1 x0 x1 x2 x3 x4 xz
  obtain ⟨x0, x1, x2, x3, x4, xz⟩ := X.at5i
  go_wp2_with fail
  refine (l8Has_any 5 _).mono ?_
  rintro e w2 ⟨rfl, b2⟩
  rw [show tab 5 = 14 from rfl]
  replace X := X.below b2
  replace B := bel_trans B b2
  clear b2 x0 x1 x2 x3 x4 xz
  obtain ⟨x0, x1, x2, x3, x4, xz⟩ := X.at5i
  go_wp2_with fail
  refine wp_region_held_drew (S := fun W => Below w2.heap.size w2 W) (by kernel_rfl) ?_ (fun hHeld => ?_)
  · exact below_drewN (Below.refl _ _) 1
  obtain ⟨V0, hV0⟩ : ∃ V, w2.drew = V := ⟨_, rfl⟩
  rw [hV0] at hHeld ⊢
  clear hV0
  have hs_V0 : w2.heap.size ≤ V0.heap.size := hHeld.size
  refine wpAnyH_take (i := 1) (oi := { dst := some 12, op := Op.fieldAddr 25 (Operand.tmp 1) 0, type := 0, pos := "l16_text.go:27", after := #[], guard := none }) (v := ?vv17) rfl (by kernel_rfl) (by kernel_rfl) (by kernel_rfl) (fun _ _ _ h => h) (Or.inl ⟨by rfl, ?hy17⟩) (by assumption) ?rest17
  case hy17 => intro W hS; go_simp; try (with_reducible rfl)
  simp only [Act.put, List.setIfInBounds_toArray, List.set_cons_zero, List.set_cons_succ]
  refine wpAnyH_take (i := 2) (oi := { dst := some 13, op := Op.load 3 (Operand.tmp 12), type := 3, pos := "l16_text.go:27", after := #[{ on := 1, ground := Ground.data }], guard := none }) (v := ?vv18) rfl (by kernel_rfl) (by kernel_rfl) (by kernel_rfl) (fun _ _ _ h => h) (Or.inl ⟨by rfl, ?hy18⟩) (by assumption) ?rest18
  case hy18 => intro W hS; have c0 := cell_later hS x0; go_simp; try (with_reducible rfl)
  simp only [Act.put, List.setIfInBounds_toArray, List.set_cons_zero, List.set_cons_succ]
  refine wpAnyH_ready (rs := [0]) (by kernel_rfl) (by simp) ?_
  refine AllReadyH.cons (o := { dst := some 11, op := Op.call { callee := Callee.value (Operand.func 19), args := #[], argTypes := #[] }, type := 39, pos := "l16_text.go:27", after := #[], guard := none }) rfl (fun K2 hK2 => ?_) AllReadyH.nil
  go_simp
  refine (l16Names_any _).mono ?_
  rintro e w3 ⟨rfl, N3, b3⟩
  have n3 := N3.cell 5
  simp only [List.getElem?_toArray, List.getElem?_cons_succ, List.getElem?_cons_zero] at n3
  go_wp2_with fail
  refine hK2.out _ _ ?_ (fun hHeld2 => ?_)
  · exact bel_trans hHeld b3
  clear hK2 K2 hHeld
  have hHeld := hHeld2
  clear hHeld2
  try simp only [Act.put, List.setIfInBounds_toArray, List.set_cons_zero, List.set_cons_succ]
  have hz3 := b3.size
  have hs_w3 : w2.heap.size ≤ w3.heap.size := hHeld.size
  clear b3
  refine wpAnyH_take (i := 3) (oi := { dst := some 14, op := Op.indexAddr 39 (Operand.tmp 11) (Operand.tmp 13), type := 0, pos := "l16_text.go:27", after := #[{ on := 0, ground := Ground.data }, { on := 2, ground := Ground.data }], guard := none }) (v := ?vv19) rfl (by kernel_rfl) (by kernel_rfl) (by kernel_rfl) (fun _ _ _ h => h) (Or.inl ⟨by rfl, ?hy19⟩) (by assumption) ?rest19
  case hy19 => intro W hS; go_simp; try (with_reducible rfl)
  simp only [Act.put, List.setIfInBounds_toArray, List.set_cons_zero, List.set_cons_succ]
  refine wpAnyH_ready (rs := [4]) (by kernel_rfl) (by simp) ?_
  refine AllReadyH.cons (o := { dst := some 15, op := Op.load 9 (Operand.tmp 14), type := 9, pos := "l16_text.go:27", after := #[{ on := 3, ground := Ground.data }], guard := none }) rfl (fun K2 hK2 => ?_) AllReadyH.nil
  go_simp
  refine hK2.out _ _ ?_ (fun hHeld2 => ?_)
  · exact hHeld
  clear hK2 K2 hHeld
  have hHeld := hHeld2
  clear hHeld2
  try simp only [Act.put, List.setIfInBounds_toArray, List.set_cons_zero, List.set_cons_succ]
  refine wpAnyH_take (i := 5) (oi := { dst := some 4, op := Op.assign (Operand.tmp 15), type := 9, pos := "l16_text.go:27", after := #[{ on := 4, ground := Ground.data }, { on := 0, ground := Ground.chain }, { on := 0, ground := Ground.phase }, { on := 1, ground := Ground.phase }, { on := 2, ground := Ground.phase }, { on := 3, ground := Ground.phase }, { on := 4, ground := Ground.phase }], guard := none }) (v := ?vv20) rfl (by kernel_rfl) (by kernel_rfl) (by kernel_rfl) (fun _ _ _ h => h) (Or.inl ⟨by rfl, ?hy20⟩) (by assumption) ?rest20
  case hy20 => intro W hS; go_simp; try (with_reducible rfl)
  simp only [Act.put, List.setIfInBounds_toArray, List.set_cons_zero, List.set_cons_succ]
  refine wpAnyH_done (by kernel_rfl) ?_ _
  replace X := X.below hHeld
  replace B := bel_trans B hHeld
  clear hHeld x0 x1 x2 x3 x4 xz n3 N3 hz3 hs_w3 hs_V0
  obtain ⟨x0, x1, x2, x3, x4, xz⟩ := X.at5i
  go_wp2_with fail
  refine (l16Digits_any a (by omega) _).mono ?_
  rintro e v1 ⟨rfl, b4⟩
  replace X := X.below b4
  replace B := bel_trans B b4
  have L1 := digs_len a
  clear b4 x0 x1 x2 x3 x4 xz
  obtain ⟨x0, x1, x2, x3, x4, xz⟩ := X.at5i
  obtain ⟨g1, eg1⟩ : ∃ g, digs a = g := ⟨_, rfl⟩
  have G1 : Hid (digs a = g1) := eg1
  rw [eg1] at L1 ⊢
  clear eg1
  go_wp2_with fail
  refine (l16Digits_any b (by omega) _).mono ?_
  rintro e v2 ⟨rfl, b4⟩
  replace X := X.below b4
  replace B := bel_trans B b4
  have L2 := digs_len b
  clear b4 x0 x1 x2 x3 x4 xz
  obtain ⟨x0, x1, x2, x3, x4, xz⟩ := X.at5i
  obtain ⟨g2, eg2⟩ : ∃ g, digs b = g := ⟨_, rfl⟩
  have G2 : Hid (digs b = g2) := eg2
  rw [eg2] at L2 ⊢
  clear eg2
  go_wp2_with fail
  refine (l16Digits_any n (by omega) _).mono ?_
  rintro e v3 ⟨rfl, b4⟩
  replace X := X.below b4
  replace B := bel_trans B b4
  have L3 := digs_len n
  clear b4 x0 x1 x2 x3 x4 xz
  obtain ⟨x0, x1, x2, x3, x4, xz⟩ := X.at5i
  obtain ⟨g3, eg3⟩ : ∃ g, digs n = g := ⟨_, rfl⟩
  have G3 : Hid (digs n = g3) := eg3
  rw [eg3] at L3 ⊢
  clear eg3
  go_wp2
  go_ret
  refine ⟨?_, B⟩
  show Ending.returned (.string ((⟨[115, 116, 111, 114, 101].toArray⟩ : ByteArray) ++ (⟨[32, 114].toArray⟩ : ByteArray) ++ (⟨g1.toArray⟩ : ByteArray) ++ (⟨[32, 114].toArray⟩ : ByteArray) ++ (⟨g2.toArray⟩ : ByteArray) ++ (⟨[32].toArray⟩ : ByteArray) ++ (⟨g3.toArray⟩ : ByteArray))) = _
  simp only [ByteArray.mk_append_mk]
  rw [← G1.out, ← G2.out, ← G3.out]
  simp [opT, nameT, regT, numT]

set_option maxRecDepth 100000 in
set_option maxHeartbeats 4000000 in
theorem insText_6 (r a b n : Nat) (w : World) (hr : r ≤ 3) (ha : a ≤ 3) (hb : b ≤ 3) (hn : n ≤ 63) (hi : insB 6 r a b n = true) :
    Calls Tryd.prog 6 #[.agg (icells 6 r a b n)] w fun e w' => e = .returned (txt (opT 6 r a b n)) ∧ Below w.heap.size w w' := by
  have B := bel_alloc (Below.refl w.heap.size w) (.cells (icells 6 r a b n) 25)
  have X := Box.new w (icells 6 r a b n) 25
  have HI : Hid (insB 6 r a b n = true) := hi
  clear hi
  obtain ⟨x0, x1, x2, x3, x4, xz⟩ := X.at5i
  go_enter Tryd.func6, Tryd.ntmps6
  go_wp2_with fail
  refine (specInsOk_any 6 r a b n _).mono ?_
  rintro e w1 ⟨rfl, b1⟩
  rw [HI.out]
  replace X := X.below b1
  replace B := bel_trans B b1
  clear b1 x0 x1 x2 x3 x4 xz
  obtain ⟨x0, x1, x2, x3, x4, xz⟩ := X.at5i
  go_wp2_with fail
  refine (l8Has_any 6 _).mono ?_
  rintro e w2 ⟨rfl, b2⟩
  rw [show tab 6 = 15 from rfl]
  replace X := X.below b2
  replace B := bel_trans B b2
  clear b2 x0 x1 x2 x3 x4 xz
  obtain ⟨x0, x1, x2, x3, x4, xz⟩ := X.at5i
  go_wp2_with fail
  refine wp_region_held_drew (S := fun W => Below w2.heap.size w2 W) (by kernel_rfl) ?_ (fun hHeld => ?_)
  · exact below_drewN (Below.refl _ _) 1
  obtain ⟨V0, hV0⟩ : ∃ V, w2.drew = V := ⟨_, rfl⟩
  rw [hV0] at hHeld ⊢
  clear hV0
  have hs_V0 : w2.heap.size ≤ V0.heap.size := hHeld.size
  refine wpAnyH_take (i := 1) (oi := { dst := some 12, op := Op.fieldAddr 25 (Operand.tmp 1) 0, type := 0, pos := "l16_text.go:27", after := #[], guard := none }) (v := ?vv21) rfl (by kernel_rfl) (by kernel_rfl) (by kernel_rfl) (fun _ _ _ h => h) (Or.inl ⟨by rfl, ?hy21⟩) (by assumption) ?rest21
  case hy21 => intro W hS; go_simp; try (with_reducible rfl)
  simp only [Act.put, List.setIfInBounds_toArray, List.set_cons_zero, List.set_cons_succ]
  refine wpAnyH_take (i := 2) (oi := { dst := some 13, op := Op.load 3 (Operand.tmp 12), type := 3, pos := "l16_text.go:27", after := #[{ on := 1, ground := Ground.data }], guard := none }) (v := ?vv22) rfl (by kernel_rfl) (by kernel_rfl) (by kernel_rfl) (fun _ _ _ h => h) (Or.inl ⟨by rfl, ?hy22⟩) (by assumption) ?rest22
  case hy22 => intro W hS; have c0 := cell_later hS x0; go_simp; try (with_reducible rfl)
  simp only [Act.put, List.setIfInBounds_toArray, List.set_cons_zero, List.set_cons_succ]
  refine wpAnyH_ready (rs := [0]) (by kernel_rfl) (by simp) ?_
  refine AllReadyH.cons (o := { dst := some 11, op := Op.call { callee := Callee.value (Operand.func 19), args := #[], argTypes := #[] }, type := 39, pos := "l16_text.go:27", after := #[], guard := none }) rfl (fun K2 hK2 => ?_) AllReadyH.nil
  go_simp
  refine (l16Names_any _).mono ?_
  rintro e w3 ⟨rfl, N3, b3⟩
  have n3 := N3.cell 6
  simp only [List.getElem?_toArray, List.getElem?_cons_succ, List.getElem?_cons_zero] at n3
  go_wp2_with fail
  refine hK2.out _ _ ?_ (fun hHeld2 => ?_)
  · exact bel_trans hHeld b3
  clear hK2 K2 hHeld
  have hHeld := hHeld2
  clear hHeld2
  try simp only [Act.put, List.setIfInBounds_toArray, List.set_cons_zero, List.set_cons_succ]
  have hz3 := b3.size
  have hs_w3 : w2.heap.size ≤ w3.heap.size := hHeld.size
  clear b3
  refine wpAnyH_take (i := 3) (oi := { dst := some 14, op := Op.indexAddr 39 (Operand.tmp 11) (Operand.tmp 13), type := 0, pos := "l16_text.go:27", after := #[{ on := 0, ground := Ground.data }, { on := 2, ground := Ground.data }], guard := none }) (v := ?vv23) rfl (by kernel_rfl) (by kernel_rfl) (by kernel_rfl) (fun _ _ _ h => h) (Or.inl ⟨by rfl, ?hy23⟩) (by assumption) ?rest23
  case hy23 => intro W hS; go_simp; try (with_reducible rfl)
  simp only [Act.put, List.setIfInBounds_toArray, List.set_cons_zero, List.set_cons_succ]
  refine wpAnyH_ready (rs := [4]) (by kernel_rfl) (by simp) ?_
  refine AllReadyH.cons (o := { dst := some 15, op := Op.load 9 (Operand.tmp 14), type := 9, pos := "l16_text.go:27", after := #[{ on := 3, ground := Ground.data }], guard := none }) rfl (fun K2 hK2 => ?_) AllReadyH.nil
  go_simp
  refine hK2.out _ _ ?_ (fun hHeld2 => ?_)
  · exact hHeld
  clear hK2 K2 hHeld
  have hHeld := hHeld2
  clear hHeld2
  try simp only [Act.put, List.setIfInBounds_toArray, List.set_cons_zero, List.set_cons_succ]
  refine wpAnyH_take (i := 5) (oi := { dst := some 4, op := Op.assign (Operand.tmp 15), type := 9, pos := "l16_text.go:27", after := #[{ on := 4, ground := Ground.data }, { on := 0, ground := Ground.chain }, { on := 0, ground := Ground.phase }, { on := 1, ground := Ground.phase }, { on := 2, ground := Ground.phase }, { on := 3, ground := Ground.phase }, { on := 4, ground := Ground.phase }], guard := none }) (v := ?vv24) rfl (by kernel_rfl) (by kernel_rfl) (by kernel_rfl) (fun _ _ _ h => h) (Or.inl ⟨by rfl, ?hy24⟩) (by assumption) ?rest24
  case hy24 => intro W hS; go_simp; try (with_reducible rfl)
  simp only [Act.put, List.setIfInBounds_toArray, List.set_cons_zero, List.set_cons_succ]
  refine wpAnyH_done (by kernel_rfl) ?_ _
  replace X := X.below hHeld
  replace B := bel_trans B hHeld
  clear hHeld x0 x1 x2 x3 x4 xz n3 N3 hz3 hs_w3 hs_V0
  obtain ⟨x0, x1, x2, x3, x4, xz⟩ := X.at5i
  go_wp2_with fail
  refine (l16Digits_any r (by omega) _).mono ?_
  rintro e v1 ⟨rfl, b4⟩
  replace X := X.below b4
  replace B := bel_trans B b4
  have L1 := digs_len r
  clear b4 x0 x1 x2 x3 x4 xz
  obtain ⟨x0, x1, x2, x3, x4, xz⟩ := X.at5i
  obtain ⟨g1, eg1⟩ : ∃ g, digs r = g := ⟨_, rfl⟩
  have G1 : Hid (digs r = g1) := eg1
  rw [eg1] at L1 ⊢
  clear eg1
  go_wp2_with fail
  refine (l16Digits_any a (by omega) _).mono ?_
  rintro e v2 ⟨rfl, b4⟩
  replace X := X.below b4
  replace B := bel_trans B b4
  have L2 := digs_len a
  clear b4 x0 x1 x2 x3 x4 xz
  obtain ⟨x0, x1, x2, x3, x4, xz⟩ := X.at5i
  obtain ⟨g2, eg2⟩ : ∃ g, digs a = g := ⟨_, rfl⟩
  have G2 : Hid (digs a = g2) := eg2
  rw [eg2] at L2 ⊢
  clear eg2
  go_wp2_with fail
  refine (l16Digits_any b (by omega) _).mono ?_
  rintro e v3 ⟨rfl, b4⟩
  replace X := X.below b4
  replace B := bel_trans B b4
  have L3 := digs_len b
  clear b4 x0 x1 x2 x3 x4 xz
  obtain ⟨x0, x1, x2, x3, x4, xz⟩ := X.at5i
  obtain ⟨g3, eg3⟩ : ∃ g, digs b = g := ⟨_, rfl⟩
  have G3 : Hid (digs b = g3) := eg3
  rw [eg3] at L3 ⊢
  clear eg3
  go_wp2_with fail
  refine (l16Digits_any n (by omega) _).mono ?_
  rintro e v4 ⟨rfl, b4⟩
  replace X := X.below b4
  replace B := bel_trans B b4
  have L4 := digs_len n
  clear b4 x0 x1 x2 x3 x4 xz
  obtain ⟨x0, x1, x2, x3, x4, xz⟩ := X.at5i
  obtain ⟨g4, eg4⟩ : ∃ g, digs n = g := ⟨_, rfl⟩
  have G4 : Hid (digs n = g4) := eg4
  rw [eg4] at L4 ⊢
  clear eg4
  go_wp2
  go_ret
  refine ⟨?_, B⟩
  show Ending.returned (.string ((⟨[115, 119, 97, 112].toArray⟩ : ByteArray) ++ (⟨[32, 114].toArray⟩ : ByteArray) ++ (⟨g1.toArray⟩ : ByteArray) ++ (⟨[32, 114].toArray⟩ : ByteArray) ++ (⟨g2.toArray⟩ : ByteArray) ++ (⟨[32, 114].toArray⟩ : ByteArray) ++ (⟨g3.toArray⟩ : ByteArray) ++ (⟨[32].toArray⟩ : ByteArray) ++ (⟨g4.toArray⟩ : ByteArray))) = _
  simp only [ByteArray.mk_append_mk]
  rw [← G1.out, ← G2.out, ← G3.out, ← G4.out]
  simp [opT, nameT, regT, numT]

set_option maxRecDepth 100000 in
set_option maxHeartbeats 4000000 in
theorem insText_7 (r a b n : Nat) (w : World) (hr : r ≤ 3) (ha : a ≤ 3) (hb : b ≤ 3) (hn : n ≤ 63) (hi : insB 7 r a b n = true) :
    Calls Tryd.prog 6 #[.agg (icells 7 r a b n)] w fun e w' => e = .returned (txt (opT 7 r a b n)) ∧ Below w.heap.size w w' := by
  have B := bel_alloc (Below.refl w.heap.size w) (.cells (icells 7 r a b n) 25)
  have X := Box.new w (icells 7 r a b n) 25
  have HI : Hid (insB 7 r a b n = true) := hi
  clear hi
  obtain ⟨x0, x1, x2, x3, x4, xz⟩ := X.at5i
  go_enter Tryd.func6, Tryd.ntmps6
  go_wp2_with fail
  refine (specInsOk_any 7 r a b n _).mono ?_
  rintro e w1 ⟨rfl, b1⟩
  rw [HI.out]
  replace X := X.below b1
  replace B := bel_trans B b1
  clear b1 x0 x1 x2 x3 x4 xz
  obtain ⟨x0, x1, x2, x3, x4, xz⟩ := X.at5i
  go_wp2_with fail
  refine (l8Has_any 7 _).mono ?_
  rintro e w2 ⟨rfl, b2⟩
  rw [show tab 7 = 10 from rfl]
  replace X := X.below b2
  replace B := bel_trans B b2
  clear b2 x0 x1 x2 x3 x4 xz
  obtain ⟨x0, x1, x2, x3, x4, xz⟩ := X.at5i
  go_wp2_with fail
  refine wp_region_held_drew (S := fun W => Below w2.heap.size w2 W) (by kernel_rfl) ?_ (fun hHeld => ?_)
  · exact below_drewN (Below.refl _ _) 1
  obtain ⟨V0, hV0⟩ : ∃ V, w2.drew = V := ⟨_, rfl⟩
  rw [hV0] at hHeld ⊢
  clear hV0
  have hs_V0 : w2.heap.size ≤ V0.heap.size := hHeld.size
  refine wpAnyH_take (i := 1) (oi := { dst := some 12, op := Op.fieldAddr 25 (Operand.tmp 1) 0, type := 0, pos := "l16_text.go:27", after := #[], guard := none }) (v := ?vv25) rfl (by kernel_rfl) (by kernel_rfl) (by kernel_rfl) (fun _ _ _ h => h) (Or.inl ⟨by rfl, ?hy25⟩) (by assumption) ?rest25
  case hy25 => intro W hS; go_simp; try (with_reducible rfl)
  simp only [Act.put, List.setIfInBounds_toArray, List.set_cons_zero, List.set_cons_succ]
  refine wpAnyH_take (i := 2) (oi := { dst := some 13, op := Op.load 3 (Operand.tmp 12), type := 3, pos := "l16_text.go:27", after := #[{ on := 1, ground := Ground.data }], guard := none }) (v := ?vv26) rfl (by kernel_rfl) (by kernel_rfl) (by kernel_rfl) (fun _ _ _ h => h) (Or.inl ⟨by rfl, ?hy26⟩) (by assumption) ?rest26
  case hy26 => intro W hS; have c0 := cell_later hS x0; go_simp; try (with_reducible rfl)
  simp only [Act.put, List.setIfInBounds_toArray, List.set_cons_zero, List.set_cons_succ]
  refine wpAnyH_ready (rs := [0]) (by kernel_rfl) (by simp) ?_
  refine AllReadyH.cons (o := { dst := some 11, op := Op.call { callee := Callee.value (Operand.func 19), args := #[], argTypes := #[] }, type := 39, pos := "l16_text.go:27", after := #[], guard := none }) rfl (fun K2 hK2 => ?_) AllReadyH.nil
  go_simp
  refine (l16Names_any _).mono ?_
  rintro e w3 ⟨rfl, N3, b3⟩
  have n3 := N3.cell 7
  simp only [List.getElem?_toArray, List.getElem?_cons_succ, List.getElem?_cons_zero] at n3
  go_wp2_with fail
  refine hK2.out _ _ ?_ (fun hHeld2 => ?_)
  · exact bel_trans hHeld b3
  clear hK2 K2 hHeld
  have hHeld := hHeld2
  clear hHeld2
  try simp only [Act.put, List.setIfInBounds_toArray, List.set_cons_zero, List.set_cons_succ]
  have hz3 := b3.size
  have hs_w3 : w2.heap.size ≤ w3.heap.size := hHeld.size
  clear b3
  refine wpAnyH_take (i := 3) (oi := { dst := some 14, op := Op.indexAddr 39 (Operand.tmp 11) (Operand.tmp 13), type := 0, pos := "l16_text.go:27", after := #[{ on := 0, ground := Ground.data }, { on := 2, ground := Ground.data }], guard := none }) (v := ?vv27) rfl (by kernel_rfl) (by kernel_rfl) (by kernel_rfl) (fun _ _ _ h => h) (Or.inl ⟨by rfl, ?hy27⟩) (by assumption) ?rest27
  case hy27 => intro W hS; go_simp; try (with_reducible rfl)
  simp only [Act.put, List.setIfInBounds_toArray, List.set_cons_zero, List.set_cons_succ]
  refine wpAnyH_ready (rs := [4]) (by kernel_rfl) (by simp) ?_
  refine AllReadyH.cons (o := { dst := some 15, op := Op.load 9 (Operand.tmp 14), type := 9, pos := "l16_text.go:27", after := #[{ on := 3, ground := Ground.data }], guard := none }) rfl (fun K2 hK2 => ?_) AllReadyH.nil
  go_simp
  refine hK2.out _ _ ?_ (fun hHeld2 => ?_)
  · exact hHeld
  clear hK2 K2 hHeld
  have hHeld := hHeld2
  clear hHeld2
  try simp only [Act.put, List.setIfInBounds_toArray, List.set_cons_zero, List.set_cons_succ]
  refine wpAnyH_take (i := 5) (oi := { dst := some 4, op := Op.assign (Operand.tmp 15), type := 9, pos := "l16_text.go:27", after := #[{ on := 4, ground := Ground.data }, { on := 0, ground := Ground.chain }, { on := 0, ground := Ground.phase }, { on := 1, ground := Ground.phase }, { on := 2, ground := Ground.phase }, { on := 3, ground := Ground.phase }, { on := 4, ground := Ground.phase }], guard := none }) (v := ?vv28) rfl (by kernel_rfl) (by kernel_rfl) (by kernel_rfl) (fun _ _ _ h => h) (Or.inl ⟨by rfl, ?hy28⟩) (by assumption) ?rest28
  case hy28 => intro W hS; go_simp; try (with_reducible rfl)
  simp only [Act.put, List.setIfInBounds_toArray, List.set_cons_zero, List.set_cons_succ]
  refine wpAnyH_done (by kernel_rfl) ?_ _
  replace X := X.below hHeld
  replace B := bel_trans B hHeld
  clear hHeld x0 x1 x2 x3 x4 xz n3 N3 hz3 hs_w3 hs_V0
  obtain ⟨x0, x1, x2, x3, x4, xz⟩ := X.at5i
  go_wp2_with fail
  refine (l16Digits_any a (by omega) _).mono ?_
  rintro e v1 ⟨rfl, b4⟩
  replace X := X.below b4
  replace B := bel_trans B b4
  have L1 := digs_len a
  clear b4 x0 x1 x2 x3 x4 xz
  obtain ⟨x0, x1, x2, x3, x4, xz⟩ := X.at5i
  obtain ⟨g1, eg1⟩ : ∃ g, digs a = g := ⟨_, rfl⟩
  have G1 : Hid (digs a = g1) := eg1
  rw [eg1] at L1 ⊢
  clear eg1
  go_wp2_with fail
  refine (l16Digits_any n (by omega) _).mono ?_
  rintro e v2 ⟨rfl, b4⟩
  replace X := X.below b4
  replace B := bel_trans B b4
  have L2 := digs_len n
  clear b4 x0 x1 x2 x3 x4 xz
  obtain ⟨x0, x1, x2, x3, x4, xz⟩ := X.at5i
  obtain ⟨g2, eg2⟩ : ∃ g, digs n = g := ⟨_, rfl⟩
  have G2 : Hid (digs n = g2) := eg2
  rw [eg2] at L2 ⊢
  clear eg2
  go_wp2
  go_ret
  refine ⟨?_, B⟩
  show Ending.returned (.string ((⟨[122, 101, 114, 111].toArray⟩ : ByteArray) ++ (⟨[32, 114].toArray⟩ : ByteArray) ++ (⟨g1.toArray⟩ : ByteArray) ++ (⟨[32].toArray⟩ : ByteArray) ++ (⟨g2.toArray⟩ : ByteArray))) = _
  simp only [ByteArray.mk_append_mk]
  rw [← G1.out, ← G2.out]
  simp [opT, nameT, regT, numT]

set_option maxRecDepth 100000 in
set_option maxHeartbeats 4000000 in
theorem insText_8 (r a b n : Nat) (w : World) (hr : r ≤ 3) (ha : a ≤ 3) (hb : b ≤ 3) (hn : n ≤ 63) (hi : insB 8 r a b n = true) :
    Calls Tryd.prog 6 #[.agg (icells 8 r a b n)] w fun e w' => e = .returned (txt (opT 8 r a b n)) ∧ Below w.heap.size w w' := by
  have B := bel_alloc (Below.refl w.heap.size w) (.cells (icells 8 r a b n) 25)
  have X := Box.new w (icells 8 r a b n) 25
  have HI : Hid (insB 8 r a b n = true) := hi
  clear hi
  obtain ⟨x0, x1, x2, x3, x4, xz⟩ := X.at5i
  go_enter Tryd.func6, Tryd.ntmps6
  go_wp2_with fail
  refine (specInsOk_any 8 r a b n _).mono ?_
  rintro e w1 ⟨rfl, b1⟩
  rw [HI.out]
  replace X := X.below b1
  replace B := bel_trans B b1
  clear b1 x0 x1 x2 x3 x4 xz
  obtain ⟨x0, x1, x2, x3, x4, xz⟩ := X.at5i
  go_wp2_with fail
  refine (l8Has_any 8 _).mono ?_
  rintro e w2 ⟨rfl, b2⟩
  rw [show tab 8 = 8 from rfl]
  replace X := X.below b2
  replace B := bel_trans B b2
  clear b2 x0 x1 x2 x3 x4 xz
  obtain ⟨x0, x1, x2, x3, x4, xz⟩ := X.at5i
  go_wp2_with fail
  refine wp_region_held_drew (S := fun W => Below w2.heap.size w2 W) (by kernel_rfl) ?_ (fun hHeld => ?_)
  · exact below_drewN (Below.refl _ _) 1
  obtain ⟨V0, hV0⟩ : ∃ V, w2.drew = V := ⟨_, rfl⟩
  rw [hV0] at hHeld ⊢
  clear hV0
  have hs_V0 : w2.heap.size ≤ V0.heap.size := hHeld.size
  refine wpAnyH_take (i := 1) (oi := { dst := some 12, op := Op.fieldAddr 25 (Operand.tmp 1) 0, type := 0, pos := "l16_text.go:27", after := #[], guard := none }) (v := ?vv29) rfl (by kernel_rfl) (by kernel_rfl) (by kernel_rfl) (fun _ _ _ h => h) (Or.inl ⟨by rfl, ?hy29⟩) (by assumption) ?rest29
  case hy29 => intro W hS; go_simp; try (with_reducible rfl)
  simp only [Act.put, List.setIfInBounds_toArray, List.set_cons_zero, List.set_cons_succ]
  refine wpAnyH_take (i := 2) (oi := { dst := some 13, op := Op.load 3 (Operand.tmp 12), type := 3, pos := "l16_text.go:27", after := #[{ on := 1, ground := Ground.data }], guard := none }) (v := ?vv30) rfl (by kernel_rfl) (by kernel_rfl) (by kernel_rfl) (fun _ _ _ h => h) (Or.inl ⟨by rfl, ?hy30⟩) (by assumption) ?rest30
  case hy30 => intro W hS; have c0 := cell_later hS x0; go_simp; try (with_reducible rfl)
  simp only [Act.put, List.setIfInBounds_toArray, List.set_cons_zero, List.set_cons_succ]
  refine wpAnyH_ready (rs := [0]) (by kernel_rfl) (by simp) ?_
  refine AllReadyH.cons (o := { dst := some 11, op := Op.call { callee := Callee.value (Operand.func 19), args := #[], argTypes := #[] }, type := 39, pos := "l16_text.go:27", after := #[], guard := none }) rfl (fun K2 hK2 => ?_) AllReadyH.nil
  go_simp
  refine (l16Names_any _).mono ?_
  rintro e w3 ⟨rfl, N3, b3⟩
  have n3 := N3.cell 8
  simp only [List.getElem?_toArray, List.getElem?_cons_succ, List.getElem?_cons_zero] at n3
  go_wp2_with fail
  refine hK2.out _ _ ?_ (fun hHeld2 => ?_)
  · exact bel_trans hHeld b3
  clear hK2 K2 hHeld
  have hHeld := hHeld2
  clear hHeld2
  try simp only [Act.put, List.setIfInBounds_toArray, List.set_cons_zero, List.set_cons_succ]
  have hz3 := b3.size
  have hs_w3 : w2.heap.size ≤ w3.heap.size := hHeld.size
  clear b3
  refine wpAnyH_take (i := 3) (oi := { dst := some 14, op := Op.indexAddr 39 (Operand.tmp 11) (Operand.tmp 13), type := 0, pos := "l16_text.go:27", after := #[{ on := 0, ground := Ground.data }, { on := 2, ground := Ground.data }], guard := none }) (v := ?vv31) rfl (by kernel_rfl) (by kernel_rfl) (by kernel_rfl) (fun _ _ _ h => h) (Or.inl ⟨by rfl, ?hy31⟩) (by assumption) ?rest31
  case hy31 => intro W hS; go_simp; try (with_reducible rfl)
  simp only [Act.put, List.setIfInBounds_toArray, List.set_cons_zero, List.set_cons_succ]
  refine wpAnyH_ready (rs := [4]) (by kernel_rfl) (by simp) ?_
  refine AllReadyH.cons (o := { dst := some 15, op := Op.load 9 (Operand.tmp 14), type := 9, pos := "l16_text.go:27", after := #[{ on := 3, ground := Ground.data }], guard := none }) rfl (fun K2 hK2 => ?_) AllReadyH.nil
  go_simp
  refine hK2.out _ _ ?_ (fun hHeld2 => ?_)
  · exact hHeld
  clear hK2 K2 hHeld
  have hHeld := hHeld2
  clear hHeld2
  try simp only [Act.put, List.setIfInBounds_toArray, List.set_cons_zero, List.set_cons_succ]
  refine wpAnyH_take (i := 5) (oi := { dst := some 4, op := Op.assign (Operand.tmp 15), type := 9, pos := "l16_text.go:27", after := #[{ on := 4, ground := Ground.data }, { on := 0, ground := Ground.chain }, { on := 0, ground := Ground.phase }, { on := 1, ground := Ground.phase }, { on := 2, ground := Ground.phase }, { on := 3, ground := Ground.phase }, { on := 4, ground := Ground.phase }], guard := none }) (v := ?vv32) rfl (by kernel_rfl) (by kernel_rfl) (by kernel_rfl) (fun _ _ _ h => h) (Or.inl ⟨by rfl, ?hy32⟩) (by assumption) ?rest32
  case hy32 => intro W hS; go_simp; try (with_reducible rfl)
  simp only [Act.put, List.setIfInBounds_toArray, List.set_cons_zero, List.set_cons_succ]
  refine wpAnyH_done (by kernel_rfl) ?_ _
  replace X := X.below hHeld
  replace B := bel_trans B hHeld
  clear hHeld x0 x1 x2 x3 x4 xz n3 N3 hz3 hs_w3 hs_V0
  obtain ⟨x0, x1, x2, x3, x4, xz⟩ := X.at5i
  go_wp2_with fail
  refine (l16Digits_any n (by omega) _).mono ?_
  rintro e v1 ⟨rfl, b4⟩
  replace X := X.below b4
  replace B := bel_trans B b4
  have L1 := digs_len n
  clear b4 x0 x1 x2 x3 x4 xz
  obtain ⟨x0, x1, x2, x3, x4, xz⟩ := X.at5i
  obtain ⟨g1, eg1⟩ : ∃ g, digs n = g := ⟨_, rfl⟩
  have G1 : Hid (digs n = g1) := eg1
  rw [eg1] at L1 ⊢
  clear eg1
  go_wp2
  go_ret
  refine ⟨?_, B⟩
  show Ending.returned (.string ((⟨[106, 117, 109, 112].toArray⟩ : ByteArray) ++ (⟨[32].toArray⟩ : ByteArray) ++ (⟨g1.toArray⟩ : ByteArray))) = _
  simp only [ByteArray.mk_append_mk]
  rw [← G1.out]
  simp [opT, nameT, numT]

set_option maxRecDepth 100000 in
set_option maxHeartbeats 4000000 in
theorem insText_9 (r a b n : Nat) (w : World) (hr : r ≤ 3) (ha : a ≤ 3) (hb : b ≤ 3) (hn : n ≤ 63) (hi : insB 9 r a b n = true) :
    Calls Tryd.prog 6 #[.agg (icells 9 r a b n)] w fun e w' => e = .returned (txt (opT 9 r a b n)) ∧ Below w.heap.size w w' := by
  have B := bel_alloc (Below.refl w.heap.size w) (.cells (icells 9 r a b n) 25)
  have X := Box.new w (icells 9 r a b n) 25
  have HI : Hid (insB 9 r a b n = true) := hi
  clear hi
  obtain ⟨x0, x1, x2, x3, x4, xz⟩ := X.at5i
  go_enter Tryd.func6, Tryd.ntmps6
  go_wp2_with fail
  refine (specInsOk_any 9 r a b n _).mono ?_
  rintro e w1 ⟨rfl, b1⟩
  rw [HI.out]
  replace X := X.below b1
  replace B := bel_trans B b1
  clear b1 x0 x1 x2 x3 x4 xz
  obtain ⟨x0, x1, x2, x3, x4, xz⟩ := X.at5i
  go_wp2_with fail
  refine (l8Has_any 9 _).mono ?_
  rintro e w2 ⟨rfl, b2⟩
  rw [show tab 9 = 0 from rfl]
  replace X := X.below b2
  replace B := bel_trans B b2
  clear b2 x0 x1 x2 x3 x4 xz
  obtain ⟨x0, x1, x2, x3, x4, xz⟩ := X.at5i
  go_wp2_with fail
  refine wp_region_held_drew (S := fun W => Below w2.heap.size w2 W) (by kernel_rfl) ?_ (fun hHeld => ?_)
  · exact below_drewN (Below.refl _ _) 1
  obtain ⟨V0, hV0⟩ : ∃ V, w2.drew = V := ⟨_, rfl⟩
  rw [hV0] at hHeld ⊢
  clear hV0
  have hs_V0 : w2.heap.size ≤ V0.heap.size := hHeld.size
  refine wpAnyH_take (i := 1) (oi := { dst := some 12, op := Op.fieldAddr 25 (Operand.tmp 1) 0, type := 0, pos := "l16_text.go:27", after := #[], guard := none }) (v := ?vv33) rfl (by kernel_rfl) (by kernel_rfl) (by kernel_rfl) (fun _ _ _ h => h) (Or.inl ⟨by rfl, ?hy33⟩) (by assumption) ?rest33
  case hy33 => intro W hS; go_simp; try (with_reducible rfl)
  simp only [Act.put, List.setIfInBounds_toArray, List.set_cons_zero, List.set_cons_succ]
  refine wpAnyH_take (i := 2) (oi := { dst := some 13, op := Op.load 3 (Operand.tmp 12), type := 3, pos := "l16_text.go:27", after := #[{ on := 1, ground := Ground.data }], guard := none }) (v := ?vv34) rfl (by kernel_rfl) (by kernel_rfl) (by kernel_rfl) (fun _ _ _ h => h) (Or.inl ⟨by rfl, ?hy34⟩) (by assumption) ?rest34
  case hy34 => intro W hS; have c0 := cell_later hS x0; go_simp; try (with_reducible rfl)
  simp only [Act.put, List.setIfInBounds_toArray, List.set_cons_zero, List.set_cons_succ]
  refine wpAnyH_ready (rs := [0]) (by kernel_rfl) (by simp) ?_
  refine AllReadyH.cons (o := { dst := some 11, op := Op.call { callee := Callee.value (Operand.func 19), args := #[], argTypes := #[] }, type := 39, pos := "l16_text.go:27", after := #[], guard := none }) rfl (fun K2 hK2 => ?_) AllReadyH.nil
  go_simp
  refine (l16Names_any _).mono ?_
  rintro e w3 ⟨rfl, N3, b3⟩
  have n3 := N3.cell 9
  simp only [List.getElem?_toArray, List.getElem?_cons_succ, List.getElem?_cons_zero] at n3
  go_wp2_with fail
  refine hK2.out _ _ ?_ (fun hHeld2 => ?_)
  · exact bel_trans hHeld b3
  clear hK2 K2 hHeld
  have hHeld := hHeld2
  clear hHeld2
  try simp only [Act.put, List.setIfInBounds_toArray, List.set_cons_zero, List.set_cons_succ]
  have hz3 := b3.size
  have hs_w3 : w2.heap.size ≤ w3.heap.size := hHeld.size
  clear b3
  refine wpAnyH_take (i := 3) (oi := { dst := some 14, op := Op.indexAddr 39 (Operand.tmp 11) (Operand.tmp 13), type := 0, pos := "l16_text.go:27", after := #[{ on := 0, ground := Ground.data }, { on := 2, ground := Ground.data }], guard := none }) (v := ?vv35) rfl (by kernel_rfl) (by kernel_rfl) (by kernel_rfl) (fun _ _ _ h => h) (Or.inl ⟨by rfl, ?hy35⟩) (by assumption) ?rest35
  case hy35 => intro W hS; go_simp; try (with_reducible rfl)
  simp only [Act.put, List.setIfInBounds_toArray, List.set_cons_zero, List.set_cons_succ]
  refine wpAnyH_ready (rs := [4]) (by kernel_rfl) (by simp) ?_
  refine AllReadyH.cons (o := { dst := some 15, op := Op.load 9 (Operand.tmp 14), type := 9, pos := "l16_text.go:27", after := #[{ on := 3, ground := Ground.data }], guard := none }) rfl (fun K2 hK2 => ?_) AllReadyH.nil
  go_simp
  refine hK2.out _ _ ?_ (fun hHeld2 => ?_)
  · exact hHeld
  clear hK2 K2 hHeld
  have hHeld := hHeld2
  clear hHeld2
  try simp only [Act.put, List.setIfInBounds_toArray, List.set_cons_zero, List.set_cons_succ]
  refine wpAnyH_take (i := 5) (oi := { dst := some 4, op := Op.assign (Operand.tmp 15), type := 9, pos := "l16_text.go:27", after := #[{ on := 4, ground := Ground.data }, { on := 0, ground := Ground.chain }, { on := 0, ground := Ground.phase }, { on := 1, ground := Ground.phase }, { on := 2, ground := Ground.phase }, { on := 3, ground := Ground.phase }, { on := 4, ground := Ground.phase }], guard := none }) (v := ?vv36) rfl (by kernel_rfl) (by kernel_rfl) (by kernel_rfl) (fun _ _ _ h => h) (Or.inl ⟨by rfl, ?hy36⟩) (by assumption) ?rest36
  case hy36 => intro W hS; go_simp; try (with_reducible rfl)
  simp only [Act.put, List.setIfInBounds_toArray, List.set_cons_zero, List.set_cons_succ]
  refine wpAnyH_done (by kernel_rfl) ?_ _
  replace X := X.below hHeld
  replace B := bel_trans B hHeld
  clear hHeld x0 x1 x2 x3 x4 xz n3 N3 hz3 hs_w3 hs_V0
  obtain ⟨x0, x1, x2, x3, x4, xz⟩ := X.at5i
  go_wp2
  go_ret
  exact ⟨rfl, B⟩

set_option maxRecDepth 100000 in
set_option maxHeartbeats 4000000 in
theorem insText_10 (r a b n : Nat) (w : World) (hr : r ≤ 3) (ha : a ≤ 3) (hb : b ≤ 3) (hn : n ≤ 63) (hi : insB 10 r a b n = true) :
    Calls Tryd.prog 6 #[.agg (icells 10 r a b n)] w fun e w' => e = .returned (txt (opT 10 r a b n)) ∧ Below w.heap.size w w' := by
  have B := bel_alloc (Below.refl w.heap.size w) (.cells (icells 10 r a b n) 25)
  have X := Box.new w (icells 10 r a b n) 25
  have HI : Hid (insB 10 r a b n = true) := hi
  clear hi
  obtain ⟨x0, x1, x2, x3, x4, xz⟩ := X.at5i
  go_enter Tryd.func6, Tryd.ntmps6
  go_wp2_with fail
  refine (specInsOk_any 10 r a b n _).mono ?_
  rintro e w1 ⟨rfl, b1⟩
  rw [HI.out]
  replace X := X.below b1
  replace B := bel_trans B b1
  clear b1 x0 x1 x2 x3 x4 xz
  obtain ⟨x0, x1, x2, x3, x4, xz⟩ := X.at5i
  go_wp2_with fail
  refine (l8Has_any 10 _).mono ?_
  rintro e w2 ⟨rfl, b2⟩
  rw [show tab 10 = 7 from rfl]
  replace X := X.below b2
  replace B := bel_trans B b2
  clear b2 x0 x1 x2 x3 x4 xz
  obtain ⟨x0, x1, x2, x3, x4, xz⟩ := X.at5i
  go_wp2_with fail
  refine wp_region_held_drew (S := fun W => Below w2.heap.size w2 W) (by kernel_rfl) ?_ (fun hHeld => ?_)
  · exact below_drewN (Below.refl _ _) 1
  obtain ⟨V0, hV0⟩ : ∃ V, w2.drew = V := ⟨_, rfl⟩
  rw [hV0] at hHeld ⊢
  clear hV0
  have hs_V0 : w2.heap.size ≤ V0.heap.size := hHeld.size
  refine wpAnyH_take (i := 1) (oi := { dst := some 12, op := Op.fieldAddr 25 (Operand.tmp 1) 0, type := 0, pos := "l16_text.go:27", after := #[], guard := none }) (v := ?vv37) rfl (by kernel_rfl) (by kernel_rfl) (by kernel_rfl) (fun _ _ _ h => h) (Or.inl ⟨by rfl, ?hy37⟩) (by assumption) ?rest37
  case hy37 => intro W hS; go_simp; try (with_reducible rfl)
  simp only [Act.put, List.setIfInBounds_toArray, List.set_cons_zero, List.set_cons_succ]
  refine wpAnyH_take (i := 2) (oi := { dst := some 13, op := Op.load 3 (Operand.tmp 12), type := 3, pos := "l16_text.go:27", after := #[{ on := 1, ground := Ground.data }], guard := none }) (v := ?vv38) rfl (by kernel_rfl) (by kernel_rfl) (by kernel_rfl) (fun _ _ _ h => h) (Or.inl ⟨by rfl, ?hy38⟩) (by assumption) ?rest38
  case hy38 => intro W hS; have c0 := cell_later hS x0; go_simp; try (with_reducible rfl)
  simp only [Act.put, List.setIfInBounds_toArray, List.set_cons_zero, List.set_cons_succ]
  refine wpAnyH_ready (rs := [0]) (by kernel_rfl) (by simp) ?_
  refine AllReadyH.cons (o := { dst := some 11, op := Op.call { callee := Callee.value (Operand.func 19), args := #[], argTypes := #[] }, type := 39, pos := "l16_text.go:27", after := #[], guard := none }) rfl (fun K2 hK2 => ?_) AllReadyH.nil
  go_simp
  refine (l16Names_any _).mono ?_
  rintro e w3 ⟨rfl, N3, b3⟩
  have n3 := N3.cell 10
  simp only [List.getElem?_toArray, List.getElem?_cons_succ, List.getElem?_cons_zero] at n3
  go_wp2_with fail
  refine hK2.out _ _ ?_ (fun hHeld2 => ?_)
  · exact bel_trans hHeld b3
  clear hK2 K2 hHeld
  have hHeld := hHeld2
  clear hHeld2
  try simp only [Act.put, List.setIfInBounds_toArray, List.set_cons_zero, List.set_cons_succ]
  have hz3 := b3.size
  have hs_w3 : w2.heap.size ≤ w3.heap.size := hHeld.size
  clear b3
  refine wpAnyH_take (i := 3) (oi := { dst := some 14, op := Op.indexAddr 39 (Operand.tmp 11) (Operand.tmp 13), type := 0, pos := "l16_text.go:27", after := #[{ on := 0, ground := Ground.data }, { on := 2, ground := Ground.data }], guard := none }) (v := ?vv39) rfl (by kernel_rfl) (by kernel_rfl) (by kernel_rfl) (fun _ _ _ h => h) (Or.inl ⟨by rfl, ?hy39⟩) (by assumption) ?rest39
  case hy39 => intro W hS; go_simp; try (with_reducible rfl)
  simp only [Act.put, List.setIfInBounds_toArray, List.set_cons_zero, List.set_cons_succ]
  refine wpAnyH_ready (rs := [4]) (by kernel_rfl) (by simp) ?_
  refine AllReadyH.cons (o := { dst := some 15, op := Op.load 9 (Operand.tmp 14), type := 9, pos := "l16_text.go:27", after := #[{ on := 3, ground := Ground.data }], guard := none }) rfl (fun K2 hK2 => ?_) AllReadyH.nil
  go_simp
  refine hK2.out _ _ ?_ (fun hHeld2 => ?_)
  · exact hHeld
  clear hK2 K2 hHeld
  have hHeld := hHeld2
  clear hHeld2
  try simp only [Act.put, List.setIfInBounds_toArray, List.set_cons_zero, List.set_cons_succ]
  refine wpAnyH_take (i := 5) (oi := { dst := some 4, op := Op.assign (Operand.tmp 15), type := 9, pos := "l16_text.go:27", after := #[{ on := 4, ground := Ground.data }, { on := 0, ground := Ground.chain }, { on := 0, ground := Ground.phase }, { on := 1, ground := Ground.phase }, { on := 2, ground := Ground.phase }, { on := 3, ground := Ground.phase }, { on := 4, ground := Ground.phase }], guard := none }) (v := ?vv40) rfl (by kernel_rfl) (by kernel_rfl) (by kernel_rfl) (fun _ _ _ h => h) (Or.inl ⟨by rfl, ?hy40⟩) (by assumption) ?rest40
  case hy40 => intro W hS; go_simp; try (with_reducible rfl)
  simp only [Act.put, List.setIfInBounds_toArray, List.set_cons_zero, List.set_cons_succ]
  refine wpAnyH_done (by kernel_rfl) ?_ _
  replace X := X.below hHeld
  replace B := bel_trans B hHeld
  clear hHeld x0 x1 x2 x3 x4 xz n3 N3 hz3 hs_w3 hs_V0
  obtain ⟨x0, x1, x2, x3, x4, xz⟩ := X.at5i
  go_wp2_with fail
  refine (l16Digits_any r (by omega) _).mono ?_
  rintro e v1 ⟨rfl, b4⟩
  replace X := X.below b4
  replace B := bel_trans B b4
  have L1 := digs_len r
  clear b4 x0 x1 x2 x3 x4 xz
  obtain ⟨x0, x1, x2, x3, x4, xz⟩ := X.at5i
  obtain ⟨g1, eg1⟩ : ∃ g, digs r = g := ⟨_, rfl⟩
  have G1 : Hid (digs r = g1) := eg1
  rw [eg1] at L1 ⊢
  clear eg1
  go_wp2_with fail
  refine (l16Digits_any a (by omega) _).mono ?_
  rintro e v2 ⟨rfl, b4⟩
  replace X := X.below b4
  replace B := bel_trans B b4
  have L2 := digs_len a
  clear b4 x0 x1 x2 x3 x4 xz
  obtain ⟨x0, x1, x2, x3, x4, xz⟩ := X.at5i
  obtain ⟨g2, eg2⟩ : ∃ g, digs a = g := ⟨_, rfl⟩
  have G2 : Hid (digs a = g2) := eg2
  rw [eg2] at L2 ⊢
  clear eg2
  go_wp2_with fail
  refine (l16Digits_any b (by omega) _).mono ?_
  rintro e v3 ⟨rfl, b4⟩
  replace X := X.below b4
  replace B := bel_trans B b4
  have L3 := digs_len b
  clear b4 x0 x1 x2 x3 x4 xz
  obtain ⟨x0, x1, x2, x3, x4, xz⟩ := X.at5i
  obtain ⟨g3, eg3⟩ : ∃ g, digs b = g := ⟨_, rfl⟩
  have G3 : Hid (digs b = g3) := eg3
  rw [eg3] at L3 ⊢
  clear eg3
  go_wp2
  go_ret
  refine ⟨?_, B⟩
  show Ending.returned (.string ((⟨[115, 117, 98].toArray⟩ : ByteArray) ++ (⟨[32, 114].toArray⟩ : ByteArray) ++ (⟨g1.toArray⟩ : ByteArray) ++ (⟨[32, 114].toArray⟩ : ByteArray) ++ (⟨g2.toArray⟩ : ByteArray) ++ (⟨[32, 114].toArray⟩ : ByteArray) ++ (⟨g3.toArray⟩ : ByteArray))) = _
  simp only [ByteArray.mk_append_mk]
  rw [← G1.out, ← G2.out, ← G3.out]
  simp [opT, nameT, regT]

theorem ins_bounds {op r a b n : Int} (h : insB op r a b n = true) : inB op 1 10 = true ∧ (0 ≤ r ∧ r ≤ 3) ∧ (0 ≤ a ∧ a ≤ 3) ∧ (0 ≤ b ∧ b ≤ 3) ∧ (0 ≤ n ∧ n ≤ 63) := by
  unfold insB fldB at h
  simp only [Bool.and_eq_true] at h
  obtain ⟨h1, ⟨h2, _⟩, ⟨h3, _⟩, ⟨h4, _⟩, h5, _⟩ := h
  exact ⟨h1, by simpa [inB] using h2, by simpa [inB] using h3, by simpa [inB] using h4, by simpa [inB] using h5⟩

set_option maxRecDepth 100000 in
set_option maxHeartbeats 2000000 in
theorem specInsText_any (op r a b n : Int) (w : World) : Calls Tryd.prog 6 #[.agg (icells op r a b n)] w fun e w' => e = .returned (txt (insT op r a b n)) ∧ Below w.heap.size w w' := by
  cases hi : insB op r a b n
  · have HI : Hid (insB op r a b n = false) := hi
    have HT : Hid (insT op r a b n = []) := by show _ = _; unfold insT; rw [hi]; rfl
    have B := bel_alloc (Below.refl w.heap.size w) (.cells (icells op r a b n) 25)
    clear hi
    go_enter Tryd.func6, Tryd.ntmps6
    go_wp2_with fail
    refine (specInsOk_any op r a b n _).mono ?_
    rintro e w1 ⟨rfl, b1⟩
    rw [HI.out]
    replace B := bel_trans B b1
    clear b1
    go_wp2
    go_ret
    exact ⟨by rw [HT.out]; rfl, B⟩
  · obtain ⟨ho, ⟨r0, r1⟩, ⟨a0, a1⟩, ⟨b0, b1⟩, ⟨n0, n1⟩⟩ := ins_bounds hi
    obtain ⟨kr, rfl⟩ : ∃ k : Nat, r = (k : Int) := ⟨r.toNat, by omega⟩
    obtain ⟨ka, rfl⟩ : ∃ k : Nat, a = (k : Int) := ⟨a.toNat, by omega⟩
    obtain ⟨kb, rfl⟩ : ∃ k : Nat, b = (k : Int) := ⟨b.toNat, by omega⟩
    obtain ⟨kn, rfl⟩ : ∃ k : Nat, n = (k : Int) := ⟨n.toNat, by omega⟩
    have e : insT op kr ka kb kn = opT op kr ka kb kn := by unfold insT; rw [hi]; rfl
    rw [e]
    rcases op_cases ho with rfl | rfl | rfl | rfl | rfl | rfl | rfl | rfl | rfl | rfl
    · exact insText_1 kr ka kb kn w (by omega) (by omega) (by omega) (by omega) hi
    · exact insText_2 kr ka kb kn w (by omega) (by omega) (by omega) (by omega) hi
    · exact insText_3 kr ka kb kn w (by omega) (by omega) (by omega) (by omega) hi
    · exact insText_4 kr ka kb kn w (by omega) (by omega) (by omega) (by omega) hi
    · exact insText_5 kr ka kb kn w (by omega) (by omega) (by omega) (by omega) hi
    · exact insText_6 kr ka kb kn w (by omega) (by omega) (by omega) (by omega) hi
    · exact insText_7 kr ka kb kn w (by omega) (by omega) (by omega) (by omega) hi
    · exact insText_8 kr ka kb kn w (by omega) (by omega) (by omega) (by omega) hi
    · exact insText_9 kr ka kb kn w (by omega) (by omega) (by omega) (by omega) hi
    · exact insText_10 kr ka kb kn w (by omega) (by omega) (by omega) (by omega) hi
end Go.Proofs.YtfigbfddhmgafaaDoor
