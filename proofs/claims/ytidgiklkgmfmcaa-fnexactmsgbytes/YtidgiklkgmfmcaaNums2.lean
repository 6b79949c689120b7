/- What letterNums does. -/
import Derived.Test.YtidgiklkgmfmcaaNums
namespace Go.Proofs.Ytidgiklkgmfmcaa
open Go.RowKit
set_option linter.unusedVariables false

theorem own3 (w : World) (o : Obj) (c0 c1 c2 : Value) : ((w.alloc o).alloc (.cells #[c0, c1, c2] 3)).ownsRow w.heap.size 3 1 (.slice (some ⟨w.heap.size + 1, 0, none⟩) 3 3) 3 [c0, c1, c2] := by
  have h := World.ownsRow_lit (base := w.heap.size) (e := 3) (size := 1) (w.alloc o) #[c0, c1, c2] 3 (by simp) (by simp [maxLen]) rfl
  simpa using h

theorem as_1_1 (x : Value) (w : World) : (Instr.typeAssert (.iface 59 x) 47 59 true).run Try.prog w = .ok (.tuple #[x, .bool true]) w := by kernel_rfl
theorem as_2_1 (x : Value) (w : World) : (Instr.typeAssert (.iface 60 x) 47 59 true).run Try.prog w = .ok (.tuple #[.agg #[.int .i64 0], .bool false]) w := by kernel_rfl
theorem as_2_2 (x : Value) (w : World) : (Instr.typeAssert (.iface 60 x) 47 60 true).run Try.prog w = .ok (.tuple #[x, .bool true]) w := by kernel_rfl
theorem as_3_1 (x : Value) (w : World) : (Instr.typeAssert (.iface 62 x) 47 59 true).run Try.prog w = .ok (.tuple #[.agg #[.int .i64 0], .bool false]) w := by kernel_rfl
theorem as_3_2 (x : Value) (w : World) : (Instr.typeAssert (.iface 62 x) 47 60 true).run Try.prog w = .ok (.tuple #[.agg #[.int .i64 0], .bool false]) w := by kernel_rfl
theorem as_3_3 (x : Value) (w : World) : (Instr.typeAssert (.iface 62 x) 47 62 true).run Try.prog w = .ok (.tuple #[x, .bool true]) w := by kernel_rfl
theorem as_4_1 (x : Value) (w : World) : (Instr.typeAssert (.iface 63 x) 47 59 true).run Try.prog w = .ok (.tuple #[.agg #[.int .i64 0], .bool false]) w := by kernel_rfl
theorem as_4_2 (x : Value) (w : World) : (Instr.typeAssert (.iface 63 x) 47 60 true).run Try.prog w = .ok (.tuple #[.agg #[.int .i64 0], .bool false]) w := by kernel_rfl
theorem as_4_3 (x : Value) (w : World) : (Instr.typeAssert (.iface 63 x) 47 62 true).run Try.prog w = .ok (.tuple #[.agg #[.int .i64 0, .bool false, .int .i64 0, .int .i64 0, .int .i64 0, .int .i64 0], .bool false]) w := by kernel_rfl
theorem as_4_4 (x : Value) (w : World) : (Instr.typeAssert (.iface 63 x) 47 63 true).run Try.prog w = .ok (.tuple #[x, .bool true]) w := by kernel_rfl
theorem as_5_1 (x : Value) (w : World) : (Instr.typeAssert (.iface 64 x) 47 59 true).run Try.prog w = .ok (.tuple #[.agg #[.int .i64 0], .bool false]) w := by kernel_rfl
theorem as_5_2 (x : Value) (w : World) : (Instr.typeAssert (.iface 64 x) 47 60 true).run Try.prog w = .ok (.tuple #[.agg #[.int .i64 0], .bool false]) w := by kernel_rfl
theorem as_5_3 (x : Value) (w : World) : (Instr.typeAssert (.iface 64 x) 47 62 true).run Try.prog w = .ok (.tuple #[.agg #[.int .i64 0, .bool false, .int .i64 0, .int .i64 0, .int .i64 0, .int .i64 0], .bool false]) w := by kernel_rfl
theorem as_5_4 (x : Value) (w : World) : (Instr.typeAssert (.iface 64 x) 47 63 true).run Try.prog w = .ok (.tuple #[.agg #[.int .i64 0], .bool false]) w := by kernel_rfl
theorem as_5_5 (x : Value) (w : World) : (Instr.typeAssert (.iface 64 x) 47 64 true).run Try.prog w = .ok (.tuple #[x, .bool true]) w := by kernel_rfl
theorem as_6_1 (x : Value) (w : World) : (Instr.typeAssert (.iface 66 x) 47 59 true).run Try.prog w = .ok (.tuple #[.agg #[.int .i64 0], .bool false]) w := by kernel_rfl
theorem as_6_2 (x : Value) (w : World) : (Instr.typeAssert (.iface 66 x) 47 60 true).run Try.prog w = .ok (.tuple #[.agg #[.int .i64 0], .bool false]) w := by kernel_rfl
theorem as_6_3 (x : Value) (w : World) : (Instr.typeAssert (.iface 66 x) 47 62 true).run Try.prog w = .ok (.tuple #[.agg #[.int .i64 0, .bool false, .int .i64 0, .int .i64 0, .int .i64 0, .int .i64 0], .bool false]) w := by kernel_rfl
theorem as_6_4 (x : Value) (w : World) : (Instr.typeAssert (.iface 66 x) 47 63 true).run Try.prog w = .ok (.tuple #[.agg #[.int .i64 0], .bool false]) w := by kernel_rfl
theorem as_6_5 (x : Value) (w : World) : (Instr.typeAssert (.iface 66 x) 47 64 true).run Try.prog w = .ok (.tuple #[.agg #[.int .i64 0], .bool false]) w := by kernel_rfl
theorem as_6_6 (x : Value) (w : World) : (Instr.typeAssert (.iface 66 x) 47 66 true).run Try.prog w = .ok (.tuple #[x, .bool true]) w := by kernel_rfl
theorem as_7_1 (x : Value) (w : World) : (Instr.typeAssert (.iface 68 x) 47 59 true).run Try.prog w = .ok (.tuple #[.agg #[.int .i64 0], .bool false]) w := by kernel_rfl
theorem as_7_2 (x : Value) (w : World) : (Instr.typeAssert (.iface 68 x) 47 60 true).run Try.prog w = .ok (.tuple #[.agg #[.int .i64 0], .bool false]) w := by kernel_rfl
theorem as_7_3 (x : Value) (w : World) : (Instr.typeAssert (.iface 68 x) 47 62 true).run Try.prog w = .ok (.tuple #[.agg #[.int .i64 0, .bool false, .int .i64 0, .int .i64 0, .int .i64 0, .int .i64 0], .bool false]) w := by kernel_rfl
theorem as_7_4 (x : Value) (w : World) : (Instr.typeAssert (.iface 68 x) 47 63 true).run Try.prog w = .ok (.tuple #[.agg #[.int .i64 0], .bool false]) w := by kernel_rfl
theorem as_7_5 (x : Value) (w : World) : (Instr.typeAssert (.iface 68 x) 47 64 true).run Try.prog w = .ok (.tuple #[.agg #[.int .i64 0], .bool false]) w := by kernel_rfl
theorem as_7_6 (x : Value) (w : World) : (Instr.typeAssert (.iface 68 x) 47 66 true).run Try.prog w = .ok (.tuple #[.agg #[.int .i64 0, .bool false], .bool false]) w := by kernel_rfl
theorem as_7_7 (x : Value) (w : World) : (Instr.typeAssert (.iface 68 x) 47 68 true).run Try.prog w = .ok (.tuple #[x, .bool true]) w := by kernel_rfl

set_option maxHeartbeats 400000 in
theorem nums_1 (p : Int)  (w : World) :
    Calls Try.prog 31 #[.iface 59 (.agg #[.int .i64 p])] w fun e w' => ∃ v, e = .returned v ∧ w'.ownsRow w.heap.size 3 1 v 3 [.int .i64 1, .int .i64 p, .int .i64 (bitB false)] ∧ Below w.heap.size w w' := by
  have t1 := as_1_1
  go_enter Try.func31, Try.ntmps31
  go_wp2_with (go_at_call 34; refine (head_1 _ _ _  _).mono ?_; rintro e w1 ⟨rfl, rfl⟩)
  go_ret
  exact ⟨_, rfl, own3 w _ _ _ _, bel_alloc (bel_alloc (Below.refl _ _) _) _⟩

set_option maxHeartbeats 400000 in
theorem nums_2 (p : Int)  (w : World) :
    Calls Try.prog 31 #[.iface 60 (.agg #[.int .i64 p])] w fun e w' => ∃ v, e = .returned v ∧ w'.ownsRow w.heap.size 3 1 v 3 [.int .i64 2, .int .i64 p, .int .i64 (bitB false)] ∧ Below w.heap.size w w' := by
  have t1 := as_2_1
  have t2 := as_2_2
  go_enter Try.func31, Try.ntmps31
  go_wp2_with (go_at_call 34; refine (head_2 _ _ _  _).mono ?_; rintro e w1 ⟨rfl, rfl⟩)
  go_ret
  exact ⟨_, rfl, own3 w _ _ _ _, bel_alloc (bel_alloc (Below.refl _ _) _) _⟩

set_option maxHeartbeats 400000 in
theorem nums_4 (p : Int)  (w : World) :
    Calls Try.prog 31 #[.iface 63 (.agg #[.int .i64 p])] w fun e w' => ∃ v, e = .returned v ∧ w'.ownsRow w.heap.size 3 1 v 3 [.int .i64 4, .int .i64 p, .int .i64 (bitB false)] ∧ Below w.heap.size w w' := by
  have t1 := as_4_1
  have t2 := as_4_2
  have t3 := as_4_3
  have t4 := as_4_4
  go_enter Try.func31, Try.ntmps31
  go_wp2_with (go_at_call 34; refine (head_4 _ _ _  _).mono ?_; rintro e w1 ⟨rfl, rfl⟩)
  go_ret
  exact ⟨_, rfl, own3 w _ _ _ _, bel_alloc (bel_alloc (Below.refl _ _) _) _⟩

set_option maxHeartbeats 400000 in
theorem nums_5 (p : Int)  (w : World) :
    Calls Try.prog 31 #[.iface 64 (.agg #[.int .i64 p])] w fun e w' => ∃ v, e = .returned v ∧ w'.ownsRow w.heap.size 3 1 v 3 [.int .i64 5, .int .i64 p, .int .i64 (bitB false)] ∧ Below w.heap.size w w' := by
  have t1 := as_5_1
  have t2 := as_5_2
  have t3 := as_5_3
  have t4 := as_5_4
  have t5 := as_5_5
  go_enter Try.func31, Try.ntmps31
  go_wp2_with (go_at_call 34; refine (head_5 _ _ _  _).mono ?_; rintro e w1 ⟨rfl, rfl⟩)
  go_ret
  exact ⟨_, rfl, own3 w _ _ _ _, bel_alloc (bel_alloc (Below.refl _ _) _) _⟩

set_option maxHeartbeats 400000 in
theorem nums_6 (p : Int) (x0 : Bool) (w : World) :
    Calls Try.prog 31 #[.iface 66 (.agg #[.int .i64 p, .bool x0])] w fun e w' => ∃ v, e = .returned v ∧ w'.ownsRow w.heap.size 3 1 v 3 [.int .i64 6, .int .i64 p, .int .i64 (bitB x0)] ∧ Below w.heap.size w w' := by
  have t1 := as_6_1
  have t2 := as_6_2
  have t3 := as_6_3
  have t4 := as_6_4
  have t5 := as_6_5
  have t6 := as_6_6
  go_enter Try.func31, Try.ntmps31
  go_wp2_with (go_at_call 34; refine (head_6 _ _ _ x0 _).mono ?_; rintro e w1 ⟨rfl, rfl⟩)
  go_ret
  exact ⟨_, rfl, own3 w _ _ _ _, bel_alloc (bel_alloc (Below.refl _ _) _) _⟩

theorem info_i : (Try.prog.info? 3).map (fun i => (i.zero, i.size, i.bytes)) = some (some (.int .i64 0), 1, 8) := by kernel_rfl

theorem news4 {W : World} {b off : Nat} {c0 c1 c2 c3 : Value} (h0 : W.cell? ⟨b, off, none⟩ = some c0) (h1 : W.cell? ⟨b, off + 1, none⟩ = some c1) (h2 : W.cell? ⟨b, off + 2, none⟩ = some c2) (h3 : W.cell? ⟨b, off + 3, none⟩ = some c3) :
    ∀ j u, [c0, c1, c2, c3][j]? = some u → W.cell? ((⟨b, off, none⟩ : Addr).add j) = some u := by
  intro j u hu
  match j, hu with
  | 0, hu => simp at hu; subst hu; simpa [Addr.add] using h0
  | 1, hu => simp at hu; subst hu; simpa [Addr.add] using h1
  | 2, hu => simp at hu; subst hu; simpa [Addr.add] using h2
  | 3, hu => simp at hu; subst hu; simpa [Addr.add] using h3
  | j + 4, hu => simp at hu

theorem grown_own {w w1 : World} {o1 o2 : Obj} {n cap : Nat} (h : ((w.alloc o1).alloc o2).drew.grownBy w1 (Value.slice (some ⟨w.heap.size + 1, 0, none⟩) n cap).ownBlock) : Below w.heap.size w w1 :=
  (bel_alloc (bel_alloc (Below.refl w.heap.size w) o1) o2).drew.grown h (by simp; omega) (fun k hk => by simp [Value.ownBlock] at hk; omega)

theorem plain_of {o : Bool} {xs : List Int} (h : (!o && ((xs.length : Int) == 0)) = true) : o = false ∧ xs = [] := by
  rw [Bool.and_eq_true] at h
  refine ⟨by simpa using h.1, ?_⟩
  cases xs with
  | nil => rfl
  | cons x r => have := h.2; simp at this; omega

theorem len_of {xs : List Int} (h : wordsB xs 4 = true) : xs.length = 4 := by
  unfold wordsB at h
  rw [Bool.and_eq_true] at h
  have := h.2
  simp at this
  omega

set_option maxRecDepth 100000 in
set_option maxHeartbeats 1000000 in
theorem nums_3 (p : Int) (o : Bool) (x0 x1 x2 x3 : Int) (w : World) :
    Calls Try.prog 31 #[.iface 62 (.agg #[.int .i64 p, .bool o, .int .i64 x0, .int .i64 x1, .int .i64 x2, .int .i64 x3])] w fun e w' => ∃ v, e = .returned v ∧ w'.ownsRow w.heap.size 3 1 v 7 [.int .i64 3, .int .i64 p, .int .i64 (bitB o), .int .i64 x0, .int .i64 x1, .int .i64 x2, .int .i64 x3] ∧ Below w.heap.size w w' := by
  obtain ⟨i0, hi, hz0, hz1, hz2⟩ := info_parts info_i
  have t1 := as_3_1
  have t2 := as_3_2
  have t3 := as_3_3
  go_enter Try.func31, Try.ntmps31
  go_wp2_with fail
  go_region_held3 (fun w' => w'.cell? ⟨w.heap.size, 1, none⟩ = some (.bool o))
    (first | go_keep | (rw [hgrow.cell_far _ (by simp; omega) (by simp [Value.ownBlock])]; simp))
    (first | (refine step_append_lies _ (by rfl) _ _ _ (by rfl) w.heap.size 3 i0 (.int .i64 0) 1 8 Try.underlying22 hi hz0 hz1 hz2 rfl (by omega) (.slice (some ⟨w.heap.size + 1, 0, none⟩) 3 3) 3 [.int .i64 3, .int .i64 p, .int .i64 (bitB o)] (by rfl) (own3 w _ _ _ _) ⟨w.heap.size, 2, none⟩ 4 4 [.int .i64 x0, .int .i64 x1, .int .i64 x2, .int .i64 x3] (by rfl) (by rfl) (news4 (by simp) (by simp) (by simp) (by simp)) (by simp [Value.oneCell']) (by omega) (by simp [maxLen]) (by omega) (by simp; omega) (w.heap.size + 2) (by simp) ?_; intro g cap w1 hown hgrow hat hlt) | (go_at_call 34; refine (head_3 _ _ _ o x0 x1 x2 x3 _).mono ?_; rintro e w1 ⟨rfl, rfl⟩))
  go_wp2
  go_ret
  exact ⟨_, rfl, hown, grown_own hgrow⟩

set_option maxRecDepth 100000 in
set_option maxHeartbeats 1000000 in
theorem nums_7 (p : Int) (x0 x1 x2 x3 : Int) (w : World) :
    Calls Try.prog 31 #[.iface 68 (.agg #[.int .i64 p, .int .i64 x0, .int .i64 x1, .int .i64 x2, .int .i64 x3])] w fun e w' => ∃ v, e = .returned v ∧ w'.ownsRow w.heap.size 3 1 v 7 [.int .i64 7, .int .i64 p, .int .i64 (bitB false), .int .i64 x0, .int .i64 x1, .int .i64 x2, .int .i64 x3] ∧ Below w.heap.size w w' := by
  obtain ⟨i0, hi, hz0, hz1, hz2⟩ := info_parts info_i
  have t1 := as_7_1
  have t2 := as_7_2
  have t3 := as_7_3
  have t4 := as_7_4
  have t5 := as_7_5
  have t6 := as_7_6
  have t7 := as_7_7
  go_enter Try.func31, Try.ntmps31
  go_wp2_with fail
  go_region_held3 (fun w' => w'.cell? ⟨w.heap.size, 0, none⟩ = some (.int .i64 p))
    (first | go_keep | (rw [hgrow.cell_far _ (by simp; omega) (by simp [Value.ownBlock])]; simp))
    (first | (refine step_append_lies _ (by rfl) _ _ _ (by rfl) w.heap.size 3 i0 (.int .i64 0) 1 8 Try.underlying22 hi hz0 hz1 hz2 rfl (by omega) (.slice (some ⟨w.heap.size + 1, 0, none⟩) 3 3) 3 [.int .i64 7, .int .i64 p, .int .i64 (bitB false)] (by rfl) (own3 w _ _ _ _) ⟨w.heap.size, 1, none⟩ 4 4 [.int .i64 x0, .int .i64 x1, .int .i64 x2, .int .i64 x3] (by rfl) (by rfl) (news4 (by simp) (by simp) (by simp) (by simp)) (by simp [Value.oneCell']) (by omega) (by simp [maxLen]) (by omega) (by simp; omega) (w.heap.size + 2) (by simp) ?_; intro g cap w1 hown hgrow hat hlt) | (go_at_call 34; refine (head_7 _ _ _ x0 x1 x2 x3 _).mono ?_; rintro e w1 ⟨rfl, rfl⟩))
  go_wp2
  go_ret
  exact ⟨_, rfl, hown, grown_own hgrow⟩

theorem nums_any (k p : Int) (o : Bool) (xs : List Int) (w : World) (hok : msgOkB k p o xs = true) :
    Calls Try.prog 31 #[letterV k p o xs] w fun e w' => ∃ v, e = .returned v ∧ w'.ownsRow w.heap.size 3 1 v (numsOf k p o xs).length ((numsOf k p o xs).map (Value.int .i64)) ∧ Below w.heap.size w w' := by
  have hp : 0 ≤ p ∧ p ≤ 5 := by
    apply Classical.byContradiction
    intro h
    rw [msgOk_page (decide_eq_false h)] at hok
    cases hok
  have hk : 1 ≤ k ∧ k ≤ 7 := by
    apply Classical.byContradiction
    intro h
    rw [msgOk_kind (decide_eq_false h)] at hok
    cases hok
  rcases (by omega : k = 1 ∨ k = 2 ∨ k = 3 ∨ k = 4 ∨ k = 5 ∨ k = 6 ∨ k = 7) with rfl | rfl | rfl | rfl | rfl | rfl | rfl
  · rw [ok_plain hp hk (by decide) (by decide) (by decide)] at hok
    obtain ⟨rfl, rfl⟩ := plain_of hok
    exact nums_1 p w
  · rw [ok_plain hp hk (by decide) (by decide) (by decide)] at hok
    obtain ⟨rfl, rfl⟩ := plain_of hok
    exact nums_2 p w
  · rw [ok_3 hp] at hok
    obtain ⟨x0, x1, x2, x3, rfl⟩ := four xs (len_of hok)
    exact nums_3 p o x0 x1 x2 x3 w
  · rw [ok_plain hp hk (by decide) (by decide) (by decide)] at hok
    obtain ⟨rfl, rfl⟩ := plain_of hok
    exact nums_4 p w
  · rw [ok_plain hp hk (by decide) (by decide) (by decide)] at hok
    obtain ⟨rfl, rfl⟩ := plain_of hok
    exact nums_5 p w
  · rw [ok_6 hp] at hok
    obtain rfl : xs = [] := by cases xs with
      | nil => rfl
      | cons x r => simp at hok; omega
    exact nums_6 p o w
  · rw [ok_7 hp, Bool.and_eq_true] at hok
    obtain ⟨x0, x1, x2, x3, rfl⟩ := four xs (len_of hok.1)
    obtain rfl : o = false := by simpa using hok.2
    exact nums_7 p x0 x1 x2 x3 w
end Go.Proofs.Ytidgiklkgmfmcaa
