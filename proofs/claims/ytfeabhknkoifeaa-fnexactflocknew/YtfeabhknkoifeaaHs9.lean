/- AppR and Hs9: see the heads of the parts. -/
import Derived.Test.YtfeabhknkoifeaaBk0
import Derived.Test.YtfeabhknkoifeaaHomN
import Derived.Test.YtfeabhknkoifeaaKeep
import Derived.Test.YtfeabhknkoifeaaInfos
import Derived.Deep.AppendLies
import Derived.Deep.RegionHeld3
import Derived.Test.YtfeabhknkoifeaaPacket
import Derived.Test.YtfeabhknkoifeaaIsA
/- 'append' of a row that is read, nil or not; what the specification's l4Copy does. -/
namespace Go
open Go.RowKit
theorem run_append_noneYtfeabhknkoifeaa {P : Program} {w : World} (base : Nat) (t ty e : TypeId) (i : TypeInfo) (size : Nat) (ht : P.underlying t = some (.slice e)) (hi : P.info? e = some i)
    (v : Value) (n c : Nat) (xs : List Value) (hown : w.ownsRow base e size v n xs) :
    (Builtin.append_ #[t, t] ty #[v, .slice none 0 c]).run P w = .ok v w := by
  rcases hown.2 with ⟨rfl, rfl⟩ | ⟨g, cap, cur, rfl, _, _, hnc, _⟩
  · simp [Builtin.append_, run_underlying ht, sizeOf, typeInfo, hi, Builtin.lenOf, Builtin.firstCells]
  · simp [Builtin.append_, run_underlying ht, sizeOf, typeInfo, hi, Builtin.lenOf, Builtin.firstCells, hnc, storeCells]

theorem wp_append_rowYtfeabhknkoifeaa {P : Program} {w : World} {o : Oper} {a : Act} {K : Act → World → Prop} {Q : Exit → Act → World → Prop} (s x : Operand) (t : TypeId)
    (ho : o.op = .call { callee := .builtin .append, args := #[s, x], argTypes := #[t, t] })
    (base : Nat) (e : TypeId) (i : TypeInfo) (z : Value) (size bytes : Nat) (ht : P.underlying t = some (.slice e)) (hi : P.info? e = some i) (hz : i.zero = some z)
    (hsize : i.size = size) (hby : i.bytes = bytes) (hzs : z.cells.size = size) (hsz : 0 < size)
    (v : Value) (n : Nat) (xs : List Value) (hs : a.eval s = v) (hown : w.ownsRow base e size v n xs)
    (av : Option Addr) (m c : Nat) (news : List Value) (hx : a.eval x = .slice av m c) (hl : news.length = m * size) (hnews : ∀ j u, news[j]? = some u → ∃ b off, av = some ⟨b, off, none⟩ ∧ w.cell? ⟨b, off + j, none⟩ = some u) (h1 : ∀ u ∈ news, u.oneCell' = true)
    (h63 : n + m ≤ maxLen) (hbytes : (n + m) * bytes ≤ 140737488355328) (hbase : base ≤ w.heap.size)
    (h : ∀ v' w', w'.ownsRow base e size v' (n + m) (xs ++ news) → w.grownBy w' v.ownBlock → K (a.put o.dst v') w') : o.wp P a w K Q := by
  cases av with
  | none =>
    have hm : news = [] := by
      cases hn : news with
      | nil => rfl
      | cons u us =>
        obtain ⟨b, off, hb, _⟩ := hnews 0 u (by rw [hn]; rfl)
        cases hb
    subst hm
    have hm0 : m = 0 := by
      rcases Nat.mul_eq_zero.1 (show m * size = 0 by simpa using hl.symm) with h | h
      · exact h
      · omega
    subst hm0
    have hr := run_append_noneYtfeabhknkoifeaa (P := P) base t o.type e i size ht hi v n c xs hown
    unfold Oper.wp execOp
    simp only [ho, resolve, invoke, builtin, Sem.run_bind, Sem.run_pure, Result.andThen_ok, List.map_toArray, List.map_cons, List.map_nil, hs, hx, hr]
    exact h v w (by simpa using hown) (World.grownBy.refl _ _)
  | some ad =>
    refine wp_append_own w s x t ho base e i z size bytes ht hi hz hsize hby hzs hsz v n xs hs hown ad m c news hx hl (fun j u hu => ?_) h1 h63 hbytes hbase (fun v' w' h2 h3 _ => h v' w' h2 h3)
    obtain ⟨b, off, hb, hc⟩ := hnews j u hu
    simp only [Option.some.injEq] at hb
    subst hb
    have e1 : (⟨b, off, none⟩ : Addr).add j = ⟨b, off + j, none⟩ := by
      unfold Addr.add
      split <;> simp_all
    rw [e1]
    exact hc

theorem wpList_append_rowYtfeabhknkoifeaa {P : Program} {w : World} {ops : Array Oper} {rest : List Oper} {o : Oper} {a : Act} {Q : Exit → Act → World → Prop} (hgd : o.guard = none) (s x : Operand) (t : TypeId)
    (ho : o.op = .call { callee := .builtin .append, args := #[s, x], argTypes := #[t, t] })
    (base : Nat) (e : TypeId) (i : TypeInfo) (z : Value) (size bytes : Nat) (ht : P.underlying t = some (.slice e)) (hi : P.info? e = some i) (hz : i.zero = some z)
    (hsize : i.size = size) (hby : i.bytes = bytes) (hzs : z.cells.size = size) (hsz : 0 < size)
    (v : Value) (n : Nat) (xs : List Value) (hs : a.eval s = v) (hown : w.ownsRow base e size v n xs)
    (av : Option Addr) (m c : Nat) (news : List Value) (hx : a.eval x = .slice av m c) (hl : news.length = m * size) (hnews : ∀ j u, news[j]? = some u → ∃ b off, av = some ⟨b, off, none⟩ ∧ w.cell? ⟨b, off + j, none⟩ = some u) (h1 : ∀ u ∈ news, u.oneCell' = true)
    (h63 : n + m ≤ maxLen) (hbytes : (n + m) * bytes ≤ 140737488355328) (hbase : base ≤ w.heap.size)
    (h : ∀ v' w', w'.ownsRow base e size v' (n + m) (xs ++ news) → w.grownBy w' v.ownBlock → wpList P ops Q rest (a.put o.dst v') w') : wpList P ops Q (o :: rest) a w :=
  wpList_plain hgd fun _ hK => wp_append_rowYtfeabhknkoifeaa s x t ho base e i z size bytes ht hi hz hsize hby hzs hsz v n xs hs hown av m c news hx hl hnews h1 h63 hbytes hbase fun v' w' h2 h3 => hK _ _ (h v' w' h2 h3)

theorem step_append_rowYtfeabhknkoifeaa {P : Program} {w : World} {ops : Array Oper} {o : Oper} {a : Act} {K : Act → World → Prop} {Q : Exit → Act → World → Prop} {E : Prop} (hgd : o.guard = none) (s x : Operand) (t : TypeId)
    (ho : o.op = .call { callee := .builtin .append, args := #[s, x], argTypes := #[t, t] })
    (base : Nat) (e : TypeId) (i : TypeInfo) (z : Value) (size bytes : Nat) (ht : P.underlying t = some (.slice e)) (hi : P.info? e = some i) (hz : i.zero = some z)
    (hsize : i.size = size) (hby : i.bytes = bytes) (hzs : z.cells.size = size) (hsz : 0 < size)
    (v : Value) (n : Nat) (xs : List Value) (hs : a.eval s = v) (hown : w.ownsRow base e size v n xs)
    (av : Option Addr) (m c : Nat) (news : List Value) (hx : a.eval x = .slice av m c) (hl : news.length = m * size) (hnews : ∀ j u, news[j]? = some u → ∃ b off, av = some ⟨b, off, none⟩ ∧ w.cell? ⟨b, off + j, none⟩ = some u) (h1 : ∀ u ∈ news, u.oneCell' = true)
    (h63 : n + m ≤ maxLen) (hbytes : (n + m) * bytes ≤ 140737488355328) (hbase : base ≤ w.heap.size)
    (h : ∀ v' w', w'.ownsRow base e size v' (n + m) (xs ++ news) → w.grownBy w' v.ownBlock → K (a.put o.dst v') w') : if Region.wanted o (yielded ops a.tmps) = true then Oper.wp P o a w K Q else E := by
  have hw : Region.wanted o (yielded ops a.tmps) = true := by simp [Region.wanted, hgd]
  rw [if_pos hw]
  exact wp_append_rowYtfeabhknkoifeaa s x t ho base e i z size bytes ht hi hz hsize hby hzs hsz v n xs hs hown av m c news hx hl hnews h1 h63 hbytes hbase h
end Go
namespace Go.Proofs.Ytfeabhknkoifeaa
open Go.RowKit
set_option linter.unusedVariables false

theorem row_v {w : World} {a : Option Addr} {xs : List Int} (h : Row .i64 w a xs) (hl : xs.length ≤ 1048577) : VRow w a (xs.map (Value.int .i64)) := by
  refine ⟨by rw [List.length_map]; omega, fun i v hv => ?_⟩
  have hi : i < xs.length := by
    have := (List.getElem?_eq_some_iff.1 hv).1
    simpa using this
  obtain ⟨b, off, e, hc⟩ := h.2 i hi
  refine ⟨b, off, e, ?_⟩
  rw [hc]
  rw [List.getElem?_map, List.getElem?_eq_getElem hi] at hv
  simp at hv
  rw [← hv]
  simp [hi]

theorem wv_oneR (ws : List (Int × Bool)) : ∀ v ∈ wv ws, v.oneCell' = true := by
  intro v hv
  simp only [wv, List.mem_flatMap] at hv
  obtain ⟨p, _, hp⟩ := hv
  simp at hp
  rcases hp with rfl | rfl <;> rfl
theorem bv_oneR (bs : List Bool) : ∀ v ∈ bv bs, v.oneCell' = true := by
  intro v hv
  simp only [bv, List.mem_map] at hv
  obtain ⟨p, _, rfl⟩ := hv
  rfl

theorem own_litE (W : World) (e s base : Nat) (h : base ≤ W.heap.size) : (W.alloc (.cells #[] e)).ownsRow base e s (.slice (some ⟨W.heap.size, 0, none⟩) 0 0) 0 [] :=
  World.ownsRow_lit W #[] 0 h (by simp [maxLen]) (by simp)

end Go.Proofs.Ytfeabhknkoifeaa

/- What the specification's HartOk, HartNew, l9Copy, Target answer. -/
namespace Go.Proofs.Ytfeabhknkoifeaa
open Go.RowKit
set_option linter.unusedVariables false

def hartB (xs : List Int) (pc st : Int) : Bool := wordsB xs 4 && (inB pc 0 23 && inB st 0 2)
theorem adr_eq (n : Int) : (if n.tmod 24 < 0 then n.tmod 24 + 24 else n.tmod 24) = n % 24 := by
  by_cases h : 0 ≤ n
  · rw [Int.tmod_eq_emod_of_nonneg h]
    split <;> omega
  · obtain ⟨m, rfl⟩ : ∃ m, n = -m := ⟨-n, by omega⟩
    rw [Int.neg_tmod, Int.tmod_eq_emod_of_nonneg (by omega)]
    split <;> omega
theorem and65535 (n : Int) : bits .and .i64 n 65535 = n % 65536 := by
  have h16 : (BitVec.ofInt 64 65535).toNat = 2 ^ 16 - 1 := by decide
  have key : (BitVec.ofInt 64 n &&& BitVec.ofInt 64 65535).toNat = (n % ((2 ^ 64 : Nat) : Int)).toNat % 2 ^ 16 := by
    rw [BitVec.toNat_and, BitVec.toNat_ofInt, h16, Nat.and_two_pow_sub_one_eq_mod]
  show IntKind.i64.wrap ((BitVec.ofInt 64 n &&& BitVec.ofInt 64 65535).toNat : Nat) = n % 65536
  rw [key, IntKind.wrap_i64]
  omega

set_option maxHeartbeats 1000000 in
theorem l9Address_any (n : Int) (w : World) : Calls Try.prog 26 #[.int .i64 n] w fun e w' => e = .returned (.int .i64 (n % 24)) ∧ w' = w := by
  have HA : Hid _ := adr_eq n
  obtain ⟨x, hx⟩ : ∃ x, n.tmod 24 = x := ⟨_, rfl⟩
  have hb : -24 < x ∧ x < 24 := by
    rw [← hx]
    by_cases h : 0 ≤ n
    · rw [Int.tmod_eq_emod_of_nonneg h]; omega
    · obtain ⟨m, rfl⟩ : ∃ m, n = -m := ⟨-n, by omega⟩
      rw [Int.neg_tmod, Int.tmod_eq_emod_of_nonneg (by omega)]; omega
  rw [hx] at HA
  obtain ⟨hb1, hb2⟩ := hb
  by_cases h0 : x < 0
  · have HE : Hid (x + 24 = n % 24) := by have := HA.out; rw [if_pos h0] at this; exact this
    go_enter Try.func26, Try.ntmps26
    go_wp2
    go_ret
    exact ⟨by rw [← HE.out]; first | rfl | go_num, rfl⟩
  · have HE : Hid (x = n % 24) := by have := HA.out; rw [if_neg h0] at this; exact this
    go_enter Try.func26, Try.ntmps26
    go_wp2
    go_ret
    exact ⟨by rw [← HE.out]; first | rfl | go_num, rfl⟩



/-- A call that answers a hart. -/
def HartP (L : List Int) (pc st : Int) (w : World) (e : Ending) (w' : World) : Prop := ∃ (a : Option Addr) (c : Nat), e = .returned (.agg #[.slice a L.length c, .int .i64 pc, .int .i64 st]) ∧ w'.ownsRow w.heap.size 3 1 (.slice a L.length c) L.length (L.map (Value.int .i64)) ∧ Below w.heap.size w w'

theorem hart_of {L : List Int} {n : Nat} (hl : L.length = n) {pc st : Int} {w w' : World} {a : Option Addr} {c : Nat} (o : w'.ownsRow w.heap.size 3 1 (.slice a n c) n (L.map (Value.int .i64))) (b : Below w.heap.size w w') : HartP L pc st w (.returned (.agg #[.slice a n c, .int .i64 pc, .int .i64 st])) w' := by
  subst hl
  exact ⟨a, c, rfl, o, b⟩


set_option maxRecDepth 100000 in
set_option maxHeartbeats 2000000 in
theorem specHartNew_any (pc : Int) (w : World) : Calls Try.prog 14 #[.int .i64 pc] w (HartP [0, 0, 0, 0] (pc % 24) 0 w) := by
  have HA : Hid (∀ W, Calls Try.prog 26 #[.int .i64 pc] W fun e w' => e = .returned (.int .i64 (pc % 24)) ∧ w' = W) := fun W => l9Address_any pc W
  have hm4 : ∀ W : World, (Instr.makeSlice 22 (.int .i64 4) (.int .i64 4)).run Try.prog W = .ok (.slice (some ⟨W.heap.size, 0, none⟩) 4 4) (W.alloc (.cells (madeCells #[.int .i64 0] 4) 3)) := fun W => run_make_row' (P := Try.prog) 22 3 (.int .i64 0) 8 Try.underlying22 info_i64 rfl .i64 .i64 4 (by decide) (by decide) W
  obtain ⟨q, hq⟩ : ∃ q, pc % 24 = q := ⟨_, rfl⟩
  rw [hq] at HA ⊢
  clear hq
  go_enter Try.func14, Try.ntmps14
  go_wp2_with fail
  go_region_with (go_at_call 26; refine (HA.out _).mono ?_; rintro e w1 ⟨rfl, rfl⟩)
  all_goals
    go_wp2
    refine bodyPost_ret (v := .agg #[.slice (some ⟨w.heap.size + 1, 0, none⟩) 4 4, .int .i64 q, .int .i64 0]) (by simp [results, Try.results14, go_sem]) rfl (hart_of rfl ?_ ?_)
    · have h := owns_made (w.alloc (.cells #[.slice (some ⟨w.heap.size + 1, 0, none⟩) 4 4, .int .i64 q, .int .i64 0] 54)) (.int .i64 0) w.heap.size 4 3 (by simp) (by decide)
      refine own_dr ?_
      simpa using h
    · exact below_drewN (bel_alloc (bel_alloc (Below.refl _ _) _) _) 1
end Go.Proofs.Ytfeabhknkoifeaa
