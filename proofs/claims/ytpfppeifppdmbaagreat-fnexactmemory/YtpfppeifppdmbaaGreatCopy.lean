/- Cp0 and Copy: see the heads of the parts. -/
import Derived.Test.YtpfppeifppdmbaaGreatFrm
import Derived.Test.YtpfppeifppdmbaaGreatHomM
import Derived.Test.YtpfppeifppdmbaaGreatInfos
import Derived.Laws.CopyOwn
import Derived.Test.YtpfppeifppdmbaaGreatSndTo
/- 'copy' into a new row, at elements of any size; what copyList does of a row of numbers. -/
namespace Go
open Go.RowKit
theorem run_copy_wideYtpfppeifppdmbaaGreat {P : Program} (w : World) (dT sT ty elem : TypeId) (g o dLen dCap : Nat) (a : Addr) (sLen sCap : Nat) (cur : Array Value) (t : TypeId) (cs : List Value) (size : Nat)
    (hu : P.underlying dT = some (.slice elem)) (hs : (P.info? elem).map (·.size) = some size)
    (hg : w.heap[g]? = some (.cells cur t (0, 0))) (hn : cs.length = Nat.min sLen dLen * size)
    (hsrc : ∀ j v, cs[j]? = some v → w.cell? (a.add j) = some v) (hfit : o + cs.length ≤ cur.size) (h1 : ∀ v ∈ cs, v.oneCell' = true) :
    (Builtin.copy_ #[dT, sT] ty #[.slice (some ⟨g, o, none⟩) dLen dCap, .slice (some a) sLen sCap]).run P w =
      .ok (goInt (Nat.min sLen dLen)) (w.setRow g (cur.toList.take o ++ cs ++ cur.toList.drop (o + cs.length)).toArray) := by
  have hl := run_loadCells_list (P := P) w a cs hsrc
  have hst := run_storeCells_at P g o t cs 0 cur w hg (by simpa using hfit) h1
  cases hq : P.info? elem with
  | none => simp [hq] at hs
  | some i =>
    have hi : i.size = size := by simpa [hq] using hs
    simp [Builtin.copy_, run_underlying hu, Builtin.lenOf, Builtin.firstCells, sizeOf, typeInfo, hq, hi, ← hn, hl, hst]

theorem wpList_copy_fullYtpfppeifppdmbaaGreat {P : Program} {w : World} {ops : Array Oper} {rest : List Oper} {o : Oper} {a : Act} {Q : Exit → Act → World → Prop} (hgd : o.guard = none) (d s : Operand) (dT sT : TypeId)
    (ho : o.op = .call { callee := .builtin .copy, args := #[d, s], argTypes := #[dT, sT] }) (elem : TypeId) (hu : P.underlying dT = some (.slice elem)) (size : Nat) (hsz : (P.info? elem).map (·.size) = some size)
    (base g n sCap : Nat) (ad : Addr) (hd : a.eval d = .slice (some ⟨g, 0, none⟩) n n) (hs : a.eval s = .slice (some ad) n sCap)
    (zs : List Value) (hown : w.ownsRow base elem size (.slice (some ⟨g, 0, none⟩) n n) n zs) (cs : List Value) (hn : cs.length = n * size)
    (hsrc : ∀ j v, cs[j]? = some v → w.cell? (ad.add j) = some v) (h1 : ∀ v ∈ cs, v.oneCell' = true)
    (h : ∀ w', w'.ownsRow base elem size (.slice (some ⟨g, 0, none⟩) n n) n cs → w.grownBy w' (some g) → wpList P ops Q rest (a.put o.dst (goInt n)) w') : wpList P ops Q (o :: rest) a w := by
  refine wpList_plain hgd fun K hK => ?_
  rcases hown.2 with ⟨hv, _⟩ | ⟨g', cap, cur, hv, hbg, hg, hnc, hcm, hcs, ht⟩
  · simp at hv
  · simp only [Value.slice.injEq, Option.some.injEq, Addr.mk.injEq, and_true, true_and] at hv
    obtain ⟨rfl, rfl⟩ := hv
    have hrun := run_copy_wideYtpfppeifppdmbaaGreat (P := P) w dT sT o.type elem g 0 n n ad n sCap cur elem cs size hu hsz hg (by rw [hn]; simp) hsrc (by omega) h1
    unfold Oper.wp
    simp [execOp, ho, resolve, invoke, builtin, hd, hs, hrun, Result.andThen]
    refine hK _ _ (h _ ⟨hn, .inr ⟨g, n, cs.toArray, rfl, hbg, ?_, hnc, hcm, by simp [hn], by simp [← hn]⟩⟩ ⟨rfl, rfl, rfl, by simp [World.setRow], fun k hk hne => ?_⟩)
    · have := setRow_heap w g _ cs.toArray elem _ hg
      have e : (List.drop cs.length cur.toList) = [] := List.drop_eq_nil_of_le (by simp; omega)
      simpa [e] using this
    · exact setRow_other w g k _ (fun e => hne (by rw [e]))
end Go
namespace Go.Proofs.YtpfppeifppdmbaaGreat
open Go.RowKit
set_option linter.unusedVariables false

theorem addr_add (b off i : Nat) : (⟨b, off, none⟩ : Addr).add i = ⟨b, off + i, none⟩ := by
  unfold Addr.add
  split <;> simp_all

theorem row_src {k : IntKind} {w : World} {a : Option Addr} {xs : List Int} (h : Row k w a xs) (h0 : 0 < xs.length) : ∃ b off, a = some ⟨b, off, none⟩ ∧ ∀ j v, (xs.map (Value.int k))[j]? = some v → w.cell? ((⟨b, off, none⟩ : Addr).add j) = some v := by
  obtain ⟨b, off, rfl, _⟩ := h.2 0 h0
  refine ⟨b, off, rfl, fun j v hv => ?_⟩
  rw [addr_add]
  have hj : j < xs.length := by
    have := (List.getElem?_eq_some_iff.1 hv).1
    simpa using this
  obtain ⟨b', off', he, hc⟩ := h.2 j hj
  simp at he
  obtain ⟨rfl, rfl⟩ := he
  rw [hc]
  rw [List.getElem?_map, List.getElem?_eq_getElem hj] at hv
  simp at hv
  rw [← hv]
  simp [hj]

set_option maxRecDepth 100000 in
set_option maxHeartbeats 1000000 in
theorem copyInts_any (a : Option Addr) (ca : Nat) (xs : List Int) (w : World) (hsm : xs.length ≤ 1048577) (ha : Row .i64 w a xs) :
    Calls Tryz.prog 32 #[.slice a xs.length ca] w fun e w' => ∃ v, e = .returned v ∧ w'.ownsRow w.heap.size 3 1 v xs.length (xs.map (Value.int .i64)) ∧ Below w.heap.size w w' := by
  obtain ⟨i0, hi, hz0, hz1, hz2⟩ := info_parts info_i64
  obtain ⟨n, hn⟩ : ∃ n, xs.length = n := ⟨_, rfl⟩
  have HN : Hid (xs.length = n) := hn
  rw [hn] at hsm ⊢
  clear hn
  by_cases h0 : n = 0
  · subst h0
    have : xs = [] := List.length_eq_zero_iff.1 HN.out
    subst this
    go_enter Tryz.func32, Tryz.ntmps32
    go_wp2
    go_ret
    exact ⟨_, rfl, World.ownsRow_nil _ _ _ _, Below.refl _ _⟩
  · have h0' : (0 : Int) < n := by omega
    go_enter Tryz.func32, Tryz.ntmps32
    go_wp2_with (at_make; refine wpList_make_full _ rfl (.tmp 8) (.tmp 8) 27 rfl w.heap.size 3 i0 (.int .i64 0) 1 Tryz.underlying27 hi hz0 hz1 .i64 .i64 _ _ n rfl rfl rfl rfl (by rw [hz2]; omega) (by unfold maxLen; omega) (Nat.le_refl _) ?_)
    intro w1 ho hg
    obtain ⟨zs, ho⟩ : ∃ zs, w1.ownsRow w.heap.size 3 1 (.slice (some ⟨w.heap.size, 0, none⟩) n n) n zs := ⟨_, ho⟩
    have hb1 : Below w.heap.size w w1 := (Below.refl _ _).grown hg (Nat.le_refl _) (fun k hk => by cases hk)
    clear hg
    obtain ⟨ba, oa, rfl, hsrc⟩ := row_src (ha.below hb1) (by have := HN.out; omega)
    have hcl : (xs.map (Value.int .i64)).length = n * 1 := by rw [List.length_map, HN.out]; omega
    clear ha
    have hone : ∀ v ∈ xs.map (Value.int .i64), v.oneCell' = true := fun v hv => by
      obtain ⟨x, _, rfl⟩ := List.mem_map.1 hv
      rfl
    go_wp2_with (guard_target =~ wpList _ _ _ (Oper.mk _ (Op.call ⟨Callee.builtin Builtin.copy, _, _⟩) _ _ _ _ :: _) _ _; refine wpList_copy_fullYtpfppeifppdmbaaGreat rfl (.tmp 10) (.tmp 11) 27 27 rfl 3 Tryz.underlying27 1 (by rw [hi]; simp [hz1]) w.heap.size w.heap.size n ca ⟨ba, oa, none⟩ rfl rfl zs ho (xs.map (Value.int .i64)) hcl hsrc hone ?_)
    · intro w2 o2 g2
      have hb2 := hb1.grown g2 hb1.size (fun k hk => by simp at hk; omega)
      clear g2 hb1 ho hsrc
      go_wp2
      go_ret
      exact ⟨_, rfl, o2, hb2⟩

end Go.Proofs.YtpfppeifppdmbaaGreat

/- What copyList and copyMsg do of messages. -/
namespace Go.Proofs.YtpfppeifppdmbaaGreat
open Go.RowKit
set_option linter.unusedVariables false

theorem msg_one (ms : List M) : ∀ v ∈ flat ms, v.oneCell' = true := fun v hv => by
  obtain ⟨m, _, hm⟩ := List.mem_flatMap.1 hv
  simp [M.cells] at hm
  rcases hm with rfl | rfl | rfl | rfl <;> rfl

theorem msgs_src {w : World} {a : Option Addr} {ms : List M} (h : MRow w a ms) (h0 : 0 < ms.length) : ∃ b off, a = some ⟨b, off, none⟩ ∧ ∀ j v, (flat ms)[j]? = some v → w.cell? ((⟨b, off, none⟩ : Addr).add j) = some v := by
  obtain ⟨m0, hm0⟩ : ∃ m, ms[0]? = some m := ⟨_, List.getElem?_eq_getElem h0⟩
  obtain ⟨⟨b, off, rfl, _⟩, _⟩ := h.2 0 m0 hm0
  refine ⟨b, off, rfl, fun j v hv => ?_⟩
  rw [addr_add]
  have hj : j < ms.length * 4 := by
    have := (List.getElem?_eq_some_iff.1 hv).1
    rw [flat_length] at this
    exact this
  obtain ⟨m, hm⟩ : ∃ m, ms[j / 4]? = some m := ⟨_, List.getElem?_eq_getElem (by omega)⟩
  obtain ⟨⟨b', off', he, c0, c1, c2, c3⟩, _⟩ := h.2 (j / 4) m hm
  simp at he
  obtain ⟨rfl, rfl⟩ := he
  have hk := flat_get ms (j / 4) m hm (j % 4) (by omega)
  rw [show j / 4 * 4 + j % 4 = j by omega, hv] at hk
  have hcase : j % 4 = 0 ∨ j % 4 = 1 ∨ j % 4 = 2 ∨ j % 4 = 3 := by omega
  rcases hcase with e | e | e | e
  · rw [e] at hk
    simp [M.cells] at hk
    rw [show off + j = off + j / 4 * 4 by omega, c0, hk]
  · rw [e] at hk
    simp [M.cells] at hk
    rw [show off + j = off + j / 4 * 4 + 1 by omega, c1, hk]
  · rw [e] at hk
    simp [M.cells] at hk
    rw [show off + j = off + j / 4 * 4 + 2 by omega, c2, hk]
  · rw [e] at hk
    simp [M.cells] at hk
    rw [show off + j = off + j / 4 * 4 + 3 by omega, c3, hk]


end Go.Proofs.YtpfppeifppdmbaaGreat
