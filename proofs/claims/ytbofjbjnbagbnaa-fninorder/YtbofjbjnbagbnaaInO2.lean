/- The steps of FnInOrder's state: queued, sent, come, acknowledged. -/
import Derived.Test.YtbofjbjnbagbnaaInO
namespace Go.Proofs.Ytbofjbjnbagbnaa
open Go.RowKit
set_option linter.unusedVariables false

theorem getD_left {xs : List Int} {i : Nat} (h : i < xs.length) (ys : List Int) : (xs ++ ys).getD i 0 = xs.getD i 0 := by
  rw [List.getD_eq_getElem?_getD, List.getD_eq_getElem?_getD, List.getElem?_append_left h]
theorem getD_end (xs : List Int) (x : Int) : (xs ++ [x]).getD xs.length 0 = x := by simp

theorem say_len_eq {ds ms : List M} (h : ds.map M.say = ms.map M.say) : ds.length = ms.length := by
  have := congrArg List.length h
  simpa using this
theorem say_get {ds ms : List M} (h : ds.map M.say = ms.map M.say) {i : Nat} {d : M} (hd : ds[i]? = some d) : ∃ m, ms[i]? = some m ∧ d.say = m.say := by
  have h1 : (ms.map M.say)[i]? = some d.say := by rw [← h, List.getElem?_map, hd]; rfl
  rw [List.getElem?_map] at h1
  cases hm : ms[i]? with
  | none => rw [hm] at h1; simp at h1
  | some m => rw [hm] at h1; simp at h1; exact ⟨m, rfl, h1.symm⟩

theorem snoc_get {α : Type} {xs : List α} {y : α} {i : Nat} {m : α} (h : (xs ++ [y])[i]? = some m) : (i < xs.length ∧ xs[i]? = some m) ∨ (i = xs.length ∧ m = y) := by
  by_cases hi : i < xs.length
  · rw [List.getElem?_append_left hi] at h
    exact .inl ⟨hi, h⟩
  · rw [List.getElem?_append_right (by omega)] at h
    have h0 : i - xs.length = 0 := by
      have := (List.getElem?_eq_some_iff.1 h).1
      simp at this
      omega
    rw [h0] at h
    simp at h
    exact .inr ⟨by omega, h.symm⟩

theorem lt_of_some {α : Type} {xs : List α} {i : Nat} {m : α} (h : xs[i]? = some m) : i < xs.length := (List.getElem?_eq_some_iff.1 h).1

theorem St.Ok.queue {S : St} (ok : S.Ok) (x : Int) (hx : 0 ≤ x ∧ x ≤ 5) (m : M) (hm : Asks m x) (ds : List M) (hds : ds.map M.say = (S.qs ++ [m]).map M.say) (hs : senderB S.b (S.qs ++ [m]) = true) :
    ({ S with P := S.P ++ [x], qs := ds, aa := S.aa ++ [m] } : St).Ok := by
  have hl := say_len_eq hds
  have hq := ok.qb
  have hlen : (S.qs ++ [m]).length ≤ 30 := by
    simp [senderB] at hs
    simp
    omega
  simp at hl hlen
  refine ⟨ok.bg, by simp; have := ok.gp; omega, by simp; omega, by simp; omega, by simp; exact ok.al, ok.gl, ?_, ?_, ?_, ?_, ?_⟩
  · intro y hy
    simp at hy
    rcases hy with hy | rfl
    · exact ok.pg y hy
    · exact hx
  · intro i d hd
    obtain ⟨m', hm', e⟩ := say_get hds hd
    unfold Asks
    rw [e]
    rcases snoc_get hm' with ⟨hi, h⟩ | ⟨hi, rfl⟩
    · show _ = (1, (S.P ++ [x]).getD (S.b + i) 0, false, [])
      rw [getD_left (by omega)]
      exact ok.hq i m' h
    · show _ = (1, (S.P ++ [x]).getD (S.b + i) 0, false, [])
      rw [show S.b + i = S.P.length by omega, getD_end]
      exact hm
  · intro i d hd
    rcases snoc_get hd with ⟨hi, h⟩ | ⟨hi, rfl⟩
    · show _ = (1, (S.P ++ [x]).getD i 0, false, [])
      rw [getD_left (by have := ok.al; omega)]
      exact ok.ha i d h
    · show _ = (1, (S.P ++ [x]).getD i 0, false, [])
      rw [hi, ok.al, getD_end]
      exact hm
  · intro i d hd
    show _ = (1, (S.P ++ [x]).getD i 0, false, [])
    have hi := lt_of_some hd
    rw [getD_left (by have h1 := ok.gl; have h2 := ok.gp; have h3 : i < S.gg.length := hi; omega)]
    exact ok.hg i d hd
  · intro t ht
    have h := ok.hn t ht
    refine ⟨by simp; omega, ?_⟩
    show _ = (1, (S.P ++ [x]).getD t.1 0, false, [])
    rw [getD_left h.1]
    exact h.2

theorem St.Ok.send {S : St} (ok : S.Ok) {n : Nat} {m : M} (h : S.qs[n]? = some m) : ({ S with ns := S.ns ++ [(S.b + n, m)] } : St).Ok := by
  refine ⟨ok.bg, ok.gp, ok.qb, ok.q30, ok.al, ok.gl, ok.pg, ok.hq, ok.ha, ok.hg, ?_⟩
  intro t ht
  simp at ht
  rcases ht with ht | rfl
  · exact ok.hn t ht
  · have := ok.qb
    have := lt_of_some h
    exact ⟨by show S.b + n < S.P.length; omega, ok.hq n m h⟩

theorem St.Ok.come {S : St} (ok : S.Ok) {t : Nat × M} (ht : t ∈ S.ns) (h : t.1 = S.g) : ({ S with g := S.g + 1, gg := S.gg ++ [t.2] } : St).Ok := by
  obtain ⟨h1, h2⟩ := ok.hn t ht
  refine ⟨by have := ok.bg; show S.b ≤ S.g + 1; omega, by show S.g + 1 ≤ S.P.length; omega, ok.qb, ok.q30, ok.al, by simp; exact ok.gl, ok.pg, ok.hq, ok.ha, ?_, ok.hn⟩
  intro i m hm
  rcases snoc_get hm with ⟨hi, hh⟩ | ⟨hi, rfl⟩
  · exact ok.hg i m hh
  · rw [ok.gl] at hi
    rw [hi, ← h]
    exact h2

theorem St.Ok.ack {S : St} (ok : S.Ok) (n : Int) (hn : n ≤ S.g) (ds : List M) (hds : ds.map M.say = (ackL S.b n S.qs).map M.say) :
    ∃ b' : Nat, ackN S.b n S.qs = (b' : Int) ∧ ({ S with b := b', qs := ds } : St).Ok := by
  cases h : ackOn S.b n S.qs
  · refine ⟨S.b, by simp [ackN, h], ?_⟩
    have e : ackL S.b n S.qs = S.qs := by simp [ackL, h]
    rw [e] at hds
    have hl := say_len_eq hds
    refine ⟨ok.bg, ok.gp, by have := ok.qb; show S.b + ds.length = S.P.length; omega, by have := ok.q30; show ds.length ≤ 30; omega, ok.al, ok.gl, ok.pg, ?_, ok.ha, ok.hg, ok.hn⟩
    intro i d hd
    obtain ⟨m', hm', e⟩ := say_get hds hd
    unfold Asks
    rw [e]
    exact ok.hq i m' hm'
  · have h2 : (S.b : Int) ≤ n ∧ n ≤ S.b + S.qs.length := by
      simp [ackOn] at h
      exact h.2
    obtain ⟨n', rfl⟩ : ∃ n' : Nat, n = (n' : Int) := ⟨n.toNat, by omega⟩
    have e : ackL S.b n' S.qs = S.qs.drop (n' - S.b) := by
      have : ((n' : Int) - S.b).toNat = n' - S.b := by omega
      simp [ackL, h, this]
    rw [e] at hds
    have hl := say_len_eq hds
    simp at hl
    have hqb := ok.qb
    refine ⟨n', by simp [ackN, h], ⟨by show n' ≤ S.g; omega, ok.gp, by show n' + ds.length = S.P.length; omega, by have := ok.q30; show ds.length ≤ 30; omega, ok.al, ok.gl, ok.pg, ?_, ok.ha, ok.hg, ok.hn⟩⟩
    intro i d hd
    obtain ⟨m', hm', e⟩ := say_get hds hd
    rw [List.getElem?_drop] at hm'
    have := ok.hq _ m' hm'
    unfold Asks at this ⊢
    rw [e, this]
    show _ = (1, S.P.getD (n' + i) 0, false, [])
    rw [show S.b + (n' - S.b + i) = n' + i by omega]

theorem St.Ok.right {S : St} (ok : S.Ok) (h60 : S.P.length ≤ 60) : senderB S.b S.qs = true := by
  have h1 := ok.qb
  have h2 := ok.q30
  have hall : S.qs.all (fun m => okS m.say) = true := by
    rw [List.all_eq_true]
    intro m hm
    obtain ⟨i, hi, rfl⟩ := List.getElem_of_mem hm
    have := ok.hq i _ (List.getElem?_eq_getElem hi)
    unfold Asks at this
    rw [this]
    have hx : 0 ≤ S.P.getD (S.b + i) 0 ∧ S.P.getD (S.b + i) 0 ≤ 5 := by
      have hlt : S.b + i < S.P.length := by omega
      have e : S.P.getD (S.b + i) 0 = S.P[S.b + i] := by simp [hlt]
      rw [e]
      exact ok.pg _ (List.getElem_mem hlt)
    show msgOkB 1 (S.P.getD (S.b + i) 0) false [] = true
    rw [ok_plain hx (by omega) (by omega) (by omega) (by omega)]
    rfl
  unfold senderB
  rw [hall, decide_eq_true (show (0 : Int) ≤ (S.b : Int) ∧ (S.b : Int) ≤ 100000 by omega), decide_eq_true h2, decide_eq_true (show (S.b : Int) + (S.qs.length : Nat) ≤ 100000 by omega)]
  rfl
end Go.Proofs.Ytbofjbjnbagbnaa
