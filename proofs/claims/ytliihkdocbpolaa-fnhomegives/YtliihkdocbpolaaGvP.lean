/- The law FnHomeGives: how a request goes on, as far as its numbers go. -/
import Derived.Test.YtliihkdocbpolaaGv3a
namespace Go.Proofs.Ytliihkdocbpolaa
open Go.RowKit
set_option linter.unusedVariables false

def bi (b : Bool) : Int := if b then 1 else 0
def askM (own : Bool) : M := ⟨if own then 2 else 1, 0, false, none, 0, []⟩

/-- At rest: who reads, or who writes; who writes does so alone. -/
def Rest (H : Hm) (st wd : List Int) : Prop :=
  H.bz = false ∧ H.wh = 0 ∧ H.wo = false ∧ H.ak = 0 ∧ H.xs.all wordB = true ∧
    ((H.ow = -1 ∧ H.xs = wd ∧ ∃ b0 b1 b2, H.rd = [b0, b1, b2] ∧ st = [bi b0, bi b1, bi b2]) ∨ ∃ o : Nat, o < 3 ∧ H.ow = (o : Int) ∧ H.rd = [false, false, false] ∧ st = [0, 0, 0].set o 2)

/-- How far the request of who is: asked; fetched; those who give up; done. -/
def PhAsk (who : Nat) (own : Bool) (wd : List Int) (H : Hm) (st : List Int) (qs : List (Int × M)) : Prop := Rest H st wd ∧ st.getD who 0 ≠ 2 ∧ qs = [((who : Int), askM own)]
def PhBack (wB who : Nat) (own : Bool) (wd : List Int) (H : Hm) (st : List Int) (qs : List (Int × M)) : Prop :=
  ∃ o : Nat, o < 3 ∧ o ≠ who ∧ H.bz = true ∧ H.wh = (who : Int) ∧ H.wo = own ∧ H.ak = 0 ∧ H.ow = (o : Int) ∧ H.rd = [false, false, false] ∧ st = [0, 0, 0].set o (if own then 0 else 1) ∧ H.xs.all wordB = true ∧ qs = [((o : Int), backM wB wd)]
def PhAcks (who : Nat) (own : Bool) (wd : List Int) (H : Hm) (st : List Int) (qs : List (Int × M)) : Prop :=
  ∃ (fs : List Int) (b : Bool), (∀ f ∈ fs, 0 ≤ f ∧ f < 3) ∧ (1 ≤ fs.length ∧ fs.length ≤ 3) ∧ H.bz = true ∧ H.wh = (who : Int) ∧ H.wo = true ∧ own = true ∧ H.ak = (fs.length : Int) ∧ H.ow = -1 ∧ H.rd = [false, false, false].set who b ∧ st = [0, 0, 0].set who (bi b) ∧ H.xs = wd ∧ qs = fs.map fun f => (f, ackM)
def PhDone (who : Nat) (wd : List Int) (H : Hm) (st : List Int) (qs : List (Int × M)) : Prop := Rest H st wd ∧ st.getD who 0 ≠ 0 ∧ qs = []
def Ph (wB who : Nat) (own : Bool) (wd : List Int) (H : Hm) (st : List Int) (qs : List (Int × M)) : Prop := PhAsk who own wd H st qs ∨ PhBack wB who own wd H st qs ∨ PhAcks who own wd H st qs ∨ PhDone who wd H st qs
section
variable {wB who : Nat} {own : Bool} {wd : List Int}
theorem Ph.ask (H : Hm) (st : List Int) (h : Rest H st wd) (h2 : st.getD who 0 ≠ 2) : Ph wB who own wd H st [((who : Int), askM own)] := .inl ⟨h, h2, rfl⟩
theorem Ph.back (H : Hm) (st : List Int) (o : Nat) (ho : o < 3) (how : o ≠ who) (hbz : H.bz = true) (hwh : H.wh = (who : Int)) (hwo : H.wo = own) (hak : H.ak = 0) (hw : H.ow = (o : Int)) (hrd : H.rd = [false, false, false]) (hst : st = [0, 0, 0].set o (if own then 0 else 1)) (hx : H.xs.all wordB = true) : Ph wB who own wd H st [((o : Int), backM wB wd)] :=
  .inr (.inl ⟨o, ho, how, hbz, hwh, hwo, hak, hw, hrd, hst, hx, rfl⟩)
theorem Ph.acks (H : Hm) (st : List Int) (fs : List Int) (b : Bool) (hfs : ∀ f ∈ fs, 0 ≤ f ∧ f < 3) (hl : 1 ≤ fs.length ∧ fs.length ≤ 3) (hbz : H.bz = true) (hwh : H.wh = (who : Int)) (hwo : H.wo = true) (how : own = true) (hak : H.ak = (fs.length : Int)) (hw : H.ow = -1) (hrd : H.rd = [false, false, false].set who b) (hst : st = [0, 0, 0].set who (bi b)) (hx : H.xs = wd) : Ph wB who own wd H st (fs.map fun f => (f, ackM)) :=
  .inr (.inr (.inl ⟨fs, b, hfs, hl, hbz, hwh, hwo, how, hak, hw, hrd, hst, hx, rfl⟩))
theorem Ph.done (H : Hm) (st : List Int) (h : Rest H st wd) (h2 : st.getD who 0 ≠ 0) : Ph wB who own wd H st [] := .inr (.inr (.inr ⟨h, h2, rfl⟩))
end

def muP (H : Hm) (n : Nat) : Nat := if n = 0 then 0 else if H.bz then n else 10 + n

/-- How the program's home hears q. -/
def ImplC (H : Hm) (q : Int × M) (H' : Hm) (TS : List (Int × Int × Bool)) (wd : List Int) : Prop :=
  ∀ (bl ol : Nat) (ar aq : Option Addr) (cl cr cq : Nat) (w : World), Row .i64 w (some ⟨bl, ol, none⟩) H.xs → VRow w ar (bv H.rd) → (∀ b off s, aq = some ⟨b, off, s⟩ → b < w.heap.size) → Row .i64 w q.2.a q.2.xs →
    Calls Try.prog 7 #[.agg #[.slice (some ⟨bl, ol, none⟩) 4 cl, .int .i64 H.ow, .slice ar 3 cr, .bool H.bz, .int .i64 H.wh, .bool H.wo, .int .i64 H.ak, .slice aq 0 cq], .int .i64 3, .int .i64 0, .int .i64 q.1, .agg #[.int .i64 q.2.k, .int .i64 q.2.p, .bool q.2.o, .slice q.2.a q.2.xs.length q.2.c]] w (ImplP w H' TS wd)
def SpecC (H : Hm) (q : Int × M) (H' : Hm) : Prop :=
  ∀ (al ar aq : Option Addr) (cl cr cq : Nat) (w : World), Row .i64 w al H.xs → VRow w ar (bv H.rd) → Row .i64 w q.2.a q.2.xs →
    Calls Try.prog 8 #[.agg #[.slice al 4 cl, .int .i64 H.ow, .slice ar 3 cr, .bool H.bz, .int .i64 H.wh, .bool H.wo, .int .i64 H.ak, .slice aq 0 cq], .int .i64 3, .int .i64 0, .int .i64 q.1, .agg #[.int .i64 q.2.k, .int .i64 q.2.p, .bool q.2.o, .slice q.2.a q.2.xs.length q.2.c]] w (SpecP w H')

/-- One turn of the law's queue. -/
structure Turn (wB who : Nat) (own : Bool) (wd : List Int) (H : Hm) (st : List Int) (q : Int × M) (rest : List (Int × M)) (H' : Hm) (TS : List (Int × Int × Bool)) : Prop where
  k : ∀ t ∈ TS, (0 ≤ t.1 ∧ t.1 < 3) ∧ (t.2.1 = 3 ∨ t.2.1 = 4 ∨ t.2.1 = 6)
  n : TS.length ≤ 100
  v : ansF wB wd TS = [] ∨ (rest = [] ∧ H.bz = false)
  ph : Ph wB who own wd H' (stF st TS) (rest ++ ansF wB wd TS)
  i : ImplC H q H' TS wd
  s : SpecC H q H'
  mu : muP H' (rest ++ ansF wB wd TS).length < muP H (rest.length + 1)
  wf : 0 ≤ q.1 ∧ q.1 < 3
  nb : rest ++ ansF wB wd TS = [] ∨ H'.bz = true
  qm : q.2.xs = [] ∧ q.2.a = none ∨ q.2.xs = wd ∧ q.2.a = some ⟨wB, 0, none⟩

theorem askM_own (own : Bool) : ((askM own).k == 2) = own := by cases own <;> rfl
theorem askM_k (own : Bool) : (askM own).k = 1 ∨ (askM own).k = 2 := by cases own <;> simp [askM]

theorem ImplP.no {w : World} {H : Hm} {TS : List (Int × Int × Bool)} {wd wd' : List Int} {e : Ending} {w' : World} (h : ImplP w H TS wd e w') (hn : ∀ t ∈ TS, t.2.1 ≠ 3) : ImplP w H TS wd' e w' := by
  obtain ⟨ts, vl, vr, vq, vt, h1, h2, rest⟩ := h
  refine ⟨ts, vl, vr, vq, vt, h1, fun t ht hk => ?_, rest⟩
  exact absurd hk (hn (tabs t) (by rw [← h1]; exact List.mem_map_of_mem ht))

theorem pure_ask (b0 b1 b2 : Bool) (who : Nat) (h : who < 3) :
    (stF [bi b0, bi b1, bi b2] [((who : Int), 3, true)] = [bi b0, bi b1, bi b2].set who 2) ∧ (stF [bi b0, bi b1, bi b2] [((who : Int), 3, false)] = [bi b0, bi b1, bi b2].set who 1) ∧
    (∃ c0 c1 c2, rdAdd [b0, b1, b2] who = [c0, c1, c2] ∧ [bi b0, bi b1, bi b2].set who 1 = [bi c0, bi c1, bi c2]) ∧
    ((othersL [b0, b1, b2] who).length = 0 → rdSub (rdSub [b0, b1, b2] (othersL [b0, b1, b2] who)) [(who : Int)] = [false, false, false] ∧ [bi b0, bi b1, bi b2].set who 2 = [0, 0, 0].set who 2) ∧
    ((othersL [b0, b1, b2] who).length ≠ 0 → ∃ b, rdSub [b0, b1, b2] (othersL [b0, b1, b2] who) = [false, false, false].set who b ∧ stF [bi b0, bi b1, bi b2] ((othersL [b0, b1, b2] who).map (fun i => (i, 4, false))) = [0, 0, 0].set who (bi b)) ∧
    (othersL [b0, b1, b2] who).length ≤ 3 ∧ (∀ f ∈ othersL [b0, b1, b2] who, 0 ≤ f ∧ f < 3) := by
  obtain rfl | rfl | rfl : who = 0 ∨ who = 1 ∨ who = 2 := by omega
  all_goals (cases b0 <;> cases b1 <;> cases b2)
  all_goals (refine ⟨by decide, by decide, ⟨_, _, _, rfl, by decide⟩, by decide, fun h => ?_, by decide, by decide⟩)
  all_goals first | exact absurd rfl h | exact ⟨true, by decide, by decide⟩ | exact ⟨false, by decide, by decide⟩

theorem ans_gone (wB : Nat) (wd : List Int) (fs : List Int) : ansF wB wd (fs.map (fun i => (i, 4, false))) = fs.map fun f => (f, ackM) := by
  induction fs with
  | nil => rfl
  | cons f fs ih => simp only [List.map_cons, ansF, List.flatMap_cons] at ih ⊢; rw [ih]; rfl

theorem pure_fetch (o who : Nat) (ho : o < 3) (h : who < 3) (hne : o ≠ who) (own : Bool) :
    stF ([0, 0, 0].set o 2) [((o : Int), 6, own)] = [0, 0, 0].set o (if own then 0 else 1) ∧
    (stF ([0, 0, 0].set o 0) [((who : Int), 3, true)] = [0, 0, 0].set who 2) ∧ rdSub [false, false, false] [(who : Int)] = [false, false, false] ∧
    (∃ c0 c1 c2, rdAdd (rdAdd [false, false, false] o) who = [c0, c1, c2] ∧ stF ([0, 0, 0].set o 1) [((who : Int), 3, false)] = [bi c0, bi c1, bi c2]) ∧ (stF ([0, 0, 0].set o 1) [((who : Int), 3, false)]).getD who 0 ≠ 0 := by
  obtain rfl | rfl | rfl : who = 0 ∨ who = 1 ∨ who = 2 := by omega
  all_goals obtain rfl | rfl | rfl : o = 0 ∨ o = 1 ∨ o = 2 := by omega
  all_goals first | (exfalso; exact hne rfl) | (cases own <;> exact ⟨by decide, by decide, by decide, ⟨_, _, _, rfl, by decide⟩, by decide⟩)

theorem set_who (who : Nat) (h : who < 3) (a b c x : Int) : ([a, b, c].set who x).getD who 0 = x := by
  obtain rfl | rfl | rfl : who = 0 ∨ who = 1 ∨ who = 2 := by omega
  all_goals rfl

theorem pure_acks (who : Nat) (h : who < 3) (b : Bool) : stF ([0, 0, 0].set who (bi b)) [((who : Int), 3, true)] = [0, 0, 0].set who 2 ∧ rdSub ([false, false, false].set who b) [(who : Int)] = [false, false, false] ∧ ∃ c0 c1 c2, [false, false, false].set who b = [c0, c1, c2] := by
  obtain rfl | rfl | rfl : who = 0 ∨ who = 1 ∨ who = 2 := by omega
  all_goals (cases b <;> exact ⟨by decide, by decide, _, _, _, rfl⟩)

set_option maxHeartbeats 4000000 in
theorem ph_step {wB who : Nat} {own : Bool} {wd : List Int} {H : Hm} {st : List Int} {q : Int × M} {rest qs : List (Int × M)} (h : Ph wB who own wd H st qs) (hqs : qs = q :: rest) (hw : who < 3) (hd : wd.length = 4) (hdw : wd.all wordB = true) :
    ∃ H' TS, Turn wB who own wd H st q rest H' TS := by
  rcases h with ⟨hR, h2, hqe⟩ | ⟨o, ho, hne, hbz, hwh, hwo, hak, how, hrd, hst, hx, hqe⟩ | ⟨fs, b, hfs, hl, hbz, hwh, hwo, hown, hak, how, hrd, hst, hx, hqe⟩ | ⟨_, _, hqe⟩
  · rw [hqe] at hqs
    simp only [List.cons.injEq] at hqs
    obtain ⟨rfl, rfl⟩ := hqs
    obtain ⟨hbz, hwh, hwo, hak, hx, hc⟩ := hR
    rcases hc with ⟨how, hxw, b0, b1, b2, hrd, rfl⟩ | ⟨o, ho, how, hrd, rfl⟩
    · obtain ⟨p1, p2, ⟨c0, c1, c2, p3, p4⟩, p5, p6, p7, p8⟩ := pure_ask b0 b1 b2 who hw
      have hI : ImplC H ((who : Int), askM own) (askH H who own) (askT H who own) wd := fun bl ol ar aq cl cr cq w hal hr hqb _ => by
        have := implAsk H b0 b1 b2 hrd hbz hwh hwo hak (by omega) hx who hw (askM own).k (askM_k own) bl ol ar aq cl cr cq w hal hr hqb
        rw [askM_own, hxw] at this
        exact this
      have hS : SpecC H ((who : Int), askM own) (askH H who own) := fun al ar aq cl cr cq w hal hr _ => by
        have := specAsk H b0 b1 b2 hrd hbz hwh hwo hak (by omega) hx who hw (askM own).k (askM_k own) al ar aq cl cr cq w hal hr
        rw [askM_own] at this
        exact this
      cases own
      · have e1 : askT H who false = [((who : Int), 3, false)] := by simp [askT, how]
        have e2 : askH H who false = { H with rd := rdAdd H.rd who, bz := false, wh := 0, wo := false } := by simp [askH, how]
        refine ⟨_, _, ⟨?_, ?_, ?_, ?_, hI, hS, ?_, ⟨by simp, by simp; omega⟩, (by rw [e1]; exact .inl rfl), .inl ⟨rfl, rfl⟩⟩⟩
        · rw [e1]; simp; omega
        · rw [e1]; simp
        · rw [e1]; exact .inl rfl
        · rw [e1, e2, p2]
          refine Ph.done _ _ ⟨rfl, rfl, rfl, hak, hx, .inl ⟨how, hxw, c0, c1, c2, by simp only [hrd]; exact p3, p4⟩⟩ ?_
          rw [set_who who hw]; decide
        · rw [e1]; simp [muP, ansF, ans1, hbz]
      · by_cases hl : (othersL H.rd who).length = 0
        · have e1 : askT H who true = [((who : Int), 3, true)] := by simp only [askT, how, if_true, if_pos hl]
          have e2 : askH H who true = { H with ow := who, rd := rdSub (rdSub H.rd (othersL H.rd who)) [(who : Int)], bz := false, wh := 0, wo := false, ak := 0 } := by simp only [askH, how, if_true, if_pos hl]
          refine ⟨_, _, ⟨?_, ?_, ?_, ?_, hI, hS, ?_, ⟨by simp, by simp; omega⟩, (by rw [e1]; exact .inl rfl), .inl ⟨rfl, rfl⟩⟩⟩
          · rw [e1]; simp; omega
          · rw [e1]; simp
          · rw [e1]; exact .inl rfl
          · rw [e1, e2, p1]
            rw [hrd] at hl ⊢
            obtain ⟨a1, a2⟩ := p5 hl
            refine Ph.done _ _ ⟨rfl, rfl, rfl, rfl, hx, .inr ⟨who, hw, rfl, a1, a2⟩⟩ ?_
            rw [set_who who hw]; decide
          · rw [e1]; simp [muP, ansF, ans1, hbz]
        · have e1 : askT H who true = (othersL H.rd who).map (fun i => (i, 4, false)) := by simp only [askT, how, if_true, if_neg hl]
          have e2 : askH H who true = { H with rd := rdSub H.rd (othersL H.rd who), bz := true, wh := who, wo := true, ak := (othersL H.rd who).length } := by simp only [askH, how, if_true, if_neg hl]
          rw [hrd] at hl e1 e2
          obtain ⟨b, a1, a2⟩ := p6 hl
          refine ⟨_, _, ⟨?_, ?_, ?_, ?_, hI, hS, ?_, ⟨by simp, by simp; omega⟩, (by rw [e2]; exact .inr rfl), .inl ⟨rfl, rfl⟩⟩⟩
          · rw [e1]
            intro t ht
            obtain ⟨f, hf, rfl⟩ := List.mem_map.1 ht
            exact ⟨p8 f hf, .inr (.inl rfl)⟩
          · rw [e1]; simp; omega
          · exact .inr ⟨rfl, hbz⟩
          · rw [e1, e2, a2, List.nil_append, ans_gone]
            exact Ph.acks _ _ _ b p8 ⟨by omega, p7⟩ rfl rfl rfl rfl rfl how a1 rfl hxw
          · rw [e1, e2, List.nil_append, ans_gone]
            simp only [muP, hbz, List.length_map, List.length_nil, if_true, Bool.false_eq_true, if_false]
            rw [if_neg hl, if_neg (by omega)]
            omega
    · have hne : o ≠ who := fun e => h2 (by rw [e, set_who who hw])
      have how' : ¬ H.ow = -1 := by omega
      obtain ⟨p1, p2, p3, _, _⟩ := pure_fetch o who ho hw hne own
      have e1 : askT H who own = [((o : Int), 6, own)] := by simp [askT, how]
      have e2 : askH H who own = { H with bz := true, wh := who, wo := own } := by simp [askH, how']
      have hI : ImplC H ((who : Int), askM own) (askH H who own) (askT H who own) wd := fun bl ol ar aq cl cr cq w hal hr hqb _ => by
        have := implAsk H false false false hrd hbz hwh hwo hak (by omega) hx who hw (askM own).k (askM_k own) bl ol ar aq cl cr cq w hal hr hqb
        rw [askM_own] at this
        exact this.mono fun e w' h9 => h9.no (by rw [e1]; simp)
      have hS : SpecC H ((who : Int), askM own) (askH H who own) := fun al ar aq cl cr cq w hal hr _ => by
        have := specAsk H false false false hrd hbz hwh hwo hak (by omega) hx who hw (askM own).k (askM_k own) al ar aq cl cr cq w hal hr
        rw [askM_own] at this
        exact this
      refine ⟨_, _, ⟨?_, ?_, ?_, ?_, hI, hS, ?_, ⟨by simp, by simp; omega⟩, (by rw [e2]; exact .inr rfl), .inl ⟨rfl, rfl⟩⟩⟩
      · rw [e1]; simp; omega
      · rw [e1]; simp
      · exact .inr ⟨rfl, hbz⟩
      · rw [e1, e2, p1]
        exact Ph.back _ _ o ho hne rfl rfl rfl hak how hrd rfl hx
      · rw [e1, e2]; simp [muP, ansF, ans1, hbz]
  · rw [hqe] at hqs
    simp only [List.cons.injEq] at hqs
    obtain ⟨rfl, rfl⟩ := hqs
    obtain ⟨y0, y1, y2, y3, rfl⟩ : ∃ y0 y1 y2 y3, wd = [y0, y1, y2, y3] := by
      match wd, hd with
      | [y0, y1, y2, y3], _ => exact ⟨_, _, _, _, rfl⟩
    obtain ⟨_, p2, p3, ⟨c0, c1, c2, p4, p5⟩, p6⟩ := pure_fetch o who ho hw hne own
    have hI : ImplC H ((o : Int), backM wB [y0, y1, y2, y3]) (backH H y0 y1 y2 y3) (backT H) [y0, y1, y2, y3] := fun bl ol ar aq cl cr cq w hal hr hqb hm => by
      have := implBack H false false false hrd hbz (by omega) hak (by omega) hx y0 y1 y2 y3 (some ⟨wB, 0, none⟩) 4 bl ol ar aq cl cr cq w hm hdw hal hr hqb
      rw [← how]
      exact this
    have hS : SpecC H ((o : Int), backM wB [y0, y1, y2, y3]) (backH H y0 y1 y2 y3) := fun al ar aq cl cr cq w hal hr hm => by
      have := specBack H hrd hbz (by omega) hak (by omega) hx y0 y1 y2 y3 (some ⟨wB, 0, none⟩) 4 al ar aq cl cr cq w hm hdw hal hr
      rw [← how]
      exact this
    have e1 : backT H = [((who : Int), 3, own)] := by simp [backT, hwh, hwo]
    refine ⟨_, _, ⟨?_, ?_, ?_, ?_, hI, hS, ?_, ⟨by simp, by simp; omega⟩, (by rw [e1]; exact .inl rfl), .inr ⟨rfl, rfl⟩⟩⟩
    · rw [e1]; simp; omega
    · rw [e1]; simp
    · rw [e1]; exact .inl rfl
    · rw [e1, hst]
      cases own
      · have e2 : backH H y0 y1 y2 y3 = ⟨y0, y1, y2, y3, -1, rdAdd (rdAdd [false, false, false] o) who, false, 0, false, 0⟩ := by simp [backH, hwo, hwh, how, hrd]
        rw [e2]
        exact Ph.done _ _ ⟨rfl, rfl, rfl, rfl, hdw, .inl ⟨rfl, rfl, c0, c1, c2, p4, p5⟩⟩ p6
      · have e2 : backH H y0 y1 y2 y3 = ⟨y0, y1, y2, y3, who, rdSub [false, false, false] [(who : Int)], false, 0, false, 0⟩ := by simp [backH, hwo, hwh, hrd]
        simp only [if_true]
        rw [e2, p2]
        refine Ph.done _ _ ⟨rfl, rfl, rfl, rfl, hdw, .inr ⟨who, hw, rfl, p3, rfl⟩⟩ ?_
        rw [set_who who hw]; decide
    · rw [e1]; simp [muP, ansF, ans1, hbz]
  · rw [hqe] at hqs
    cases fs with
    | nil => simp at hl
    | cons f fs =>
      simp only [List.map_cons, List.cons.injEq] at hqs
      obtain ⟨rfl, rfl⟩ := hqs
      obtain ⟨p1, p2, c0, c1, c2, p3⟩ := pure_acks who hw b
      have hf := hfs f (by simp)
      simp at hl
      simp at hak
      have hxd : H.xs.all wordB = true := by rw [hx]; exact hdw
      have hI : ImplC H (f, ackM) (ackH H) (ackT H) wd := fun bl ol ar aq cl cr cq w hal hr hqb _ => by
        have := implAck H c0 c1 c2 (hrd.trans p3) hbz (by omega) hwo (by omega) (by omega) hxd f hf bl ol ar aq cl cr cq w hal hr hqb
        rw [hx] at this
        exact this
      have hS : SpecC H (f, ackM) (ackH H) := fun al ar aq cl cr cq w hal hr _ =>
        specAck H c0 c1 c2 (hrd.trans p3) hbz (by omega) hwo (by omega) (by omega) hxd f hf al ar aq cl cr cq w hal hr
      cases fs with
      | nil =>
        have h1 : H.ak = 1 := by simpa using hak
        have e1 : ackT H = [((who : Int), 3, true)] := by simp [ackT, h1, hwh]
        have e2 : ackH H = { H with ow := who, rd := rdSub ([false, false, false].set who b) [(who : Int)], bz := false, wh := 0, wo := false, ak := 0 } := by simp [ackH, h1, hwh, hrd]
        refine ⟨_, _, ⟨?_, ?_, ?_, ?_, hI, hS, ?_, hf, (by rw [e1]; exact .inl rfl), .inl ⟨rfl, rfl⟩⟩⟩
        · rw [e1]; simp; omega
        · rw [e1]; simp
        · rw [e1]; exact .inl rfl
        · rw [e1, e2, hst, p1]
          refine Ph.done _ _ ⟨rfl, rfl, rfl, rfl, hxd, .inr ⟨who, hw, rfl, p2, rfl⟩⟩ ?_
          rw [set_who who hw]; decide
        · rw [e1]; simp [muP, ansF, ans1, hbz]
      | cons f2 fs =>
        have h1 : ¬ H.ak = 1 := by simp at hak; omega
        have e1 : ackT H = [] := by simp [ackT, h1]
        have e2 : ackH H = { H with ak := H.ak - 1 } := by simp [ackH, h1]
        refine ⟨_, _, ⟨?_, ?_, ?_, ?_, hI, hS, ?_, hf, (by rw [e2]; exact .inr hbz), .inl ⟨rfl, rfl⟩⟩⟩
        · rw [e1]; simp
        · rw [e1]; simp
        · rw [e1]; exact .inl rfl
        · rw [e1, e2]
          have := Ph.acks (wB := wB) (who := who) (own := own) (wd := wd) { H with ak := H.ak - 1 } st (f2 :: fs) b (fun x hx => hfs x (by simp at hx ⊢; exact .inr hx)) (by simp at hl ⊢; omega) hbz hwh hwo hown (by simp at hak ⊢; omega) how hrd hst hx
          simpa [ansF, stF] using this
        · rw [e1, e2]; simp [muP, ansF, hbz]
  · rw [hqe] at hqs
    cases hqs

theorem ph_rd {wB who : Nat} {own : Bool} {wd : List Int} {H : Hm} {st : List Int} {qs : List (Int × M)} (h : Ph wB who own wd H st qs) (hw : who < 3) : H.rd.length = 3 ∧ st.length = 3 := by
  have key : ∀ H st, Rest H st wd → H.rd.length = 3 ∧ st.length = 3 := by
    rintro H st ⟨_, _, _, _, _, ⟨_, _, b0, b1, b2, h, h'⟩ | ⟨o, ho, _, h, h'⟩⟩
    · rw [h, h']; simp
    · rw [h, h']; simp
  rcases h with ⟨hR, _, _⟩ | ⟨_, _, _, _, _, _, _, _, hrd, hst, _, _⟩ | ⟨_, _, _, _, _, _, _, _, _, _, hrd, hst, _, _⟩ | ⟨hR, _, _⟩
  · exact key _ _ hR
  · rw [hrd, hst]; simp
  · rw [hrd, hst]; simp
  · exact key _ _ hR

theorem ph_nil {wB who : Nat} {own : Bool} {wd : List Int} {H : Hm} {st : List Int} {qs : List (Int × M)} (h : Ph wB who own wd H st qs) (hq : qs = []) : Rest H st wd ∧ st.getD who 0 ≠ 0 := by
  subst hq
  rcases h with ⟨_, _, h⟩ | ⟨_, _, _, _, _, _, _, _, _, _, _, h⟩ | ⟨fs, _, _, hl, _, _, _, _, _, _, _, _, _, h⟩ | ⟨hR, h2, _⟩
  · cases h
  · cases h
  · have := congrArg List.length h
    simp at this
    rw [← this] at hl
    simp at hl
  · exact ⟨hR, h2⟩
end Go.Proofs.Ytliihkdocbpolaa
