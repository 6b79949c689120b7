/- GvA and GvB: see the heads of the parts. -/
import Derived.Test.YtliihkdocbpolaaSpR
import Derived.Test.YtliihkdocbpolaaKpJ
/- What both homes do in the law FnHomeGives: three nodes, none waiting; asked, acknowledged, given back. -/
namespace Go.Proofs.Ytliihkdocbpolaa
open Go.RowKit Go.Maps
set_option linter.unusedVariables false

/-- A home, none waiting. -/
structure Hm where
  x0 : Int
  x1 : Int
  x2 : Int
  x3 : Int
  ow : Int
  rd : List Bool
  bz : Bool
  wh : Int
  wo : Bool
  ak : Int

abbrev Hm.xs (H : Hm) : List Int := [H.x0, H.x1, H.x2, H.x3]
def tabs (t : Int × M) : Int × Int × Bool := (t.1, t.2.k, t.2.o)

/-- What the program's HomeHear answers. -/
def ImplP (w : World) (H : Hm) (TS : List (Int × Int × Bool)) (wd : List Int) (e : Ending) (w' : World) : Prop :=
  ∃ ts vl vr vq vt, ts.map tabs = TS ∧ (∀ t ∈ ts, t.2.k = 3 → t.2.xs = wd) ∧ e = .returned (.tuple #[.agg #[vl, .int .i64 H.ow, vr, .bool H.bz, .int .i64 H.wh, .bool H.wo, .int .i64 H.ak, vq], vt]) ∧
    w'.ownsRow w.heap.size 3 1 vl 4 (H.xs.map (Value.int .i64)) ∧ w'.ownsRow w.heap.size 4 1 vr H.rd.length (bv H.rd) ∧ w'.ownsRow w.heap.size 27 2 vq 0 [] ∧
    w'.ownsRow w.heap.size 36 5 vt ts.length (tflat ts) ∧ (∀ t ∈ ts, w'.ownsRow w.heap.size 3 1 t.2.v t.2.xs.length (t.2.xs.map (Value.int .i64))) ∧ Below w.heap.size w w'

/-- What the specification's HomeHear answers. -/
def SpecP (w : World) (H : Hm) (e : Ending) (w' : World) : Prop :=
  ∃ vl vr vq vt, e = .returned (.tuple #[.agg #[vl, .int .i64 H.ow, vr, .bool H.bz, .int .i64 H.wh, .bool H.wo, .int .i64 H.ak, vq], vt]) ∧
    w'.ownsRow w.heap.size 3 1 vl 4 (H.xs.map (Value.int .i64)) ∧ w'.ownsRow w.heap.size 4 1 vr H.rd.length (bv H.rd) ∧ w'.ownsRow w.heap.size 27 2 vq 0 [] ∧ Below w.heap.size w w'

/-- Turn by turn, fewer wait. -/
theorem TurnR.less {S S' : KS} (h : TurnR S S') : S'.ws.length < S.ws.length := by
  obtain ⟨_, p, ws, hw, hB⟩ := h
  rw [hB.keeps.1, hw]
  simp [nowS]
theorem StepsR.less {S S' : KS} (h : StepsR S S') : S' = S ∨ S'.ws.length < S.ws.length := by
  obtain ⟨n, hn⟩ := h
  induction n generalizing S' with
  | zero => exact .inl hn
  | succ n ih =>
    obtain ⟨S1, h1, t⟩ := hn
    right
    rcases ih h1 with e | e
    · rw [← e]; exact t.less
    · exact Nat.lt_trans t.less e
theorem goR_one {S S' : KS} (h : GoR S S') (hb : S.bz = false) {p : Int × Bool} (hw : S.ws = [p]) : BeginR (nowS S p []) S' := by
  obtain ⟨hs, he⟩ := h
  rcases hs.last with e | ⟨S1, h1, t⟩
  · subst e
    rcases he with he | he
    · rw [hb] at he; cases he
    · rw [hw] at he; cases he
  · rcases h1.less with e | e
    · subst e
      obtain ⟨_, q, ws, hq, hB⟩ := t
      rw [hw] at hq
      simp only [List.cons.injEq] at hq
      obtain ⟨rfl, rfl⟩ := hq
      exact hB
    · rw [hw] at e
      have := t.less
      simp at e
      rw [e] at this
      simp at this
theorem goR_none {S S' : KS} (h : GoR S S') (hw : S.ws = []) : S' = S := by
  rcases h.1.less with e | e
  · exact e
  · rw [hw] at e
    simp at e

/-- A home at rest is asked. -/
def askH (H : Hm) (who : Nat) (own : Bool) : Hm :=
  if H.ow = -1 then
    (if own then
      (if (othersL H.rd who).length = 0 then { H with ow := who, rd := rdSub (rdSub H.rd (othersL H.rd who)) [(who : Int)], bz := false, wh := 0, wo := false, ak := 0 }
      else { H with rd := rdSub H.rd (othersL H.rd who), bz := true, wh := who, wo := true, ak := (othersL H.rd who).length })
    else { H with rd := rdAdd H.rd who, bz := false, wh := 0, wo := false })
  else { H with bz := true, wh := who, wo := own }
def askT (H : Hm) (who : Nat) (own : Bool) : List (Int × Int × Bool) :=
  if H.ow = -1 then
    (if own then (if (othersL H.rd who).length = 0 then [((who : Int), 3, true)] else (othersL H.rd who).map (fun i => (i, 4, false)))
    else [((who : Int), 3, false)])
  else [(H.ow, 6, own)]

theorem hm_ok {x0 x1 x2 x3 ow wh ak : Int} (b0 b1 b2 : Bool) (hwd : [x0, x1, x2, x3].all wordB = true) (how : -1 ≤ ow ∧ ow < 3) (hwh : 0 ≤ wh ∧ wh < 3) (hak : 0 ≤ ak ∧ ak ≤ 3) : homeB ([b0, b1, b2].length : Int) ow wh ak [x0, x1, x2, x3] [b0, b1, b2].length [] = true := by
  simp [homeB, inB, wordsB]
  refine ⟨?_, by omega, by omega, by omega⟩
  simpa using hwd

set_option maxHeartbeats 2000000 in
theorem implAsk (H : Hm) (b0 b1 b2 : Bool) (hrd : H.rd = [b0, b1, b2]) (hbz : H.bz = false) (hwh : H.wh = 0) (hwo : H.wo = false) (hak : H.ak = 0) (how : -1 ≤ H.ow ∧ H.ow < 3) (hwd : H.xs.all wordB = true) (who : Nat) (hw3 : who < 3) (mk : Int) (hmk : mk = 1 ∨ mk = 2)
    (bl ol : Nat) (ar aq : Option Addr) (cl cr cq : Nat) (w : World) (hal : Row .i64 w (some ⟨bl, ol, none⟩) H.xs) (hr : VRow w ar (bv H.rd)) (hqb : ∀ b off s, aq = some ⟨b, off, s⟩ → b < w.heap.size) :
    Calls Try.prog 7 #[.agg #[.slice (some ⟨bl, ol, none⟩) 4 cl, .int .i64 H.ow, .slice ar 3 cr, .bool H.bz, .int .i64 H.wh, .bool H.wo, .int .i64 H.ak, .slice aq 0 cq], .int .i64 3, .int .i64 0, .int .i64 who, .agg #[.int .i64 mk, .int .i64 0, .bool false, .slice none 0 0]] w (ImplP w (askH H who (mk == 2)) (askT H who (mk == 2)) H.xs) := by
  obtain ⟨x0, x1, x2, x3, ow, rd, bz, wh, wo, ak⟩ := H
  simp only at hrd hbz hwh hwo hak how hwd hal hr ⊢
  subst hrd hbz hwh hwo hak
  have hwf : (Lit.int .i64 mk).wf = true := by rcases hmk with rfl | rfl <;> rfl
  have h := implHear_yes 0 who mk ow 0 0 false false false none 0 [] bl ol ar aq cl cr cq x0 x1 x2 x3 [b0, b1, b2] [] w hal hr ⟨by simp [wv], fun i v hv => by simp [wv] at hv⟩ hqb (Row.nil _ _ _)
    (hm_ok b0 b1 b2 hwd how (by omega) (by omega)) (by rcases hmk with rfl | rfl <;> rfl) (by simp [nodePB]; omega) (by simp) (by simp) hwd
    31 (.inl rfl) hwf (by rcases hmk with rfl | rfl <;> rfl) (by rcases hmk with rfl | rfl <;> rfl)
    (fun S1 => S1 = askS ⟨0, 3, x0, x1, x2, x3, ow, [b0, b1, b2], false, 0, false, 0, [], []⟩ who (mk == 2))
    (hears_ask who mk 0 false (.slice none 0 0) w aq cq ⟨0, 3, x0, x1, x2, x3, ow, [b0, b1, b2], false, 0, false, 0, [], []⟩ (Nat.zero_le _) (by simp) rfl (by simp) (by simp) rfl (by simp; omega))
  refine Calls.mono h ?_
  rintro e w' ⟨S1, S2, vl, vr, vq, vt, rfl, hG, rfl, ol', or', oq', ot', ol2, B⟩
  have hB := goR_one hG rfl (p := ((who : Int), mk == 2)) rfl
  have hkp := hB.keeps
  have hq0 : S2.ws = [] := hkp.1
  rw [hq0] at oq'
  rcases hB with ⟨hne, rfl⟩ | ⟨he, ho, hl, rfl⟩ | ⟨a, c, he, ho, hl, rfl⟩ | ⟨a, c, he, ho, rfl⟩
  · simp only [nowS, askS] at hne
    refine ⟨_, vl, vr, vq, vt, ?_, ?_, ?_, ?_, ?_, oq', ot', ol2, B⟩
    · simp [askT, hne, fetchS, nowS, askS, tabs]
    · intro t ht hk; simp [fetchS, nowS, askS] at ht; subst ht; simp at hk
    · simp [askH, hne, fetchS, nowS, askS]
    · simpa [askH, hne, fetchS, nowS, askS, Hm.xs] using ol'
    · simpa [askH, hne, fetchS, nowS, askS] using or'
  · simp only [nowS, askS] at he ho hl
    subst he
    refine ⟨_, vl, vr, vq, vt, ?_, ?_, ?_, ?_, ?_, oq', ot', ol2, B⟩
    · simp [askT, ho, hl, awayS, goneL, goneM, nowS, askS, tabs]
    · intro t ht hk; simp [awayS, goneL, goneM, nowS, askS] at ht; obtain ⟨i, _, rfl⟩ := ht; simp at hk
    · simp [askH, ho, hl, awayS, goneL, nowS, askS]
    · simpa [askH, ho, hl, awayS, goneL, nowS, askS, Hm.xs] using ol'
    · simpa [askH, ho, hl, awayS, goneL, nowS, askS] using or'
  · simp only [nowS, askS] at he ho hl
    subst he
    have hl0 : othersL [b0, b1, b2] (who : Int) = [] := List.length_eq_zero_iff.1 hl
    refine ⟨_, vl, vr, vq, vt, ?_, ?_, ?_, ?_, ?_, oq', ot', ol2, B⟩
    · simp [askT, ho, hl0, giveS, dataM, awayS, goneL, goneM, nowS, askS, tabs]
    · intro t ht hk; simp [giveS, dataM, awayS, goneL, goneM, nowS, askS, hl0] at ht; subst ht; rfl
    · simp [askH, ho, hl0, giveS, awayS, goneL, nowS, askS]
    · simpa [askH, ho, hl0, giveS, awayS, goneL, nowS, askS, Hm.xs] using ol'
    · simpa [askH, ho, hl0, giveS, awayS, goneL, nowS, askS] using or'
  · simp only [nowS, askS] at he ho
    subst he
    refine ⟨_, vl, vr, vq, vt, ?_, ?_, ?_, ?_, ?_, oq', ot', ol2, B⟩
    · simp [askT, ho, giveS, dataM, nowS, askS, tabs]
    · intro t ht hk; simp [giveS, dataM, nowS, askS] at ht; subst ht; rfl
    · simp [askH, ho, giveS, nowS, askS]
    · simpa [askH, ho, giveS, nowS, askS, Hm.xs] using ol'
    · simpa [askH, ho, giveS, nowS, askS] using or'
end Go.Proofs.Ytliihkdocbpolaa

/- What both homes do in the law FnHomeGives: acknowledged, given back; the specification's side. -/
namespace Go.Proofs.Ytliihkdocbpolaa
open Go.RowKit Go.Maps
set_option linter.unusedVariables false

/-- A home that waits for those who give up hears one of them. -/
def ackH (H : Hm) : Hm := if H.ak = 1 then { H with ow := H.wh, rd := rdSub H.rd [H.wh], bz := false, wh := 0, wo := false, ak := 0 } else { H with ak := H.ak - 1 }
def ackT (H : Hm) : List (Int × Int × Bool) := if H.ak = 1 then [(H.wh, 3, true)] else []

set_option maxHeartbeats 2000000 in
theorem implAck (H : Hm) (b0 b1 b2 : Bool) (hrd : H.rd = [b0, b1, b2]) (hbz : H.bz = true) (hwh : 0 ≤ H.wh ∧ H.wh < 3) (hwo : H.wo = true) (hak : 1 ≤ H.ak ∧ H.ak ≤ 3) (how : -1 ≤ H.ow ∧ H.ow < 3) (hwd : H.xs.all wordB = true) (fr : Int) (hfr : 0 ≤ fr ∧ fr < 3)
    (bl ol : Nat) (ar aq : Option Addr) (cl cr cq : Nat) (w : World) (hal : Row .i64 w (some ⟨bl, ol, none⟩) H.xs) (hr : VRow w ar (bv H.rd)) (hqb : ∀ b off s, aq = some ⟨b, off, s⟩ → b < w.heap.size) :
    Calls Try.prog 7 #[.agg #[.slice (some ⟨bl, ol, none⟩) 4 cl, .int .i64 H.ow, .slice ar 3 cr, .bool H.bz, .int .i64 H.wh, .bool H.wo, .int .i64 H.ak, .slice aq 0 cq], .int .i64 3, .int .i64 0, .int .i64 fr, .agg #[.int .i64 5, .int .i64 0, .bool false, .slice none 0 0]] w (ImplP w (ackH H) (ackT H) H.xs) := by
  obtain ⟨x0, x1, x2, x3, ow, rd, bz, wh, wo, ak⟩ := H
  simp only at hrd hbz hwh hwo hak how hwd hal hr ⊢
  subst hrd hbz hwo
  have hq0 : VRow w aq (wv []) := ⟨by simp [wv], fun i v hv => by simp [wv] at hv⟩
  by_cases h1 : ak = 1
  · have h := implHear_yes 0 fr 5 ow wh ak false true true none 0 [] bl ol ar aq cl cr cq x0 x1 x2 x3 [b0, b1, b2] [] w hal hr hq0 hqb (Row.nil _ _ _)
      (hm_ok b0 b1 b2 hwd how hwh (by omega)) rfl (by simp [nodePB]; omega) (by simp) (by simp) hwd
      32 (.inr (.inl rfl)) rfl rfl rfl _
      (hears_last fr 5 0 false (.slice none 0 0) w aq cq ⟨0, 3, x0, x1, x2, x3, ow, [b0, b1, b2], true, wh, true, ak, [], []⟩ (Nat.zero_le _) (by simp) rfl (by simp) (by simp) rfl (by simpa using hwh) rfl h1)
    refine Calls.mono h ?_
    rintro e w' ⟨S1, S2, vl, vr, vq, vt, ⟨a, c, rfl⟩, hG, rfl, ol', or', oq', ot', ol2, B⟩
    obtain rfl := goR_none hG rfl
    refine ⟨_, vl, vr, vq, vt, ?_, ?_, ?_, ?_, ?_, oq', ot', ol2, B⟩
    · simp [ackT, h1, giveS, dataM, tabs]
    · intro t ht hk; simp [giveS, dataM] at ht; subst ht; rfl
    · simp [ackH, h1, giveS]
    · simpa [ackH, h1, giveS, Hm.xs] using ol'
    · simpa [ackH, h1, giveS] using or'
  · have h := implHear_yes 0 fr 5 ow wh ak false true true none 0 [] bl ol ar aq cl cr cq x0 x1 x2 x3 [b0, b1, b2] [] w hal hr hq0 hqb (Row.nil _ _ _)
      (hm_ok b0 b1 b2 hwd how hwh (by omega)) rfl (by simp [nodePB]; omega) (by simp) (by simp) hwd
      32 (.inr (.inl rfl)) rfl rfl rfl _
      (hears_more fr 5 0 false (.slice none 0 0) w aq cq ⟨0, 3, x0, x1, x2, x3, ow, [b0, b1, b2], true, wh, true, ak, [], []⟩ (Nat.zero_le _) (by simp) rfl (by simp) (by simp) rfl rfl (show 1 < ak by omega) (show ak ≤ 4 by omega))
    refine Calls.mono h ?_
    rintro e w' ⟨S1, S2, vl, vr, vq, vt, rfl, hG, rfl, ol', or', oq', ot', ol2, B⟩
    obtain rfl := goR_none hG rfl
    refine ⟨_, vl, vr, vq, vt, ?_, ?_, ?_, ?_, ?_, oq', ot', ol2, B⟩
    · simp [ackT, h1]
    · intro t ht hk; simp at ht
    · simp [ackH, h1]
    · simpa [ackH, h1, Hm.xs] using ol'
    · simpa [ackH, h1] using or'

/-- A home that has fetched hears what was fetched. -/
def backH (H : Hm) (y0 y1 y2 y3 : Int) : Hm := ⟨y0, y1, y2, y3, if H.wo then H.wh else -1, if H.wo then rdSub H.rd [H.wh] else rdAdd (rdAdd H.rd H.ow) H.wh, false, 0, false, 0⟩
def backT (H : Hm) : List (Int × Int × Bool) := [(H.wh, 3, H.wo)]

set_option maxHeartbeats 2000000 in
theorem implBack (H : Hm) (b0 b1 b2 : Bool) (hrd : H.rd = [b0, b1, b2]) (hbz : H.bz = true) (hwh : 0 ≤ H.wh ∧ H.wh < 3) (hak : H.ak = 0) (how : 0 ≤ H.ow ∧ H.ow < 3) (hwd : H.xs.all wordB = true) (y0 y1 y2 y3 : Int) (am : Option Addr) (cm : Nat)
    (bl ol : Nat) (ar aq : Option Addr) (cl cr cq : Nat) (w : World) (hm : Row .i64 w am [y0, y1, y2, y3]) (hyd : [y0, y1, y2, y3].all wordB = true) (hal : Row .i64 w (some ⟨bl, ol, none⟩) H.xs) (hr : VRow w ar (bv H.rd)) (hqb : ∀ b off s, aq = some ⟨b, off, s⟩ → b < w.heap.size) :
    Calls Try.prog 7 #[.agg #[.slice (some ⟨bl, ol, none⟩) 4 cl, .int .i64 H.ow, .slice ar 3 cr, .bool H.bz, .int .i64 H.wh, .bool H.wo, .int .i64 H.ak, .slice aq 0 cq], .int .i64 3, .int .i64 0, .int .i64 H.ow, .agg #[.int .i64 7, .int .i64 0, .bool false, .slice am 4 cm]] w (ImplP w (backH H y0 y1 y2 y3) (backT H) [y0, y1, y2, y3]) := by
  obtain ⟨x0, x1, x2, x3, ow, rd, bz, wh, wo, ak⟩ := H
  simp only at hrd hbz hwh hak how hwd hal hr ⊢
  subst hrd hbz hak
  have hq0 : VRow w aq (wv []) := ⟨by simp [wv], fun i v hv => by simp [wv] at hv⟩
  have h := implHear_yes 0 ow 7 ow wh 0 false true wo am cm [y0, y1, y2, y3] bl ol ar aq cl cr cq x0 x1 x2 x3 [b0, b1, b2] [] w hal hr hq0 hqb hm
    (hm_ok b0 b1 b2 hwd (by omega) hwh (by omega)) (by simp [msgOkB, wordsB]; simpa using hyd) (by simp [nodePB]; omega) (by simp) (by simp) hwd
    33 (.inr (.inr rfl)) rfl rfl rfl _
    (hears_back 7 0 false am cm y0 y1 y2 y3 w hm hyd aq cq ⟨0, 3, x0, x1, x2, x3, ow, [b0, b1, b2], true, wh, wo, 0, [], []⟩ (Nat.zero_le _) (by simp) rfl (by simp) (by simp) rfl (by simpa using hwh) (by simpa using how) rfl rfl)
  refine Calls.mono h ?_
  rintro e w' ⟨S1, S2, vl, vr, vq, vt, ⟨a, c, rfl⟩, hG, rfl, ol', or', oq', ot', ol2, B⟩
  obtain rfl := goR_none hG rfl
  cases wo
  · refine ⟨_, vl, vr, vq, vt, ?_, ?_, ?_, ?_, ?_, oq', ot', ol2, B⟩
    · simp [backT, giveS, backS, dataM, tabs]
    · intro t ht hk; simp [giveS, dataM, backS] at ht; subst ht; rfl
    · simp [backH, giveS, backS]
    · simpa [backH, giveS, backS, Hm.xs] using ol'
    · simpa [backH, giveS, backS] using or'
  · refine ⟨_, vl, vr, vq, vt, ?_, ?_, ?_, ?_, ?_, oq', ot', ol2, B⟩
    · simp [backT, giveS, backS, dataM, tabs]
    · intro t ht hk; simp [giveS, dataM, backS] at ht; subst ht; rfl
    · simp [backH, giveS, backS]
    · simpa [backH, giveS, backS, Hm.xs] using ol'
    · simpa [backH, giveS, backS] using or'

theorem pure_gone (b0 b1 b2 : Bool) (who : Nat) (h : who < 3) : goneU [b0, b1, b2] who 3 = rdSub [b0, b1, b2] (othersL [b0, b1, b2] who) ∧ cntU [b0, b1, b2] who 3 = (othersL [b0, b1, b2] who).length ∧
    (goneU [b0, b1, b2] who 3).set who false = rdSub (rdSub [b0, b1, b2] (othersL [b0, b1, b2] who)) [(who : Int)] ∧ [b0, b1, b2].set who true = rdAdd [b0, b1, b2] who ∧ [b0, b1, b2].set who false = rdSub [b0, b1, b2] [(who : Int)] := by
  obtain rfl | rfl | rfl : who = 0 ∨ who = 1 ∨ who = 2 := by omega
  all_goals (revert b0 b1 b2; decide)

theorem pure_back (o who : Nat) (ho : o < 3) (h : who < 3) : ([false, false, false].set o false).set who false = rdSub [false, false, false] [(who : Int)] ∧ ([false, false, false].set o true).set who true = rdAdd (rdAdd [false, false, false] o) who := by
  obtain rfl | rfl | rfl : who = 0 ∨ who = 1 ∨ who = 2 := by omega
  all_goals obtain rfl | rfl | rfl : o = 0 ∨ o = 1 ∨ o = 2 := by omega
  all_goals decide

set_option maxHeartbeats 2000000 in
theorem specAsk (H : Hm) (b0 b1 b2 : Bool) (hrd : H.rd = [b0, b1, b2]) (hbz : H.bz = false) (hwh : H.wh = 0) (hwo : H.wo = false) (hak : H.ak = 0) (how : -1 ≤ H.ow ∧ H.ow < 3) (hwd : H.xs.all wordB = true) (who : Nat) (hw3 : who < 3) (mk : Int) (hmk : mk = 1 ∨ mk = 2)
    (al ar aq : Option Addr) (cl cr cq : Nat) (w : World) (hal : Row .i64 w al H.xs) (hr : VRow w ar (bv H.rd)) :
    Calls Try.prog 8 #[.agg #[.slice al 4 cl, .int .i64 H.ow, .slice ar 3 cr, .bool H.bz, .int .i64 H.wh, .bool H.wo, .int .i64 H.ak, .slice aq 0 cq], .int .i64 3, .int .i64 0, .int .i64 who, .agg #[.int .i64 mk, .int .i64 0, .bool false, .slice none 0 0]] w (SpecP w (askH H who (mk == 2))) := by
  obtain ⟨x0, x1, x2, x3, ow, rd, bz, wh, wo, ak⟩ := H
  simp only at hrd hbz hwh hwo hak how hwd hal hr ⊢
  subst hrd hbz hwh hwo hak
  obtain ⟨p1, p2, p3, p4, p5⟩ := pure_gone b0 b1 b2 who hw3
  have h := specHear_yes 0 who mk ow 0 0 false false false none 0 [] al ar aq cl cr cq [x0, x1, x2, x3] [b0, b1, b2] w hal hr (Row.nil _ _ _)
    (hm_ok b0 b1 b2 hwd how (by omega) (by omega)) (by rcases hmk with rfl | rfl <;> rfl) (by simp [inB]; omega) (by simp) (by simp)
    (fun S1 => S1 = ⟨[x0, x1, x2, x3], ow, [b0, b1, b2], false, 0, false, 0, [((who : Int), mk == 2)], 0, 0⟩)
    (fun lo W kB vl vr vq hlo L B hw => (l4Hear_ask lo W kB vl vr vq _ _ L hlo rfl who mk 0 false none 0 [] hmk).mono (by
      rintro e w' ⟨rfl, vq', L', B'⟩
      exact ⟨rfl, _, vl, vr, vq', _, rfl, L', B'⟩))
    (by rintro S1 rfl; exact ⟨by simp, by simp, how.1, by simp, .inr ⟨who, mk == 2, rfl, rfl, hw3⟩⟩)
  refine Calls.mono h ?_
  rintro e w' ⟨S1, S2, vl, vr, vq, vt, rfl, hG, rfl, ol', or', oq', B⟩
  rcases hG with ⟨h0, _⟩ | ⟨p, o, h1, _, _, rfl⟩
  · cases h0
  · simp only [List.cons.injEq, Prod.mk.injEq, and_true] at h1
    obtain ⟨hp, rfl⟩ := h1
    have hp' : p = who := by omega
    subst hp'
    rw [nxS_ws] at oq'
    by_cases ho : ow = -1
    · subst ho
      cases hm2 : (mk == 2)
      · rw [hm2] at ol' or'
        refine ⟨vl, vr, vq, vt, ?_, ?_, ?_, oq', B⟩
        · simp [askH, nxS, nwS, gvS]
        · simpa [askH, nxS, nwS, gvS, Hm.xs] using ol'
        · simp only [askH, nxS, nwS, gvS, if_true, if_false, Bool.false_eq_true, Bool.not_false, Int.toNat_natCast, p4] at or' ⊢
          simpa using or'
      · rw [hm2] at ol' or'
        by_cases hl : (othersL [b0, b1, b2] (p : Int)).length = 0
        · have hc : cntU [b0, b1, b2] p 3 = 0 := by rw [p2]; exact hl
          have e : nxS ⟨[x0, x1, x2, x3], -1, [b0, b1, b2], false, 0, false, 0, [((p : Int), true)], 0, 0⟩ p true = gvS (awS ⟨[x0, x1, x2, x3], -1, [b0, b1, b2], false, 0, false, 0, [((p : Int), true)], 0, 0⟩ p 3) := by
            unfold nxS
            rw [if_neg (by simp), if_pos rfl]
            exact if_pos hc
          rw [e] at ol' or' ⊢
          refine ⟨vl, vr, vq, vt, ?_, ?_, ?_, oq', B⟩
          · simp [askH, hl, gvS, awS, nwS, hc]
          · simpa [askH, hl, gvS, awS, nwS, Hm.xs] using ol'
          · simp only [gvS, awS, nwS, Bool.not_true, Int.toNat_natCast, p3] at or'
            simpa [askH, hl] using or'
        · have hc : ¬ cntU [b0, b1, b2] p 3 = 0 := by rw [p2]; exact hl
          have e : nxS ⟨[x0, x1, x2, x3], -1, [b0, b1, b2], false, 0, false, 0, [((p : Int), true)], 0, 0⟩ p true = awS ⟨[x0, x1, x2, x3], -1, [b0, b1, b2], false, 0, false, 0, [((p : Int), true)], 0, 0⟩ p 3 := by
            unfold nxS
            rw [if_neg (by simp), if_pos rfl]
            exact if_neg hc
          rw [e] at ol' or' ⊢
          refine ⟨vl, vr, vq, vt, ?_, ?_, ?_, oq', B⟩
          · simp [askH, hl, awS, nwS, p2]
          · simpa [askH, hl, awS, nwS, Hm.xs] using ol'
          · simp only [awS, nwS, p1] at or'
            simpa [askH, hl] using or'
    · have h0 : 0 ≤ ow := by omega
      refine ⟨vl, vr, vq, vt, ?_, ?_, ?_, oq', B⟩
      · simp [askH, ho, nxS, nwS, h0]
      · simpa [askH, ho, nxS, nwS, h0, Hm.xs] using ol'
      · simpa [askH, ho, nxS, nwS, h0] using or'

set_option maxHeartbeats 2000000 in
theorem specAck (H : Hm) (b0 b1 b2 : Bool) (hrd : H.rd = [b0, b1, b2]) (hbz : H.bz = true) (hwh : 0 ≤ H.wh ∧ H.wh < 3) (hwo : H.wo = true) (hak : 1 ≤ H.ak ∧ H.ak ≤ 3) (how : -1 ≤ H.ow ∧ H.ow < 3) (hwd : H.xs.all wordB = true) (fr : Int) (hfr : 0 ≤ fr ∧ fr < 3)
    (al ar aq : Option Addr) (cl cr cq : Nat) (w : World) (hal : Row .i64 w al H.xs) (hr : VRow w ar (bv H.rd)) :
    Calls Try.prog 8 #[.agg #[.slice al 4 cl, .int .i64 H.ow, .slice ar 3 cr, .bool H.bz, .int .i64 H.wh, .bool H.wo, .int .i64 H.ak, .slice aq 0 cq], .int .i64 3, .int .i64 0, .int .i64 fr, .agg #[.int .i64 5, .int .i64 0, .bool false, .slice none 0 0]] w (SpecP w (ackH H)) := by
  obtain ⟨x0, x1, x2, x3, ow, rd, bz, wh, wo, ak⟩ := H
  simp only at hrd hbz hwh hwo hak how hwd hal hr ⊢
  subst hrd hbz hwo
  obtain ⟨wn, rfl⟩ : ∃ wn : Nat, wh = (wn : Int) := ⟨wh.toNat, by omega⟩
  obtain ⟨p1, p2, p3, p4, p5⟩ := pure_gone b0 b1 b2 wn (by omega)
  by_cases h1 : ak = 1
  · have h := specHear_yes 0 fr 5 ow wn ak false true true none 0 [] al ar aq cl cr cq [x0, x1, x2, x3] [b0, b1, b2] w hal hr (Row.nil _ _ _)
      (hm_ok b0 b1 b2 hwd how hwh (by omega)) rfl (by simp [inB]; omega) (by simp) (by simp)
      (fun S1 => S1 = gvS ⟨[x0, x1, x2, x3], ow, [b0, b1, b2], true, wn, true, 0, [], 0, 0⟩)
      (fun lo W kB vl vr vq hlo L B hw => (l4Hear_last lo W kB vl vr vq _ _ L hlo (by simp) (by simp) (by simp) (by simpa using hwh) fr 0 false none 0 [] rfl h1).mono (by
        rintro e w' ⟨rfl, vt', L', B'⟩
        exact ⟨rfl, _, vl, vr, vq, vt', rfl, L', B'⟩))
      (by rintro S1 rfl; exact ⟨by simp [gvS], by simp [gvS], by simp [gvS], by simp [gvS], .inl rfl⟩)
    refine Calls.mono h ?_
    rintro e w' ⟨S1, S2, vl, vr, vq, vt, rfl, hG, rfl, ol', or', oq', B⟩
    rcases hG with ⟨_, rfl⟩ | ⟨p, o, h1, _⟩
    · refine ⟨vl, vr, vq, vt, ?_, ?_, ?_, oq', B⟩
      · simp [ackH, h1, gvS]
      · simpa [ackH, h1, gvS, Hm.xs] using ol'
      · simp only [gvS, Bool.not_true, Int.toNat_natCast, p5] at or'
        simpa [ackH, h1] using or'
    · cases h1
  · have h := specHear_yes 0 fr 5 ow wn ak false true true none 0 [] al ar aq cl cr cq [x0, x1, x2, x3] [b0, b1, b2] w hal hr (Row.nil _ _ _)
      (hm_ok b0 b1 b2 hwd how hwh (by omega)) rfl (by simp [inB]; omega) (by simp) (by simp)
      (fun S1 => S1 = ⟨[x0, x1, x2, x3], ow, [b0, b1, b2], true, wn, true, ak - 1, [], 0, 0⟩)
      (fun lo W kB vl vr vq hlo L B hw => (l4Hear_more lo W kB vl vr vq _ _ L hlo fr 0 false none 0 [] rfl (show 1 < ak by omega) (show ak ≤ 4 by omega)).mono (by
        rintro e w' ⟨rfl, L', B'⟩
        exact ⟨rfl, _, vl, vr, vq, _, rfl, L', B'⟩))
      (by rintro S1 rfl; exact ⟨by simp, by simp, how.1, by simp, .inl rfl⟩)
    refine Calls.mono h ?_
    rintro e w' ⟨S1, S2, vl, vr, vq, vt, rfl, hG, rfl, ol', or', oq', B⟩
    rcases hG with ⟨_, rfl⟩ | ⟨p, o, h1, _⟩
    · refine ⟨vl, vr, vq, vt, ?_, ?_, ?_, oq', B⟩
      · simp [ackH, h1]
      · simpa [ackH, h1, Hm.xs] using ol'
      · simpa [ackH, h1] using or'
    · cases h1

set_option maxHeartbeats 2000000 in
theorem specBack (H : Hm) (hrd : H.rd = [false, false, false]) (hbz : H.bz = true) (hwh : 0 ≤ H.wh ∧ H.wh < 3) (hak : H.ak = 0) (how : 0 ≤ H.ow ∧ H.ow < 3) (hwd : H.xs.all wordB = true) (y0 y1 y2 y3 : Int) (am : Option Addr) (cm : Nat)
    (al ar aq : Option Addr) (cl cr cq : Nat) (w : World) (hm : Row .i64 w am [y0, y1, y2, y3]) (hyd : [y0, y1, y2, y3].all wordB = true) (hal : Row .i64 w al H.xs) (hr : VRow w ar (bv H.rd)) :
    Calls Try.prog 8 #[.agg #[.slice al 4 cl, .int .i64 H.ow, .slice ar 3 cr, .bool H.bz, .int .i64 H.wh, .bool H.wo, .int .i64 H.ak, .slice aq 0 cq], .int .i64 3, .int .i64 0, .int .i64 H.ow, .agg #[.int .i64 7, .int .i64 0, .bool false, .slice am 4 cm]] w (SpecP w (backH H y0 y1 y2 y3)) := by
  obtain ⟨x0, x1, x2, x3, ow, rd, bz, wh, wo, ak⟩ := H
  simp only at hrd hbz hwh hak how hwd hal hr ⊢
  subst hrd hbz hak
  obtain ⟨wn, rfl⟩ : ∃ wn : Nat, wh = (wn : Int) := ⟨wh.toNat, by omega⟩
  obtain ⟨on, rfl⟩ : ∃ on : Nat, ow = (on : Int) := ⟨ow.toNat, by omega⟩
  obtain ⟨p1, p2⟩ := pure_back on wn (by omega) (by omega)
  have h := specHear_yes 0 on 7 on wn 0 false true wo am cm [y0, y1, y2, y3] al ar aq cl cr cq [x0, x1, x2, x3] [false, false, false] w hal hr hm
    (hm_ok false false false hwd (by omega) hwh (by omega)) (by simp [msgOkB, wordsB]; simpa using hyd) (by simp [inB]; omega) (by simp) (by simp)
    (fun S1 => S1 = gvS (bkS ⟨[x0, x1, x2, x3], on, [false, false, false], true, wn, wo, 0, [], 0, 0⟩ [y0, y1, y2, y3]))
    (fun lo W kB vl vr vq hlo L B hw => (l4Hear_back lo W kB vl vr vq _ _ L hlo (by simp) (by simp) (by simpa using hwh) (by simpa using how) 0 false am cm [y0, y1, y2, y3] (hm.below B) (by simp) rfl rfl).mono (by
      rintro e w' ⟨rfl, vl', vt', L', B'⟩
      exact ⟨rfl, _, vl', vr, vq, vt', rfl, L', B'⟩))
    (by rintro S1 rfl; exact ⟨by simp [gvS, bkS], by simp [gvS, bkS], by cases wo <;> simp [gvS, bkS], by simp [gvS, bkS], .inl rfl⟩)
  refine Calls.mono h ?_
  rintro e w' ⟨S1, S2, vl, vr, vq, vt, rfl, hG, rfl, ol', or', oq', B⟩
  rcases hG with ⟨_, rfl⟩ | ⟨p, o, h1, _⟩
  · cases wo
    · refine ⟨vl, vr, vq, vt, ?_, ?_, ?_, oq', B⟩
      · simp [backH, gvS, bkS]
      · simpa [backH, gvS, bkS, Hm.xs] using ol'
      · simp only [gvS, bkS, Bool.not_false, Int.toNat_natCast, p2] at or'
        simpa [backH] using or'
    · refine ⟨vl, vr, vq, vt, ?_, ?_, ?_, oq', B⟩
      · simp [backH, gvS, bkS]
      · simpa [backH, gvS, bkS, Hm.xs] using ol'
      · simp only [gvS, bkS, Bool.not_true, Int.toNat_natCast, p1] at or'
        simpa [backH] using or'
  · cases h1
end Go.Proofs.Ytliihkdocbpolaa
