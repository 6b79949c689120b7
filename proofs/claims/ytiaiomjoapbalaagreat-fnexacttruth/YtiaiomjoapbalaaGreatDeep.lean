/- Snd and Deep: see the heads of the parts. -/
import Derived.Test.YtiaiomjoapbalaaGreatLetter
import Derived.Test.YtiaiomjoapbalaaGreatKeep
import Derived.Test.YtiaiomjoapbalaaGreatSeq
/- Rows of messages, as a reader is told of them; what both SenderOk answer. -/
namespace Go.Proofs.YtiaiomjoapbalaaGreat
open Go.RowKit
set_option linter.unusedVariables false

/-- A message that lies somewhere: its fields, and where its words lie. -/
structure M where
  k : Int
  p : Int
  o : Bool
  a : Option Addr
  c : Nat
  xs : List Int

/-- What a message says, wherever it lies. -/
abbrev Say := Int × Int × Bool × List Int
def M.say (m : M) : Say := (m.k, m.p, m.o, m.xs)
def okS (s : Say) : Bool := msgOkB s.1 s.2.1 s.2.2.1 s.2.2.2

/-- Four cells at one place. -/
def At4 (w : World) (b off : Nat) (m : M) : Prop :=
  w.cell? ⟨b, off, none⟩ = some (.int .i64 m.k) ∧ w.cell? ⟨b, off + 1, none⟩ = some (.int .i64 m.p) ∧ w.cell? ⟨b, off + 2, none⟩ = some (.bool m.o) ∧ w.cell? ⟨b, off + 3, none⟩ = some (.slice m.a m.xs.length m.c)

/-- WHAT A READER IS TOLD OF A SLICE OF MESSAGES. -/
def MRow (w : World) (a : Option Addr) (ms : List M) : Prop :=
  ms.length ≤ 1048577 ∧ ∀ i m, ms[i]? = some m → (∃ b off, a = some ⟨b, off, none⟩ ∧ At4 w b (off + i * 4) m) ∧ Row .i64 w m.a m.xs

theorem At4.lt {w : World} {b off : Nat} {m : M} (h : At4 w b off m) : b < w.heap.size := lt_of_cell h.1
theorem At4.below {w w' : World} {b off : Nat} {m : M} (h : At4 w b off m) (hb : Below w.heap.size w w') : At4 w' b off m :=
  ⟨(hb.cell (p := ⟨b, off, none⟩) h.lt).trans h.1, (hb.cell (p := ⟨b, off + 1, none⟩) h.lt).trans h.2.1, (hb.cell (p := ⟨b, off + 2, none⟩) h.lt).trans h.2.2.1, (hb.cell (p := ⟨b, off + 3, none⟩) h.lt).trans h.2.2.2⟩

theorem MRow.below {w w' : World} {a : Option Addr} {ms : List M} (h : MRow w a ms) (hb : Below w.heap.size w w') : MRow w' a ms := by
  refine ⟨h.1, fun i m hi => ?_⟩
  obtain ⟨⟨b, off, rfl, h4⟩, hr⟩ := h.2 i m hi
  exact ⟨⟨b, off, rfl, h4.below hb⟩, hr.below hb⟩

theorem MRow.dr {w w' : World} {d : Nat} (e : w' = w.drewN d) {a : Option Addr} {ms : List M} (h : MRow w a ms) : MRow w' a ms := by subst e; exact h

def senderB (base : Int) (ms : List M) : Bool := decide (0 ≤ base ∧ base ≤ 100000) && (decide (ms.length ≤ 30) && (decide (base + ms.length ≤ 100000) && ms.all (fun m => okS m.say)))

theorem senderB_bad (base : Int) {ms : List M} {k : Nat} {m : M} (hm : ms[k]? = some m) (hb : msgOkB m.k m.p m.o m.xs = false) : senderB base ms = false := by
  have : ms.all (fun m => okS m.say) = false := by
    rw [List.all_eq_false]
    exact ⟨m, List.mem_of_getElem? hm, by simp [okS, M.say, hb]⟩
  simp [senderB, this]
theorem take_ok {ms : List M} {k : Nat} {m : M} (h : (ms.take k).all (fun m => okS m.say) = true) (hm : ms[k]? = some m) (hb : msgOkB m.k m.p m.o m.xs = true) : (ms.take (k + 1)).all (fun m => okS m.say) = true := by
  obtain ⟨hk, rfl⟩ := List.getElem?_eq_some_iff.1 hm
  rw [List.take_succ_eq_append_getElem hk, List.all_append, h]
  simp [okS, M.say, hb]

set_option maxRecDepth 100000 in
set_option maxHeartbeats 2000000 in
theorem specSender_any (base : Int) (a : Option Addr) (c : Nat) (ms : List M) (w : World) (ha : MRow w a ms) :
    Calls Tryz.prog 68 #[.agg #[.int .i64 base, .slice a ms.length c]] w fun e w' => e = .returned (.bool (senderB base ms)) ∧ Below w.heap.size w w' := by
  have bA := bel_alloc (Below.refl w.heap.size w) (.cells #[.int .i64 base, .slice a ms.length c] 87)
  have XA := Box.new w #[.int .i64 base, .slice a ms.length c] 87
  have hr := ha.below bA
  have hl := ha.1
  clear ha
  obtain ⟨n, hn⟩ : ∃ n, ms.length = n := ⟨_, rfl⟩
  have HN : Hid (ms.length = n) := hn
  rw [hn] at hl XA bA hr ⊢
  clear hn
  go_enter Tryz.func68, Tryz.ntmps68
  go_wp2
  go_loopw [3] (fun i wr => ∃ k : Nat, k ≤ n ∧ i = .int .i64 k ∧ (ms.take k).all (fun m => okS m.say) = true ∧ Box wr w.heap.size #[.int .i64 base, .slice a n c] 87 ∧ MRow wr a ms ∧ Below w.heap.size w wr) (fun i _ => n - (intOf i).toNat)
  case atStart => exact ⟨0, Nat.zero_le _, rfl, by simp, XA, hr, bA⟩
  case round =>
    obtain ⟨k, hk, rfl, hok, hX, hm, hB⟩ := hrel
    have HOK : Hid ((ms.take k).all (fun m => okS m.say) = true) := hok
    clear hok
    obtain ⟨x0, x1, zx⟩ := hX.at2
    by_cases hlt : k < n
    · have hi : (k : Int) < (n : Int) := by omega
      obtain ⟨m, hmk⟩ : ∃ m, ms[k]? = some m := ⟨_, List.getElem?_eq_getElem (by have := HN.out; omega)⟩
      have HM : Hid (ms[k]? = some m) := hmk
      obtain ⟨⟨b, off, rfl, y0, y1, y2, y3⟩, hrow⟩ := hm.2 k m hmk
      clear hmk
      go_wp2_with fail
      refine (specMsgOk_any m.k m.p m.o m.a m.c m.xs _ hrow).mono ?_
      rintro e w1 ⟨rfl, b1⟩
      have hX1 := hX.below b1
      have hm1 := hm.below b1
      have hB1 := bel_trans hB b1
      clear hX hm hB hrow y0 y1 y2 y3 x0 x1 zx b1 hr XA bA
      cases hb : msgOkB m.k m.p m.o m.xs
      · have HF : Hid (senderB base ms = false) := senderB_bad base HM.out hb
        clear hb
        go_wp2
        go_ret
        exact ⟨ret_bool HF.out.symm, hB1⟩
      · have HT := take_ok HOK.out HM.out hb
        have HT : Hid ((ms.take (k + 1)).all (fun m => okS m.say) = true) := HT
        clear hb
        go_wp2
        go_roundw
        case rel => exact ⟨k + 1, by omega, by go_num, HT.out, hX1, hm1, hB1⟩
        case measure => simp [intOf]; omega
    · have hkn : k = n := by omega
      have hall : Hid (ms.all (fun m => okS m.say) = true) := by
        have := HOK.out
        rw [List.take_of_length_le (by have := HN.out; omega)] at this
        exact this
      have E : Hid (senderB base ms = (decide (0 ≤ base ∧ base ≤ 100000) && (decide ((n : Int) ≤ 30) && decide (base + n ≤ 100000)))) := by
        unfold senderB
        have e30 : decide (n ≤ 30) = decide ((n : Int) ≤ 30) := by rw [decide_eq_decide]; omega
        rw [hall.out, HN.out, e30, Bool.and_true]
        exact rfl
      clear hm hr XA bA hall HOK hX
      by_cases h0 : 0 ≤ base ∧ base ≤ 100000
      · have H0 : Hid (decide (0 ≤ base ∧ base ≤ 100000) = true) := decide_eq_true h0
        obtain ⟨h00, h01⟩ := h0
        by_cases h1 : (n : Int) ≤ 30
        · have H1 : Hid (decide ((n : Int) ≤ 30) = true) := decide_eq_true h1
          go_wp2_with fail
          refine (specIn_any base 0 100000 _).mono ?_
          rintro e w1 ⟨rfl, h⟩
          subst h
          rw [H0.out]
          go_wp2
          go_ret
          exact ⟨ret_bool (by rw [E.out, H0.out, H1.out]; simp), hB⟩
        · have H1 : Hid (decide ((n : Int) ≤ 30) = false) := decide_eq_false h1
          have h1' : (30 : Int) < n := by omega
          go_wp2_with fail
          refine (specIn_any base 0 100000 _).mono ?_
          rintro e w1 ⟨rfl, h⟩
          subst h
          rw [H0.out]
          go_wp2
          go_ret
          exact ⟨ret_bool (by rw [E.out, H0.out, H1.out]; simp), hB⟩
      · have H0 : Hid (decide (0 ≤ base ∧ base ≤ 100000) = false) := decide_eq_false h0
        clear h0
        go_wp2_with fail
        refine (specIn_any base 0 100000 _).mono ?_
        rintro e w1 ⟨rfl, h⟩
        subst h
        rw [H0.out]
        go_wp2
        go_ret
        exact ⟨ret_bool (by rw [E.out, H0.out]; simp), hB⟩

set_option maxRecDepth 100000 in
set_option maxHeartbeats 2000000 in
theorem implSender_any (base : Int) (a : Option Addr) (c : Nat) (ms : List M) (w : World) (ha : MRow w a ms) :
    Calls Tryz.prog 83 #[.agg #[.int .i64 base, .slice a ms.length c]] w fun e w' => e = .returned (.bool (senderB base ms)) ∧ Below w.heap.size w w' := by
  have bA := bel_alloc (Below.refl w.heap.size w) (.cells #[.int .i64 base, .slice a ms.length c] 87)
  have XA := Box.new w #[.int .i64 base, .slice a ms.length c] 87
  have hr := ha.below bA
  have hl := ha.1
  clear ha
  obtain ⟨n, hn⟩ : ∃ n, ms.length = n := ⟨_, rfl⟩
  have HN : Hid (ms.length = n) := hn
  rw [hn] at hl XA bA hr ⊢
  clear hn
  have E : Hid (senderB base ms = (inB base 0 100000 && (decide ((n : Int) ≤ 30) && (decide (base + n ≤ 100000) && ms.all (fun m => okS m.say))))) := by
    unfold senderB
    have e30 : decide (n ≤ 30) = decide ((n : Int) ≤ 30) := by rw [decide_eq_decide]; omega
    rw [HN.out, e30]
    exact rfl
  by_cases h0 : inB base 0 100000 = true
  case neg =>
    have H0 : Hid (inB base 0 100000 = false) := by show _ = _; simpa using h0
    clear h0 XA hr
    go_enter Tryz.func83, Tryz.ntmps83
    go_wp2_with fail
    refine (isSeq_any base _).mono ?_
    rintro e w1 ⟨rfl, h⟩
    subst h
    rw [H0.out]
    go_wp2
    go_ret
    exact ⟨ret_bool (by rw [E.out, H0.out]; simp), bA⟩
  have H0 : Hid (inB base 0 100000 = true) := h0
  obtain ⟨h00, h01⟩ : 0 ≤ base ∧ base ≤ 100000 := of_decide_eq_true h0
  clear h0
  by_cases h1 : (n : Int) ≤ 30
  case neg =>
    have H1 : Hid (decide ((n : Int) ≤ 30) = false) := decide_eq_false h1
    have h1' : (30 : Int) < n := by omega
    clear XA hr
    go_enter Tryz.func83, Tryz.ntmps83
    go_wp2_with fail
    refine (isSeq_any base _).mono ?_
    rintro e w1 ⟨rfl, h⟩
    subst h
    rw [H0.out]
    go_wp2
    go_ret
    exact ⟨ret_bool (by rw [E.out, H0.out, H1.out]; simp), bA⟩
  have H1 : Hid (decide ((n : Int) ≤ 30) = true) := decide_eq_true h1
  by_cases h2 : base + (n : Int) ≤ 100000
  case neg =>
    have H2 : Hid (decide (base + (n : Int) ≤ 100000) = false) := decide_eq_false h2
    have H3 : Hid (inB (base + n) 0 100000 = false) := by simp [Hid, inB, h2]
    clear XA hr
    go_enter Tryz.func83, Tryz.ntmps83
    go_wp2_with fail
    refine (isSeq_any base _).mono ?_
    rintro e w1 ⟨rfl, h⟩
    subst h
    rw [H0.out]
    go_wp2_with fail
    refine (isSeq_any (base + n) _).mono ?_
    rintro e w1 ⟨rfl, h⟩
    subst h
    rw [H3.out]
    go_wp2
    go_ret
    exact ⟨ret_bool (by rw [E.out, H0.out, H1.out, H2.out]; simp), bA⟩
  have H2 : Hid (decide (base + (n : Int) ≤ 100000) = true) := decide_eq_true h2
  have H3 : Hid (inB (base + n) 0 100000 = true) := by unfold inB; exact decide_eq_true ⟨by omega, h2⟩
  have EE : Hid (senderB base ms = ms.all (fun m => okS m.say)) := by
    show senderB base ms = _
    rw [E.out, H0.out, H1.out, H2.out]
    simp
  go_enter Tryz.func83, Tryz.ntmps83
  go_wp2_with fail
  refine (isSeq_any base _).mono ?_
  rintro e w1 ⟨rfl, h⟩
  subst h
  rw [H0.out]
  go_wp2_with fail
  refine (isSeq_any (base + n) _).mono ?_
  rintro e w1 ⟨rfl, h⟩
  subst h
  rw [H3.out]
  go_wp2
  go_loopw [28] (fun i wr => ∃ k : Nat, k ≤ n ∧ i = .int .i64 k ∧ (ms.take k).all (fun m => okS m.say) = true ∧ MRow wr a ms ∧ Below w.heap.size w wr) (fun i _ => n - (intOf i).toNat)
  case atStart => exact ⟨0, Nat.zero_le _, rfl, by simp, hr, bA⟩
  case round =>
    obtain ⟨k, hk, rfl, hok, hm, hB⟩ := hrel
    have HOK : Hid ((ms.take k).all (fun m => okS m.say) = true) := hok
    clear hok
    by_cases hlt : k < n
    · have hi : (k : Int) < (n : Int) := by omega
      obtain ⟨m, hmk⟩ : ∃ m, ms[k]? = some m := ⟨_, List.getElem?_eq_getElem (by have := HN.out; omega)⟩
      have HM : Hid (ms[k]? = some m) := hmk
      obtain ⟨⟨b, off, rfl, y0, y1, y2, y3⟩, hrow⟩ := hm.2 k m hmk
      clear hmk
      go_wp2_with fail
      have bx := bel_alloc (Below.refl wr.heap.size wr) (.cells #[.int .i64 m.k, .int .i64 m.p, .bool m.o, .slice m.a m.xs.length m.c] 55)
      refine (msgOk_any m.k m.p m.o m.a m.c m.xs _ (hrow.below bx)).mono ?_
      rintro e w1 ⟨rfl, b1⟩
      have b1 := bel_trans bx b1
      have hm1 := hm.below b1
      have hB1 := bel_trans hB b1
      clear hm hB hrow y0 y1 y2 y3 b1 bx hr XA bA
      cases hb : msgOkB m.k m.p m.o m.xs
      · have HF : Hid (senderB base ms = false) := senderB_bad base HM.out hb
        clear hb
        go_wp2
        go_ret
        exact ⟨ret_bool HF.out.symm, hB1⟩
      · have HT := take_ok HOK.out HM.out hb
        have HT : Hid ((ms.take (k + 1)).all (fun m => okS m.say) = true) := HT
        clear hb
        go_wp2
        go_roundw
        case rel => exact ⟨k + 1, by omega, by go_num, HT.out, hm1, hB1⟩
        case measure => simp [intOf]; omega
    · have hkn : k = n := by omega
      have hall : Hid (ms.all (fun m => okS m.say) = true) := by
        have := HOK.out
        rw [List.take_of_length_le (by have := HN.out; omega)] at this
        exact this
      clear hm hr XA bA HOK
      go_wp2
      go_ret
      exact ⟨ret_bool (by rw [EE.out, hall.out]), hB⟩
end Go.Proofs.YtiaiomjoapbalaaGreat

/- Rows of messages that are owned, with their words. -/
namespace Go.Proofs.YtiaiomjoapbalaaGreat
open Go.RowKit
set_option linter.unusedVariables false

abbrev M.v (m : M) : Value := .slice m.a m.xs.length m.c
def M.cells (m : M) : List Value := [.int .i64 m.k, .int .i64 m.p, .bool m.o, m.v]
def flat (ms : List M) : List Value := ms.flatMap M.cells

theorem flat_nil : flat [] = [] := rfl
theorem flat_cons (m : M) (ms : List M) : flat (m :: ms) = m.cells ++ flat ms := rfl
theorem flat_append (xs ys : List M) : flat (xs ++ ys) = flat xs ++ flat ys := by simp [flat]
theorem flat_length (ms : List M) : (flat ms).length = ms.length * 4 := by
  induction ms with
  | nil => rfl
  | cons m ms ih => rw [flat_cons, List.length_append, ih]; simp [M.cells]; omega
theorem flat_get (ms : List M) (i : Nat) (m : M) (h : ms[i]? = some m) (j : Nat) (hj : j < 4) : (flat ms)[i * 4 + j]? = m.cells[j]? := by
  induction ms generalizing i with
  | nil => simp at h
  | cons m' ms ih =>
    rw [flat_cons]
    cases i with
    | zero =>
      simp at h
      subst h
      rw [List.getElem?_append_left (by simp [M.cells]; omega)]
      simp
    | succ i =>
      simp at h
      rw [List.getElem?_append_right (by simp [M.cells]; omega)]
      have e : (i + 1) * 4 + j - m'.cells.length = i * 4 + j := by simp [M.cells]; omega
      rw [e]
      exact ih i h

/-- The words' rows of messages: each owned, no two in one block. -/
def Lists (w : World) (lo : Nat) (ms : List M) : Prop :=
  (∀ m ∈ ms, w.ownsRow lo 3 1 m.v m.xs.length (m.xs.map (Value.int .i64))) ∧ ms.Pairwise (fun m m' => ∀ j, m.v.ownBlock = some j → m'.v.ownBlock ≠ some j)

theorem Lists.nil (w : World) (lo : Nat) : Lists w lo [] := ⟨by simp, List.Pairwise.nil⟩
theorem Lists.below {w w' : World} {lo : Nat} {ms : List M} (h : Lists w lo ms) (hb : Below w.heap.size w w') : Lists w' lo ms := ⟨fun m hm => owns_below (h.1 m hm) hb, h.2⟩
theorem Lists.base {w : World} {lo lo' : Nat} {ms : List M} (h : Lists w lo ms) (hl : lo' ≤ lo) : Lists w lo' ms := ⟨fun m hm => owns_base (h.1 m hm) hl, h.2⟩
theorem Lists.dr {w w' : World} {lo d : Nat} {ms : List M} (h : Lists w lo ms) (e : w' = w.drewN d) : Lists w' lo ms := by subst e; exact h
theorem Lists.lt {w : World} {lo : Nat} {ms : List M} (h : Lists w lo ms) {m : M} (hm : m ∈ ms) {j : Nat} (hj : m.v.ownBlock = some j) : lo ≤ j ∧ j < w.heap.size := (h.1 m hm).lt j hj
theorem Lists.snoc {w : World} {lo : Nat} {ms : List M} {m : M} (h : Lists w lo ms) (hm : w.ownsRow lo 3 1 m.v m.xs.length (m.xs.map (Value.int .i64)))
    (hne : ∀ x ∈ ms, ∀ j, x.v.ownBlock = some j → m.v.ownBlock ≠ some j) : Lists w lo (ms ++ [m]) := by
  refine ⟨fun x hx => ?_, ?_⟩
  · rcases List.mem_append.1 hx with hx | hx
    · exact h.1 x hx
    · simp at hx; subst hx; exact hm
  · rw [List.pairwise_append]
    refine ⟨h.2, by simp, fun x hx y hy => ?_⟩
    simp at hy
    subst hy
    exact hne x hx
theorem Lists.far {w : World} {lo : Nat} {ms : List M} (h : Lists w lo ms) (a : Addr) (u : Value) (hne : ∀ m ∈ ms, ∀ j, m.v.ownBlock = some j → a.block ≠ j) : Lists (w.setCell a u) lo ms :=
  ⟨fun m hm => owns_setCell (h.1 m hm) (hne m hm) u, h.2⟩

/-- Two rows of elements of other types do not share a block. -/
theorem owns_types {w : World} {b1 b2 e1 e2 s1 s2 n1 n2 : Nat} {v1 v2 : Value} {x1 x2 : List Value} (h1 : w.ownsRow b1 e1 s1 v1 n1 x1) (h2 : w.ownsRow b2 e2 s2 v2 n2 x2) (he : e1 ≠ e2) {j : Nat} (hj : v1.ownBlock = some j) : v2.ownBlock ≠ some j := by
  intro hk
  rcases h1.2 with ⟨rfl, _⟩ | ⟨g, cap, cur, rfl, _, hg, _⟩
  · simp [Value.ownBlock] at hj
  · rcases h2.2 with ⟨rfl, _⟩ | ⟨g', cap', cur', rfl, _, hg', _⟩
    · simp [Value.ownBlock] at hk
    · simp [Value.ownBlock] at hj hk
      subst hj
      subst hk
      rw [hg] at hg'
      simp at hg'
      exact he hg'.2

/-- An owned row of messages with their words. -/
structure Deep (w : World) (lo : Nat) (a : Option Addr) (c : Nat) (ms : List M) : Prop where
  row : w.ownsRow lo 55 4 (.slice a ms.length c) ms.length (flat ms)
  lists : Lists w lo ms

theorem Deep.below {w w' : World} {lo : Nat} {a : Option Addr} {c : Nat} {ms : List M} (h : Deep w lo a c ms) (hb : Below w.heap.size w w') : Deep w' lo a c ms := ⟨owns_below h.row hb, h.lists.below hb⟩
theorem Deep.dr {w w' : World} {lo d : Nat} {a : Option Addr} {c : Nat} {ms : List M} (h : Deep w lo a c ms) (e : w' = w.drewN d) : Deep w' lo a c ms := by subst e; exact ⟨h.row, h.lists⟩

/-- What a reader is told of an owned row. -/
theorem Deep.mrow {w : World} {lo : Nat} {a : Option Addr} {c : Nat} {ms : List M} (h : Deep w lo a c ms) (hl : ms.length ≤ 1048577) (hx : ∀ m ∈ ms, m.xs.length ≤ 1048577) : MRow w a ms := by
  refine ⟨hl, fun i m hm => ⟨?_, owns_row' (h.lists.1 m (List.mem_of_getElem? hm)) (by have := hx m (List.mem_of_getElem? hm); omega)⟩⟩
  obtain ⟨hi, _⟩ := List.getElem?_eq_some_iff.1 hm
  obtain ⟨g, rfl⟩ := owns_addr h.row (by omega)
  refine ⟨g, 0, rfl, ?_⟩
  have key : ∀ j, j < 4 → w.cell? ⟨g, i * 4 + j, none⟩ = m.cells[j]? := fun j hj => by
    rw [h.row.cellAt (i * 4 + j) (by omega), flat_get ms i m hm j hj]
  rw [Nat.zero_add]
  exact ⟨by simpa [M.cells] using key 0 (by omega), by simpa [M.cells] using key 1 (by omega), by simpa [M.cells] using key 2 (by omega), by simpa [M.cells] using key 3 (by omega)⟩

theorem cell_row4 {w : World} {base e n g cap k size : Nat} {zs : List Value} (hr : w.ownsRow base e size (.slice (some ⟨g, 0, none⟩) n cap) n zs) (hlt : k < n * size) : ∃ u, w.cell? ⟨g, k, none⟩ = some u := by
  rw [hr.cellAt k hlt]
  exact ⟨_, List.getElem?_eq_getElem (by have := hr.1; omega)⟩

theorem stored4 {w : World} {base n g cap k : Nat} {ds : List M} {zs : List Value} (m : M) (hr : w.ownsRow base 55 4 (.slice (some ⟨g, 0, none⟩) n cap) n (flat ds ++ zs.drop (k * 4))) (hd : ds.length = k) (hz : zs.length = n * 4) (hk : k < n) :
    ((((w.setCell ⟨g, k * 4, none⟩ (.int .i64 m.k)).setCell ⟨g, k * 4 + 1, none⟩ (.int .i64 m.p)).setCell ⟨g, k * 4 + 2, none⟩ (.bool m.o)).setCell ⟨g, k * 4 + 3, none⟩ (.slice m.a m.xs.length m.c)).ownsRow base 55 4 (.slice (some ⟨g, 0, none⟩) n cap) n (flat (ds ++ [m]) ++ zs.drop ((k + 1) * 4)) := by
  have h0 := (hr.stored (k * 4) (.int .i64 m.k)).1
  rw [set_marks _ _ _ _ (by rw [flat_length]; omega) (by omega)] at h0
  have h1 := (h0.stored (k * 4 + 1) (.int .i64 m.p)).1
  rw [set_marks _ _ _ _ (by rw [List.length_append, flat_length]; simp; omega) (by omega)] at h1
  have h2 := (h1.stored (k * 4 + 1 + 1) (.bool m.o)).1
  rw [set_marks _ _ _ _ (by simp only [List.length_append, flat_length]; simp; omega) (by omega)] at h2
  have h3 := (h2.stored (k * 4 + 1 + 1 + 1) (.slice m.a m.xs.length m.c)).1
  rw [set_marks _ _ _ _ (by simp only [List.length_append, flat_length]; simp; omega) (by omega)] at h3
  have e : flat (ds ++ [m]) ++ zs.drop ((k + 1) * 4) = flat ds ++ [.int .i64 m.k] ++ [.int .i64 m.p] ++ [.bool m.o] ++ [.slice m.a m.xs.length m.c] ++ zs.drop (k * 4 + 1 + 1 + 1 + 1) := by
    rw [flat_append, show (k + 1) * 4 = k * 4 + 1 + 1 + 1 + 1 by omega]
    simp [flat, M.cells]
  rw [e]
  exact h3
end Go.Proofs.YtiaiomjoapbalaaGreat
