/- SndSz and OpenS: see the heads of the parts. -/
import Derived.Test.YtpahjfijpjgdnaaHtZ
import Derived.Test.YtpahjfijpjgdnaaSndTo
import Derived.Test.YtpahjfijpjgdnaaOpenC
import Derived.Deep.Slices
/- What the law's szSender does; a row of messages as it came in. -/
namespace Go.Proofs.Ytpahjfijpjgdnaa
open Go.RowKit
set_option linter.unusedVariables false

/-- A slice of messages that came in, without a bound on lengths. -/
def MCame (w : World) (a : Option Addr) (cap : Nat) (ms : List M) : Prop :=
  ms.length ≤ cap ∧ cap ≤ maxLen ∧ ∀ i m, ms[i]? = some m → (∃ b off, a = some ⟨b, off, none⟩ ∧ At4 w b (off + i * 4) m) ∧ Came .i64 w m.a m.c m.xs

theorem MCame.below {w w' : World} {a : Option Addr} {cap : Nat} {ms : List M} (h : MCame w a cap ms) (hb : Below w.heap.size w w') : MCame w' a cap ms := by
  refine ⟨h.1, h.2.1, fun i m hi => ?_⟩
  obtain ⟨⟨b, off, rfl, h4⟩, hr⟩ := h.2.2 i m hi
  exact ⟨⟨b, off, rfl, h4.below hb⟩, hr.below hb⟩

theorem MCame.mrow {w : World} {a : Option Addr} {cap : Nat} {ms : List M} (h : MCame w a cap ms) (hl : ms.length ≤ 1048576) (hx : ∀ m ∈ ms, m.xs.length ≤ 1048576) : MRow w a ms :=
  ⟨by omega, fun i m hm => ⟨(h.2.2 i m hm).1, (h.2.2 i m hm).2.row (by have := hx m (List.mem_of_getElem? hm); omega)⟩⟩

def SzOk (L : Int) (n : Nat) (r : Int) : Prop := r = -1 ∨ (r = L - n ∧ 0 ≤ r)

set_option maxRecDepth 100000 in
set_option maxHeartbeats 1000000 in
theorem szMsg_gen (k p : Int) (o : Bool) (a : Option Addr) (n c : Nat) (L : Int) (w : World) (h0 : 0 ≤ L) (h1 : L ≤ 1048576) (hn : n ≤ maxLen) :
    Calls Try.prog 41 #[.agg #[.int .i64 k, .int .i64 p, .bool o, .slice a n c], .int .i64 L] w fun e w' => ∃ r, e = .returned (.int .i64 r) ∧ SzOk L n r ∧ Below w.heap.size w w' := by
  unfold maxLen at hn
  have bA := bel_alloc (Below.refl w.heap.size w) (.cells #[.int .i64 k, .int .i64 p, .bool o, .slice a n c] 76)
  by_cases h : (n : Int) ≤ L
  · go_enter Try.func41, Try.ntmps41
    go_wp2
    go_ret
    exact ⟨_, rfl, .inr ⟨rfl, by omega⟩, bA⟩
  · go_enter Try.func41, Try.ntmps41
    go_wp2
    go_ret
    exact ⟨_, rfl, .inl rfl, bA⟩

/-- What szMsgS and szSender tell. -/
def SzS (ms : List M) (r : Int) : Prop := r = -1 ∨ (0 ≤ r ∧ r ≤ 1048576 ∧ ms.length ≤ 1048576 ∧ ∀ m ∈ ms, m.xs.length ≤ 1048576)

set_option maxRecDepth 100000 in
set_option maxHeartbeats 1000000 in
theorem szMsgS_any (a : Option Addr) (ca : Nat) (ms : List M) (w : World) (ha : MCame w a ca ms) :
    Calls Try.prog 74 #[.slice a ms.length ca, .int .i64 1048576] w fun e w' => ∃ r, e = .returned (.int .i64 r) ∧ SzS ms r ∧ Below w.heap.size w w' := by
  obtain ⟨n, hn⟩ : ∃ n, ms.length = n := ⟨_, rfl⟩
  have HN : Hid (ms.length = n) := hn
  have hl : n ≤ 9223372036854775807 := by have h1 := ha.1; have h2 := ha.2.1; unfold maxLen at h2; omega
  rw [hn]
  clear hn
  by_cases hb : 1048576 < n
  · have hb' : (1048576 : Int) < (n : Int) := by omega
    clear ha
    go_enter Try.func74, Try.ntmps74
    go_wp2
    go_ret
    exact ⟨_, rfl, .inl rfl, Below.refl _ _⟩
  · have hb' : (n : Int) ≤ 1048576 := by omega
    go_enter Try.func74, Try.ntmps74
    go_wp2
    go_loopw [1, 5] (fun q i wr => ∃ (k : Nat) (L : Int), k ≤ n ∧ i = .int .i64 k ∧ q = .int .i64 L ∧ 0 ≤ L ∧ L ≤ 1048576 ∧ (∀ j m, j < k → ms[j]? = some m → m.xs.length ≤ 1048576) ∧ MCame wr a ca ms ∧ Below w.heap.size w wr) (fun _ i _ => n - (intOf i).toNat)
    case atStart => exact ⟨0, _, Nat.zero_le _, rfl, rfl, by omega, by omega, fun j m hj => by omega, ha, Below.refl _ _⟩
    case round =>
      obtain ⟨k, L, hk, rfl, rfl, hL0, hL1, hdone, hm, hB⟩ := hrel
      have HD : Hid (∀ j m, j < k → ms[j]? = some m → m.xs.length ≤ 1048576) := hdone
      clear hdone
      by_cases hlt : k < n
      · have hi : (k : Int) < (n : Int) := by omega
        obtain ⟨m, hmk⟩ : ∃ m, ms[k]? = some m := ⟨_, List.getElem?_eq_getElem (by have := HN.out; omega)⟩
        have HM : Hid (ms[k]? = some m) := hmk
        obtain ⟨⟨b, off, rfl, y0, y1, y2, y3⟩, hcm⟩ := hm.2.2 k m hmk
        have hml : m.xs.length ≤ maxLen := Nat.le_trans hcm.1 hcm.2.1
        clear hmk hcm ha
        go_wp2_with fail
        refine (szMsg_gen m.k m.p m.o m.a m.xs.length m.c L _ hL0 hL1 hml).mono ?_
        rintro e w1 ⟨r, rfl, hsz, b1⟩
        have hm1 := hm.below b1
        have hB1 := bel_trans hB b1
        clear hm hB b1 y0 y1 y2 y3 hml
        rcases hsz with rfl | ⟨hr, hr0⟩
        · clear hm1
          go_wp2
          go_ret
          exact ⟨_, rfl, .inl rfl, hB1⟩
        · have HX : Hid (∀ j m, j < k + 1 → ms[j]? = some m → m.xs.length ≤ 1048576) := fun j m' hj hjm => by
            by_cases hjk : j < k
            · exact HD.out j m' hjk hjm
            · have : j = k := by omega
              subst this
              rw [HM.out] at hjm
              simp at hjm
              subst hjm
              omega
          have hr1 : r ≤ 1048576 := by omega
          clear hr
          go_wp2
          go_roundw
          case rel => exact ⟨k + 1, r, by omega, by go_num, rfl, hr0, hr1, HX.out, hm1, hB1⟩
          case measure => simp [intOf]; omega
      · clear ha hm
        go_wp2
        go_ret
        refine ⟨_, rfl, .inr ⟨hL0, hL1, by have := HN.out; omega, fun m hm' => ?_⟩, hB⟩
        obtain ⟨j, hj, rfl⟩ := List.getElem_of_mem hm'
        exact HD.out j _ (by have := HN.out; omega) (List.getElem?_eq_getElem hj)

set_option maxRecDepth 100000 in
set_option maxHeartbeats 1000000 in
theorem szSender_any (base : Int) (a : Option Addr) (ca : Nat) (ms : List M) (w : World) (ha : MCame w a ca ms) :
    Calls Try.prog 60 #[.agg #[.int .i64 base, .slice a ms.length ca], .int .i64 1048576] w fun e w' => ∃ r, e = .returned (.int .i64 r) ∧ SzS ms r ∧ Below w.heap.size w w' := by
  have bA := bel_alloc (Below.refl w.heap.size w) (.cells #[.int .i64 base, .slice a ms.length ca] 138)
  go_enter Try.func60, Try.ntmps60
  go_wp2_with fail
  refine (szMsgS_any a ca ms _ (ha.below bA)).mono ?_
  rintro e w1 ⟨r, rfl, hsz, b1⟩
  have B := bel_trans bA b1
  clear bA b1 ha
  rcases hsz with rfl | ⟨h0, h1, hsz⟩
  · go_wp2
    go_ret
    exact ⟨_, rfl, .inl rfl, B⟩
  · have HZ : Hid (ms.length ≤ 1048576 ∧ ∀ m ∈ ms, m.xs.length ≤ 1048576) := hsz
    clear hsz
    go_wp2
    go_ret
    exact ⟨_, rfl, .inr ⟨h0, h1, HZ.out⟩, B⟩
end Go.Proofs.Ytpahjfijpjgdnaa

/- A sender as the row hands it over. -/
namespace Go.Proofs.Ytpahjfijpjgdnaa
open Go.ChangeShapes Go.WideShapes Go.ChangeAt Go.RowKit
set_option linter.unusedVariables false

theorem add_off (a : Addr) (b off : Nat) (h : a = ⟨b, off, none⟩) (i : Nat) : a.add i = ⟨b, off + i, none⟩ := by
  subst h
  unfold Addr.add
  split <;> simp_all

/-- A list built index by index. -/
theorem list_of {α : Type} {p : Nat → α → Prop} (n : Nat) (h : ∀ i, i < n → ∃ x, p i x) : ∃ xs : List α, xs.length = n ∧ ∀ i x, xs[i]? = some x → p i x := by
  induction n with
  | zero => exact ⟨[], rfl, by simp⟩
  | succ n ih =>
    obtain ⟨xs, hl, hx⟩ := ih (fun i hi => h i (by omega))
    obtain ⟨y, hy⟩ := h n (by omega)
    refine ⟨xs ++ [y], by simp [hl], fun i x hi => ?_⟩
    by_cases hin : i < xs.length
    · rw [List.getElem?_append_left hin] at hi
      exact hx i x hi
    · rw [List.getElem?_append_right (by omega)] at hi
      have : i - xs.length = 0 := by
        have := (List.getElem?_eq_some_iff.1 hi).1
        simp at this
        omega
      rw [this] at hi
      simp at hi
      subst hi
      have e : i = n := by omega
      rw [e]
      exact hy

set_option maxRecDepth 100000 in
theorem open_msgs {H : Type} {enc : TypeId × Value → H} {W : World} {base : Nat} {held : Bool} {fuel : Nat} {v : Value} {x : DataW H × List MemPlace}
    (h : DataW.trod enc Try.prog W base (fun _ => true) held fuel 136 [v] = some x) :
    ∃ (a : Option Addr) (c : Nat) (ms : List M), v = .slice a ms.length c ∧ MCame W a c ms := by
  rcases Go.Deep.open_slice Try.underlying136 h with ⟨h0, _⟩ | ⟨a, len, cap, m, n, D, Pl, hcs, hb, hl, hm, hmm, _, hx⟩
  · simp at h0
    exact ⟨none, 0, [], h0, by simp [MCame]⟩
  · simp at hcs
    simp at hmm
    have key : ∀ i, i < len → ∃ x : M, (∃ b off, a = ⟨b, off, none⟩ ∧ At4 W b (off + i * 4) x) ∧ Came .i64 W x.a x.c x.xs := by
      intro i hi
      obtain ⟨cs', h1, h2⟩ := hx i (by omega)
      rw [cells_msg] at h1
      obtain ⟨k, p, o, a', c', xs, rfl, hcame, _, _⟩ := msg_cells h2
      obtain ⟨_, hlen, hcell⟩ := World.cells?_some h1
      have e0 := hcell 0 (by simp)
      have e1 := hcell 1 (by simp)
      have e2 := hcell 2 (by simp)
      have e3 := hcell 3 (by simp)
      rw [Go.Deep.add_add] at e0 e1 e2 e3
      have hs : a.spot = none := by
        obtain ⟨cs0, g1, g2⟩ := hx 0 (by omega)
        rw [cells_msg] at g1
        obtain ⟨_, _, _, _, _, _, rfl, _⟩ := msg_cells g2
        obtain ⟨_, _, gcell⟩ := World.cells?_some g1
        have g0 := gcell 0 (by simp)
        rw [Go.Deep.add_add] at g0
        simpa [Addr.add] using World.cell?_spot g0
      obtain ⟨b, off, spot⟩ := a
      have hspot : spot = none := hs
      subst hspot
      rw [add_off _ b off rfl] at e0 e1 e2 e3
      refine ⟨⟨k, p, o, a', c', xs⟩, ⟨b, off, rfl, ?_, ?_, ?_, ?_⟩, hcame⟩
      · simpa using e0
      · simpa [Nat.add_assoc] using e1
      · simpa [Nat.add_assoc] using e2
      · simpa [Nat.add_assoc] using e3
    obtain ⟨ms, hml, hms⟩ := list_of len key
    refine ⟨some a, cap, ms, by rw [hml]; exact hcs, by omega, hm, fun i x hi => ?_⟩
    obtain ⟨⟨b, off, rfl, h4⟩, hc⟩ := hms i x hi
    exact ⟨⟨b, off, rfl, h4⟩, hc⟩

set_option maxRecDepth 100000 in
theorem open_sender {H : Type} {enc : TypeId × Value → H} {W : World} {base : Nat} {held : Bool} {r : Reach} {b0 : Nat} {v : Value} {d : DataW H} {q : List MemPlace}
    (hv : Value.okWide Try.prog W r b0 138 v) (h : DataW.Trod enc Try.prog W base (fun _ => true) held 138 v d q) :
    ∃ (B : Int) (a : Option Addr) (c : Nat) (ms : List M), v = .agg #[.int .i64 B, .slice a ms.length c] ∧ MCame W a c ms ∧ (Lit.int .i64 B).wf = true := by
  obtain ⟨c0, c1, y0, y1, fu, rfl, _, _, hy0, hy1⟩ := Go.Joins.open_agg2 Try.underlying138 (by kernel_rfl) (by kernel_rfl) hv h
  obtain ⟨B, e0, _, wB⟩ := DataW.trod_int Try.underlying3 hy0
  obtain ⟨a, c, ms, rfl, hc⟩ := open_msgs hy1
  simp at e0
  subst e0
  exact ⟨B, a, c, ms, rfl, hc, wB⟩
end Go.Proofs.Ytpahjfijpjgdnaa
