/- What the law's szSender does; a row of messages as it came in. -/
import Derived.Test.YtiaiomjoapbalaaSndTo
import Derived.Test.YtiaiomjoapbalaaOpenC
namespace Go.Proofs.Ytiaiomjoapbalaa
open Go.RowKit
set_option linter.unusedVariables false

/-- A slice of messages that came in, without a bound on lengths. -/
def MCame (w : World) (a : Option Addr) (cap : Nat) (ms : List M) : Prop :=
  ms.length ≤ cap ∧ cap ≤ maxLen ∧ ∀ i m, ms[i]? = some m → (∃ b off, a = some ⟨b, off, none⟩ ∧ At4 w b (off + i * 4) m) ∧ Came .i64 w m.a m.c m.xs

theorem Came.below {k : IntKind} {w w' : World} {a : Option Addr} {cap : Nat} {xs : List Int} (h : Came k w a cap xs) (hb : Below w.heap.size w w') : Came k w' a cap xs := by
  refine ⟨h.1, h.2.1, h.2.2.1, fun i hi => ?_⟩
  obtain ⟨b, off, rfl, hc⟩ := h.2.2.2 i hi
  exact ⟨b, off, rfl, (hb.cell (p := ⟨b, off + i, none⟩) (lt_of_cell hc)).trans hc⟩

theorem MCame.below {w w' : World} {a : Option Addr} {cap : Nat} {ms : List M} (h : MCame w a cap ms) (hb : Below w.heap.size w w') : MCame w' a cap ms := by
  refine ⟨h.1, h.2.1, fun i m hi => ?_⟩
  obtain ⟨⟨b, off, rfl, h4⟩, hr⟩ := h.2.2 i m hi
  exact ⟨⟨b, off, rfl, h4.below hb⟩, hr.below hb⟩

theorem MCame.mrow {w : World} {a : Option Addr} {cap : Nat} {ms : List M} (h : MCame w a cap ms) (hl : ms.length ≤ 1048576) (hx : ∀ m ∈ ms, m.xs.length ≤ 1048576) : MRow w a ms :=
  ⟨by omega, fun i m hm => ⟨(h.2.2 i m hm).1, (h.2.2 i m hm).2.row (by have := hx m (List.mem_of_getElem? hm); omega)⟩⟩

def SzOk (L : Int) (n : Nat) (r : Int) : Prop := r = -1 ∨ (r = L - n ∧ 0 ≤ r)

set_option maxRecDepth 100000 in
set_option maxHeartbeats 1000000 in
theorem szMsg_gen (k p : Int) (o : Bool) (a : Option Addr) (n c : Nat) (L : Int) (w : World) (h0 : 0 ≤ L) (h1 : L ≤ 1048576) (hn : n ≤ maxLen) :
    Calls Try.prog 38 #[.agg #[.int .i64 k, .int .i64 p, .bool o, .slice a n c], .int .i64 L] w fun e w' => ∃ r, e = .returned (.int .i64 r) ∧ SzOk L n r ∧ Below w.heap.size w w' := by
  unfold maxLen at hn
  have bA := bel_alloc (Below.refl w.heap.size w) (.cells #[.int .i64 k, .int .i64 p, .bool o, .slice a n c] 63)
  by_cases h : (n : Int) ≤ L
  · go_enter Try.func38, Try.ntmps38
    go_wp2
    go_ret
    exact ⟨_, rfl, .inr ⟨rfl, by omega⟩, bA⟩
  · go_enter Try.func38, Try.ntmps38
    go_wp2
    go_ret
    exact ⟨_, rfl, .inl rfl, bA⟩

/-- What szMsgS and szSender tell. -/
def SzS (ms : List M) (r : Int) : Prop := r = -1 ∨ (0 ≤ r ∧ r ≤ 1048576 ∧ ms.length ≤ 1048576 ∧ ∀ m ∈ ms, m.xs.length ≤ 1048576)

set_option maxRecDepth 100000 in
set_option maxHeartbeats 1000000 in
theorem szMsgS_any (a : Option Addr) (ca : Nat) (ms : List M) (w : World) (ha : MCame w a ca ms) :
    Calls Try.prog 86 #[.slice a ms.length ca, .int .i64 1048576] w fun e w' => ∃ r, e = .returned (.int .i64 r) ∧ SzS ms r ∧ Below w.heap.size w w' := by
  obtain ⟨n, hn⟩ : ∃ n, ms.length = n := ⟨_, rfl⟩
  have HN : Hid (ms.length = n) := hn
  have hl : n ≤ 9223372036854775807 := by have h1 := ha.1; have h2 := ha.2.1; unfold maxLen at h2; omega
  rw [hn]
  clear hn
  by_cases hb : 1048576 < n
  · have hb' : (1048576 : Int) < (n : Int) := by omega
    clear ha
    go_enter Try.func86, Try.ntmps86
    go_wp2
    go_ret
    exact ⟨_, rfl, .inl rfl, Below.refl _ _⟩
  · have hb' : (n : Int) ≤ 1048576 := by omega
    go_enter Try.func86, Try.ntmps86
    go_wp2
    go_loopw [1, 5] (fun q i wr => ∃ (k : Nat) (L : Int), k ≤ n ∧ i = .int .i64 k ∧ q = .int .i64 L ∧ 0 ≤ L ∧ L ≤ 1048576 ∧ (∀ j m, j < k → ms[j]? = some m → m.xs.length ≤ 1048576) ∧ MCame wr a ca ms ∧ Below w.heap.size w wr) (fun _ i _ => n - (intOf i).toNat)
    case atStart => exact ⟨0, _, Nat.zero_le _, rfl, rfl, by omega, by omega, fun j m hj => by omega, ha, Below.refl _ _⟩
    case round =>
      obtain ⟨k, L, hk, rfl, rfl, hL0, hL1, hdone, hm, hB⟩ := hrel
      have HD : Hid (∀ j m, j < k → ms[j]? = some m → m.xs.length ≤ 1048576) := hdone
      clear hdone
      by_cases hlt : k < n
      · have hi : (k : Int) < (n : Int) := by omega
        obtain ⟨m, hmk⟩ : ∃ m, ms[k]? = some m := ⟨_, List.getElem?_eq_getElem (by have := HN.out; omega)⟩
        have HM : Hid (ms[k]? = some m) := hmk
        obtain ⟨⟨b, off, rfl, y0, y1, y2, y3⟩, hcm⟩ := hm.2.2 k m hmk
        have hml : m.xs.length ≤ maxLen := Nat.le_trans hcm.1 hcm.2.1
        clear hmk hcm ha
        go_wp2_with fail
        refine (szMsg_gen m.k m.p m.o m.a m.xs.length m.c L _ hL0 hL1 hml).mono ?_
        rintro e w1 ⟨r, rfl, hsz, b1⟩
        have hm1 := hm.below b1
        have hB1 := bel_trans hB b1
        clear hm hB b1 y0 y1 y2 y3 hml
        rcases hsz with rfl | ⟨hr, hr0⟩
        · clear hm1
          go_wp2
          go_ret
          exact ⟨_, rfl, .inl rfl, hB1⟩
        · have HX : Hid (∀ j m, j < k + 1 → ms[j]? = some m → m.xs.length ≤ 1048576) := fun j m' hj hjm => by
            by_cases hjk : j < k
            · exact HD.out j m' hjk hjm
            · have : j = k := by omega
              subst this
              rw [HM.out] at hjm
              simp at hjm
              subst hjm
              omega
          have hr1 : r ≤ 1048576 := by omega
          clear hr
          go_wp2
          go_roundw
          case rel => exact ⟨k + 1, r, by omega, by go_num, rfl, hr0, hr1, HX.out, hm1, hB1⟩
          case measure => simp [intOf]; omega
      · clear ha hm
        go_wp2
        go_ret
        refine ⟨_, rfl, .inr ⟨hL0, hL1, by have := HN.out; omega, fun m hm' => ?_⟩, hB⟩
        obtain ⟨j, hj, rfl⟩ := List.getElem_of_mem hm'
        exact HD.out j _ (by have := HN.out; omega) (List.getElem?_eq_getElem hj)

set_option maxRecDepth 100000 in
set_option maxHeartbeats 1000000 in
theorem szSender_any (base : Int) (a : Option Addr) (ca : Nat) (ms : List M) (w : World) (ha : MCame w a ca ms) :
    Calls Try.prog 68 #[.agg #[.int .i64 base, .slice a ms.length ca], .int .i64 1048576] w fun e w' => ∃ r, e = .returned (.int .i64 r) ∧ SzS ms r ∧ Below w.heap.size w w' := by
  have bA := bel_alloc (Below.refl w.heap.size w) (.cells #[.int .i64 base, .slice a ms.length ca] 124)
  go_enter Try.func68, Try.ntmps68
  go_wp2_with fail
  refine (szMsgS_any a ca ms _ (ha.below bA)).mono ?_
  rintro e w1 ⟨r, rfl, hsz, b1⟩
  have B := bel_trans bA b1
  clear bA b1 ha
  rcases hsz with rfl | ⟨h0, h1, hsz⟩
  · go_wp2
    go_ret
    exact ⟨_, rfl, .inl rfl, B⟩
  · have HZ : Hid (ms.length ≤ 1048576 ∧ ∀ m ∈ ms, m.xs.length ≤ 1048576) := hsz
    clear hsz
    go_wp2
    go_ret
    exact ⟨_, rfl, .inr ⟨h0, h1, HZ.out⟩, B⟩
end Go.Proofs.Ytiaiomjoapbalaa
