/- How great a node is: what the law's szFrameS, szHomeS, szSenderS, szReceiverS and szNode tell of one that came in (written by mknz.py). -/
import Derived.Test.YtpahjfijpjgdnaaNdT3
import Derived.Test.YtpahjfijpjgdnaaOpenH
import Derived.Test.YtpahjfijpjgdnaaOpenS
namespace Go.Proofs.Ytpahjfijpjgdnaa
open Go.RowKit
set_option linter.unusedVariables false

def HC2 (w : World) (a : Option Addr) (n : Nat) (d : Nat → HD) (p : Nat → HP) : Prop := n ≤ maxLen ∧ VCame w a (chunks n fun i => hcells (d i) (p i)) ∧
  ∀ i, i < n → Came .i64 w (p i).l.1 (p i).l.2 (d i).xs ∧ VCame w (p i).r.1 (bv (d i).bs) ∧ VCame w (p i).q.1 (wv (d i).ws) ∧ (d i).bs.length ≤ maxLen ∧ (d i).ws.length ≤ maxLen
def SC (w : World) (a : Option Addr) (n : Nat) (b : Nat → Int) (y : Nat → List Say) (p : Nat → Pl) (ms : Nat → List M) : Prop := n ≤ maxLen ∧ VCame w a (chunks n fun i => scells (b i) (p i) (y i).length) ∧
  ∀ i, i < n → MCame w (p i).1 (p i).2 (ms i) ∧ (ms i).map M.say = y i
def GC (w : World) (a : Option Addr) (n : Nat) (g : Nat → Int) : Prop := n ≤ maxLen ∧ VCame w a (chunks n fun i => gcells (g i))
theorem HC2.below {w w' : World} {a : Option Addr} {n : Nat} {d : Nat → HD} {p : Nat → HP} (h : HC2 w a n d p) (hb : Below w.heap.size w w') : HC2 w' a n d p :=
  ⟨h.1, h.2.1.below hb, fun i hi => ⟨(h.2.2 i hi).1.below hb, (h.2.2 i hi).2.1.below hb, (h.2.2 i hi).2.2.1.below hb, (h.2.2 i hi).2.2.2⟩⟩
theorem SC.below {w w' : World} {a : Option Addr} {n : Nat} {b : Nat → Int} {y : Nat → List Say} {p : Nat → Pl} {ms : Nat → List M} (h : SC w a n b y p ms) (hb : Below w.heap.size w w') : SC w' a n b y p ms :=
  ⟨h.1, h.2.1.below hb, fun i hi => ⟨(h.2.2 i hi).1.below hb, (h.2.2 i hi).2⟩⟩
theorem GC.below {w w' : World} {a : Option Addr} {n : Nat} {g : Nat → Int} (h : GC w a n g) (hb : Below w.heap.size w w') : GC w' a n g := ⟨h.1, h.2.below hb⟩
theorem HC2.hr {w : World} {a : Option Addr} {n : Nat} {d : Nat → HD} {p : Nat → HP} (h : HC2 w a n d p) (hn : n ≤ 1048576) (hx : ∀ i, i < n → (d i).xs.length ≤ 1048576 ∧ (d i).bs.length ≤ 1048576 ∧ (d i).ws.length ≤ 1048576) : HR2 w a n d p :=
  ⟨by omega, h.2.1.vrow (by rw [chunks_length (s := 8) n (fun i _ => rfl)]; omega), fun i hi => ⟨(h.2.2 i hi).1.row (by have := hx i hi; omega), (h.2.2 i hi).2.1.vrow (by rw [bv_length]; have := hx i hi; omega), (h.2.2 i hi).2.2.1.vrow (by rw [wv_length]; have := hx i hi; omega)⟩⟩
theorem SC.sr {w : World} {a : Option Addr} {n : Nat} {b : Nat → Int} {y : Nat → List Say} {p : Nat → Pl} {ms : Nat → List M} (h : SC w a n b y p ms) (hn : n ≤ 1048576) (hx : ∀ i, i < n → (y i).length ≤ 1048576 ∧ ∀ s ∈ y i, s.2.2.2.length ≤ 1048576) : SR w a n b y p ms := by
  refine ⟨by omega, h.2.1.vrow (by rw [chunks_length (s := 2) n (fun i _ => rfl)]; omega), fun i hi => ⟨(h.2.2 i hi).1.mrow ?_ ?_, (h.2.2 i hi).2⟩⟩
  · have h1 := congrArg List.length (h.2.2 i hi).2
    have := hx i hi
    simp at h1
    omega
  · intro m hm
    have h1 : m.say ∈ y i := by rw [← (h.2.2 i hi).2]; exact List.mem_map_of_mem hm
    have := (hx i hi).2 _ h1
    simpa [M.say] using this
theorem GC.gr {w : World} {a : Option Addr} {n : Nat} {g : Nat → Int} (h : GC w a n g) (hn : n ≤ 1048576) : GR w a n g := ⟨by omega, h.2.vrow (by rw [chunks_length (s := 1) n (fun i _ => rfl)]; omega)⟩

set_option maxRecDepth 100000 in
set_option maxHeartbeats 1000000 in
theorem szFrame_gen (s : Int) (q : Bool) (a : Option Addr) (n c : Nat) (L : Int) (w : World) (h0 : 0 ≤ L) (h1 : L ≤ 1048576) (hn : n ≤ maxLen) :
    Calls Try.prog 58 #[.agg #[.int .i64 s, .slice a n c, .bool q], .int .i64 L] w fun e w' => ∃ r, e = .returned (.int .i64 r) ∧ (r = -1 ∨ (0 ≤ r ∧ r ≤ 1048576 ∧ n ≤ 1048576)) ∧ Below w.heap.size w w' := by
  unfold maxLen at hn
  have bA := bel_alloc (Below.refl w.heap.size w) (.cells #[.int .i64 s, .slice a n c, .bool q] 127)
  by_cases h : (n : Int) ≤ L
  · go_enter Try.func58, Try.ntmps58
    go_wp2
    go_ret
    exact ⟨_, rfl, .inr ⟨by omega, by omega, by omega⟩, bA⟩
  · go_enter Try.func58, Try.ntmps58
    go_wp2
    go_ret
    exact ⟨_, rfl, .inl rfl, bA⟩

set_option maxRecDepth 100000 in
set_option maxHeartbeats 1000000 in
theorem szHome_gen (ow wh ak : Int) (bz wo : Bool) (al ar aq : Option Addr) (nl cl nr cr nq cq : Nat) (L : Int) (w : World) (h0 : 0 ≤ L) (h9 : L ≤ 1048576) (hl : nl ≤ maxLen) (hr : nr ≤ maxLen) (hq : nq ≤ maxLen) :
    Calls Try.prog 59 #[.agg #[.slice al nl cl, .int .i64 ow, .slice ar nr cr, .bool bz, .int .i64 wh, .bool wo, .int .i64 ak, .slice aq nq cq], .int .i64 L] w fun e w' => ∃ r, e = .returned (.int .i64 r) ∧ (r = -1 ∨ (0 ≤ r ∧ r ≤ 1048576 ∧ nl ≤ 1048576 ∧ nr ≤ 1048576 ∧ nq ≤ 1048576)) ∧ Below w.heap.size w w' := by
  unfold maxLen at hl hr hq
  have bA := bel_alloc (Below.refl w.heap.size w) (.cells #[.slice al nl cl, .int .i64 ow, .slice ar nr cr, .bool bz, .int .i64 wh, .bool wo, .int .i64 ak, .slice aq nq cq] 134)
  by_cases h1 : (nl : Int) ≤ L
  · by_cases h2 : (nl : Int) + nr ≤ L
    · by_cases h3 : (nl : Int) + nr + nq ≤ L
      · go_enter Try.func59, Try.ntmps59
        go_wp2
        go_ret
        exact ⟨_, rfl, .inr ⟨by omega, by omega, by omega, by omega, by omega⟩, bA⟩
      · go_enter Try.func59, Try.ntmps59
        go_wp2
        go_ret
        exact ⟨_, rfl, .inl rfl, bA⟩
    · go_enter Try.func59, Try.ntmps59
      go_wp2
      go_ret
      exact ⟨_, rfl, .inl rfl, bA⟩
  · go_enter Try.func59, Try.ntmps59
    go_wp2
    go_ret
    exact ⟨_, rfl, .inl rfl, bA⟩

set_option maxRecDepth 100000 in
set_option maxHeartbeats 1000000 in
theorem szMsgS_gen (a : Option Addr) (ca : Nat) (ms : List M) (L0 : Int) (w : World) (l0 : 0 ≤ L0) (l1 : L0 ≤ 1048576) (ha : MCame w a ca ms) :
    Calls Try.prog 74 #[.slice a ms.length ca, .int .i64 L0] w fun e w' => ∃ r, e = .returned (.int .i64 r) ∧ SzS ms r ∧ Below w.heap.size w w' := by
  obtain ⟨n, hn⟩ : ∃ n, ms.length = n := ⟨_, rfl⟩
  have HN : Hid (ms.length = n) := hn
  have hl : n ≤ 9223372036854775807 := by have h1 := ha.1; have h2 := ha.2.1; unfold maxLen at h2; omega
  rw [hn]
  clear hn
  by_cases hb : L0 < (n : Int)
  · have hb' : L0 < (n : Int) := by omega
    clear ha
    go_enter Try.func74, Try.ntmps74
    go_wp2
    go_ret
    exact ⟨_, rfl, .inl rfl, Below.refl _ _⟩
  · have hb' : (n : Int) ≤ L0 := by omega
    go_enter Try.func74, Try.ntmps74
    go_wp2
    go_loopw [1, 5] (fun q i wr => ∃ (k : Nat) (L : Int), k ≤ n ∧ i = .int .i64 k ∧ q = .int .i64 L ∧ 0 ≤ L ∧ L ≤ 1048576 ∧ (∀ j m, j < k → ms[j]? = some m → m.xs.length ≤ 1048576) ∧ MCame wr a ca ms ∧ Below w.heap.size w wr) (fun _ i _ => n - (intOf i).toNat)
    case atStart => exact ⟨0, _, Nat.zero_le _, rfl, rfl, by omega, by omega, fun j m hj => by omega, ha, Below.refl _ _⟩
    case round =>
      obtain ⟨k, L, hk, rfl, rfl, hL0, hL1, hdone, hm, hB⟩ := hrel
      have HD : Hid (∀ j m, j < k → ms[j]? = some m → m.xs.length ≤ 1048576) := hdone
      clear hdone
      by_cases hlt : k < n
      · have hi : (k : Int) < (n : Int) := by omega
        obtain ⟨m, hmk⟩ : ∃ m, ms[k]? = some m := ⟨_, List.getElem?_eq_getElem (by have := HN.out; omega)⟩
        have HM : Hid (ms[k]? = some m) := hmk
        obtain ⟨⟨b, off, rfl, y0, y1, y2, y3⟩, hcm⟩ := hm.2.2 k m hmk
        have hml : m.xs.length ≤ maxLen := Nat.le_trans hcm.1 hcm.2.1
        clear hmk hcm ha
        go_wp2_with fail
        refine (szMsg_gen m.k m.p m.o m.a m.xs.length m.c L _ hL0 hL1 hml).mono ?_
        rintro e w1 ⟨r, rfl, hsz, b1⟩
        have hm1 := hm.below b1
        have hB1 := bel_trans hB b1
        clear hm hB b1 y0 y1 y2 y3 hml
        rcases hsz with rfl | ⟨hr, hr0⟩
        · clear hm1
          go_wp2
          go_ret
          exact ⟨_, rfl, .inl rfl, hB1⟩
        · have HX : Hid (∀ j m, j < k + 1 → ms[j]? = some m → m.xs.length ≤ 1048576) := fun j m' hj hjm => by
            by_cases hjk : j < k
            · exact HD.out j m' hjk hjm
            · have : j = k := by omega
              subst this
              rw [HM.out] at hjm
              simp at hjm
              subst hjm
              omega
          have hr1 : r ≤ 1048576 := by omega
          clear hr
          go_wp2
          go_roundw
          case rel => exact ⟨k + 1, r, by omega, by go_num, rfl, hr0, hr1, HX.out, hm1, hB1⟩
          case measure => simp [intOf]; omega
      · clear ha hm
        go_wp2
        go_ret
        refine ⟨_, rfl, .inr ⟨hL0, hL1, by have := HN.out; omega, fun m hm' => ?_⟩, hB⟩
        obtain ⟨j, hj, rfl⟩ := List.getElem_of_mem hm'
        exact HD.out j _ (by have := HN.out; omega) (List.getElem?_eq_getElem hj)

set_option maxRecDepth 100000 in
set_option maxHeartbeats 1000000 in
theorem szSender_gen (base : Int) (a : Option Addr) (ca : Nat) (ms : List M) (L0 : Int) (w : World) (l0 : 0 ≤ L0) (l1 : L0 ≤ 1048576) (ha : MCame w a ca ms) :
    Calls Try.prog 60 #[.agg #[.int .i64 base, .slice a ms.length ca], .int .i64 L0] w fun e w' => ∃ r, e = .returned (.int .i64 r) ∧ SzS ms r ∧ Below w.heap.size w w' := by
  have bA := bel_alloc (Below.refl w.heap.size w) (.cells #[.int .i64 base, .slice a ms.length ca] 138)
  go_enter Try.func60, Try.ntmps60
  go_wp2_with fail
  refine (szMsgS_gen a ca ms L0 _ l0 l1 (ha.below bA)).mono ?_
  rintro e w1 ⟨r, rfl, hsz, b1⟩
  have B := bel_trans bA b1
  clear bA b1 ha
  rcases hsz with rfl | ⟨h0, h1, hsz⟩
  · go_wp2
    go_ret
    exact ⟨_, rfl, .inl rfl, B⟩
  · have HZ : Hid (ms.length ≤ 1048576 ∧ ∀ m ∈ ms, m.xs.length ≤ 1048576) := hsz
    clear hsz
    go_wp2
    go_ret
    exact ⟨_, rfl, .inr ⟨h0, h1, HZ.out⟩, B⟩

set_option maxRecDepth 100000 in
set_option maxHeartbeats 1000000 in
theorem szFrameS_gen (a : Option Addr) (ca n : Nat) (d : Nat → FD) (p : Nat → Pl) (L0 : Int) (w : World) (l0 : 0 ≤ L0) (l1 : L0 ≤ 1048576) (ha : FC w a n d p) :
    Calls Try.prog 37 #[.slice a n ca, .int .i64 L0] w fun e w' => ∃ r, e = .returned (.int .i64 r) ∧ (r = -1 ∨ (0 ≤ r ∧ r ≤ 1048576 ∧ n ≤ 1048576 ∧ ∀ i, i < n → (d i).xs.length ≤ 1048576)) ∧ Below w.heap.size w w' := by
  have hl : n ≤ 9223372036854775807 := by have h1 := ha.1; unfold maxLen at h1; omega
  by_cases hb : L0 < (n : Int)
  · clear ha
    go_enter Try.func37, Try.ntmps37
    go_wp2
    go_ret
    exact ⟨_, rfl, .inl rfl, Below.refl _ _⟩
  · have hb' : (n : Int) ≤ L0 := by omega
    go_enter Try.func37, Try.ntmps37
    go_wp2
    go_loopw [1, 5] (fun q i wr => ∃ (k : Nat) (L : Int), k ≤ n ∧ i = .int .i64 k ∧ q = .int .i64 L ∧ 0 ≤ L ∧ L ≤ 1048576 ∧ (∀ i, i < k → (d i).xs.length ≤ 1048576) ∧ FC wr a n d p ∧ Below w.heap.size w wr) (fun _ i _ => n - (intOf i).toNat)
    case atStart => exact ⟨0, _, Nat.zero_le _, rfl, rfl, by omega, by omega, fun j hj => absurd hj (Nat.not_lt_zero j), ha, Below.refl _ _⟩
    case round =>
      obtain ⟨k, L, hk, rfl, rfl, hL0, hL1, hdone, hm, hB⟩ := hrel
      have HD : Hid (∀ i, i < k → (d i).xs.length ≤ 1048576) := hdone
      clear hdone
      by_cases hlt : k < n
      · have hi : (k : Int) < (n : Int) := by omega
        obtain ⟨b, off, rfl, hc⟩ := hm.2.1.chunk (s := 3) (fun i _ => rfl) (by decide) hlt
        have y0 := hc 0 _ rfl
        have y1 := hc 1 _ rfl
        have y2 := hc 2 _ rfl
        rw [Nat.add_zero] at y0
        have hml : (d k).xs.length ≤ maxLen := Nat.le_trans (hm.2.2 k hlt).1 (hm.2.2 k hlt).2.1
        clear hc
        clear ha
        go_wp2_with fail
        refine (szFrame_gen (d k).s (d k).q (p k).1 (d k).xs.length (p k).2 L _ hL0 hL1 hml).mono ?_
        rintro e w1 ⟨r, rfl, hsz, b1⟩
        have hm1 := hm.below b1
        have hB1 := bel_trans hB b1
        clear hm hB b1 y0 y1 y2 hml
        rcases hsz with rfl | ⟨hr0, hr1, hr2⟩
        · clear hm1
          go_wp2
          go_ret
          exact ⟨_, rfl, .inl rfl, hB1⟩
        · have HX : Hid (∀ i, i < k + 1 → (d i).xs.length ≤ 1048576) := fun i hi => by
            by_cases e : i = k
            · subst e
              exact hr2
            · exact HD.out i (by omega)
          clear hr2
          go_wp2
          go_roundw
          case rel => exact ⟨k + 1, r, by omega, by go_num, rfl, hr0, hr1, HX.out, hm1, hB1⟩
          case measure => simp [intOf]; omega
      · clear ha hm
        go_wp2
        go_ret
        exact ⟨_, rfl, .inr ⟨hL0, hL1, by omega, fun i hi => HD.out i (by omega)⟩, hB⟩

set_option maxRecDepth 100000 in
set_option maxHeartbeats 1000000 in
theorem szHomeS_gen (a : Option Addr) (ca n : Nat) (d : Nat → HD) (p : Nat → HP) (L0 : Int) (w : World) (l0 : 0 ≤ L0) (l1 : L0 ≤ 1048576) (ha : HC2 w a n d p) :
    Calls Try.prog 38 #[.slice a n ca, .int .i64 L0] w fun e w' => ∃ r, e = .returned (.int .i64 r) ∧ (r = -1 ∨ (0 ≤ r ∧ r ≤ 1048576 ∧ n ≤ 1048576 ∧ ∀ i, i < n → (d i).xs.length ≤ 1048576 ∧ (d i).bs.length ≤ 1048576 ∧ (d i).ws.length ≤ 1048576)) ∧ Below w.heap.size w w' := by
  have hl : n ≤ 9223372036854775807 := by have h1 := ha.1; unfold maxLen at h1; omega
  by_cases hb : L0 < (n : Int)
  · clear ha
    go_enter Try.func38, Try.ntmps38
    go_wp2
    go_ret
    exact ⟨_, rfl, .inl rfl, Below.refl _ _⟩
  · have hb' : (n : Int) ≤ L0 := by omega
    go_enter Try.func38, Try.ntmps38
    go_wp2
    go_loopw [1, 5] (fun q i wr => ∃ (k : Nat) (L : Int), k ≤ n ∧ i = .int .i64 k ∧ q = .int .i64 L ∧ 0 ≤ L ∧ L ≤ 1048576 ∧ (∀ i, i < k → (d i).xs.length ≤ 1048576 ∧ (d i).bs.length ≤ 1048576 ∧ (d i).ws.length ≤ 1048576) ∧ HC2 wr a n d p ∧ Below w.heap.size w wr) (fun _ i _ => n - (intOf i).toNat)
    case atStart => exact ⟨0, _, Nat.zero_le _, rfl, rfl, by omega, by omega, fun j hj => absurd hj (Nat.not_lt_zero j), ha, Below.refl _ _⟩
    case round =>
      obtain ⟨k, L, hk, rfl, rfl, hL0, hL1, hdone, hm, hB⟩ := hrel
      have HD : Hid (∀ i, i < k → (d i).xs.length ≤ 1048576 ∧ (d i).bs.length ≤ 1048576 ∧ (d i).ws.length ≤ 1048576) := hdone
      clear hdone
      by_cases hlt : k < n
      · have hi : (k : Int) < (n : Int) := by omega
        obtain ⟨b, off, rfl, hc⟩ := hm.2.1.chunk (s := 8) (fun i _ => rfl) (by decide) hlt
        have y0 := hc 0 _ rfl
        have y1 := hc 1 _ rfl
        have y2 := hc 2 _ rfl
        have y3 := hc 3 _ rfl
        have y4 := hc 4 _ rfl
        have y5 := hc 5 _ rfl
        have y6 := hc 6 _ rfl
        have y7 := hc 7 _ rfl
        rw [Nat.add_zero] at y0
        obtain ⟨z0, z1, z2, z3, z4⟩ := hm.2.2 k hlt
        have hml : (d k).xs.length ≤ maxLen := Nat.le_trans z0.1 z0.2.1
        clear hc z0 z1 z2
        clear ha
        go_wp2_with fail
        refine (szHome_gen (d k).ow (d k).wh (d k).ak (d k).bz (d k).wo (p k).l.1 (p k).r.1 (p k).q.1 (d k).xs.length (p k).l.2 (d k).bs.length (p k).r.2 (d k).ws.length (p k).q.2 L _ hL0 hL1 hml z3 z4).mono ?_
        rintro e w1 ⟨r, rfl, hsz, b1⟩
        have hm1 := hm.below b1
        have hB1 := bel_trans hB b1
        clear hm hB b1 y0 y1 y2 y3 y4 y5 y6 y7 hml z3 z4
        rcases hsz with rfl | ⟨hr0, hr1, hr2⟩
        · clear hm1
          go_wp2
          go_ret
          exact ⟨_, rfl, .inl rfl, hB1⟩
        · have HX : Hid (∀ i, i < k + 1 → (d i).xs.length ≤ 1048576 ∧ (d i).bs.length ≤ 1048576 ∧ (d i).ws.length ≤ 1048576) := fun i hi => by
            by_cases e : i = k
            · subst e
              exact hr2
            · exact HD.out i (by omega)
          clear hr2
          go_wp2
          go_roundw
          case rel => exact ⟨k + 1, r, by omega, by go_num, rfl, hr0, hr1, HX.out, hm1, hB1⟩
          case measure => simp [intOf]; omega
      · clear ha hm
        go_wp2
        go_ret
        exact ⟨_, rfl, .inr ⟨hL0, hL1, by omega, fun i hi => HD.out i (by omega)⟩, hB⟩

theorem sz_say {ms : List M} {y : List Say} (he : ms.map M.say = y) (h : ms.length ≤ 1048576 ∧ ∀ m ∈ ms, m.xs.length ≤ 1048576) : y.length ≤ 1048576 ∧ ∀ s ∈ y, s.2.2.2.length ≤ 1048576 := by
  subst he
  refine ⟨by simpa using h.1, fun s hs => ?_⟩
  obtain ⟨m, hm, rfl⟩ := List.mem_map.1 hs
  exact h.2 m hm

set_option maxRecDepth 100000 in
set_option maxHeartbeats 1000000 in
theorem szSenderS_gen (a : Option Addr) (ca n : Nat) (b : Nat → Int) (y : Nat → List Say) (p : Nat → Pl) (ms : Nat → List M) (L0 : Int) (w : World) (l0 : 0 ≤ L0) (l1 : L0 ≤ 1048576) (ha : SC w a n b y p ms) :
    Calls Try.prog 39 #[.slice a n ca, .int .i64 L0] w fun e w' => ∃ r, e = .returned (.int .i64 r) ∧ (r = -1 ∨ (0 ≤ r ∧ r ≤ 1048576 ∧ n ≤ 1048576 ∧ ∀ i, i < n → (y i).length ≤ 1048576 ∧ ∀ s ∈ y i, s.2.2.2.length ≤ 1048576)) ∧ Below w.heap.size w w' := by
  have hl : n ≤ 9223372036854775807 := by have h1 := ha.1; unfold maxLen at h1; omega
  by_cases hb : L0 < (n : Int)
  · clear ha
    go_enter Try.func39, Try.ntmps39
    go_wp2
    go_ret
    exact ⟨_, rfl, .inl rfl, Below.refl _ _⟩
  · have hb' : (n : Int) ≤ L0 := by omega
    go_enter Try.func39, Try.ntmps39
    go_wp2
    go_loopw [1, 5] (fun q i wr => ∃ (k : Nat) (L : Int), k ≤ n ∧ i = .int .i64 k ∧ q = .int .i64 L ∧ 0 ≤ L ∧ L ≤ 1048576 ∧ (∀ i, i < k → (y i).length ≤ 1048576 ∧ ∀ s ∈ y i, s.2.2.2.length ≤ 1048576) ∧ SC wr a n b y p ms ∧ Below w.heap.size w wr) (fun _ i _ => n - (intOf i).toNat)
    case atStart => exact ⟨0, _, Nat.zero_le _, rfl, rfl, by omega, by omega, fun j hj => absurd hj (Nat.not_lt_zero j), ha, Below.refl _ _⟩
    case round =>
      obtain ⟨k, L, hk, rfl, rfl, hL0, hL1, hdone, hm, hB⟩ := hrel
      have HD : Hid (∀ i, i < k → (y i).length ≤ 1048576 ∧ ∀ s ∈ y i, s.2.2.2.length ≤ 1048576) := hdone
      clear hdone
      by_cases hlt : k < n
      · have hi : (k : Int) < (n : Int) := by omega
        obtain ⟨bl, off, rfl, hc⟩ := hm.2.1.chunk (s := 2) (fun i _ => rfl) (by decide) hlt
        have y0 := hc 0 _ rfl
        have y1 := hc 1 _ rfl
        rw [Nat.add_zero] at y0
        obtain ⟨z0, z1⟩ := hm.2.2 k hlt
        have HE : Hid ((ms k).map M.say = y k) := z1
        have HLn : (y k).length = (ms k).length := by have := congrArg List.length z1; simpa using this.symm
        rw [HLn] at y1
        clear hc z1 HLn
        clear ha
        go_wp2_with fail
        refine (szSender_gen (b k) (p k).1 (p k).2 (ms k) L _ hL0 hL1 z0).mono ?_
        rintro e w1 ⟨r, rfl, hsz, b1⟩
        have hm1 := hm.below b1
        have hB1 := bel_trans hB b1
        clear hm hB b1 y0 y1 z0
        rcases hsz with rfl | ⟨hr0, hr1, hr2⟩
        · clear hm1
          go_wp2
          go_ret
          exact ⟨_, rfl, .inl rfl, hB1⟩
        · have HX : Hid (∀ i, i < k + 1 → (y i).length ≤ 1048576 ∧ ∀ s ∈ y i, s.2.2.2.length ≤ 1048576) := fun i hi => by
            by_cases e : i = k
            · subst e
              exact sz_say HE.out hr2
            · exact HD.out i (by omega)
          clear hr2
          go_wp2
          go_roundw
          case rel => exact ⟨k + 1, r, by omega, by go_num, rfl, hr0, hr1, HX.out, hm1, hB1⟩
          case measure => simp [intOf]; omega
      · clear ha hm
        go_wp2
        go_ret
        exact ⟨_, rfl, .inr ⟨hL0, hL1, by omega, fun i hi => HD.out i (by omega)⟩, hB⟩

set_option maxHeartbeats 1000000 in
theorem szReceiverS_gen (a : Option Addr) (ca n : Nat) (L0 : Int) (w : World) (l0 : 0 ≤ L0) (l1 : L0 ≤ 1048576) (hn : n ≤ maxLen) :
    Calls Try.prog 40 #[.slice a n ca, .int .i64 L0] w fun e w' => ∃ r, e = .returned (.int .i64 r) ∧ (r = -1 ∨ (0 ≤ r ∧ r ≤ 1048576 ∧ n ≤ 1048576)) ∧ Below w.heap.size w w' := by
  unfold maxLen at hn
  by_cases hb : L0 < (n : Int)
  · go_enter Try.func40, Try.ntmps40
    go_wp2
    go_ret
    exact ⟨_, rfl, .inl rfl, Below.refl _ _⟩
  · go_enter Try.func40, Try.ntmps40
    go_wp2
    go_ret
    exact ⟨_, rfl, .inr ⟨by omega, by omega, by omega⟩, Below.refl _ _⟩

/-- A node that came in. -/
structure NC (w : World) (d : ND) (p : NP) : Prop where
  f : FC w p.f.1 d.nf d.f p.fp
  h : HC2 w p.h.1 d.nh d.h p.hp
  o : SC w p.o.1 d.no d.b d.y p.op p.ms
  i : GC w p.i.1 d.ni d.g
theorem NC.below {w w' : World} {d : ND} {p : NP} (h : NC w d p) (b : Below w.heap.size w w') : NC w' d p := ⟨h.f.below b, h.h.below b, h.o.below b, h.i.below b⟩
theorem NC.nr {w : World} {d : ND} {p : NP} (h : NC w d p) (s : Nsm d) : NR w d p := ⟨h.f.fr s.f.1 s.f.2, h.h.hr s.h.1 s.h.2, h.o.sr s.o.1 s.o.2, h.i.gr s.i⟩

set_option maxRecDepth 100000 in
set_option maxHeartbeats 2000000 in
theorem szNode_any (d : ND) (p : NP) (w : World) (hC : NC w d p) :
    Calls Try.prog 25 #[.agg (ncells d p), .int .i64 1048576] w fun e w' => ∃ r, e = .returned (.int .i64 r) ∧ (r = -1 ∨ (0 ≤ r ∧ Nsm d)) ∧ Below w.heap.size w w' := by
  have B := bel_alloc (Below.refl w.heap.size w) (.cells (ncells d p) 73)
  have X := Box.new w (ncells d p) 73
  replace hC := hC.below B
  go_enter Try.func25, Try.ntmps25
  go_wp2_with fail
  refine (szFrameS_gen _ _ d.nf d.f p.fp 1048576 _ (by omega) (by omega) hC.f).mono ?_
  rintro e w1 ⟨r1, rfl, h1, b1⟩
  replace X := X.below b1
  replace hC := hC.below b1
  replace B := bel_trans B b1
  clear b1
  rcases h1 with rfl | ⟨l1, u1, s1⟩
  · clear X hC
    go_wp2
    go_ret
    exact ⟨_, rfl, .inl rfl, B⟩
  have S1 : Hid (d.nf ≤ 1048576 ∧ ∀ i, i < d.nf → (d.f i).xs.length ≤ 1048576) := s1
  clear s1
  obtain ⟨x0, x1, x2, x3, x4, zx⟩ := X.at5
  go_wp2_with fail
  refine (szHomeS_gen _ _ d.nh d.h p.hp r1 _ l1 u1 hC.h).mono ?_
  rintro e w2 ⟨r2, rfl, h2, b1⟩
  replace X := X.below b1
  replace hC := hC.below b1
  replace B := bel_trans B b1
  clear b1 x0 x1 x2 x3 x4 zx
  rcases h2 with rfl | ⟨l2, u2, s2⟩
  · clear X hC
    go_wp2
    go_ret
    exact ⟨_, rfl, .inl rfl, B⟩
  have S2 : Hid (d.nh ≤ 1048576 ∧ ∀ i, i < d.nh → (d.h i).xs.length ≤ 1048576 ∧ (d.h i).bs.length ≤ 1048576 ∧ (d.h i).ws.length ≤ 1048576) := s2
  clear s2
  obtain ⟨x0, x1, x2, x3, x4, zx⟩ := X.at5
  go_wp2_with fail
  refine (szSenderS_gen _ _ d.no d.b d.y p.op p.ms r2 _ l2 u2 hC.o).mono ?_
  rintro e w3 ⟨r3, rfl, h3, b1⟩
  replace X := X.below b1
  replace hC := hC.below b1
  replace B := bel_trans B b1
  clear b1 x0 x1 x2 x3 x4 zx
  rcases h3 with rfl | ⟨l3, u3, s3⟩
  · clear X hC
    go_wp2
    go_ret
    exact ⟨_, rfl, .inl rfl, B⟩
  have S3 : Hid (d.no ≤ 1048576 ∧ ∀ i, i < d.no → (d.y i).length ≤ 1048576 ∧ ∀ s ∈ d.y i, s.2.2.2.length ≤ 1048576) := s3
  clear s3
  obtain ⟨x0, x1, x2, x3, x4, zx⟩ := X.at5
  go_wp2_with fail
  refine (szReceiverS_gen _ _ d.ni r3 _ l3 u3 hC.i.1).mono ?_
  rintro e w4 ⟨r4, rfl, h4, b1⟩
  replace B := bel_trans B b1
  clear b1 x0 x1 x2 x3 x4 zx X hC
  rcases h4 with rfl | ⟨l4, u4, s4⟩
  · go_wp2
    go_ret
    exact ⟨_, rfl, .inl rfl, B⟩
  go_wp2
  go_ret
  exact ⟨_, rfl, .inr ⟨l4, S1.out, S2.out, S3.out, s4⟩, B⟩
end Go.Proofs.Ytpahjfijpjgdnaa
