/- WoZ and WzT: see the heads of the parts. -/
import Derived.Test.YtbcngjciekfomaaGreatWoR
import Derived.Test.YtbcngjciekfomaaGreatNdZ
import Derived.Test.YtbcngjciekfomaaGreatWtR
/- How great a world is: what the law's szNodeS, szPacketS and szWorld tell of one that came in. -/
namespace Go.Proofs.YtbcngjciekfomaaGreat
open Go.RowKit
set_option linter.unusedVariables false

/-- Rows of packets and of nodes, and a world, that came in. -/
def PkC (w : World) (a : Option Addr) (n : Nat) (d : Nat → PkD) (q : Nat → Pl) : Prop := n ≤ maxLen ∧ VCame w a (chunks n fun i => pkcells (d i) (q i)) ∧ ∀ i, i < n → Came .i64 w (q i).1 (q i).2 (d i).xs
def NsC (w : World) (a : Option Addr) (n : Nat) (d : Nat → ND) (p : Nat → NP) : Prop := n ≤ maxLen ∧ VCame w a (chunks n fun i => nlist (d i) (p i)) ∧ ∀ i, i < n → NC w (d i) (p i)
theorem PkC.below {w w' : World} {a : Option Addr} {n : Nat} {d : Nat → PkD} {q : Nat → Pl} (h : PkC w a n d q) (hb : Below w.heap.size w w') : PkC w' a n d q := ⟨h.1, h.2.1.below hb, fun i hi => (h.2.2 i hi).below hb⟩
theorem NsC.below {w w' : World} {a : Option Addr} {n : Nat} {d : Nat → ND} {p : Nat → NP} (h : NsC w a n d p) (hb : Below w.heap.size w w') : NsC w' a n d p := ⟨h.1, h.2.1.below hb, fun i hi => (h.2.2 i hi).below hb⟩
theorem PkC.pr {w : World} {a : Option Addr} {n : Nat} {d : Nat → PkD} {q : Nat → Pl} (h : PkC w a n d q) (hn : n ≤ 1048576) (hx : ∀ i, i < n → (d i).xs.length ≤ 1048576) : PkR w a n d q :=
  ⟨by omega, h.2.1.vrow (by rw [chunks_length (s := 8) n (fun i _ => rfl)]; omega), fun i hi => (h.2.2 i hi).row (by have := hx i hi; omega)⟩
theorem NsC.nr {w : World} {a : Option Addr} {n : Nat} {d : Nat → ND} {p : Nat → NP} (h : NsC w a n d p) (hn : n ≤ 1048576) (hx : ∀ i, i < n → Nsm (d i)) : NsR w a n d p :=
  ⟨by omega, h.2.1.vrow (by rw [chunks_length (s := 5) n (fun i _ => rfl)]; omega), fun i hi => (h.2.2 i hi).nr (hx i hi)⟩
structure WoC (w : World) (d : WoD) (p : WoP) : Prop where
  n : NsC w p.n.1 d.nn d.d p.np
  k : PkC w p.k.1 d.nk d.k p.kp
theorem WoC.below {w w' : World} {d : WoD} {p : WoP} (h : WoC w d p) (b : Below w.heap.size w w') : WoC w' d p := ⟨h.n.below b, h.k.below b⟩
/-- How great a world may be. -/
structure Wsm (d : WoD) : Prop where
  n : d.nn ≤ 1048576 ∧ ∀ i, i < d.nn → Nsm (d.d i)
  k : d.nk ≤ 1048576 ∧ ∀ i, i < d.nk → (d.k i).xs.length ≤ 1048576
theorem WoC.wr {w : World} {d : WoD} {p : WoP} (h : WoC w d p) (s : Wsm d) : WoR w d p := ⟨h.n.nr s.n.1 s.n.2, h.k.pr s.k.1 s.k.2⟩




end Go.Proofs.YtbcngjciekfomaaGreat

/- How great a world is, to the number: what the law's szWorld tells of one that came in (written by mkwz.py). -/
namespace Go.Proofs.YtbcngjciekfomaaGreat
open Go.RowKit
set_option linter.unusedVariables false

def ySum (y : List Say) : Nat := (y.map (fun s => s.2.2.2.length)).sum
theorem ySum_append (a b : List Say) : ySum (a ++ b) = ySum a + ySum b := by simp [ySum]
theorem ySum_mem {y : List Say} {s : Say} (h : s ∈ y) : s.2.2.2.length ≤ ySum y := by
  induction y with
  | nil => simp at h
  | cons x xs ih =>
    simp only [ySum, List.map_cons, List.sum_cons] at ih ⊢
    rcases List.mem_cons.1 h with rfl | h
    · omega
    · have := ih h
      omega
def hZ (d : HD) : Nat := d.xs.length + d.bs.length + d.ws.length
def sZ (y : List Say) : Nat := y.length + ySum y
def nZ (d : ND) : Nat := (d.nf + sumN (fun i => fZ (d.f i)) d.nf) + (d.nh + sumN (fun i => hZ (d.h i)) d.nh) + (d.no + sumN (fun i => sZ (d.y i)) d.no) + d.ni
def kZ (d : PkD) : Nat := d.xs.length
/-- How great a world is. -/
def wZ (d : WoD) : Nat := (d.nn + sumN (fun i => nZ (d.d i)) d.nn) + (d.nk + sumN (fun i => kZ (d.k i)) d.nk)
theorem nZ_sm {d : ND} (h : nZ d ≤ 1048576) : Nsm d := by
  unfold nZ at h
  refine ⟨⟨by omega, fun i hi => ?_⟩, ⟨by omega, fun i hi => ?_⟩, ⟨by omega, fun i hi => ?_⟩, by omega⟩
  · have := le_sumN (c := fun i => fZ (d.f i)) hi
    simp only [fZ] at this h
    omega
  · have := le_sumN (c := fun i => hZ (d.h i)) hi
    simp only [hZ] at this h
    omega
  · have h1 := le_sumN (c := fun i => sZ (d.y i)) hi
    simp only [sZ] at h1 h
    refine ⟨by omega, fun s hs => ?_⟩
    have := ySum_mem hs
    omega
theorem wZ_sm {d : WoD} (h : wZ d ≤ 1048576) : Wsm d := by
  unfold wZ at h
  refine ⟨⟨by omega, fun i hi => nZ_sm ?_⟩, ⟨by omega, fun i hi => ?_⟩⟩
  · have := le_sumN (c := fun i => nZ (d.d i)) hi
    omega
  · have := le_sumN (c := fun i => kZ (d.k i)) hi
    simp only [kZ] at this h
    omega


set_option maxRecDepth 100000 in
set_option maxHeartbeats 1000000 in
theorem szHome_tot (ow wh ak : Int) (bz wo : Bool) (al ar aq : Option Addr) (nl cl nr cr nq cq : Nat) (L : Int) (w : World) (h0 : 0 ≤ L) (h9 : L ≤ 1048576) (hl : nl ≤ maxLen) (hr : nr ≤ maxLen) (hq : nq ≤ maxLen) :
    Calls Tryz.prog 39 #[.agg #[.slice al nl cl, .int .i64 ow, .slice ar nr cr, .bool bz, .int .i64 wh, .bool wo, .int .i64 ak, .slice aq nq cq], .int .i64 L] w fun e w' => ∃ r, e = .returned (.int .i64 r) ∧ (r = -1 ∨ (0 ≤ r ∧ r + (nl + nr + nq : Nat) = L)) ∧ Below w.heap.size w w' := by
  unfold maxLen at hl hr hq
  have bA := bel_alloc (Below.refl w.heap.size w) (.cells #[.slice al nl cl, .int .i64 ow, .slice ar nr cr, .bool bz, .int .i64 wh, .bool wo, .int .i64 ak, .slice aq nq cq] 87)
  by_cases h1 : (nl : Int) ≤ L
  · by_cases h2 : (nl : Int) + nr ≤ L
    · by_cases h3 : (nl : Int) + nr + nq ≤ L
      · go_enter Tryz.func39, Tryz.ntmps39
        go_wp2
        go_ret
        exact ⟨_, rfl, .inr ⟨by omega, by omega⟩, bA⟩
      · go_enter Tryz.func39, Tryz.ntmps39
        go_wp2
        go_ret
        exact ⟨_, rfl, .inl rfl, bA⟩
    · go_enter Tryz.func39, Tryz.ntmps39
      go_wp2
      go_ret
      exact ⟨_, rfl, .inl rfl, bA⟩
  · go_enter Tryz.func39, Tryz.ntmps39
    go_wp2
    go_ret
    exact ⟨_, rfl, .inl rfl, bA⟩

set_option maxRecDepth 100000 in
set_option maxHeartbeats 1000000 in
theorem szMsgS_tot (a : Option Addr) (ca : Nat) (ms : List M) (L0 : Int) (w : World) (l0 : 0 ≤ L0) (l1 : L0 ≤ 1048576) (ha : MCame w a ca ms) :
    Calls Tryz.prog 84 #[.slice a ms.length ca, .int .i64 L0] w fun e w' => ∃ r, e = .returned (.int .i64 r) ∧ (r = -1 ∨ (0 ≤ r ∧ r + (sZ (ms.map M.say) : Nat) = L0)) ∧ Below w.heap.size w w' := by
  obtain ⟨n, hn⟩ : ∃ n, ms.length = n := ⟨_, rfl⟩
  have HN : Hid (ms.length = n) := hn
  have hl : n ≤ 9223372036854775807 := by have h1 := ha.1; have h2 := ha.2.1; unfold maxLen at h2; omega
  rw [hn]
  clear hn
  by_cases hb : L0 < (n : Int)
  · have hb' : L0 < (n : Int) := by omega
    clear ha
    go_enter Tryz.func84, Tryz.ntmps84
    go_wp2
    go_ret
    exact ⟨_, rfl, .inl rfl, Below.refl _ _⟩
  · have hb' : (n : Int) ≤ L0 := by omega
    go_enter Tryz.func84, Tryz.ntmps84
    go_wp2
    go_loopw [1, 5] (fun q i wr => ∃ (k : Nat) (L : Int), k ≤ n ∧ i = .int .i64 k ∧ q = .int .i64 L ∧ 0 ≤ L ∧ L + n + (ySum ((ms.take k).map M.say) : Nat) = L0 ∧ MCame wr a ca ms ∧ Below w.heap.size w wr) (fun _ i _ => n - (intOf i).toNat)
    case atStart => exact ⟨0, _, Nat.zero_le _, rfl, rfl, by omega, by simp [ySum], ha, Below.refl _ _⟩
    case round =>
      obtain ⟨k, L, hk, rfl, rfl, hL0, hL, hm, hB⟩ := hrel
      have HL : Hid (L + n + (ySum ((ms.take k).map M.say) : Nat) = L0) := hL
      have hL1 : L ≤ 1048576 := by omega
      clear hL
      by_cases hlt : k < n
      · have hi : (k : Int) < (n : Int) := by omega
        obtain ⟨m, hmk⟩ : ∃ m, ms[k]? = some m := ⟨_, List.getElem?_eq_getElem (by have := HN.out; omega)⟩
        have HM : Hid (ms[k]? = some m) := hmk
        obtain ⟨⟨b, off, rfl, y0, y1, y2, y3⟩, hcm⟩ := hm.2.2 k m hmk
        have hml : m.xs.length ≤ maxLen := Nat.le_trans hcm.1 hcm.2.1
        clear hmk hcm ha
        go_wp2_with fail
        refine (szMsg_gen m.k m.p m.o m.a m.xs.length m.c L _ hL0 hL1 hml).mono ?_
        rintro e w1 ⟨r, rfl, hsz, b1⟩
        have hm1 := hm.below b1
        have hB1 := bel_trans hB b1
        clear hm hB b1 y0 y1 y2 y3 hml
        rcases hsz with rfl | ⟨hr, hr0⟩
        · clear hm1
          go_wp2
          go_ret
          exact ⟨_, rfl, .inl rfl, hB1⟩
        · have HX : Hid (r + n + (ySum ((ms.take (k + 1)).map M.say) : Nat) = L0) := by
            show _ = _
            have h1 := HL.out
            have h2 : ms.take (k + 1) = ms.take k ++ [m] := by rw [List.take_add_one, HM.out]; rfl
            rw [h2, List.map_append, ySum_append]
            have h3 : ySum ([m].map M.say) = m.xs.length := by simp [ySum, M.say]
            rw [h3]
            omega
          clear hr
          go_wp2
          go_roundw
          case rel => exact ⟨k + 1, r, by omega, by go_num, rfl, hr0, HX.out, hm1, hB1⟩
          case measure => simp [intOf]; omega
      · clear ha hm
        have HE : Hid (L + (sZ (ms.map M.say) : Nat) = L0) := by
          show _ = _
          have h1 := HL.out
          have h2 := HN.out
          rw [List.take_of_length_le (by omega)] at h1
          simp only [sZ, List.length_map]
          omega
        go_wp2
        go_ret
        exact ⟨_, rfl, .inr ⟨hL0, HE.out⟩, hB⟩

set_option maxRecDepth 100000 in
set_option maxHeartbeats 1000000 in
theorem szSender_tot (base : Int) (a : Option Addr) (ca : Nat) (ms : List M) (L0 : Int) (w : World) (l0 : 0 ≤ L0) (l1 : L0 ≤ 1048576) (ha : MCame w a ca ms) :
    Calls Tryz.prog 40 #[.agg #[.int .i64 base, .slice a ms.length ca], .int .i64 L0] w fun e w' => ∃ r, e = .returned (.int .i64 r) ∧ (r = -1 ∨ (0 ≤ r ∧ r + (sZ (ms.map M.say) : Nat) = L0)) ∧ Below w.heap.size w w' := by
  have bA := bel_alloc (Below.refl w.heap.size w) (.cells #[.int .i64 base, .slice a ms.length ca] 91)
  go_enter Tryz.func40, Tryz.ntmps40
  go_wp2_with fail
  refine (szMsgS_tot a ca ms L0 _ l0 l1 (ha.below bA)).mono ?_
  rintro e w1 ⟨r, rfl, hsz, b1⟩
  have B := bel_trans bA b1
  clear bA b1 ha
  rcases hsz with rfl | ⟨h0, hsz⟩
  · go_wp2
    go_ret
    exact ⟨_, rfl, .inl rfl, B⟩
  · have HZ : Hid (r + (sZ (ms.map M.say) : Nat) = L0) := hsz
    clear hsz
    go_wp2
    go_ret
    exact ⟨_, rfl, .inr ⟨h0, HZ.out⟩, B⟩

set_option maxHeartbeats 1000000 in
theorem szReceiverS_tot (a : Option Addr) (ca n : Nat) (L0 : Int) (w : World) (l0 : 0 ≤ L0) (l1 : L0 ≤ 1048576) (hn : n ≤ maxLen) :
    Calls Tryz.prog 17 #[.slice a n ca, .int .i64 L0] w fun e w' => ∃ r, e = .returned (.int .i64 r) ∧ (r = -1 ∨ (0 ≤ r ∧ r + n = L0)) ∧ Below w.heap.size w w' := by
  unfold maxLen at hn
  by_cases hb : L0 < (n : Int)
  · go_enter Tryz.func17, Tryz.ntmps17
    go_wp2
    go_ret
    exact ⟨_, rfl, .inl rfl, Below.refl _ _⟩
  · go_enter Tryz.func17, Tryz.ntmps17
    go_wp2
    go_ret
    exact ⟨_, rfl, .inr ⟨by omega, by omega⟩, Below.refl _ _⟩



set_option maxRecDepth 100000 in
set_option maxHeartbeats 2000000 in
theorem szHomeS_tot (a : Option Addr) (ca n : Nat) (d : Nat → HD) (p : Nat → HP) (L0 : Int) (w : World) (l0 : 0 ≤ L0) (l1 : L0 ≤ 1048576) (ha : HC2 w a n d p) :
    Calls Tryz.prog 15 #[.slice a n ca, .int .i64 L0] w fun e w' => ∃ r, e = .returned (.int .i64 r) ∧ (r = -1 ∨ (0 ≤ r ∧ r + (n + sumN (fun i => hZ (d i)) n : Nat) = L0)) ∧ Below w.heap.size w w' := by
  have hl : n ≤ 9223372036854775807 := by have h1 := ha.1; unfold maxLen at h1; omega
  by_cases hb : L0 < (n : Int)
  · clear ha
    go_enter Tryz.func15, Tryz.ntmps15
    go_wp2
    go_ret
    exact ⟨_, rfl, .inl rfl, Below.refl _ _⟩
  · have hb' : (n : Int) ≤ L0 := by omega
    go_enter Tryz.func15, Tryz.ntmps15
    go_wp2
    go_loopw [1, 5] (fun q i wr => ∃ (k : Nat) (L : Int), k ≤ n ∧ i = .int .i64 k ∧ q = .int .i64 L ∧ 0 ≤ L ∧ L + (n + sumN (fun i => hZ (d i)) k : Nat) = L0 ∧ HC2 wr a n d p ∧ Below w.heap.size w wr) (fun _ i _ => n - (intOf i).toNat)
    case atStart => exact ⟨0, _, Nat.zero_le _, rfl, rfl, by omega, by simp [sumN], ha, Below.refl _ _⟩
    case round =>
      obtain ⟨k, L, hk, rfl, rfl, hL0, hL, hm, hB⟩ := hrel
      have HL : Hid (L + (n + sumN (fun i => hZ (d i)) k : Nat) = L0) := hL
      have hL1 : L ≤ 1048576 := by omega
      clear hL
      by_cases hlt : k < n
      · have hi : (k : Int) < (n : Int) := by omega
        obtain ⟨bl, off, rfl, hc⟩ := hm.2.1.chunk (s := 8) (fun i _ => rfl) (by decide) hlt
        have y0 := hc 0 _ rfl
        have y1 := hc 1 _ rfl
        have y2 := hc 2 _ rfl
        have y3 := hc 3 _ rfl
        have y4 := hc 4 _ rfl
        have y5 := hc 5 _ rfl
        have y6 := hc 6 _ rfl
        have y7 := hc 7 _ rfl
        rw [Nat.add_zero] at y0
        obtain ⟨z0, z1, z2, z3, z4⟩ := hm.2.2 k hlt
        have hml : (d k).xs.length ≤ maxLen := Nat.le_trans z0.1 z0.2.1
        clear z0 z1 z2
        clear hc ha
        go_wp2_with fail
        refine (szHome_tot (d k).ow (d k).wh (d k).ak (d k).bz (d k).wo (p k).l.1 (p k).r.1 (p k).q.1 (d k).xs.length (p k).l.2 (d k).bs.length (p k).r.2 (d k).ws.length (p k).q.2 L _ hL0 hL1 hml z3 z4).mono ?_
        rintro e w1 ⟨r, rfl, hsz, b1⟩
        have hm1 := hm.below b1
        have hB1 := bel_trans hB b1
        clear hm hB b1 y0 y1 y2 y3 y4 y5 y6 y7 hml z3 z4
        rcases hsz with rfl | ⟨hr0, hr2⟩
        · clear hm1
          go_wp2
          go_ret
          exact ⟨_, rfl, .inl rfl, hB1⟩
        · have HX : Hid (r + (n + sumN (fun i => hZ (d i)) (k + 1) : Nat) = L0) := by
            show _ = _
            have h1 := HL.out
            simp only [sumN] at h1 ⊢
            simp only [hZ] at h1 ⊢
            omega
          clear hr2
          go_wp2
          go_roundw
          case rel => exact ⟨k + 1, r, by omega, by go_num, rfl, hr0, HX.out, hm1, hB1⟩
          case measure => simp [intOf]; omega
      · clear ha hm
        have hkn : k = n := by omega
        rw [hkn] at HL
        go_wp2
        go_ret
        exact ⟨_, rfl, .inr ⟨hL0, HL.out⟩, hB⟩

set_option maxRecDepth 100000 in
set_option maxHeartbeats 2000000 in
theorem szSenderS_tot (a : Option Addr) (ca n : Nat) (b : Nat → Int) (y : Nat → List Say) (p : Nat → Pl) (ms : Nat → List M) (L0 : Int) (w : World) (l0 : 0 ≤ L0) (l1 : L0 ≤ 1048576) (ha : SC w a n b y p ms) :
    Calls Tryz.prog 16 #[.slice a n ca, .int .i64 L0] w fun e w' => ∃ r, e = .returned (.int .i64 r) ∧ (r = -1 ∨ (0 ≤ r ∧ r + (n + sumN (fun i => sZ (y i)) n : Nat) = L0)) ∧ Below w.heap.size w w' := by
  have hl : n ≤ 9223372036854775807 := by have h1 := ha.1; unfold maxLen at h1; omega
  by_cases hb : L0 < (n : Int)
  · clear ha
    go_enter Tryz.func16, Tryz.ntmps16
    go_wp2
    go_ret
    exact ⟨_, rfl, .inl rfl, Below.refl _ _⟩
  · have hb' : (n : Int) ≤ L0 := by omega
    go_enter Tryz.func16, Tryz.ntmps16
    go_wp2
    go_loopw [1, 5] (fun q i wr => ∃ (k : Nat) (L : Int), k ≤ n ∧ i = .int .i64 k ∧ q = .int .i64 L ∧ 0 ≤ L ∧ L + (n + sumN (fun i => sZ (y i)) k : Nat) = L0 ∧ SC wr a n b y p ms ∧ Below w.heap.size w wr) (fun _ i _ => n - (intOf i).toNat)
    case atStart => exact ⟨0, _, Nat.zero_le _, rfl, rfl, by omega, by simp [sumN], ha, Below.refl _ _⟩
    case round =>
      obtain ⟨k, L, hk, rfl, rfl, hL0, hL, hm, hB⟩ := hrel
      have HL : Hid (L + (n + sumN (fun i => sZ (y i)) k : Nat) = L0) := hL
      have hL1 : L ≤ 1048576 := by omega
      clear hL
      by_cases hlt : k < n
      · have hi : (k : Int) < (n : Int) := by omega
        obtain ⟨bl, off, rfl, hc⟩ := hm.2.1.chunk (s := 2) (fun i _ => rfl) (by decide) hlt
        have y0 := hc 0 _ rfl
        have y1 := hc 1 _ rfl
        rw [Nat.add_zero] at y0
        obtain ⟨z0, z1⟩ := hm.2.2 k hlt
        have HE : Hid ((ms k).map M.say = y k) := z1
        have HLn : (y k).length = (ms k).length := by have := congrArg List.length z1; simpa using this.symm
        rw [HLn] at y1
        clear z1 HLn
        clear hc ha
        go_wp2_with fail
        refine (szSender_tot (b k) (p k).1 (p k).2 (ms k) L _ hL0 hL1 z0).mono ?_
        rintro e w1 ⟨r, rfl, hsz, b1⟩
        have hm1 := hm.below b1
        have hB1 := bel_trans hB b1
        clear hm hB b1 y0 y1 z0
        rcases hsz with rfl | ⟨hr0, hr2⟩
        · clear hm1
          go_wp2
          go_ret
          exact ⟨_, rfl, .inl rfl, hB1⟩
        · have HX : Hid (r + (n + sumN (fun i => sZ (y i)) (k + 1) : Nat) = L0) := by
            show _ = _
            have h1 := HL.out
            simp only [sumN] at h1 ⊢
            rw [HE.out] at hr2
            omega
          clear hr2
          go_wp2
          go_roundw
          case rel => exact ⟨k + 1, r, by omega, by go_num, rfl, hr0, HX.out, hm1, hB1⟩
          case measure => simp [intOf]; omega
      · clear ha hm
        have hkn : k = n := by omega
        rw [hkn] at HL
        go_wp2
        go_ret
        exact ⟨_, rfl, .inr ⟨hL0, HL.out⟩, hB⟩

set_option maxRecDepth 100000 in
set_option maxHeartbeats 2000000 in
theorem szNode_tot (d : ND) (p : NP) (L0 : Int) (w : World) (l0 : 0 ≤ L0) (l9 : L0 ≤ 1048576) (hC : NC w d p) :
    Calls Tryz.prog 5 #[.agg (ncells d p), .int .i64 L0] w fun e w' => ∃ r, e = .returned (.int .i64 r) ∧ (r = -1 ∨ (0 ≤ r ∧ r + (nZ d : Nat) = L0)) ∧ Below w.heap.size w w' := by
  have B := bel_alloc (Below.refl w.heap.size w) (.cells (ncells d p) 33)
  have X := Box.new w (ncells d p) 33
  replace hC := hC.below B
  go_enter Tryz.func5, Tryz.ntmps5
  go_wp2_with fail
  refine (szFrameS_tot _ _ d.nf d.f p.fp L0 _ l0 l9 hC.f).mono ?_
  rintro e w1 ⟨r1, rfl, h1, b1⟩
  replace B := bel_trans B b1
  replace X := X.below b1
  replace hC := hC.below b1
  clear b1
  rcases h1 with rfl | ⟨l1, s1⟩
  · clear X hC
    go_wp2
    go_ret
    exact ⟨_, rfl, .inl rfl, B⟩
  have u1 : r1 ≤ 1048576 := by omega
  have S1 : Hid _ := s1
  clear s1
  obtain ⟨x0, x1, x2, x3, x4, zx⟩ := X.at5
  go_wp2_with fail
  refine (szHomeS_tot _ _ d.nh d.h p.hp r1 _ l1 u1 hC.h).mono ?_
  rintro e w2 ⟨r2, rfl, h1, b1⟩
  replace B := bel_trans B b1
  replace X := X.below b1
  replace hC := hC.below b1
  clear b1 x0 x1 x2 x3 x4 zx
  rcases h1 with rfl | ⟨l2, s2⟩
  · clear X hC
    go_wp2
    go_ret
    exact ⟨_, rfl, .inl rfl, B⟩
  have u2 : r2 ≤ 1048576 := by omega
  have S2 : Hid _ := s2
  clear s2
  obtain ⟨x0, x1, x2, x3, x4, zx⟩ := X.at5
  go_wp2_with fail
  refine (szSenderS_tot _ _ d.no d.b d.y p.op p.ms r2 _ l2 u2 hC.o).mono ?_
  rintro e w3 ⟨r3, rfl, h1, b1⟩
  replace B := bel_trans B b1
  replace X := X.below b1
  replace hC := hC.below b1
  clear b1 x0 x1 x2 x3 x4 zx
  rcases h1 with rfl | ⟨l3, s3⟩
  · clear X hC
    go_wp2
    go_ret
    exact ⟨_, rfl, .inl rfl, B⟩
  have u3 : r3 ≤ 1048576 := by omega
  have S3 : Hid _ := s3
  clear s3
  obtain ⟨x0, x1, x2, x3, x4, zx⟩ := X.at5
  go_wp2_with fail
  refine (szReceiverS_tot _ _ d.ni r3 _ l3 u3 hC.i.1).mono ?_
  rintro e w4 ⟨r4, rfl, h1, b1⟩
  replace B := bel_trans B b1
  clear b1 x0 x1 x2 x3 x4 zx X hC
  rcases h1 with rfl | ⟨l4, s4⟩
  · go_wp2
    go_ret
    exact ⟨_, rfl, .inl rfl, B⟩
  have u4 : r4 ≤ 1048576 := by omega
  have S4 : Hid _ := s4
  clear s4
  have E : Hid (r4 + (nZ d : Nat) = L0) := by
    show _ = _
    have q1 := S1.out
    have q2 := S2.out
    have q3 := S3.out
    have q4 := S4.out
    unfold nZ
    omega
  go_wp2
  go_ret
  exact ⟨_, rfl, .inr ⟨l4, E.out⟩, B⟩




end Go.Proofs.YtbcngjciekfomaaGreat
