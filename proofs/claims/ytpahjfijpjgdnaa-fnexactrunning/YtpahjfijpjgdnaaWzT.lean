/- How great a world is, to the number: what the law's szWorld tells of one that came in (written by mkwz.py). -/
import Derived.Test.YtpahjfijpjgdnaaWoZ
import Derived.Test.YtpahjfijpjgdnaaWtR
namespace Go.Proofs.Ytpahjfijpjgdnaa
open Go.RowKit
set_option linter.unusedVariables false

def ySum (y : List Say) : Nat := (y.map (fun s => s.2.2.2.length)).sum
theorem ySum_append (a b : List Say) : ySum (a ++ b) = ySum a + ySum b := by simp [ySum]
theorem ySum_mem {y : List Say} {s : Say} (h : s ∈ y) : s.2.2.2.length ≤ ySum y := by
  induction y with
  | nil => simp at h
  | cons x xs ih =>
    simp only [ySum, List.map_cons, List.sum_cons] at ih ⊢
    rcases List.mem_cons.1 h with rfl | h
    · omega
    · have := ih h
      omega
def hZ (d : HD) : Nat := d.xs.length + d.bs.length + d.ws.length
def sZ (y : List Say) : Nat := y.length + ySum y
def nZ (d : ND) : Nat := (d.nf + sumN (fun i => fZ (d.f i)) d.nf) + (d.nh + sumN (fun i => hZ (d.h i)) d.nh) + (d.no + sumN (fun i => sZ (d.y i)) d.no) + d.ni
def kZ (d : PkD) : Nat := d.xs.length
/-- How great a world is. -/
def wZ (d : WoD) : Nat := (d.nn + sumN (fun i => nZ (d.d i)) d.nn) + (d.nk + sumN (fun i => kZ (d.k i)) d.nk)
theorem nZ_sm {d : ND} (h : nZ d ≤ 1048576) : Nsm d := by
  unfold nZ at h
  refine ⟨⟨by omega, fun i hi => ?_⟩, ⟨by omega, fun i hi => ?_⟩, ⟨by omega, fun i hi => ?_⟩, by omega⟩
  · have := le_sumN (c := fun i => fZ (d.f i)) hi
    simp only [fZ] at this h
    omega
  · have := le_sumN (c := fun i => hZ (d.h i)) hi
    simp only [hZ] at this h
    omega
  · have h1 := le_sumN (c := fun i => sZ (d.y i)) hi
    simp only [sZ] at h1 h
    refine ⟨by omega, fun s hs => ?_⟩
    have := ySum_mem hs
    omega
theorem wZ_sm {d : WoD} (h : wZ d ≤ 1048576) : Wsm d := by
  unfold wZ at h
  refine ⟨⟨by omega, fun i hi => nZ_sm ?_⟩, ⟨by omega, fun i hi => ?_⟩⟩
  · have := le_sumN (c := fun i => nZ (d.d i)) hi
    omega
  · have := le_sumN (c := fun i => kZ (d.k i)) hi
    simp only [kZ] at this h
    omega


set_option maxRecDepth 100000 in
set_option maxHeartbeats 1000000 in
theorem szHome_tot (ow wh ak : Int) (bz wo : Bool) (al ar aq : Option Addr) (nl cl nr cr nq cq : Nat) (L : Int) (w : World) (h0 : 0 ≤ L) (h9 : L ≤ 1048576) (hl : nl ≤ maxLen) (hr : nr ≤ maxLen) (hq : nq ≤ maxLen) :
    Calls Try.prog 59 #[.agg #[.slice al nl cl, .int .i64 ow, .slice ar nr cr, .bool bz, .int .i64 wh, .bool wo, .int .i64 ak, .slice aq nq cq], .int .i64 L] w fun e w' => ∃ r, e = .returned (.int .i64 r) ∧ (r = -1 ∨ (0 ≤ r ∧ r + (nl + nr + nq : Nat) = L)) ∧ Below w.heap.size w w' := by
  unfold maxLen at hl hr hq
  have bA := bel_alloc (Below.refl w.heap.size w) (.cells #[.slice al nl cl, .int .i64 ow, .slice ar nr cr, .bool bz, .int .i64 wh, .bool wo, .int .i64 ak, .slice aq nq cq] 134)
  by_cases h1 : (nl : Int) ≤ L
  · by_cases h2 : (nl : Int) + nr ≤ L
    · by_cases h3 : (nl : Int) + nr + nq ≤ L
      · go_enter Try.func59, Try.ntmps59
        go_wp2
        go_ret
        exact ⟨_, rfl, .inr ⟨by omega, by omega⟩, bA⟩
      · go_enter Try.func59, Try.ntmps59
        go_wp2
        go_ret
        exact ⟨_, rfl, .inl rfl, bA⟩
    · go_enter Try.func59, Try.ntmps59
      go_wp2
      go_ret
      exact ⟨_, rfl, .inl rfl, bA⟩
  · go_enter Try.func59, Try.ntmps59
    go_wp2
    go_ret
    exact ⟨_, rfl, .inl rfl, bA⟩

set_option maxRecDepth 100000 in
set_option maxHeartbeats 1000000 in
theorem szMsgS_tot (a : Option Addr) (ca : Nat) (ms : List M) (L0 : Int) (w : World) (l0 : 0 ≤ L0) (l1 : L0 ≤ 1048576) (ha : MCame w a ca ms) :
    Calls Try.prog 74 #[.slice a ms.length ca, .int .i64 L0] w fun e w' => ∃ r, e = .returned (.int .i64 r) ∧ (r = -1 ∨ (0 ≤ r ∧ r + (sZ (ms.map M.say) : Nat) = L0)) ∧ Below w.heap.size w w' := by
  obtain ⟨n, hn⟩ : ∃ n, ms.length = n := ⟨_, rfl⟩
  have HN : Hid (ms.length = n) := hn
  have hl : n ≤ 9223372036854775807 := by have h1 := ha.1; have h2 := ha.2.1; unfold maxLen at h2; omega
  rw [hn]
  clear hn
  by_cases hb : L0 < (n : Int)
  · have hb' : L0 < (n : Int) := by omega
    clear ha
    go_enter Try.func74, Try.ntmps74
    go_wp2
    go_ret
    exact ⟨_, rfl, .inl rfl, Below.refl _ _⟩
  · have hb' : (n : Int) ≤ L0 := by omega
    go_enter Try.func74, Try.ntmps74
    go_wp2
    go_loopw [1, 5] (fun q i wr => ∃ (k : Nat) (L : Int), k ≤ n ∧ i = .int .i64 k ∧ q = .int .i64 L ∧ 0 ≤ L ∧ L + n + (ySum ((ms.take k).map M.say) : Nat) = L0 ∧ MCame wr a ca ms ∧ Below w.heap.size w wr) (fun _ i _ => n - (intOf i).toNat)
    case atStart => exact ⟨0, _, Nat.zero_le _, rfl, rfl, by omega, by simp [ySum], ha, Below.refl _ _⟩
    case round =>
      obtain ⟨k, L, hk, rfl, rfl, hL0, hL, hm, hB⟩ := hrel
      have HL : Hid (L + n + (ySum ((ms.take k).map M.say) : Nat) = L0) := hL
      have hL1 : L ≤ 1048576 := by omega
      clear hL
      by_cases hlt : k < n
      · have hi : (k : Int) < (n : Int) := by omega
        obtain ⟨m, hmk⟩ : ∃ m, ms[k]? = some m := ⟨_, List.getElem?_eq_getElem (by have := HN.out; omega)⟩
        have HM : Hid (ms[k]? = some m) := hmk
        obtain ⟨⟨b, off, rfl, y0, y1, y2, y3⟩, hcm⟩ := hm.2.2 k m hmk
        have hml : m.xs.length ≤ maxLen := Nat.le_trans hcm.1 hcm.2.1
        clear hmk hcm ha
        go_wp2_with fail
        refine (szMsg_gen m.k m.p m.o m.a m.xs.length m.c L _ hL0 hL1 hml).mono ?_
        rintro e w1 ⟨r, rfl, hsz, b1⟩
        have hm1 := hm.below b1
        have hB1 := bel_trans hB b1
        clear hm hB b1 y0 y1 y2 y3 hml
        rcases hsz with rfl | ⟨hr, hr0⟩
        · clear hm1
          go_wp2
          go_ret
          exact ⟨_, rfl, .inl rfl, hB1⟩
        · have HX : Hid (r + n + (ySum ((ms.take (k + 1)).map M.say) : Nat) = L0) := by
            show _ = _
            have h1 := HL.out
            have h2 : ms.take (k + 1) = ms.take k ++ [m] := by rw [List.take_add_one, HM.out]; rfl
            rw [h2, List.map_append, ySum_append]
            have h3 : ySum ([m].map M.say) = m.xs.length := by simp [ySum, M.say]
            rw [h3]
            omega
          clear hr
          go_wp2
          go_roundw
          case rel => exact ⟨k + 1, r, by omega, by go_num, rfl, hr0, HX.out, hm1, hB1⟩
          case measure => simp [intOf]; omega
      · clear ha hm
        have HE : Hid (L + (sZ (ms.map M.say) : Nat) = L0) := by
          show _ = _
          have h1 := HL.out
          have h2 := HN.out
          rw [List.take_of_length_le (by omega)] at h1
          simp only [sZ, List.length_map]
          omega
        go_wp2
        go_ret
        exact ⟨_, rfl, .inr ⟨hL0, HE.out⟩, hB⟩

set_option maxRecDepth 100000 in
set_option maxHeartbeats 1000000 in
theorem szSender_tot (base : Int) (a : Option Addr) (ca : Nat) (ms : List M) (L0 : Int) (w : World) (l0 : 0 ≤ L0) (l1 : L0 ≤ 1048576) (ha : MCame w a ca ms) :
    Calls Try.prog 60 #[.agg #[.int .i64 base, .slice a ms.length ca], .int .i64 L0] w fun e w' => ∃ r, e = .returned (.int .i64 r) ∧ (r = -1 ∨ (0 ≤ r ∧ r + (sZ (ms.map M.say) : Nat) = L0)) ∧ Below w.heap.size w w' := by
  have bA := bel_alloc (Below.refl w.heap.size w) (.cells #[.int .i64 base, .slice a ms.length ca] 138)
  go_enter Try.func60, Try.ntmps60
  go_wp2_with fail
  refine (szMsgS_tot a ca ms L0 _ l0 l1 (ha.below bA)).mono ?_
  rintro e w1 ⟨r, rfl, hsz, b1⟩
  have B := bel_trans bA b1
  clear bA b1 ha
  rcases hsz with rfl | ⟨h0, hsz⟩
  · go_wp2
    go_ret
    exact ⟨_, rfl, .inl rfl, B⟩
  · have HZ : Hid (r + (sZ (ms.map M.say) : Nat) = L0) := hsz
    clear hsz
    go_wp2
    go_ret
    exact ⟨_, rfl, .inr ⟨h0, HZ.out⟩, B⟩

set_option maxHeartbeats 1000000 in
theorem szReceiverS_tot (a : Option Addr) (ca n : Nat) (L0 : Int) (w : World) (l0 : 0 ≤ L0) (l1 : L0 ≤ 1048576) (hn : n ≤ maxLen) :
    Calls Try.prog 40 #[.slice a n ca, .int .i64 L0] w fun e w' => ∃ r, e = .returned (.int .i64 r) ∧ (r = -1 ∨ (0 ≤ r ∧ r + n = L0)) ∧ Below w.heap.size w w' := by
  unfold maxLen at hn
  by_cases hb : L0 < (n : Int)
  · go_enter Try.func40, Try.ntmps40
    go_wp2
    go_ret
    exact ⟨_, rfl, .inl rfl, Below.refl _ _⟩
  · go_enter Try.func40, Try.ntmps40
    go_wp2
    go_ret
    exact ⟨_, rfl, .inr ⟨by omega, by omega⟩, Below.refl _ _⟩

set_option maxRecDepth 100000 in
set_option maxHeartbeats 2000000 in
theorem szPacket_tot (d : PkD) (q : Pl) (L : Int) (w : World) (h0 : 0 ≤ L) (h1 : L ≤ 1048576) (hn : d.xs.length ≤ maxLen) :
    Calls Try.prog 26 #[.agg #[.int .i64 d.f, .int .i64 d.t, .bool d.a, .int .i64 d.n, .int .i64 d.k, .int .i64 d.p, .bool d.o, .slice q.1 d.xs.length q.2], .int .i64 L] w fun e w' => ∃ r, e = .returned (.int .i64 r) ∧ (r = -1 ∨ (0 ≤ r ∧ r + (kZ d : Nat) = L)) ∧ Below w.heap.size w w' := by
  have bA := bel_alloc (Below.refl w.heap.size w) (.cells #[.int .i64 d.f, .int .i64 d.t, .bool d.a, .int .i64 d.n, .int .i64 d.k, .int .i64 d.p, .bool d.o, .slice q.1 d.xs.length q.2] 78)
  go_enter Try.func26, Try.ntmps26
  go_wp2_with fail
  refine (szMsg_gen d.k d.p d.o q.1 d.xs.length q.2 L _ h0 h1 hn).mono ?_
  rintro e w1 ⟨r, rfl, hr, b1⟩
  have B := bel_trans bA b1
  rcases hr with rfl | ⟨hr, r2⟩
  · go_wp2
    go_ret
    exact ⟨_, rfl, .inl rfl, B⟩
  · have HZ : Hid (r + (kZ d : Nat) = L) := by show _ = _; unfold kZ; omega
    clear hr
    go_wp2
    go_ret
    exact ⟨_, rfl, .inr ⟨r2, HZ.out⟩, B⟩


set_option maxRecDepth 100000 in
set_option maxHeartbeats 2000000 in
theorem szHomeS_tot (a : Option Addr) (ca n : Nat) (d : Nat → HD) (p : Nat → HP) (L0 : Int) (w : World) (l0 : 0 ≤ L0) (l1 : L0 ≤ 1048576) (ha : HC2 w a n d p) :
    Calls Try.prog 38 #[.slice a n ca, .int .i64 L0] w fun e w' => ∃ r, e = .returned (.int .i64 r) ∧ (r = -1 ∨ (0 ≤ r ∧ r + (n + sumN (fun i => hZ (d i)) n : Nat) = L0)) ∧ Below w.heap.size w w' := by
  have hl : n ≤ 9223372036854775807 := by have h1 := ha.1; unfold maxLen at h1; omega
  by_cases hb : L0 < (n : Int)
  · clear ha
    go_enter Try.func38, Try.ntmps38
    go_wp2
    go_ret
    exact ⟨_, rfl, .inl rfl, Below.refl _ _⟩
  · have hb' : (n : Int) ≤ L0 := by omega
    go_enter Try.func38, Try.ntmps38
    go_wp2
    go_loopw [1, 5] (fun q i wr => ∃ (k : Nat) (L : Int), k ≤ n ∧ i = .int .i64 k ∧ q = .int .i64 L ∧ 0 ≤ L ∧ L + (n + sumN (fun i => hZ (d i)) k : Nat) = L0 ∧ HC2 wr a n d p ∧ Below w.heap.size w wr) (fun _ i _ => n - (intOf i).toNat)
    case atStart => exact ⟨0, _, Nat.zero_le _, rfl, rfl, by omega, by simp [sumN], ha, Below.refl _ _⟩
    case round =>
      obtain ⟨k, L, hk, rfl, rfl, hL0, hL, hm, hB⟩ := hrel
      have HL : Hid (L + (n + sumN (fun i => hZ (d i)) k : Nat) = L0) := hL
      have hL1 : L ≤ 1048576 := by omega
      clear hL
      by_cases hlt : k < n
      · have hi : (k : Int) < (n : Int) := by omega
        obtain ⟨bl, off, rfl, hc⟩ := hm.2.1.chunk (s := 8) (fun i _ => rfl) (by decide) hlt
        have y0 := hc 0 _ rfl
        have y1 := hc 1 _ rfl
        have y2 := hc 2 _ rfl
        have y3 := hc 3 _ rfl
        have y4 := hc 4 _ rfl
        have y5 := hc 5 _ rfl
        have y6 := hc 6 _ rfl
        have y7 := hc 7 _ rfl
        rw [Nat.add_zero] at y0
        obtain ⟨z0, z1, z2, z3, z4⟩ := hm.2.2 k hlt
        have hml : (d k).xs.length ≤ maxLen := Nat.le_trans z0.1 z0.2.1
        clear z0 z1 z2
        clear hc ha
        go_wp2_with fail
        refine (szHome_tot (d k).ow (d k).wh (d k).ak (d k).bz (d k).wo (p k).l.1 (p k).r.1 (p k).q.1 (d k).xs.length (p k).l.2 (d k).bs.length (p k).r.2 (d k).ws.length (p k).q.2 L _ hL0 hL1 hml z3 z4).mono ?_
        rintro e w1 ⟨r, rfl, hsz, b1⟩
        have hm1 := hm.below b1
        have hB1 := bel_trans hB b1
        clear hm hB b1 y0 y1 y2 y3 y4 y5 y6 y7 hml z3 z4
        rcases hsz with rfl | ⟨hr0, hr2⟩
        · clear hm1
          go_wp2
          go_ret
          exact ⟨_, rfl, .inl rfl, hB1⟩
        · have HX : Hid (r + (n + sumN (fun i => hZ (d i)) (k + 1) : Nat) = L0) := by
            show _ = _
            have h1 := HL.out
            simp only [sumN] at h1 ⊢
            simp only [hZ] at h1 ⊢
            omega
          clear hr2
          go_wp2
          go_roundw
          case rel => exact ⟨k + 1, r, by omega, by go_num, rfl, hr0, HX.out, hm1, hB1⟩
          case measure => simp [intOf]; omega
      · clear ha hm
        have hkn : k = n := by omega
        rw [hkn] at HL
        go_wp2
        go_ret
        exact ⟨_, rfl, .inr ⟨hL0, HL.out⟩, hB⟩

set_option maxRecDepth 100000 in
set_option maxHeartbeats 2000000 in
theorem szSenderS_tot (a : Option Addr) (ca n : Nat) (b : Nat → Int) (y : Nat → List Say) (p : Nat → Pl) (ms : Nat → List M) (L0 : Int) (w : World) (l0 : 0 ≤ L0) (l1 : L0 ≤ 1048576) (ha : SC w a n b y p ms) :
    Calls Try.prog 39 #[.slice a n ca, .int .i64 L0] w fun e w' => ∃ r, e = .returned (.int .i64 r) ∧ (r = -1 ∨ (0 ≤ r ∧ r + (n + sumN (fun i => sZ (y i)) n : Nat) = L0)) ∧ Below w.heap.size w w' := by
  have hl : n ≤ 9223372036854775807 := by have h1 := ha.1; unfold maxLen at h1; omega
  by_cases hb : L0 < (n : Int)
  · clear ha
    go_enter Try.func39, Try.ntmps39
    go_wp2
    go_ret
    exact ⟨_, rfl, .inl rfl, Below.refl _ _⟩
  · have hb' : (n : Int) ≤ L0 := by omega
    go_enter Try.func39, Try.ntmps39
    go_wp2
    go_loopw [1, 5] (fun q i wr => ∃ (k : Nat) (L : Int), k ≤ n ∧ i = .int .i64 k ∧ q = .int .i64 L ∧ 0 ≤ L ∧ L + (n + sumN (fun i => sZ (y i)) k : Nat) = L0 ∧ SC wr a n b y p ms ∧ Below w.heap.size w wr) (fun _ i _ => n - (intOf i).toNat)
    case atStart => exact ⟨0, _, Nat.zero_le _, rfl, rfl, by omega, by simp [sumN], ha, Below.refl _ _⟩
    case round =>
      obtain ⟨k, L, hk, rfl, rfl, hL0, hL, hm, hB⟩ := hrel
      have HL : Hid (L + (n + sumN (fun i => sZ (y i)) k : Nat) = L0) := hL
      have hL1 : L ≤ 1048576 := by omega
      clear hL
      by_cases hlt : k < n
      · have hi : (k : Int) < (n : Int) := by omega
        obtain ⟨bl, off, rfl, hc⟩ := hm.2.1.chunk (s := 2) (fun i _ => rfl) (by decide) hlt
        have y0 := hc 0 _ rfl
        have y1 := hc 1 _ rfl
        rw [Nat.add_zero] at y0
        obtain ⟨z0, z1⟩ := hm.2.2 k hlt
        have HE : Hid ((ms k).map M.say = y k) := z1
        have HLn : (y k).length = (ms k).length := by have := congrArg List.length z1; simpa using this.symm
        rw [HLn] at y1
        clear z1 HLn
        clear hc ha
        go_wp2_with fail
        refine (szSender_tot (b k) (p k).1 (p k).2 (ms k) L _ hL0 hL1 z0).mono ?_
        rintro e w1 ⟨r, rfl, hsz, b1⟩
        have hm1 := hm.below b1
        have hB1 := bel_trans hB b1
        clear hm hB b1 y0 y1 z0
        rcases hsz with rfl | ⟨hr0, hr2⟩
        · clear hm1
          go_wp2
          go_ret
          exact ⟨_, rfl, .inl rfl, hB1⟩
        · have HX : Hid (r + (n + sumN (fun i => sZ (y i)) (k + 1) : Nat) = L0) := by
            show _ = _
            have h1 := HL.out
            simp only [sumN] at h1 ⊢
            rw [HE.out] at hr2
            omega
          clear hr2
          go_wp2
          go_roundw
          case rel => exact ⟨k + 1, r, by omega, by go_num, rfl, hr0, HX.out, hm1, hB1⟩
          case measure => simp [intOf]; omega
      · clear ha hm
        have hkn : k = n := by omega
        rw [hkn] at HL
        go_wp2
        go_ret
        exact ⟨_, rfl, .inr ⟨hL0, HL.out⟩, hB⟩

set_option maxRecDepth 100000 in
set_option maxHeartbeats 2000000 in
theorem szNode_tot (d : ND) (p : NP) (L0 : Int) (w : World) (l0 : 0 ≤ L0) (l9 : L0 ≤ 1048576) (hC : NC w d p) :
    Calls Try.prog 25 #[.agg (ncells d p), .int .i64 L0] w fun e w' => ∃ r, e = .returned (.int .i64 r) ∧ (r = -1 ∨ (0 ≤ r ∧ r + (nZ d : Nat) = L0)) ∧ Below w.heap.size w w' := by
  have B := bel_alloc (Below.refl w.heap.size w) (.cells (ncells d p) 73)
  have X := Box.new w (ncells d p) 73
  replace hC := hC.below B
  go_enter Try.func25, Try.ntmps25
  go_wp2_with fail
  refine (szFrameS_tot _ _ d.nf d.f p.fp L0 _ l0 l9 hC.f).mono ?_
  rintro e w1 ⟨r1, rfl, h1, b1⟩
  replace B := bel_trans B b1
  replace X := X.below b1
  replace hC := hC.below b1
  clear b1
  rcases h1 with rfl | ⟨l1, s1⟩
  · clear X hC
    go_wp2
    go_ret
    exact ⟨_, rfl, .inl rfl, B⟩
  have u1 : r1 ≤ 1048576 := by omega
  have S1 : Hid _ := s1
  clear s1
  obtain ⟨x0, x1, x2, x3, x4, zx⟩ := X.at5
  go_wp2_with fail
  refine (szHomeS_tot _ _ d.nh d.h p.hp r1 _ l1 u1 hC.h).mono ?_
  rintro e w2 ⟨r2, rfl, h1, b1⟩
  replace B := bel_trans B b1
  replace X := X.below b1
  replace hC := hC.below b1
  clear b1 x0 x1 x2 x3 x4 zx
  rcases h1 with rfl | ⟨l2, s2⟩
  · clear X hC
    go_wp2
    go_ret
    exact ⟨_, rfl, .inl rfl, B⟩
  have u2 : r2 ≤ 1048576 := by omega
  have S2 : Hid _ := s2
  clear s2
  obtain ⟨x0, x1, x2, x3, x4, zx⟩ := X.at5
  go_wp2_with fail
  refine (szSenderS_tot _ _ d.no d.b d.y p.op p.ms r2 _ l2 u2 hC.o).mono ?_
  rintro e w3 ⟨r3, rfl, h1, b1⟩
  replace B := bel_trans B b1
  replace X := X.below b1
  replace hC := hC.below b1
  clear b1 x0 x1 x2 x3 x4 zx
  rcases h1 with rfl | ⟨l3, s3⟩
  · clear X hC
    go_wp2
    go_ret
    exact ⟨_, rfl, .inl rfl, B⟩
  have u3 : r3 ≤ 1048576 := by omega
  have S3 : Hid _ := s3
  clear s3
  obtain ⟨x0, x1, x2, x3, x4, zx⟩ := X.at5
  go_wp2_with fail
  refine (szReceiverS_tot _ _ d.ni r3 _ l3 u3 hC.i.1).mono ?_
  rintro e w4 ⟨r4, rfl, h1, b1⟩
  replace B := bel_trans B b1
  clear b1 x0 x1 x2 x3 x4 zx X hC
  rcases h1 with rfl | ⟨l4, s4⟩
  · go_wp2
    go_ret
    exact ⟨_, rfl, .inl rfl, B⟩
  have u4 : r4 ≤ 1048576 := by omega
  have S4 : Hid _ := s4
  clear s4
  have E : Hid (r4 + (nZ d : Nat) = L0) := by
    show _ = _
    have q1 := S1.out
    have q2 := S2.out
    have q3 := S3.out
    have q4 := S4.out
    unfold nZ
    omega
  go_wp2
  go_ret
  exact ⟨_, rfl, .inr ⟨l4, E.out⟩, B⟩

set_option maxRecDepth 100000 in
set_option maxHeartbeats 2000000 in
theorem szNodeS_tot (a : Option Addr) (ca n : Nat) (d : Nat → ND) (p : Nat → NP) (L0 : Int) (w : World) (l0 : 0 ≤ L0) (l1 : L0 ≤ 1048576) (ha : NsC w a n d p) :
    Calls Try.prog 16 #[.slice a n ca, .int .i64 L0] w fun e w' => ∃ r, e = .returned (.int .i64 r) ∧ (r = -1 ∨ (0 ≤ r ∧ r + (n + sumN (fun i => nZ (d i)) n : Nat) = L0)) ∧ Below w.heap.size w w' := by
  have hl : n ≤ 9223372036854775807 := by have h1 := ha.1; unfold maxLen at h1; omega
  by_cases hb : L0 < (n : Int)
  · clear ha
    go_enter Try.func16, Try.ntmps16
    go_wp2
    go_ret
    exact ⟨_, rfl, .inl rfl, Below.refl _ _⟩
  · have hb' : (n : Int) ≤ L0 := by omega
    go_enter Try.func16, Try.ntmps16
    go_wp2
    go_loopw [1, 5] (fun q i wr => ∃ (k : Nat) (L : Int), k ≤ n ∧ i = .int .i64 k ∧ q = .int .i64 L ∧ 0 ≤ L ∧ L + (n + sumN (fun i => nZ (d i)) k : Nat) = L0 ∧ NsC wr a n d p ∧ Below w.heap.size w wr) (fun _ i _ => n - (intOf i).toNat)
    case atStart => exact ⟨0, _, Nat.zero_le _, rfl, rfl, by omega, by simp [sumN], ha, Below.refl _ _⟩
    case round =>
      obtain ⟨k, L, hk, rfl, rfl, hL0, hL, hm, hB⟩ := hrel
      have HL : Hid (L + (n + sumN (fun i => nZ (d i)) k : Nat) = L0) := hL
      have hL1 : L ≤ 1048576 := by omega
      clear hL
      by_cases hlt : k < n
      · have hi : (k : Int) < (n : Int) := by omega
        obtain ⟨bl, off, rfl, hc⟩ := hm.2.1.chunk (s := 5) (fun i _ => rfl) (by decide) hlt
        have y0 := hc 0 _ rfl
        have y1 := hc 1 _ rfl
        have y2 := hc 2 _ rfl
        have y3 := hc 3 _ rfl
        have y4 := hc 4 _ rfl
        rw [Nat.add_zero] at y0
        have hml := hm.2.2 k hlt
        clear hc ha
        go_wp2_with fail
        refine (szNode_tot (d k) (p k) L _ hL0 hL1 hml).mono ?_
        rintro e w1 ⟨r, rfl, hsz, b1⟩
        have hm1 := hm.below b1
        have hB1 := bel_trans hB b1
        clear hm hB b1 y0 y1 y2 y3 y4 hml
        rcases hsz with rfl | ⟨hr0, hr2⟩
        · clear hm1
          go_wp2
          go_ret
          exact ⟨_, rfl, .inl rfl, hB1⟩
        · have HX : Hid (r + (n + sumN (fun i => nZ (d i)) (k + 1) : Nat) = L0) := by
            show _ = _
            have h1 := HL.out
            simp only [sumN] at h1 ⊢
            omega
          clear hr2
          go_wp2
          go_roundw
          case rel => exact ⟨k + 1, r, by omega, by go_num, rfl, hr0, HX.out, hm1, hB1⟩
          case measure => simp [intOf]; omega
      · clear ha hm
        have hkn : k = n := by omega
        rw [hkn] at HL
        go_wp2
        go_ret
        exact ⟨_, rfl, .inr ⟨hL0, HL.out⟩, hB⟩

set_option maxRecDepth 100000 in
set_option maxHeartbeats 2000000 in
theorem szPacketS_tot (a : Option Addr) (ca n : Nat) (d : Nat → PkD) (p : Nat → Pl) (L0 : Int) (w : World) (l0 : 0 ≤ L0) (l1 : L0 ≤ 1048576) (ha : PkC w a n d p) :
    Calls Try.prog 17 #[.slice a n ca, .int .i64 L0] w fun e w' => ∃ r, e = .returned (.int .i64 r) ∧ (r = -1 ∨ (0 ≤ r ∧ r + (n + sumN (fun i => kZ (d i)) n : Nat) = L0)) ∧ Below w.heap.size w w' := by
  have hl : n ≤ 9223372036854775807 := by have h1 := ha.1; unfold maxLen at h1; omega
  by_cases hb : L0 < (n : Int)
  · clear ha
    go_enter Try.func17, Try.ntmps17
    go_wp2
    go_ret
    exact ⟨_, rfl, .inl rfl, Below.refl _ _⟩
  · have hb' : (n : Int) ≤ L0 := by omega
    go_enter Try.func17, Try.ntmps17
    go_wp2
    go_loopw [1, 5] (fun q i wr => ∃ (k : Nat) (L : Int), k ≤ n ∧ i = .int .i64 k ∧ q = .int .i64 L ∧ 0 ≤ L ∧ L + (n + sumN (fun i => kZ (d i)) k : Nat) = L0 ∧ PkC wr a n d p ∧ Below w.heap.size w wr) (fun _ i _ => n - (intOf i).toNat)
    case atStart => exact ⟨0, _, Nat.zero_le _, rfl, rfl, by omega, by simp [sumN], ha, Below.refl _ _⟩
    case round =>
      obtain ⟨k, L, hk, rfl, rfl, hL0, hL, hm, hB⟩ := hrel
      have HL : Hid (L + (n + sumN (fun i => kZ (d i)) k : Nat) = L0) := hL
      have hL1 : L ≤ 1048576 := by omega
      clear hL
      by_cases hlt : k < n
      · have hi : (k : Int) < (n : Int) := by omega
        obtain ⟨bl, off, rfl, hc⟩ := hm.2.1.chunk (s := 8) (fun i _ => rfl) (by decide) hlt
        have y0 := hc 0 _ rfl
        have y1 := hc 1 _ rfl
        have y2 := hc 2 _ rfl
        have y3 := hc 3 _ rfl
        have y4 := hc 4 _ rfl
        have y5 := hc 5 _ rfl
        have y6 := hc 6 _ rfl
        have y7 := hc 7 _ rfl
        rw [Nat.add_zero] at y0
        have hml : (d k).xs.length ≤ maxLen := Nat.le_trans (hm.2.2 k hlt).1 (hm.2.2 k hlt).2.1
        clear hc ha
        go_wp2_with fail
        refine (szPacket_tot (d k) (p k) L _ hL0 hL1 hml).mono ?_
        rintro e w1 ⟨r, rfl, hsz, b1⟩
        have hm1 := hm.below b1
        have hB1 := bel_trans hB b1
        clear hm hB b1 y0 y1 y2 y3 y4 y5 y6 y7 hml
        rcases hsz with rfl | ⟨hr0, hr2⟩
        · clear hm1
          go_wp2
          go_ret
          exact ⟨_, rfl, .inl rfl, hB1⟩
        · have HX : Hid (r + (n + sumN (fun i => kZ (d i)) (k + 1) : Nat) = L0) := by
            show _ = _
            have h1 := HL.out
            simp only [sumN] at h1 ⊢
            omega
          clear hr2
          go_wp2
          go_roundw
          case rel => exact ⟨k + 1, r, by omega, by go_num, rfl, hr0, HX.out, hm1, hB1⟩
          case measure => simp [intOf]; omega
      · clear ha hm
        have hkn : k = n := by omega
        rw [hkn] at HL
        go_wp2
        go_ret
        exact ⟨_, rfl, .inr ⟨hL0, HL.out⟩, hB⟩

set_option maxRecDepth 100000 in
set_option maxHeartbeats 2000000 in
theorem szWorld_gen (d : WoD) (p : WoP) (L0 : Int) (w : World) (l0 : 0 ≤ L0) (l9 : L0 ≤ 1048576) (hC : WoC w d p) :
    Calls Try.prog 9 #[.agg (wcells d p), .int .i64 L0] w fun e w' => ∃ r, e = .returned (.int .i64 r) ∧ (r = -1 ∨ (0 ≤ r ∧ r + (wZ d : Nat) = L0)) ∧ Below w.heap.size w w' := by
  have B := bel_alloc (Below.refl w.heap.size w) (.cells (wcells d p) 25)
  have X := Box.new w (wcells d p) 25
  replace hC := hC.below B
  go_enter Try.func9, Try.ntmps9
  go_wp2_with fail
  refine (szNodeS_tot _ _ d.nn d.d p.np L0 _ l0 l9 hC.n).mono ?_
  rintro e w1 ⟨r1, rfl, h1, b1⟩
  replace B := bel_trans B b1
  replace X := X.below b1
  replace hC := hC.below b1
  clear b1
  rcases h1 with rfl | ⟨l1, s1⟩
  · clear X hC
    go_wp2
    go_ret
    exact ⟨_, rfl, .inl rfl, B⟩
  have u1 : r1 ≤ 1048576 := by omega
  have S1 : Hid _ := s1
  clear s1
  obtain ⟨x0, x1, x2, zx⟩ := X.at3
  go_wp2_with fail
  refine (szPacketS_tot _ _ d.nk d.k p.kp r1 _ l1 u1 hC.k).mono ?_
  rintro e w2 ⟨r2, rfl, h1, b1⟩
  replace B := bel_trans B b1
  clear b1 x0 x1 x2 zx X hC
  rcases h1 with rfl | ⟨l2, s2⟩
  · go_wp2
    go_ret
    exact ⟨_, rfl, .inl rfl, B⟩
  have u2 : r2 ≤ 1048576 := by omega
  have S2 : Hid _ := s2
  clear s2
  have E : Hid (r2 + (wZ d : Nat) = L0) := by
    show _ = _
    have q1 := S1.out
    have q2 := S2.out
    unfold wZ
    omega
  go_wp2
  go_ret
  exact ⟨_, rfl, .inr ⟨l2, E.out⟩, B⟩

theorem szWorld_tot (d : WoD) (p : WoP) (w : World) (hC : WoC w d p) :
    Calls Try.prog 9 #[.agg (wcells d p), .int .i64 1048576] w fun e w' => ∃ r, e = .returned (.int .i64 r) ∧ (r = -1 ∨ (0 ≤ r ∧ r + (wZ d : Nat) = 1048576)) ∧ Below w.heap.size w w' := szWorld_gen d p 1048576 w (by omega) (by omega) hC
end Go.Proofs.Ytpahjfijpjgdnaa
