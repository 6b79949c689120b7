/- What impl's Purge answers. -/
import Derived.Test.YtafikmpgmnhgcaaCaI2
namespace Go.Proofs.Ytafikmpgmnhgcaa
open Go.RowKit
set_option linter.unusedVariables false

theorem run_clear_none {P : Program} (w : World) (t ty : TypeId) (x : Option Addr) (c e : Nat) (ht : P.underlying t = some (.slice e)) : (Builtin.clear_ #[t] ty #[.slice x 0 c]).run P w = .ok (.tuple #[]) w := by
  cases x <;> simp [Builtin.clear_, run_underlying ht]
theorem zero_block (w : World) : (zeroValue 67).run Try.prog w = .ok (.agg #[.int .i64 0, .slice none 0 0]) w := by
  obtain ⟨i0, hi0, hz0, hz1, hz2⟩ := info_parts info_block2
  simp [zeroValue, typeInfo, hi0, hz0]
theorem clear_zs (n : Nat) : (Builtin.zeroCells (Value.agg #[.int .i64 0, .slice none 0 0]).cells n).toList = (Builtin.zeroCells #[.int .i64 0, .slice none 0 0] n).toList := rfl
theorem clear_len (n : Nat) : (Builtin.zeroCells #[.int .i64 0, .slice none 0 0] n).toList.length = n * 2 := by simp [Builtin.zeroCells]
theorem clear_one (n : Nat) : ∀ v ∈ (Builtin.zeroCells #[.int .i64 0, .slice none 0 0] n).toList, v.oneCell' = true := fun v hv => by
  simp [Builtin.zeroCells] at hv
  obtain ⟨i, hi, rfl⟩ := hv
  have : i % 2 = 0 ∨ i % 2 = 1 := by omega
  rcases this with e | e <;> rw [e] <;> rfl
/-- What stood behind is emptied. -/
theorem WLs.clear {w wr : World} {g c n : Nat} {d : Nat → KD} {p : Nat → Pl} {J : List Nat} {m : Nat} (h : WLs w wr (some ⟨g, 0, none⟩) c n d p J) (hm : m < n) :
    ∃ W, (∀ ty, (Builtin.clear_ #[33] ty #[.slice (some ⟨g, m * 2, none⟩) (n - m) (c - m)]).run Try.prog wr = .ok (.tuple #[]) W) ∧ Wout w W (some ⟨g, 0, none⟩) c d p J m := by
  have hf := owns_front h.row (fun i _ => wf_len J d p i) (by simp) (Nat.le_of_lt hm)
  rcases h.row.2 with ⟨h1, _⟩ | ⟨g', cap, cur, hv, hbg, hg, hnc, hcm, hcs, ht⟩
  · simp at h1
  simp only [Value.slice.injEq, Option.some.injEq, Addr.mk.injEq, and_true, true_and] at hv
  obtain ⟨rfl, rfl⟩ := hv
  have hlz := clear_len (n - m)
  have hmn : m * 2 + (n - m) * 2 ≤ cur.size := by omega
  refine ⟨_, fun ty => run_clear_wideYtafikmpgmnhgcaa wr 33 67 ty 67 _ Try.underlying33 zero_block g (m * 2) (n - m) (c - m) (by omega) cur hg _ (clear_zs _) (by rw [hlz]; exact hmn) (clear_one _), ?_, ?_⟩
  · rcases hf.2 with ⟨h1, _⟩ | ⟨g2, cap2, cur2, hv2, hbg2, hg2, hnc2, hcm2, hcs2, ht2⟩
    · simp at h1
    simp only [Value.slice.injEq, Option.some.injEq, Addr.mk.injEq, and_true, true_and] at hv2
    obtain ⟨rfl, rfl⟩ := hv2
    rw [hg] at hg2
    simp only [Option.some.injEq, Obj.cells.injEq, and_true] at hg2
    obtain rfl := hg2
    refine ⟨hf.1, .inr ⟨g, c, _, rfl, hbg, setRow_heap wr g _ _ 67 _ hg, by omega, hcm, ?_, ?_⟩⟩
    · simp [hlz]
      omega
    · rw [← ht2]
      simp only [List.append_assoc]
      rw [List.take_append_of_le_length (by simp; omega), List.take_take]
      simp
  · refine ⟨h.on.os, h.on.tape, h.on.output, by have := h.on.size; simp [World.setRow]; omega, fun i hi hne => ?_⟩
    rw [setRow_other wr g i _ (fun e => hne (by simp [blk, e]))]
    exact h.on.block i hi hne

theorem box_neK {w : World} {m : Nat} {cs : Array Value} {t : TypeId} (hX : Box w m cs t) {base e size n : Nat} {v : Value} {xs : List Value} (h : w.ownsRow base e size v n xs) (hne : t ≠ e) : v.ownBlock ≠ some m := by
  intro hk
  rcases h.2 with ⟨rfl, _⟩ | ⟨g, cap, cur, rfl, _, hg, _⟩
  · simp [Value.ownBlock] at hk
  · simp [Value.ownBlock] at hk
    subst hk
    unfold Box at hX
    rw [hX] at hg
    simp at hg
    exact hne hg.2

set_option maxRecDepth 100000 in
set_option maxHeartbeats 1000000 in
theorem purge1_any (d : KD) (a : Option Addr) (c nb : Nat) (page : Int) (w : World) (hX : Box w nb #[.int .i64 page] 3) (ha : IR w a d.n d.x) :
    Calls Try.prog 42 #[.agg #[.int .i64 d.st, .slice a d.n c], .pointer (some ⟨nb, 0, none⟩)] w fun e w' => e = .returned (.bool (!pgB page d)) ∧ Below w.heap.size w w' := by
  obtain ⟨V, hV⟩ : ∃ V, (if blockB d.st d.n d.x then d.st / 4 else -1) = V := ⟨_, rfl⟩
  have HV : Hid ((!pgB page d) = (V == page)) := by show _ = _; unfold pgB; rw [hV]; simp
  have HPg : Hid (∀ W, IR W a d.n d.x → Calls Try.prog 43 #[.agg #[.int .i64 d.st, .slice a d.n c]] W fun e w' => e = .returned (.int .i64 V) ∧ Below W.heap.size W w') := fun W h => by
    have h1 := implPageOf_any d.st a c d.n d.x W h
    rw [hV] at h1
    exact h1
  clear hV
  have bA := bel_alloc (Below.refl w.heap.size w) (.cells #[.int .i64 d.st, .slice a d.n c] 67)
  have X0 := hX.below bA
  have x0 : World.cell? _ ⟨nb, 0, none⟩ = some (.int .i64 page) := X0.cell 0
  have zx := X0.lt
  have hra : IR _ a d.n d.x := ha.below (below_drewN bA 1)
  clear ha hX
  go_enter Try.func42, Try.ntmps42
  go_wp2_with fail
  go_region_with (go_at_call 43; refine (HPg.out _ hra).mono ?_; rintro e w1 ⟨rfl, b1⟩; have x1 := cell_later (bel_undrew b1) x0)
  all_goals
    have B := bel_trans bA (bel_undrew b1)
    clear bA b1 X0 x0 zx hra
    go_wp2
    go_ret
    exact ⟨ret_bool HV.out.symm, B⟩

set_option maxRecDepth 100000 in
set_option maxHeartbeats 4000000 in
theorem without_any (a : Option Addr) (c n : Nat) (d : Nat → KD) (p : Nat → Pl) (nb : Nat) (page : Int) (w : World) (hn : n ≤ 1048577) (hx : ∀ i, i < n → (d i).n ≤ 1048577) (hX : Box w nb #[.int .i64 page] 3) (hK : KO w a c n d p) :
    Calls Try.prog 44 #[.slice a n c, .func (.func 42) #[] #[.pointer (some ⟨nb, 0, none⟩)]] w fun e w' => e = .returned (.slice a (keepJ page d n).length c) ∧ Wout w w' a c d p (keepJ page d n) (keepJ page d n).length := by
  have HX : Hid (∀ i, i < n → (d i).n ≤ 1048577) := hx
  have HB : Hid (Box w nb #[.int .i64 page] 3) := hX
  have HK : Hid (KO w a c n d p) := hK
  have HNB : Hid (¬ blk (a, c) = some nb) := fun e => box_neK hX hK.row (by decide) (blk_own e)
  have hcap := hK.cap
  have W0 : Hid (WLs w w a c n d p (keepJ page d 0)) := WLs.start hK
  clear hx hX hK
  go_enter Try.func44, Try.ntmps44
  go_wp2
  go_loopw [5, 10] (fun s i wr => ∃ k m : Nat, k ≤ n ∧ i = .int .i64 k ∧ s = .int .i64 m ∧ (keepJ page d k).length = m ∧ WLs w wr a c n d p (keepJ page d k)) (fun _ i _ => n - (intOf i).toNat)
  case atStart => exact ⟨0, 0, Nat.zero_le _, rfl, rfl, rfl, W0.out⟩
  case round =>
    obtain ⟨k, m, hk, rfl, rfl, hm, hL⟩ := hrel
    clear W0
    have HL : Hid (WLs w wr a c n d p (keepJ page d k)) := hL
    have HM : Hid ((keepJ page d k).length = m) := hm
    have hmk : m ≤ k := by rw [← hm]; exact keepJ_le page d k
    clear hL hm
    by_cases hkn : k < n
    · have hi' : (k : Int) < (n : Int) := by omega
      have hmn : (m : Int) < (n : Int) := by omega
      obtain ⟨g, rfl⟩ := owns_addr HL.out.row (by omega)
      have cc : ∀ t, t < 2 → wr.cell? ⟨g, k * 2 + t, none⟩ = (bkcells (d k) (p k))[t]? := fun t ht => by
        have := owns_chunk HL.out.row (fun i _ => wf_len _ d p i) hkn ht
        rw [this]
        unfold wf
        rw [if_neg (by rw [HM.out]; omega)]
      have y0 := cc 0 (by decide)
      have y1 := cc 1 (by decide)
      simp only [Nat.add_zero, bkcells, List.getElem?_cons_zero, List.getElem?_cons_succ] at y0 y1
      clear cc
      have hrow : IR wr (p k).1 (d k).n (d k).x := IOw.ir (HL.out.el HK.out hkn) (HX.out k hkn)
      have bx := bel_alloc (Below.refl wr.heap.size wr) (.cells #[.int .i64 (d k).st, .slice (p k).1 (d k).n (p k).2] 67)
      have XE := Box.new wr #[.int .i64 (d k).st, .slice (p k).1 (d k).n (p k).2] 67
      have hXb := (HB.out.only HL.out.on HNB.out).below bx
      have hrow := hrow.below bx
      go_wp2_with fail
      refine (purge1_any (d k) (p k).1 (p k).2 nb page _ hXb hrow).mono ?_
      rintro e w1 ⟨rfl, b1⟩
      have B1 := bel_trans bx b1
      cases hp : pgB page (d k)
      · have HL2 : Hid (WLs w w1 (some ⟨g, 0, none⟩) c n d p (keepJ page d (k + 1))) := by show WLs _ _ _ _ _ _ _ _; rw [keepJ_no hp]; exact HL.out.below B1
        have HM2 : Hid ((keepJ page d (k + 1)).length = m) := by show _ = _; rw [keepJ_no hp]; exact HM.out
        clear hp y0 y1 hrow bx XE hXb b1 B1
        go_wp2
        go_roundw
        case rel => exact ⟨k + 1, m, by omega, by go_num, rfl, HM2.out, HL2.out⟩
        case measure => simp [intOf]; omega
      · have HL2 : Hid (WLs w ((w1.setCell ⟨g, m * 2, none⟩ (.int .i64 (d k).st)).setCell ⟨g, m * 2 + 1, none⟩ (.slice (p k).1 (d k).n (p k).2)) (some ⟨g, 0, none⟩) c n d p (keepJ page d (k + 1))) := by show WLs _ _ _ _ _ _ _ _; rw [keepJ_yes hp]; exact HL.out.put (k := k) B1 HM.out (by omega)
        have HM2 : Hid ((keepJ page d (k + 1)).length = m + 1) := by show _ = _; rw [keepJ_yes hp, List.length_append, HM.out]; rfl
        obtain ⟨x0, x1, xz⟩ := (XE.below b1).at2
        have hr2 := owns_below HL.out.row B1
        have q0 := hr2.frozenAt (m * 2)
        have q1 := hr2.frozenAt (m * 2 + 1)
        obtain ⟨u0, g0⟩ := cellN hr2 (show m < n by omega) (t := 0) (by decide)
        obtain ⟨u1, g1⟩ := cellN hr2 (show m < n by omega) (t := 1) (by decide)
        rw [Nat.add_zero] at g0
        clear hp y0 y1 hrow bx XE hXb b1 B1 hr2
        go_wp2
        go_roundw
        case rel => exact ⟨k + 1, m + 1, by omega, by go_num, by go_num, HM2.out, HL2.out⟩
        case measure => simp [intOf]; omega
    · have hkn' : k = n := by omega
      subst hkn'
      clear hkn
      by_cases hmk' : m < k
      · obtain ⟨g, rfl⟩ := owns_addr HL.out.row (by omega)
        obtain ⟨W, hcl, hW⟩ := HL.out.clear hmk'
        have HW : Hid (Wout w W (some ⟨g, 0, none⟩) c d p (keepJ page d k) m) := hW
        clear hW HL
        have hmc : m < c := by omega
        have hmi : (m : Int) < (k : Int) := by omega
        go_wp2
        go_ret
        rw [HM.out]
        exact ⟨rfl, HW.out⟩
      · have : m = k := by omega
        subst this
        have HW : Hid (Wout w wr a c d p (keepJ page d m) m) := ⟨HL.out.row, HL.out.on⟩
        rcases HL.out.row.2 with ⟨h1, _⟩ | ⟨g, cap, cur, hv, _⟩
        · simp only [Value.slice.injEq] at h1
          obtain ⟨rfl, h2, rfl⟩ := h1
          subst h2
          have hcl : ∀ ty x cc, (Builtin.clear_ #[33] ty #[.slice x 0 cc]).run Try.prog wr = .ok (.tuple #[]) wr := fun ty x cc => run_clear_none wr _ ty x cc _ Try.underlying33
          clear hmk' HL hcap
          go_wp2
          go_ret
          rw [HM.out]
          exact ⟨rfl, HW.out⟩
        · simp only [Value.slice.injEq] at hv
          obtain ⟨rfl, -, -⟩ := hv
          have hcl : ∀ ty x cc, (Builtin.clear_ #[33] ty #[.slice x 0 cc]).run Try.prog wr = .ok (.tuple #[]) wr := fun ty x cc => run_clear_none wr _ ty x cc _ Try.underlying33
          clear HL
          by_cases hmc : m < c
          · go_wp2
            go_ret
            rw [HM.out]
            exact ⟨rfl, HW.out⟩
          · obtain rfl : m = c := by omega
            go_wp2
            go_ret
            rw [HM.out]
            exact ⟨rfl, HW.out⟩

set_option maxRecDepth 100000 in
set_option maxHeartbeats 2000000 in
theorem implPurge_any (a : Option Addr) (c n : Nat) (d : Nat → KD) (p : Nat → Pl) (page : Int) (w : World) (ha : KR w a n d p) :
    Calls Try.prog 24 #[.slice a n c, .int .i64 page] w (RowP (purL page d n) w) := by
  have hn := ha.1
  have HX : Hid (∀ i, i < n → (d i).n ≤ 1048577) := fun i hi => (ha.2.2 i hi).1
  have bA := bel_alloc (Below.refl w.heap.size w) (.cells #[.int .i64 page] 3)
  have X0 := Box.new w #[.int .i64 page] 3
  have hra := ha.below bA
  clear ha
  go_enter Try.func24, Try.ntmps24
  go_wp2_with fail
  refine (copyEachK_any a c n d p _ hra).mono ?_
  rintro e w1 ⟨a1, c1, p1, rfl, O1, l1, b1⟩
  have HP : Hid (KO w1 a1 c1 n d p1 ∧ (∀ b, RS a1 c1 n (fun i => QK (p1 i)) b → w.heap.size ≤ b) ∧ Below w.heap.size w w1) := ⟨O1, fun b hb => Nat.le_trans (by simp) (l1 b hb), bel_trans bA b1⟩
  have hXb := X0.below b1
  clear O1 l1 b1 bA X0 hra
  go_wp2_with fail
  refine (without_any a1 c1 n d p1 w.heap.size page _ hn HX.out hXb HP.out.1).mono ?_
  rintro e w2 ⟨rfl, hW⟩
  have HQ : Hid (KL w w2 (purL page d n) a1 c1 (fun i => p1 (jx (keepJ page d n) i))) := by
    show KL _ _ _ _ _ _
    rw [purL_J]
    exact KL.keep HP.out.1 HP.out.2.1 HP.out.2.2 (keepJ_nodup page d n) (fun j hj => keepJ_lt hj) rfl hW
  have HL : Hid ((purL page d n).length = (keepJ page d n).length) := by show _ = _; rw [purL_J, List.length_map]
  clear hW HP hXb
  go_wp2
  go_ret
  refine ⟨a1, c1, _, ?_, HQ.out⟩
  rw [HL.out]
  rfl
end Go.Proofs.Ytafikmpgmnhgcaa
