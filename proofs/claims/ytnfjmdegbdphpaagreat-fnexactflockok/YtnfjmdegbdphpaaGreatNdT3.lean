/- NdT2 and NdT3: see the heads of the parts. -/
import Derived.Test.YtnfjmdegbdphpaaGreatNdT
/- What the law's toHomeS, toSenderS, toReceiverS and toNode do, as a reader is told of it. -/
namespace Go.Proofs.YtnfjmdegbdphpaaGreat
open Go.RowKit
set_option linter.unusedVariables false

/-- A row of homes that is laid as far as place k, each with its rows. -/
structure HT (w : World) (lo g n k : Nat) (d : Nat → HD) (p : Nat → HP) : Prop where
  row : w.ownsRow lo 108 8 (.slice (some ⟨g, 0, none⟩) n n) n (chunks n fun i => if i < k then hcells (d i) (p i) else [.slice none 0 0, .int .i64 0, .slice none 0 0, .bool false, .int .i64 0, .bool false, .int .i64 0, .slice none 0 0])
  l : ∀ i, i < k → w.ownsRow lo 3 1 (.slice (p i).l.1 (d i).xs.length (p i).l.2) (d i).xs.length ((d i).xs.map (Value.int .i64))
  r : ∀ i, i < k → w.ownsRow lo 4 1 (.slice (p i).r.1 (d i).bs.length (p i).r.2) (d i).bs.length (bv (d i).bs)
  q : ∀ i, i < k → w.ownsRow lo 105 2 (.slice (p i).q.1 (d i).ws.length (p i).q.2) (d i).ws.length (wv (d i).ws)
theorem HT.step {w w2 : World} {lo g n k : Nat} {d : Nat → HD} {p : Nat → HP} (h : HT w lo g n k d p) (hk : k < n) (b : Below w.heap.size w w2) (hlo : lo ≤ w.heap.size) {al ar aq : Option Addr} {cl cr cq : Nat} (o2 : w2.ownsRow w.heap.size 3 1 (.slice al (d k).xs.length cl) (d k).xs.length ((d k).xs.map (Value.int .i64)))
    (r2 : w2.ownsRow w.heap.size 4 1 (.slice ar (d k).bs.length cr) (d k).bs.length (bv (d k).bs)) (q2 : w2.ownsRow w.heap.size 105 2 (.slice aq (d k).ws.length cq) (d k).ws.length (wv (d k).ws)) :
    HT (W8 w2 g (k * 8) (.slice al (d k).xs.length cl) (.int .i64 (d k).ow) (.slice ar (d k).bs.length cr) (.bool (d k).bz) (.int .i64 (d k).wh) (.bool (d k).wo) (.int .i64 (d k).ak) (.slice aq (d k).ws.length cq)) lo g n (k + 1) d (fun i => if i = k then ⟨(al, cl), (ar, cr), (aq, cq)⟩ else p i) := by
  have hr := owns_below h.row b
  have hf : ∀ i, i < n → ((fun i => if i < k then hcells (d i) (p i) else [.slice none 0 0, .int .i64 0, .slice none 0 0, .bool false, .int .i64 0, .bool false, .int .i64 0, .slice none 0 0]) i).length = 8 := fun i _ => by dsimp only; split <;> rfl
  have hs := store8 hr hf hk (.slice al (d k).xs.length cl) (.int .i64 (d k).ow) (.slice ar (d k).bs.length cr) (.bool (d k).bz) (.int .i64 (d k).wh) (.bool (d k).wo) (.int .i64 (d k).ak) (.slice aq (d k).ws.length cq)
  refine ⟨owns_congr hs (far_step (fun i hi => by rw [if_neg (by omega)]) (by simp [hcells])), fun i hi => ?_, fun i hi => ?_, fun i hi => ?_⟩
  · by_cases e : i = k
    · subst e
      simp only [if_pos]
      exact w8_owns (owns_base o2 hlo) (far_ne hr o2 (by decide)) _ _ _ _ _ _ _ _
    · simp only [if_neg e]
      have h0 := owns_below (h.l i (by omega)) b
      exact w8_owns h0 (far_ne hr h0 (by decide)) _ _ _ _ _ _ _ _
  · by_cases e : i = k
    · subst e
      simp only [if_pos]
      exact w8_owns (owns_base r2 hlo) (far_ne hr r2 (by decide)) _ _ _ _ _ _ _ _
    · simp only [if_neg e]
      have h0 := owns_below (h.r i (by omega)) b
      exact w8_owns h0 (far_ne hr h0 (by decide)) _ _ _ _ _ _ _ _
  · by_cases e : i = k
    · subst e
      simp only [if_pos]
      exact w8_owns (owns_base q2 hlo) (far_ne hr q2 (by decide)) _ _ _ _ _ _ _ _
    · simp only [if_neg e]
      have h0 := owns_below (h.q i (by omega)) b
      exact w8_owns h0 (far_ne hr h0 (by decide)) _ _ _ _ _ _ _ _
theorem HT.hr {w : World} {lo g n : Nat} {d : Nat → HD} {p : Nat → HP} (h : HT w lo g n n d p) (hn : n ≤ 1048576) (hx : ∀ i, i < n → (d i).xs.length ≤ 1048576 ∧ (d i).bs.length ≤ 1048576 ∧ (d i).ws.length ≤ 1048576) : HR2 w (some ⟨g, 0, none⟩) n d p := by
  refine ⟨by omega, ?_, fun i hi => ⟨owns_row' (h.l i hi) (by have := hx i hi; omega), owns_vrow' (h.r i hi) (by rw [bv_length]; have := hx i hi; omega), owns_vrow' (h.q i hi) (by rw [wv_length]; have := hx i hi; omega)⟩⟩
  have h1 := owns_congr (g := fun i => hcells (d i) (p i)) h.row (fun i hi => by rw [if_pos hi])
  exact owns_vrow' h1 (by rw [chunks_length (s := 8) n (fun i _ => rfl)]; omega)

theorem HT.ab {w w' : World} {lo g n k : Nat} {d : Nat → HD} {p : Nat → HP} (h : HT w lo g n k d p) (b : Ab lo w w') : HT w' lo g n k d p := ⟨owns_ab h.row b, fun i hi => owns_ab (h.l i hi) b, fun i hi => owns_ab (h.r i hi) b, fun i hi => owns_ab (h.q i hi) b⟩

set_option maxRecDepth 100000 in
set_option maxHeartbeats 2000000 in
theorem toHomeS_any (a : Option Addr) (ca n : Nat) (d : Nat → HD) (p : Nat → HP) (w : World) (hn : n ≤ 1048576) (hx : ∀ i, i < n → (d i).xs.length ≤ 1048576 ∧ (d i).bs.length ≤ 1048576 ∧ (d i).ws.length ≤ 1048576) (ha : HR2 w a n d p) :
    Calls Tryz.prog 93 #[.slice a n ca] w fun e w' => ∃ a' c' p', e = .returned (.slice a' n c') ∧ (∀ w2, Ab w.heap.size w' w2 → HR2 w2 a' n d p') ∧ Below w.heap.size w w' := by
  obtain ⟨i0, hi, hz0, hz1, hz2⟩ := info_parts info_home2
  have HX : Hid (∀ i, i < n → (d i).xs.length ≤ 1048576 ∧ (d i).bs.length ≤ 1048576 ∧ (d i).ws.length ≤ 1048576) := hx
  clear hx
  go_enter Tryz.func93, Tryz.ntmps93
  go_wp2_with (at_make; refine wpList_make_full _ rfl (.tmp 6) (.tmp 6) 52 rfl w.heap.size 108 i0 (.agg #[.slice none 0 0, .int .i64 0, .slice none 0 0, .bool false, .int .i64 0, .bool false, .int .i64 0, .slice none 0 0]) 8 Tryz.underlying52 hi hz0 hz1 .i64 .i64 _ _ n rfl rfl rfl rfl (by rw [hz2]; omega) (by unfold maxLen; omega) (Nat.le_refl _) ?_)
  intro w1 ho hg
  have hb1 : Below w.heap.size w w1 := (Below.refl _ _).grown hg (Nat.le_refl _) (fun k hk => by cases hk)
  rw [made_chunks _ 8 n rfl (by decide)] at ho
  have F0 : HT w1 w.heap.size w.heap.size n 0 d (fun _ => ⟨(none, 0), (none, 0), (none, 0)⟩) := ⟨by simpa using ho, fun i hi => absurd hi (Nat.not_lt_zero i), fun i hi => absurd hi (Nat.not_lt_zero i), fun i hi => absurd hi (Nat.not_lt_zero i)⟩
  clear hg ho
  go_wp2
  go_loopw [4] (fun i wr => ∃ k : Nat, k ≤ n ∧ i = .int .i64 k ∧ ∃ p', HT wr w.heap.size w.heap.size n k d p' ∧ Below w.heap.size w wr) (fun i _ => n - (intOf i).toNat)
  case atStart => exact ⟨0, Nat.zero_le _, rfl, _, F0, hb1⟩
  case round =>
    obtain ⟨k, hk, rfl, p', hF, hbr⟩ := hrel
    clear F0 hb1
    by_cases hkn : k < n
    · have hi' : (k : Int) < (n : Int) := by omega
      have har := ha.below hbr
      obtain ⟨b, off, rfl, y0, y1, y2, y3, y4, y5, y6, y7⟩ := har.at hkn
      obtain ⟨h1, h2, h3⟩ := har.2.2 k hkn
      go_wp2_with fail
      refine (toHome_any (d k).ow (d k).wh (d k).ak (d k).bz (d k).wo (p k).l.1 (p k).r.1 (p k).q.1 (p k).l.2 (p k).r.2 (p k).q.2 (d k).xs (d k).bs (d k).ws _ (HX.out k hkn).1 (HX.out k hkn).2.1 (HX.out k hkn).2.2 h1 h2 h3).mono ?_
      rintro e w2 ⟨al, cl, ar, cr, aq, cq, rfl, o2, r2, q2, b2⟩
      have R : Hid _ := hF.step hkn b2 hbr.size o2 r2 q2
      have hr2 := owns_below hF.row b2
      have B : Hid _ := w8_bel (bel_trans hbr b2) (Nat.le_refl _) (k * 8) (.slice al (d k).xs.length cl) (.int .i64 (d k).ow) (.slice ar (d k).bs.length cr) (.bool (d k).bz) (.int .i64 (d k).wh) (.bool (d k).wo) (.int .i64 (d k).ak) (.slice aq (d k).ws.length cq)
      have z : ∀ t, w2.frozen? ⟨w.heap.size, t, none⟩ = false := fun t => hr2.frozenAt t
      obtain ⟨u0, g0⟩ := cellN hr2 hkn (t := 0) (by decide)
      obtain ⟨u1, g1⟩ := cellN hr2 hkn (t := 1) (by decide)
      obtain ⟨u2, g2⟩ := cellN hr2 hkn (t := 2) (by decide)
      obtain ⟨u3, g3⟩ := cellN hr2 hkn (t := 3) (by decide)
      obtain ⟨u4, g4⟩ := cellN hr2 hkn (t := 4) (by decide)
      obtain ⟨u5, g5⟩ := cellN hr2 hkn (t := 5) (by decide)
      obtain ⟨u6, g6⟩ := cellN hr2 hkn (t := 6) (by decide)
      obtain ⟨u7, g7⟩ := cellN hr2 hkn (t := 7) (by decide)
      rw [Nat.add_zero] at g0
      clear hF har y0 y1 y2 y3 y4 y5 y6 y7 h1 h2 h3 hr2 o2 r2 q2 b2 hbr ha
      go_wp2
      go_roundw
      case rel => exact ⟨k + 1, by omega, by go_num, _, R.out, B.out⟩
      case measure => simp [intOf]; omega
    · have : k = n := by omega
      subst this
      have R : Hid (∀ w2, Ab w.heap.size wr w2 → HR2 w2 (some ⟨w.heap.size, 0, none⟩) k d p') := fun w2 hb => (hF.ab hb).hr hn HX.out
      clear hF ha
      go_wp2
      go_ret
      exact ⟨_, _, p', rfl, R.out, hbr⟩

/-- A row of senders that is laid as far as place k, each with what it queues. -/
structure ST (w : World) (lo g n k : Nat) (b : Nat → Int) (y : Nat → List Say) (p : Nat → Pl) (ms : Nat → List M) : Prop where
  row : w.ownsRow lo 112 2 (.slice (some ⟨g, 0, none⟩) n n) n (chunks n fun i => if i < k then scells (b i) (p i) (y i).length else s0 0)
  l : ∀ i, i < k → Deep w lo (p i).1 (p i).2 (ms i)
  e : ∀ i, i < k → (ms i).map M.say = y i
theorem Deep.set {w : World} {lo : Nat} {a : Option Addr} {c : Nat} {ms : List M} (h : Deep w lo a c ms) {g t : Nat} {u : Value} {lo2 n2 c2 : Nat} {xs : List Value} (o : w.ownsRow lo2 112 2 (.slice (some ⟨g, 0, none⟩) n2 c2) n2 xs) : Deep (w.setCell ⟨g, t, none⟩ u) lo a c ms :=
  ⟨owns_setCell h.row (far_ne o h.row (by decide)) u, h.lists.far _ _ (fun m hm j hj => far_ne o (h.lists.1 m hm) (by decide) j hj)⟩
theorem ST.step {w w2 : World} {lo g n k : Nat} {b : Nat → Int} {y : Nat → List Say} {p : Nat → Pl} {ms : Nat → List M} (h : ST w lo g n k b y p ms) (hk : k < n) (bb : Below w.heap.size w w2) (hlo : lo ≤ w.heap.size) {a2 : Option Addr} {c2 : Nat} {ds : List M} (o2 : Deep w2 w.heap.size a2 c2 ds) (he : ds.map M.say = y k) :
    ST ((w2.setCell ⟨g, k * 2, none⟩ (.int .i64 (b k))).setCell ⟨g, k * 2 + 1, none⟩ (.slice a2 (y k).length c2)) lo g n (k + 1) b y (fun i => if i = k then (a2, c2) else p i) (fun i => if i = k then ds else ms i) := by
  have hr := owns_below h.row bb
  have hf : ∀ i, i < n → ((fun i => if i < k then scells (b i) (p i) (y i).length else s0 0) i).length = 2 := fun i _ => by dsimp only; split <;> rfl
  have hs := store2 hr hf hk (.int .i64 (b k)) (.slice a2 (y k).length c2)
  have hs1 := (hr.stored (k * 2) (.int .i64 (b k))).1
  refine ⟨owns_congr hs (far_step (fun i hi => by rw [if_neg (by omega)]) (by simp [scells])), fun i hi => ?_, fun i hi => ?_⟩
  · by_cases e : i = k
    · subst e
      simp only [if_pos]
      have h0 : Deep w2 lo a2 c2 ds := ⟨owns_base o2.row hlo, o2.lists.base hlo⟩
      exact Deep.set (Deep.set h0 hr) hs1
    · simp only [if_neg e]
      exact Deep.set (Deep.set ((h.l i (by omega)).below bb) hr) hs1
  · by_cases e : i = k
    · subst e
      simp only [if_pos]
      exact he
    · simp only [if_neg e]
      exact h.e i (by omega)
theorem ST.sr {w : World} {lo g n : Nat} {b : Nat → Int} {y : Nat → List Say} {p : Nat → Pl} {ms : Nat → List M} (h : ST w lo g n n b y p ms) (hn : n ≤ 1048576) (hx : ∀ i, i < n → (y i).length ≤ 1048576 ∧ ∀ s ∈ y i, s.2.2.2.length ≤ 1048576) : SR w (some ⟨g, 0, none⟩) n b y p ms := by
  refine ⟨by omega, ?_, fun i hi => ⟨(h.l i hi).mrow ?_ ?_, h.e i hi⟩⟩
  · have h1 := owns_congr (g := fun i => scells (b i) (p i) (y i).length) h.row (fun i hi => by rw [if_pos hi])
    exact owns_vrow' h1 (by rw [chunks_length (s := 2) n (fun i _ => rfl)]; omega)
  · have h1 := congrArg List.length (h.e i hi)
    have := hx i hi
    simp at h1
    omega
  · intro m hm
    have h1 : m.say ∈ y i := by rw [← h.e i hi]; exact List.mem_map_of_mem hm
    have := (hx i hi).2 _ h1
    simp [M.say] at this
    omega

theorem ST.ab {w w' : World} {lo g n k : Nat} {b : Nat → Int} {y : Nat → List Say} {p : Nat → Pl} {ms : Nat → List M} (h : ST w lo g n k b y p ms) (bb : Ab lo w w') : ST w' lo g n k b y p ms := ⟨owns_ab h.row bb, fun i hi => ⟨owns_ab (h.l i hi).row bb, fun m hm => owns_ab ((h.l i hi).lists.1 m hm) bb, (h.l i hi).lists.2⟩, h.e⟩

set_option maxRecDepth 100000 in
set_option maxHeartbeats 2000000 in
theorem toSenderS_any (a : Option Addr) (ca n : Nat) (b : Nat → Int) (y : Nat → List Say) (p : Nat → Pl) (ms : Nat → List M) (w : World) (hn : n ≤ 1048576) (hx : ∀ i, i < n → (y i).length ≤ 1048576 ∧ ∀ s ∈ y i, s.2.2.2.length ≤ 1048576) (ha : SR w a n b y p ms) :
    Calls Tryz.prog 94 #[.slice a n ca] w fun e w' => ∃ a' c' p' ms', e = .returned (.slice a' n c') ∧ (∀ w2, Ab w.heap.size w' w2 → SR w2 a' n b y p' ms') ∧ Below w.heap.size w w' := by
  obtain ⟨i0, hi, hz0, hz1, hz2⟩ := info_parts info_sender2
  have HX : Hid (∀ i, i < n → (y i).length ≤ 1048576 ∧ ∀ s ∈ y i, s.2.2.2.length ≤ 1048576) := hx
  clear hx
  go_enter Tryz.func94, Tryz.ntmps94
  go_wp2_with (at_make; refine wpList_make_full _ rfl (.tmp 6) (.tmp 6) 53 rfl w.heap.size 112 i0 (.agg #[.int .i64 0, .slice none 0 0]) 2 Tryz.underlying53 hi hz0 hz1 .i64 .i64 _ _ n rfl rfl rfl rfl (by rw [hz2]; omega) (by unfold maxLen; omega) (Nat.le_refl _) ?_)
  intro w1 ho hg
  have hb1 : Below w.heap.size w w1 := (Below.refl _ _).grown hg (Nat.le_refl _) (fun k hk => by cases hk)
  rw [made_chunks _ 2 n rfl (by decide)] at ho
  have F0 : ST w1 w.heap.size w.heap.size n 0 b y (fun _ => (none, 0)) (fun _ => []) := ⟨by simpa [s0] using ho, fun i hi => absurd hi (Nat.not_lt_zero i), fun i hi => absurd hi (Nat.not_lt_zero i)⟩
  clear hg ho
  go_wp2
  go_loopw [4] (fun i wr => ∃ k : Nat, k ≤ n ∧ i = .int .i64 k ∧ ∃ p' ms', ST wr w.heap.size w.heap.size n k b y p' ms' ∧ Below w.heap.size w wr) (fun i _ => n - (intOf i).toNat)
  case atStart => exact ⟨0, Nat.zero_le _, rfl, _, _, F0, hb1⟩
  case round =>
    obtain ⟨k, hk, rfl, p', ms', hF, hbr⟩ := hrel
    clear F0 hb1
    by_cases hkn : k < n
    · have hi' : (k : Int) < (n : Int) := by omega
      have har := ha.below hbr
      obtain ⟨bl, off, rfl, y0, y1⟩ := har.at hkn
      obtain ⟨hm, hE⟩ := har.2.2 k hkn
      have HE : Hid ((ms k).map M.say = y k) := hE
      have HL : (y k).length = (ms k).length := by have := congrArg List.length hE; simpa using this.symm
      have hXk := HX.out k hkn
      have l1 : (ms k).length ≤ 1048576 := by rw [← HL]; exact hXk.1
      have l2 : ∀ m ∈ ms k, m.xs.length ≤ 1048576 := fun m hm' => by
        have h1 : m.say ∈ y k := by rw [← hE]; exact List.mem_map_of_mem hm'
        have := hXk.2 _ h1
        simpa [M.say] using this
      have HLL : Hid ((y k).length = (ms k).length) := HL
      rw [HL] at y1
      clear hE hXk HL
      go_wp2_with fail
      refine (toSender_any (b k) (p k).1 (p k).2 (ms k) _ l1 l2 hm).mono ?_
      rintro e w2 ⟨a2, c2, ds, rfl, hds, o2, b2⟩
      have R : Hid _ := hF.step hkn b2 hbr.size o2 (hds.trans HE.out)
      rw [HLL.out] at R
      have hr2 := owns_below hF.row b2
      have B : Hid _ := bel_setCell (bel_setCell (bel_trans hbr b2) ⟨w.heap.size, k * 2, none⟩ (.int .i64 (b k)) (Nat.le_refl _)) ⟨w.heap.size, k * 2 + 1, none⟩ (.slice a2 (ms k).length c2) (Nat.le_refl _)
      have q0 := hr2.frozenAt (k * 2)
      have q1 := hr2.frozenAt (k * 2 + 1)
      obtain ⟨u0, g0⟩ := cellN hr2 hkn (t := 0) (by decide)
      obtain ⟨u1, g1⟩ := cellN hr2 hkn (t := 1) (by decide)
      rw [Nat.add_zero] at g0
      clear hF har y0 y1 hm hr2 o2 b2 hbr ha l1 l2 hds
      go_wp2
      go_roundw
      case rel => exact ⟨k + 1, by omega, by go_num, _, _, R.out, B.out⟩
      case measure => simp [intOf]; omega
    · have : k = n := by omega
      subst this
      have R : Hid (∀ w2, Ab w.heap.size wr w2 → SR w2 (some ⟨w.heap.size, 0, none⟩) k b y p' ms') := fun w2 hb => (hF.ab hb).sr hn HX.out
      clear hF ha
      go_wp2
      go_ret
      exact ⟨_, _, p', ms', rfl, R.out, hbr⟩
end Go.Proofs.YtnfjmdegbdphpaaGreat

/- What the law's toReceiverS and toNode do, as a reader is told of it. -/
namespace Go.Proofs.YtnfjmdegbdphpaaGreat
open Go.RowKit
set_option linter.unusedVariables false

set_option maxHeartbeats 400000 in
theorem toReceiver_any (g : Int) (w : World) :
    Calls Tryz.prog 124 #[.agg #[.int .i64 g]] w fun e w' => e = .returned (.agg #[.int .i64 g]) ∧ Below w.heap.size w w' := by
  have bA := bel_alloc (bel_alloc (bel_alloc (Below.refl w.heap.size w) (.cells #[.int .i64 g] 199)) (.cells #[.int .i64 g] 114)) (.cells #[.int .i64 g] 114)
  go_enter Tryz.func124, Tryz.ntmps124
  go_wp2
  refine bodyPost_ret (v := .agg #[.int .i64 g]) (by simp [results, Tryz.results124, go_sem]) rfl ⟨rfl, ?_⟩
  exact bA

set_option maxRecDepth 100000 in
set_option maxHeartbeats 1000000 in
theorem toReceiverS_any (a : Option Addr) (ca n : Nat) (g : Nat → Int) (w : World) (hn : n ≤ 1048576) (ha : GR w a n g) :
    Calls Tryz.prog 95 #[.slice a n ca] w fun e w' => ∃ a' c', e = .returned (.slice a' n c') ∧ (∀ w2, Ab w.heap.size w' w2 → GR w2 a' n g) ∧ Below w.heap.size w w' := by
  obtain ⟨i0, hi, hz0, hz1, hz2⟩ := info_parts info_receiver2
  go_enter Tryz.func95, Tryz.ntmps95
  go_wp2_with (at_make; refine wpList_make_full _ rfl (.tmp 6) (.tmp 6) 54 rfl w.heap.size 114 i0 (.agg #[.int .i64 0]) 1 Tryz.underlying54 hi hz0 hz1 .i64 .i64 _ _ n rfl rfl rfl rfl (by rw [hz2]; omega) (by unfold maxLen; omega) (Nat.le_refl _) ?_)
  intro w1 ho hg
  have hb1 : Below w.heap.size w w1 := (Below.refl _ _).grown hg (Nat.le_refl _) (fun k hk => by cases hk)
  have e0 := made_chunks #[.int .i64 0] 1 n rfl (by decide)
  rw [Nat.mul_one] at e0
  rw [e0] at ho
  have F0 : w1.ownsRow w.heap.size 114 1 (.slice (some ⟨w.heap.size, 0, none⟩) n n) n (chunks n fun i => if i < 0 then gcells (g i) else gcells 0) := by simpa [gcells] using ho
  clear hg ho
  go_wp2
  go_loopw [4] (fun i wr => ∃ k : Nat, k ≤ n ∧ i = .int .i64 k ∧ wr.ownsRow w.heap.size 114 1 (.slice (some ⟨w.heap.size, 0, none⟩) n n) n (chunks n fun i => if i < k then gcells (g i) else gcells 0) ∧ Below w.heap.size w wr) (fun i _ => n - (intOf i).toNat)
  case atStart => exact ⟨0, Nat.zero_le _, rfl, F0, hb1⟩
  case round =>
    obtain ⟨k, hk, rfl, hF, hbr⟩ := hrel
    clear F0 hb1
    by_cases hkn : k < n
    · have hi' : (k : Int) < (n : Int) := by omega
      have har := ha.below hbr
      obtain ⟨b, off, rfl, y0⟩ := har.at hkn
      go_wp2_with fail
      refine (toReceiver_any (g k) _).mono ?_
      rintro e w2 ⟨rfl, b2⟩
      have hr2 := owns_below hF b2
      have R : Hid _ := owns_congr (store1 hr2 (fun i _ => by split <;> rfl) hkn (.int .i64 (g k))) (far_step (z := gcells 0) (m := fun i => gcells (g i)) (m' := fun i => gcells (g i)) (fun i hi => rfl) rfl)
      have B : Hid _ := bel_setCell (bel_trans hbr b2) ⟨w.heap.size, k, none⟩ (.int .i64 (g k)) (Nat.le_refl _)
      have q0 := hr2.frozenAt k
      obtain ⟨u0, g0⟩ := cellN hr2 hkn (t := 0) (by decide)
      rw [Nat.add_zero, Nat.mul_one] at g0
      clear hF har y0 hr2 b2 hbr ha
      go_wp2
      go_roundw
      case rel => exact ⟨k + 1, by omega, by go_num, R.out, B.out⟩
      case measure => simp [intOf]; omega
    · have : k = n := by omega
      subst this
      have R : Hid (∀ w2, Ab w.heap.size wr w2 → GR w2 (some ⟨w.heap.size, 0, none⟩) k g) := fun w2 hb => ⟨by omega, owns_vrow' (owns_congr (g := fun i => gcells (g i)) (owns_ab hF hb) (fun i hi => by rw [if_pos hi])) (by rw [chunks_length (s := 1) k (fun i _ => rfl)]; omega)⟩
      clear hF ha
      go_wp2
      go_ret
      exact ⟨_, _, rfl, R.out, hbr⟩

/-- How great a node may be. -/
structure Nsm (d : ND) : Prop where
  f : d.nf ≤ 1048576 ∧ ∀ i, i < d.nf → (d.f i).xs.length ≤ 1048576
  h : d.nh ≤ 1048576 ∧ ∀ i, i < d.nh → (d.h i).xs.length ≤ 1048576 ∧ (d.h i).bs.length ≤ 1048576 ∧ (d.h i).ws.length ≤ 1048576
  o : d.no ≤ 1048576 ∧ ∀ i, i < d.no → (d.y i).length ≤ 1048576 ∧ ∀ s ∈ d.y i, s.2.2.2.length ≤ 1048576
  i : d.ni ≤ 1048576

set_option maxRecDepth 100000 in
set_option maxHeartbeats 4000000 in
theorem toNode_any (d : ND) (p : NP) (w : World) (hd : Nsm d) (hR : NR w d p) :
    Calls Tryz.prog 52 #[.agg (ncells d p)] w fun e w' => ∃ p', e = .returned (.agg (ncells d p')) ∧ NR w' d p' ∧ Below w.heap.size w w' := by
  have B := bel_alloc (bel_alloc (bel_alloc (Below.refl w.heap.size w) (.cells (ncells d p) 92)) (.cells #[.int .i64 0, .slice none 0 0, .slice none 0 0, .slice none 0 0, .slice none 0 0] 56)) (.cells #[.int .i64 d.id, .slice none 0 0, .slice none 0 0, .slice none 0 0, .slice none 0 0] 56)
  obtain ⟨XA, XR, XO⟩ := Box.tri w (ncells d p) #[.int .i64 0, .slice none 0 0, .slice none 0 0, .slice none 0 0, .slice none 0 0] #[.int .i64 d.id, .slice none 0 0, .slice none 0 0, .slice none 0 0, .slice none 0 0] 92 56 56
  have hR0 := hR.below B
  have HR : Hid (NR w d p) := hR
  have HD : Hid (Nsm d) := hd
  clear hR hd
  go_enter Tryz.func52, Tryz.ntmps52
  go_wp2_with fail
  refine (toFrameS_any _ _ d.nf d.f p.fp _ HD.out.f.1 HD.out.f.2 hR0.f).mono ?_
  rintro e w1 ⟨a1, c1, p1, rfl, r1, b1⟩
  have hz1 : w.heap.size + 3 ≤ w1.heap.size := by have := b1.size; simp at this; omega
  replace XA := XA.below b1
  replace XR := XR.below b1
  replace XO := XO.below b1
  replace B := bel_trans B b1
  have R1 : Hid (∀ wz, Ab (w.heap.size + 3) w1 wz → FR wz a1 d.nf d.f p1) := fun wz h => r1 wz (h.mono (by first | omega | (simp; done) | (simp; omega)))
  clear b1 r1 hR0
  have XA1 := XA.far ⟨w.heap.size + 1 + 1, 1, none⟩ (.slice a1 d.nf c1) (by first | omega | (simp; done) | (simp; omega))
  have XR1 := XR.far ⟨w.heap.size + 1 + 1, 1, none⟩ (.slice a1 d.nf c1) (by first | omega | (simp; done) | (simp; omega))
  have XO1 : Box (w1.setCell ⟨w.heap.size + 1 + 1, 1, none⟩ (.slice a1 d.nf c1)) (w.heap.size + 1 + 1) #[.int .i64 d.id, .slice a1 d.nf c1, .slice none 0 0, .slice none 0 0, .slice none 0 0] 56 := heap_setCell_same _ _ 1 _ _ _ XO
  have B1 := bel_setCell B ⟨w.heap.size + 1 + 1, 1, none⟩ (.slice a1 d.nf c1) (by first | omega | (simp; done) | (simp; omega))
  have A1 : Hid (Ab (w.heap.size + 3) w1 (w1.setCell ⟨w.heap.size + 1 + 1, 1, none⟩ (.slice a1 d.nf c1))) := (Ab.refl _ _).set _ _ (by first | omega | (simp; done) | (simp; omega))
  have hR1 := HR.out.below B1
  obtain ⟨x0, x1, x2, x3, x4, zx⟩ := XA.at5
  obtain ⟨o0, o1, o2, o3, o4, zo⟩ := XO.at5
  have fz := XO.frozen 1
  go_wp2_with fail
  refine (toHomeS_any _ _ d.nh d.h p.hp _ HD.out.h.1 HD.out.h.2 hR1.h).mono ?_
  rintro e w2 ⟨a2, c2, p2, rfl, r2, b2⟩
  have hz2 : w1.heap.size ≤ w2.heap.size := by have := b2.size; simp at this; omega
  replace XA := XA1.below b2
  replace XR := XR1.below b2
  replace XO := XO1.below b2
  replace B := bel_trans B1 b2
  replace A1 : Hid (Ab (w.heap.size + 3) w1 w2) := A1.out.below (by first | omega | (simp; done) | (simp; omega)) b2
  clear XA1 XR1 XO1 B1 hR1 x0 x1 x2 x3 x4 zx o0 o1 o2 o3 o4 zo fz
  have R2 : Hid (∀ wz, Ab (w.heap.size + 3) w2 wz → HR2 wz a2 d.nh d.h p2) := fun wz h => r2 wz (h.mono (by first | omega | (simp; done) | (simp; omega)))
  clear b2 r2
  have XA2 := XA.far ⟨w.heap.size + 1 + 1, 2, none⟩ (.slice a2 d.nh c2) (by first | omega | (simp; done) | (simp; omega))
  have XR2 := XR.far ⟨w.heap.size + 1 + 1, 2, none⟩ (.slice a2 d.nh c2) (by first | omega | (simp; done) | (simp; omega))
  have XO2 : Box (w2.setCell ⟨w.heap.size + 1 + 1, 2, none⟩ (.slice a2 d.nh c2)) (w.heap.size + 1 + 1) #[.int .i64 d.id, .slice a1 d.nf c1, .slice a2 d.nh c2, .slice none 0 0, .slice none 0 0] 56 := heap_setCell_same _ _ 2 _ _ _ XO
  have B2 := bel_setCell B ⟨w.heap.size + 1 + 1, 2, none⟩ (.slice a2 d.nh c2) (by first | omega | (simp; done) | (simp; omega))
  replace A1 : Hid (Ab (w.heap.size + 3) w1 (w2.setCell ⟨w.heap.size + 1 + 1, 2, none⟩ (.slice a2 d.nh c2))) := A1.out.set _ _ (by first | omega | (simp; done) | (simp; omega))
  have A2 : Hid (Ab (w.heap.size + 3) w2 (w2.setCell ⟨w.heap.size + 1 + 1, 2, none⟩ (.slice a2 d.nh c2))) := (Ab.refl _ _).set _ _ (by first | omega | (simp; done) | (simp; omega))
  have hR2 := HR.out.below B2
  obtain ⟨x0, x1, x2, x3, x4, zx⟩ := XA.at5
  obtain ⟨o0, o1, o2, o3, o4, zo⟩ := XO.at5
  have fz := XO.frozen 2
  go_wp2_with fail
  refine (toSenderS_any _ _ d.no d.b d.y p.op p.ms _ HD.out.o.1 HD.out.o.2 hR2.o).mono ?_
  rintro e w3 ⟨a3, c3, p3, m3, rfl, r3, b3⟩
  have hz3 : w2.heap.size ≤ w3.heap.size := by have := b3.size; simp at this; omega
  replace XA := XA2.below b3
  replace XR := XR2.below b3
  replace XO := XO2.below b3
  replace B := bel_trans B2 b3
  replace A1 : Hid (Ab (w.heap.size + 3) w1 w3) := A1.out.below (by first | omega | (simp; done) | (simp; omega)) b3
  replace A2 : Hid (Ab (w.heap.size + 3) w2 w3) := A2.out.below (by first | omega | (simp; done) | (simp; omega)) b3
  clear XA2 XR2 XO2 B2 hR2 x0 x1 x2 x3 x4 zx o0 o1 o2 o3 o4 zo fz
  have R3 : Hid (∀ wz, Ab (w.heap.size + 3) w3 wz → SR wz a3 d.no d.b d.y p3 m3) := fun wz h => r3 wz (h.mono (by first | omega | (simp; done) | (simp; omega)))
  clear b3 r3
  have XA3 := XA.far ⟨w.heap.size + 1 + 1, 3, none⟩ (.slice a3 d.no c3) (by first | omega | (simp; done) | (simp; omega))
  have XR3 := XR.far ⟨w.heap.size + 1 + 1, 3, none⟩ (.slice a3 d.no c3) (by first | omega | (simp; done) | (simp; omega))
  have XO3 : Box (w3.setCell ⟨w.heap.size + 1 + 1, 3, none⟩ (.slice a3 d.no c3)) (w.heap.size + 1 + 1) #[.int .i64 d.id, .slice a1 d.nf c1, .slice a2 d.nh c2, .slice a3 d.no c3, .slice none 0 0] 56 := heap_setCell_same _ _ 3 _ _ _ XO
  have B3 := bel_setCell B ⟨w.heap.size + 1 + 1, 3, none⟩ (.slice a3 d.no c3) (by first | omega | (simp; done) | (simp; omega))
  replace A1 : Hid (Ab (w.heap.size + 3) w1 (w3.setCell ⟨w.heap.size + 1 + 1, 3, none⟩ (.slice a3 d.no c3))) := A1.out.set _ _ (by first | omega | (simp; done) | (simp; omega))
  replace A2 : Hid (Ab (w.heap.size + 3) w2 (w3.setCell ⟨w.heap.size + 1 + 1, 3, none⟩ (.slice a3 d.no c3))) := A2.out.set _ _ (by first | omega | (simp; done) | (simp; omega))
  have A3 : Hid (Ab (w.heap.size + 3) w3 (w3.setCell ⟨w.heap.size + 1 + 1, 3, none⟩ (.slice a3 d.no c3))) := (Ab.refl _ _).set _ _ (by first | omega | (simp; done) | (simp; omega))
  have hR3 := HR.out.below B3
  obtain ⟨x0, x1, x2, x3, x4, zx⟩ := XA.at5
  obtain ⟨o0, o1, o2, o3, o4, zo⟩ := XO.at5
  have fz := XO.frozen 3
  go_wp2_with fail
  refine (toReceiverS_any _ _ d.ni d.g _ HD.out.i hR3.i).mono ?_
  rintro e w4 ⟨a4, c4, rfl, r4, b4⟩
  have hz4 : w3.heap.size ≤ w4.heap.size := by have := b4.size; simp at this; omega
  replace XA := XA3.below b4
  replace XR := XR3.below b4
  replace XO := XO3.below b4
  replace B := bel_trans B3 b4
  replace A1 : Hid (Ab (w.heap.size + 3) w1 w4) := A1.out.below (by first | omega | (simp; done) | (simp; omega)) b4
  replace A2 : Hid (Ab (w.heap.size + 3) w2 w4) := A2.out.below (by first | omega | (simp; done) | (simp; omega)) b4
  replace A3 : Hid (Ab (w.heap.size + 3) w3 w4) := A3.out.below (by first | omega | (simp; done) | (simp; omega)) b4
  clear XA3 XR3 XO3 B3 hR3 x0 x1 x2 x3 x4 zx o0 o1 o2 o3 o4 zo fz
  have R4 : Hid (∀ wz, Ab (w.heap.size + 3) w4 wz → GR wz a4 d.ni d.g) := fun wz h => r4 wz (h.mono (by first | omega | (simp; done) | (simp; omega)))
  clear b4 r4
  have XA4 := XA.far ⟨w.heap.size + 1 + 1, 4, none⟩ (.slice a4 d.ni c4) (by first | omega | (simp; done) | (simp; omega))
  have XR4 := XR.far ⟨w.heap.size + 1 + 1, 4, none⟩ (.slice a4 d.ni c4) (by first | omega | (simp; done) | (simp; omega))
  have XO4 : Box (w4.setCell ⟨w.heap.size + 1 + 1, 4, none⟩ (.slice a4 d.ni c4)) (w.heap.size + 1 + 1) #[.int .i64 d.id, .slice a1 d.nf c1, .slice a2 d.nh c2, .slice a3 d.no c3, .slice a4 d.ni c4] 56 := heap_setCell_same _ _ 4 _ _ _ XO
  have B4 := bel_setCell B ⟨w.heap.size + 1 + 1, 4, none⟩ (.slice a4 d.ni c4) (by first | omega | (simp; done) | (simp; omega))
  replace A1 : Hid (Ab (w.heap.size + 3) w1 (w4.setCell ⟨w.heap.size + 1 + 1, 4, none⟩ (.slice a4 d.ni c4))) := A1.out.set _ _ (by first | omega | (simp; done) | (simp; omega))
  replace A2 : Hid (Ab (w.heap.size + 3) w2 (w4.setCell ⟨w.heap.size + 1 + 1, 4, none⟩ (.slice a4 d.ni c4))) := A2.out.set _ _ (by first | omega | (simp; done) | (simp; omega))
  replace A3 : Hid (Ab (w.heap.size + 3) w3 (w4.setCell ⟨w.heap.size + 1 + 1, 4, none⟩ (.slice a4 d.ni c4))) := A3.out.set _ _ (by first | omega | (simp; done) | (simp; omega))
  have A4 : Hid (Ab (w.heap.size + 3) w4 (w4.setCell ⟨w.heap.size + 1 + 1, 4, none⟩ (.slice a4 d.ni c4))) := (Ab.refl _ _).set _ _ (by first | omega | (simp; done) | (simp; omega))
  obtain ⟨x0, x1, x2, x3, x4, zx⟩ := XA.at5
  obtain ⟨o0, o1, o2, o3, o4, zo⟩ := XO.at5
  have fz := XO.frozen 4
  obtain ⟨y0, y1, y2, y3, y4, zy⟩ := XR.at5
  have q0 := XR.frozen 0
  have q1 := XR.frozen 1
  have q2 := XR.frozen 2
  have q3 := XR.frozen 3
  have q4 := XR.frozen 4
  have HB4 : Hid _ := B4
  clear XA XO XA4 XR4 XO4 B B4 XR
  go_wp2
  refine bodyPost_ret (v := .agg #[.int .i64 d.id, .slice a1 d.nf c1, .slice a2 d.nh c2, .slice a3 d.no c3, .slice a4 d.ni c4]) (by simp [results, Tryz.results52, go_sem, y0, y1, y2, y3, y4]) rfl ⟨⟨(a1, c1), p1, (a2, c2), p2, (a3, c3), p3, m3, (a4, c4)⟩, rfl, ⟨R1.out _ ?_, R2.out _ ?_, R3.out _ ?_, R4.out _ ?_⟩, ?_⟩
  · exact ((((A1.out.set _ _ (by first | omega | (simp; done) | (simp; omega))).set _ _ (by first | omega | (simp; done) | (simp; omega))).set _ _ (by first | omega | (simp; done) | (simp; omega))).set _ _ (by first | omega | (simp; done) | (simp; omega))).set _ _ (by first | omega | (simp; done) | (simp; omega))
  · exact ((((A2.out.set _ _ (by first | omega | (simp; done) | (simp; omega))).set _ _ (by first | omega | (simp; done) | (simp; omega))).set _ _ (by first | omega | (simp; done) | (simp; omega))).set _ _ (by first | omega | (simp; done) | (simp; omega))).set _ _ (by first | omega | (simp; done) | (simp; omega))
  · exact ((((A3.out.set _ _ (by first | omega | (simp; done) | (simp; omega))).set _ _ (by first | omega | (simp; done) | (simp; omega))).set _ _ (by first | omega | (simp; done) | (simp; omega))).set _ _ (by first | omega | (simp; done) | (simp; omega))).set _ _ (by first | omega | (simp; done) | (simp; omega))
  · exact ((((A4.out.set _ _ (by first | omega | (simp; done) | (simp; omega))).set _ _ (by first | omega | (simp; done) | (simp; omega))).set _ _ (by first | omega | (simp; done) | (simp; omega))).set _ _ (by first | omega | (simp; done) | (simp; omega))).set _ _ (by first | omega | (simp; done) | (simp; omega))
  · exact lit_bel5 HB4.out (by first | omega | (simp; done) | (simp; omega))
end Go.Proofs.YtnfjmdegbdphpaaGreat
