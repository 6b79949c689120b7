/- What the law's toHomeS, toSenderS, toReceiverS and toNode do, as a reader is told of it. -/
import Derived.Test.YtpahjfijpjgdnaaNdT
namespace Go.Proofs.Ytpahjfijpjgdnaa
open Go.RowKit
set_option linter.unusedVariables false

/-- A row of homes that is laid as far as place k, each with its rows. -/
structure HT (w : World) (lo g n k : Nat) (d : Nat → HD) (p : Nat → HP) : Prop where
  row : w.ownsRow lo 145 8 (.slice (some ⟨g, 0, none⟩) n n) n (chunks n fun i => if i < k then hcells (d i) (p i) else [.slice none 0 0, .int .i64 0, .slice none 0 0, .bool false, .int .i64 0, .bool false, .int .i64 0, .slice none 0 0])
  l : ∀ i, i < k → w.ownsRow lo 3 1 (.slice (p i).l.1 (d i).xs.length (p i).l.2) (d i).xs.length ((d i).xs.map (Value.int .i64))
  r : ∀ i, i < k → w.ownsRow lo 4 1 (.slice (p i).r.1 (d i).bs.length (p i).r.2) (d i).bs.length (bv (d i).bs)
  q : ∀ i, i < k → w.ownsRow lo 142 2 (.slice (p i).q.1 (d i).ws.length (p i).q.2) (d i).ws.length (wv (d i).ws)
theorem HT.step {w w2 : World} {lo g n k : Nat} {d : Nat → HD} {p : Nat → HP} (h : HT w lo g n k d p) (hk : k < n) (b : Below w.heap.size w w2) (hlo : lo ≤ w.heap.size) {al ar aq : Option Addr} {cl cr cq : Nat} (o2 : w2.ownsRow w.heap.size 3 1 (.slice al (d k).xs.length cl) (d k).xs.length ((d k).xs.map (Value.int .i64)))
    (r2 : w2.ownsRow w.heap.size 4 1 (.slice ar (d k).bs.length cr) (d k).bs.length (bv (d k).bs)) (q2 : w2.ownsRow w.heap.size 142 2 (.slice aq (d k).ws.length cq) (d k).ws.length (wv (d k).ws)) :
    HT (W8 w2 g (k * 8) (.slice al (d k).xs.length cl) (.int .i64 (d k).ow) (.slice ar (d k).bs.length cr) (.bool (d k).bz) (.int .i64 (d k).wh) (.bool (d k).wo) (.int .i64 (d k).ak) (.slice aq (d k).ws.length cq)) lo g n (k + 1) d (fun i => if i = k then ⟨(al, cl), (ar, cr), (aq, cq)⟩ else p i) := by
  have hr := owns_below h.row b
  have hf : ∀ i, i < n → ((fun i => if i < k then hcells (d i) (p i) else [.slice none 0 0, .int .i64 0, .slice none 0 0, .bool false, .int .i64 0, .bool false, .int .i64 0, .slice none 0 0]) i).length = 8 := fun i _ => by dsimp only; split <;> rfl
  have hs := store8 hr hf hk (.slice al (d k).xs.length cl) (.int .i64 (d k).ow) (.slice ar (d k).bs.length cr) (.bool (d k).bz) (.int .i64 (d k).wh) (.bool (d k).wo) (.int .i64 (d k).ak) (.slice aq (d k).ws.length cq)
  refine ⟨owns_congr hs (far_step (fun i hi => by rw [if_neg (by omega)]) (by simp [hcells])), fun i hi => ?_, fun i hi => ?_, fun i hi => ?_⟩
  · by_cases e : i = k
    · subst e
      simp only [if_pos]
      exact w8_owns (owns_base o2 hlo) (far_ne hr o2 (by decide)) _ _ _ _ _ _ _ _
    · simp only [if_neg e]
      have h0 := owns_below (h.l i (by omega)) b
      exact w8_owns h0 (far_ne hr h0 (by decide)) _ _ _ _ _ _ _ _
  · by_cases e : i = k
    · subst e
      simp only [if_pos]
      exact w8_owns (owns_base r2 hlo) (far_ne hr r2 (by decide)) _ _ _ _ _ _ _ _
    · simp only [if_neg e]
      have h0 := owns_below (h.r i (by omega)) b
      exact w8_owns h0 (far_ne hr h0 (by decide)) _ _ _ _ _ _ _ _
  · by_cases e : i = k
    · subst e
      simp only [if_pos]
      exact w8_owns (owns_base q2 hlo) (far_ne hr q2 (by decide)) _ _ _ _ _ _ _ _
    · simp only [if_neg e]
      have h0 := owns_below (h.q i (by omega)) b
      exact w8_owns h0 (far_ne hr h0 (by decide)) _ _ _ _ _ _ _ _
theorem HT.hr {w : World} {lo g n : Nat} {d : Nat → HD} {p : Nat → HP} (h : HT w lo g n n d p) (hn : n ≤ 1048576) (hx : ∀ i, i < n → (d i).xs.length ≤ 1048576 ∧ (d i).bs.length ≤ 1048576 ∧ (d i).ws.length ≤ 1048576) : HR2 w (some ⟨g, 0, none⟩) n d p := by
  refine ⟨by omega, ?_, fun i hi => ⟨owns_row' (h.l i hi) (by have := hx i hi; omega), owns_vrow' (h.r i hi) (by rw [bv_length]; have := hx i hi; omega), owns_vrow' (h.q i hi) (by rw [wv_length]; have := hx i hi; omega)⟩⟩
  have h1 := owns_congr (g := fun i => hcells (d i) (p i)) h.row (fun i hi => by rw [if_pos hi])
  exact owns_vrow' h1 (by rw [chunks_length (s := 8) n (fun i _ => rfl)]; omega)

theorem HT.ab {w w' : World} {lo g n k : Nat} {d : Nat → HD} {p : Nat → HP} (h : HT w lo g n k d p) (b : Ab lo w w') : HT w' lo g n k d p := ⟨owns_ab h.row b, fun i hi => owns_ab (h.l i hi) b, fun i hi => owns_ab (h.r i hi) b, fun i hi => owns_ab (h.q i hi) b⟩

set_option maxRecDepth 100000 in
set_option maxHeartbeats 2000000 in
theorem toHomeS_any (a : Option Addr) (ca n : Nat) (d : Nat → HD) (p : Nat → HP) (w : World) (hn : n ≤ 1048576) (hx : ∀ i, i < n → (d i).xs.length ≤ 1048576 ∧ (d i).bs.length ≤ 1048576 ∧ (d i).ws.length ≤ 1048576) (ha : HR2 w a n d p) :
    Calls Try.prog 45 #[.slice a n ca] w fun e w' => ∃ a' c' p', e = .returned (.slice a' n c') ∧ (∀ w2, Ab w.heap.size w' w2 → HR2 w2 a' n d p') ∧ Below w.heap.size w w' := by
  obtain ⟨i0, hi, hz0, hz1, hz2⟩ := info_parts info_home2
  have HX : Hid (∀ i, i < n → (d i).xs.length ≤ 1048576 ∧ (d i).bs.length ≤ 1048576 ∧ (d i).ws.length ≤ 1048576) := hx
  clear hx
  go_enter Try.func45, Try.ntmps45
  go_wp2_with (at_make; refine wpList_make_full _ rfl (.tmp 6) (.tmp 6) 82 rfl w.heap.size 145 i0 (.agg #[.slice none 0 0, .int .i64 0, .slice none 0 0, .bool false, .int .i64 0, .bool false, .int .i64 0, .slice none 0 0]) 8 Try.underlying82 hi hz0 hz1 .i64 .i64 _ _ n rfl rfl rfl rfl (by rw [hz2]; omega) (by unfold maxLen; omega) (Nat.le_refl _) ?_)
  intro w1 ho hg
  have hb1 : Below w.heap.size w w1 := (Below.refl _ _).grown hg (Nat.le_refl _) (fun k hk => by cases hk)
  rw [made_chunks _ 8 n rfl (by decide)] at ho
  have F0 : HT w1 w.heap.size w.heap.size n 0 d (fun _ => ⟨(none, 0), (none, 0), (none, 0)⟩) := ⟨by simpa using ho, fun i hi => absurd hi (Nat.not_lt_zero i), fun i hi => absurd hi (Nat.not_lt_zero i), fun i hi => absurd hi (Nat.not_lt_zero i)⟩
  clear hg ho
  go_wp2
  go_loopw [4] (fun i wr => ∃ k : Nat, k ≤ n ∧ i = .int .i64 k ∧ ∃ p', HT wr w.heap.size w.heap.size n k d p' ∧ Below w.heap.size w wr) (fun i _ => n - (intOf i).toNat)
  case atStart => exact ⟨0, Nat.zero_le _, rfl, _, F0, hb1⟩
  case round =>
    obtain ⟨k, hk, rfl, p', hF, hbr⟩ := hrel
    clear F0 hb1
    by_cases hkn : k < n
    · have hi' : (k : Int) < (n : Int) := by omega
      have har := ha.below hbr
      obtain ⟨b, off, rfl, y0, y1, y2, y3, y4, y5, y6, y7⟩ := har.at hkn
      obtain ⟨h1, h2, h3⟩ := har.2.2 k hkn
      go_wp2_with fail
      refine (toHome_any (d k).ow (d k).wh (d k).ak (d k).bz (d k).wo (p k).l.1 (p k).r.1 (p k).q.1 (p k).l.2 (p k).r.2 (p k).q.2 (d k).xs (d k).bs (d k).ws _ (HX.out k hkn).1 (HX.out k hkn).2.1 (HX.out k hkn).2.2 h1 h2 h3).mono ?_
      rintro e w2 ⟨al, cl, ar, cr, aq, cq, rfl, o2, r2, q2, b2⟩
      have R : Hid _ := hF.step hkn b2 hbr.size o2 r2 q2
      have hr2 := owns_below hF.row b2
      have B : Hid _ := w8_bel (bel_trans hbr b2) (Nat.le_refl _) (k * 8) (.slice al (d k).xs.length cl) (.int .i64 (d k).ow) (.slice ar (d k).bs.length cr) (.bool (d k).bz) (.int .i64 (d k).wh) (.bool (d k).wo) (.int .i64 (d k).ak) (.slice aq (d k).ws.length cq)
      have z : ∀ t, w2.frozen? ⟨w.heap.size, t, none⟩ = false := fun t => hr2.frozenAt t
      obtain ⟨u0, g0⟩ := cellN hr2 hkn (t := 0) (by decide)
      obtain ⟨u1, g1⟩ := cellN hr2 hkn (t := 1) (by decide)
      obtain ⟨u2, g2⟩ := cellN hr2 hkn (t := 2) (by decide)
      obtain ⟨u3, g3⟩ := cellN hr2 hkn (t := 3) (by decide)
      obtain ⟨u4, g4⟩ := cellN hr2 hkn (t := 4) (by decide)
      obtain ⟨u5, g5⟩ := cellN hr2 hkn (t := 5) (by decide)
      obtain ⟨u6, g6⟩ := cellN hr2 hkn (t := 6) (by decide)
      obtain ⟨u7, g7⟩ := cellN hr2 hkn (t := 7) (by decide)
      rw [Nat.add_zero] at g0
      clear hF har y0 y1 y2 y3 y4 y5 y6 y7 h1 h2 h3 hr2 o2 r2 q2 b2 hbr ha
      go_wp2
      go_roundw
      case rel => exact ⟨k + 1, by omega, by go_num, _, R.out, B.out⟩
      case measure => simp [intOf]; omega
    · have : k = n := by omega
      subst this
      have R : Hid (∀ w2, Ab w.heap.size wr w2 → HR2 w2 (some ⟨w.heap.size, 0, none⟩) k d p') := fun w2 hb => (hF.ab hb).hr hn HX.out
      clear hF ha
      go_wp2
      go_ret
      exact ⟨_, _, p', rfl, R.out, hbr⟩

/-- A row of senders that is laid as far as place k, each with what it queues. -/
structure ST (w : World) (lo g n k : Nat) (b : Nat → Int) (y : Nat → List Say) (p : Nat → Pl) (ms : Nat → List M) : Prop where
  row : w.ownsRow lo 149 2 (.slice (some ⟨g, 0, none⟩) n n) n (chunks n fun i => if i < k then scells (b i) (p i) (y i).length else s0 0)
  l : ∀ i, i < k → Deep w lo (p i).1 (p i).2 (ms i)
  e : ∀ i, i < k → (ms i).map M.say = y i
theorem Deep.set {w : World} {lo : Nat} {a : Option Addr} {c : Nat} {ms : List M} (h : Deep w lo a c ms) {g t : Nat} {u : Value} {lo2 n2 c2 : Nat} {xs : List Value} (o : w.ownsRow lo2 149 2 (.slice (some ⟨g, 0, none⟩) n2 c2) n2 xs) : Deep (w.setCell ⟨g, t, none⟩ u) lo a c ms :=
  ⟨owns_setCell h.row (far_ne o h.row (by decide)) u, h.lists.far _ _ (fun m hm j hj => far_ne o (h.lists.1 m hm) (by decide) j hj)⟩
theorem ST.step {w w2 : World} {lo g n k : Nat} {b : Nat → Int} {y : Nat → List Say} {p : Nat → Pl} {ms : Nat → List M} (h : ST w lo g n k b y p ms) (hk : k < n) (bb : Below w.heap.size w w2) (hlo : lo ≤ w.heap.size) {a2 : Option Addr} {c2 : Nat} {ds : List M} (o2 : Deep w2 w.heap.size a2 c2 ds) (he : ds.map M.say = y k) :
    ST ((w2.setCell ⟨g, k * 2, none⟩ (.int .i64 (b k))).setCell ⟨g, k * 2 + 1, none⟩ (.slice a2 (y k).length c2)) lo g n (k + 1) b y (fun i => if i = k then (a2, c2) else p i) (fun i => if i = k then ds else ms i) := by
  have hr := owns_below h.row bb
  have hf : ∀ i, i < n → ((fun i => if i < k then scells (b i) (p i) (y i).length else s0 0) i).length = 2 := fun i _ => by dsimp only; split <;> rfl
  have hs := store2 hr hf hk (.int .i64 (b k)) (.slice a2 (y k).length c2)
  have hs1 := (hr.stored (k * 2) (.int .i64 (b k))).1
  refine ⟨owns_congr hs (far_step (fun i hi => by rw [if_neg (by omega)]) (by simp [scells])), fun i hi => ?_, fun i hi => ?_⟩
  · by_cases e : i = k
    · subst e
      simp only [if_pos]
      have h0 : Deep w2 lo a2 c2 ds := ⟨owns_base o2.row hlo, o2.lists.base hlo⟩
      exact Deep.set (Deep.set h0 hr) hs1
    · simp only [if_neg e]
      exact Deep.set (Deep.set ((h.l i (by omega)).below bb) hr) hs1
  · by_cases e : i = k
    · subst e
      simp only [if_pos]
      exact he
    · simp only [if_neg e]
      exact h.e i (by omega)
theorem ST.sr {w : World} {lo g n : Nat} {b : Nat → Int} {y : Nat → List Say} {p : Nat → Pl} {ms : Nat → List M} (h : ST w lo g n n b y p ms) (hn : n ≤ 1048576) (hx : ∀ i, i < n → (y i).length ≤ 1048576 ∧ ∀ s ∈ y i, s.2.2.2.length ≤ 1048576) : SR w (some ⟨g, 0, none⟩) n b y p ms := by
  refine ⟨by omega, ?_, fun i hi => ⟨(h.l i hi).mrow ?_ ?_, h.e i hi⟩⟩
  · have h1 := owns_congr (g := fun i => scells (b i) (p i) (y i).length) h.row (fun i hi => by rw [if_pos hi])
    exact owns_vrow' h1 (by rw [chunks_length (s := 2) n (fun i _ => rfl)]; omega)
  · have h1 := congrArg List.length (h.e i hi)
    have := hx i hi
    simp at h1
    omega
  · intro m hm
    have h1 : m.say ∈ y i := by rw [← h.e i hi]; exact List.mem_map_of_mem hm
    have := (hx i hi).2 _ h1
    simp [M.say] at this
    omega

theorem ST.ab {w w' : World} {lo g n k : Nat} {b : Nat → Int} {y : Nat → List Say} {p : Nat → Pl} {ms : Nat → List M} (h : ST w lo g n k b y p ms) (bb : Ab lo w w') : ST w' lo g n k b y p ms := ⟨owns_ab h.row bb, fun i hi => ⟨owns_ab (h.l i hi).row bb, fun m hm => owns_ab ((h.l i hi).lists.1 m hm) bb, (h.l i hi).lists.2⟩, h.e⟩

set_option maxRecDepth 100000 in
set_option maxHeartbeats 2000000 in
theorem toSenderS_any (a : Option Addr) (ca n : Nat) (b : Nat → Int) (y : Nat → List Say) (p : Nat → Pl) (ms : Nat → List M) (w : World) (hn : n ≤ 1048576) (hx : ∀ i, i < n → (y i).length ≤ 1048576 ∧ ∀ s ∈ y i, s.2.2.2.length ≤ 1048576) (ha : SR w a n b y p ms) :
    Calls Try.prog 46 #[.slice a n ca] w fun e w' => ∃ a' c' p' ms', e = .returned (.slice a' n c') ∧ (∀ w2, Ab w.heap.size w' w2 → SR w2 a' n b y p' ms') ∧ Below w.heap.size w w' := by
  obtain ⟨i0, hi, hz0, hz1, hz2⟩ := info_parts info_sender2
  have HX : Hid (∀ i, i < n → (y i).length ≤ 1048576 ∧ ∀ s ∈ y i, s.2.2.2.length ≤ 1048576) := hx
  clear hx
  go_enter Try.func46, Try.ntmps46
  go_wp2_with (at_make; refine wpList_make_full _ rfl (.tmp 6) (.tmp 6) 83 rfl w.heap.size 149 i0 (.agg #[.int .i64 0, .slice none 0 0]) 2 Try.underlying83 hi hz0 hz1 .i64 .i64 _ _ n rfl rfl rfl rfl (by rw [hz2]; omega) (by unfold maxLen; omega) (Nat.le_refl _) ?_)
  intro w1 ho hg
  have hb1 : Below w.heap.size w w1 := (Below.refl _ _).grown hg (Nat.le_refl _) (fun k hk => by cases hk)
  rw [made_chunks _ 2 n rfl (by decide)] at ho
  have F0 : ST w1 w.heap.size w.heap.size n 0 b y (fun _ => (none, 0)) (fun _ => []) := ⟨by simpa [s0] using ho, fun i hi => absurd hi (Nat.not_lt_zero i), fun i hi => absurd hi (Nat.not_lt_zero i)⟩
  clear hg ho
  go_wp2
  go_loopw [4] (fun i wr => ∃ k : Nat, k ≤ n ∧ i = .int .i64 k ∧ ∃ p' ms', ST wr w.heap.size w.heap.size n k b y p' ms' ∧ Below w.heap.size w wr) (fun i _ => n - (intOf i).toNat)
  case atStart => exact ⟨0, Nat.zero_le _, rfl, _, _, F0, hb1⟩
  case round =>
    obtain ⟨k, hk, rfl, p', ms', hF, hbr⟩ := hrel
    clear F0 hb1
    by_cases hkn : k < n
    · have hi' : (k : Int) < (n : Int) := by omega
      have har := ha.below hbr
      obtain ⟨bl, off, rfl, y0, y1⟩ := har.at hkn
      obtain ⟨hm, hE⟩ := har.2.2 k hkn
      have HE : Hid ((ms k).map M.say = y k) := hE
      have HL : (y k).length = (ms k).length := by have := congrArg List.length hE; simpa using this.symm
      have hXk := HX.out k hkn
      have l1 : (ms k).length ≤ 1048576 := by rw [← HL]; exact hXk.1
      have l2 : ∀ m ∈ ms k, m.xs.length ≤ 1048576 := fun m hm' => by
        have h1 : m.say ∈ y k := by rw [← hE]; exact List.mem_map_of_mem hm'
        have := hXk.2 _ h1
        simpa [M.say] using this
      have HLL : Hid ((y k).length = (ms k).length) := HL
      rw [HL] at y1
      clear hE hXk HL
      go_wp2_with fail
      refine (toSender_any (b k) (p k).1 (p k).2 (ms k) _ l1 l2 hm).mono ?_
      rintro e w2 ⟨a2, c2, ds, rfl, hds, o2, b2⟩
      have R : Hid _ := hF.step hkn b2 hbr.size o2 (hds.trans HE.out)
      rw [HLL.out] at R
      have hr2 := owns_below hF.row b2
      have B : Hid _ := bel_setCell (bel_setCell (bel_trans hbr b2) ⟨w.heap.size, k * 2, none⟩ (.int .i64 (b k)) (Nat.le_refl _)) ⟨w.heap.size, k * 2 + 1, none⟩ (.slice a2 (ms k).length c2) (Nat.le_refl _)
      have q0 := hr2.frozenAt (k * 2)
      have q1 := hr2.frozenAt (k * 2 + 1)
      obtain ⟨u0, g0⟩ := cellN hr2 hkn (t := 0) (by decide)
      obtain ⟨u1, g1⟩ := cellN hr2 hkn (t := 1) (by decide)
      rw [Nat.add_zero] at g0
      clear hF har y0 y1 hm hr2 o2 b2 hbr ha l1 l2 hds
      go_wp2
      go_roundw
      case rel => exact ⟨k + 1, by omega, by go_num, _, _, R.out, B.out⟩
      case measure => simp [intOf]; omega
    · have : k = n := by omega
      subst this
      have R : Hid (∀ w2, Ab w.heap.size wr w2 → SR w2 (some ⟨w.heap.size, 0, none⟩) k b y p' ms') := fun w2 hb => (hF.ab hb).sr hn HX.out
      clear hF ha
      go_wp2
      go_ret
      exact ⟨_, _, p', ms', rfl, R.out, hbr⟩
end Go.Proofs.Ytpahjfijpjgdnaa
