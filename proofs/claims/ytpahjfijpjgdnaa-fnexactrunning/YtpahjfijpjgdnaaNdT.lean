/- What the law's toFrameS, toHomeS, toSenderS, toReceiverS and toNode do, as a reader is told of it. -/
import Derived.Test.YtpahjfijpjgdnaaNdN
import Derived.Test.YtpahjfijpjgdnaaHomT
namespace Go.Proofs.Ytpahjfijpjgdnaa
open Go.RowKit
set_option linter.unusedVariables false

theorem store8 {w : World} {lo e n g c k : Nat} {f : Nat → List Value} (h : w.ownsRow lo e 8 (.slice (some ⟨g, 0, none⟩) n c) n (chunks n f)) (hf : ∀ i, i < n → (f i).length = 8) (hk : k < n) (c0 c1 c2 c3 c4 c5 c6 c7 : Value) :
    (W8 w g (k * 8) c0 c1 c2 c3 c4 c5 c6 c7).ownsRow lo e 8 (.slice (some ⟨g, 0, none⟩) n c) n (chunks n fun i => if i = k then [c0, c1, c2, c3, c4, c5, c6, c7] else f i) := by
  have k0 := owns_stored h hf hk (j := 0) (by decide) c0
  have k1 := owns_stored k0 (set_len hf _ _ _) hk (j := 1) (by decide) c1
  have k2 := owns_stored k1 (set_len (set_len hf _ _ _) _ _ _) hk (j := 2) (by decide) c2
  have k3 := owns_stored k2 (set_len (set_len (set_len hf _ _ _) _ _ _) _ _ _) hk (j := 3) (by decide) c3
  have k4 := owns_stored k3 (set_len (set_len (set_len (set_len hf _ _ _) _ _ _) _ _ _) _ _ _) hk (j := 4) (by decide) c4
  have k5 := owns_stored k4 (set_len (set_len (set_len (set_len (set_len hf _ _ _) _ _ _) _ _ _) _ _ _) _ _ _) hk (j := 5) (by decide) c5
  have k6 := owns_stored k5 (set_len (set_len (set_len (set_len (set_len (set_len hf _ _ _) _ _ _) _ _ _) _ _ _) _ _ _) _ _ _) hk (j := 6) (by decide) c6
  have k7 := owns_stored k6 (set_len (set_len (set_len (set_len (set_len (set_len (set_len hf _ _ _) _ _ _) _ _ _) _ _ _) _ _ _) _ _ _) _ _ _) hk (j := 7) (by decide) c7
  refine owns_congr k7 (fun i hi => ?_)
  have hl := hf i hi
  by_cases e : i = k
  · simp only [if_pos e]
    match hq : f i, hl with
    | [x0, x1, x2, x3, x4, x5, x6, x7], _ => rfl
  · simp only [if_neg e]

/-- A row of frames that is laid as far as place k, each with its words. -/
structure FT (w : World) (lo g n k : Nat) (d : Nat → FD) (p : Nat → Pl) : Prop where
  row : w.ownsRow lo 140 3 (.slice (some ⟨g, 0, none⟩) n n) n (chunks n fun i => if i < k then fcells (d i) (p i) else f0 0 false)
  l : ∀ i, i < k → w.ownsRow lo 3 1 (.slice (p i).1 (d i).xs.length (p i).2) (d i).xs.length ((d i).xs.map (Value.int .i64))
theorem FT.step {w w2 : World} {lo g n k : Nat} {d : Nat → FD} {p : Nat → Pl} (h : FT w lo g n k d p) (hk : k < n) (b : Below w.heap.size w w2) (hlo : lo ≤ w.heap.size) {a2 : Option Addr} {c2 : Nat} (o2 : w2.ownsRow w.heap.size 3 1 (.slice a2 (d k).xs.length c2) (d k).xs.length ((d k).xs.map (Value.int .i64))) :
    FT (((w2.setCell ⟨g, k * 3, none⟩ (.int .i64 (d k).s)).setCell ⟨g, k * 3 + 1, none⟩ (.slice a2 (d k).xs.length c2)).setCell ⟨g, k * 3 + 2, none⟩ (.bool (d k).q)) lo g n (k + 1) d (fun i => if i = k then (a2, c2) else p i) := by
  have hr := owns_below h.row b
  have hf : ∀ i, i < n → ((fun i => if i < k then fcells (d i) (p i) else f0 0 false) i).length = 3 := fun i _ => by dsimp only; split <;> rfl
  have hs := store3 hr hf hk (.int .i64 (d k).s) (.slice a2 (d k).xs.length c2) (.bool (d k).q)
  have far : ∀ {e n2 lo2 : Nat} {v : Value} {xs : List Value}, w2.ownsRow lo2 e 1 v n2 xs → e ≠ 140 → (((w2.setCell ⟨g, k * 3, none⟩ (.int .i64 (d k).s)).setCell ⟨g, k * 3 + 1, none⟩ (.slice a2 (d k).xs.length c2)).setCell ⟨g, k * 3 + 2, none⟩ (.bool (d k).q)).ownsRow lo2 e 1 v n2 xs := fun ho he => by
    have ne := far_ne hr ho he.symm
    exact owns_setCell (owns_setCell (owns_setCell ho ne _) ne _) ne _
  refine ⟨owns_congr hs (far_step (fun i hi => by rw [if_neg (by omega)]) (by simp [fcells])), fun i hi => ?_⟩
  by_cases e : i = k
  · subst e
    simp only [if_pos]
    exact far (owns_base o2 hlo) (by decide)
  · simp only [if_neg e]
    exact far (owns_below (h.l i (by omega)) b) (by decide)
theorem FT.fr {w : World} {lo g n : Nat} {d : Nat → FD} {p : Nat → Pl} (h : FT w lo g n n d p) (hn : n ≤ 1048576) (hx : ∀ i, i < n → (d i).xs.length ≤ 1048576) : FR w (some ⟨g, 0, none⟩) n d p := by
  refine ⟨by omega, ?_, fun i hi => owns_row' (h.l i hi) (by have := hx i hi; omega)⟩
  have h1 := owns_congr (g := fun i => fcells (d i) (p i)) h.row (fun i hi => by rw [if_pos hi])
  exact owns_vrow' h1 (by rw [chunks_length (s := 3) n (fun i _ => rfl)]; omega)

theorem FT.ab {w w' : World} {lo g n k : Nat} {d : Nat → FD} {p : Nat → Pl} (h : FT w lo g n k d p) (b : Ab lo w w') : FT w' lo g n k d p := ⟨owns_ab h.row b, fun i hi => owns_ab (h.l i hi) b⟩

set_option maxRecDepth 100000 in
set_option maxHeartbeats 1000000 in
theorem toFrameS_any (a : Option Addr) (ca n : Nat) (d : Nat → FD) (p : Nat → Pl) (w : World) (hn : n ≤ 1048576) (hx : ∀ i, i < n → (d i).xs.length ≤ 1048576) (ha : FR w a n d p) :
    Calls Try.prog 44 #[.slice a n ca] w fun e w' => ∃ a' c' p', e = .returned (.slice a' n c') ∧ (∀ w2, Ab w.heap.size w' w2 → FR w2 a' n d p') ∧ Below w.heap.size w w' := by
  obtain ⟨i0, hi, hz0, hz1, hz2⟩ := info_parts info_frame2
  have HX : Hid (∀ i, i < n → (d i).xs.length ≤ 1048576) := hx
  clear hx
  go_enter Try.func44, Try.ntmps44
  go_wp2_with (at_make; refine wpList_make_full _ rfl (.tmp 6) (.tmp 6) 81 rfl w.heap.size 140 i0 (.agg #[.int .i64 0, .slice none 0 0, .bool false]) 3 Try.underlying81 hi hz0 hz1 .i64 .i64 _ _ n rfl rfl rfl rfl (by rw [hz2]; omega) (by unfold maxLen; omega) (Nat.le_refl _) ?_)
  intro w1 ho hg
  have hb1 : Below w.heap.size w w1 := (Below.refl _ _).grown hg (Nat.le_refl _) (fun k hk => by cases hk)
  rw [made_chunks _ 3 n rfl (by decide)] at ho
  have F0 : FT w1 w.heap.size w.heap.size n 0 d (fun _ => (none, 0)) := ⟨by simpa [f0] using ho, fun i hi => absurd hi (Nat.not_lt_zero i)⟩
  clear hg ho
  go_wp2
  go_loopw [4] (fun i wr => ∃ k : Nat, k ≤ n ∧ i = .int .i64 k ∧ ∃ p', FT wr w.heap.size w.heap.size n k d p' ∧ Below w.heap.size w wr) (fun i _ => n - (intOf i).toNat)
  case atStart => exact ⟨0, Nat.zero_le _, rfl, _, F0, hb1⟩
  case round =>
    obtain ⟨k, hk, rfl, p', hF, hbr⟩ := hrel
    clear F0 hb1
    by_cases hkn : k < n
    · have hi' : (k : Int) < (n : Int) := by omega
      have har := ha.below hbr
      obtain ⟨b, off, rfl, y0, y1, y2⟩ := har.at hkn
      have hrow := har.2.2 k hkn
      go_wp2_with fail
      refine (toFrame_any (d k).s (d k).q (p k).1 (p k).2 (d k).xs _ (HX.out k hkn) hrow).mono ?_
      rintro e w2 ⟨v2, rfl, o2, b2⟩
      obtain ⟨a2, c2, rfl⟩ := owns_slice o2
      have R : Hid _ := hF.step hkn b2 hbr.size o2
      have hr2 := owns_below hF.row b2
      have B : Hid _ := bel_setCell (bel_setCell (bel_setCell (bel_trans hbr b2) ⟨w.heap.size, k * 3, none⟩ (.int .i64 (d k).s) (Nat.le_refl _)) ⟨w.heap.size, k * 3 + 1, none⟩ (.slice a2 (d k).xs.length c2) (Nat.le_refl _)) ⟨w.heap.size, k * 3 + 2, none⟩ (.bool (d k).q) (Nat.le_refl _)
      have q0 := hr2.frozenAt (k * 3)
      have q1 := hr2.frozenAt (k * 3 + 1)
      have q2 := hr2.frozenAt (k * 3 + 2)
      obtain ⟨u0, g0⟩ := cellN hr2 hkn (t := 0) (by decide)
      obtain ⟨u1, g1⟩ := cellN hr2 hkn (t := 1) (by decide)
      obtain ⟨u2, g2⟩ := cellN hr2 hkn (t := 2) (by decide)
      rw [Nat.add_zero] at g0
      clear hF har y0 y1 y2 hrow hr2 o2 b2 hbr ha
      go_wp2
      go_roundw
      case rel => exact ⟨k + 1, by omega, by go_num, _, R.out, B.out⟩
      case measure => simp [intOf]; omega
    · have : k = n := by omega
      subst this
      have R : Hid (∀ w2, Ab w.heap.size wr w2 → FR w2 (some ⟨w.heap.size, 0, none⟩) k d p') := fun w2 hb => (hF.ab hb).fr hn HX.out
      clear hF ha
      go_wp2
      go_ret
      exact ⟨_, _, p', rfl, R.out, hbr⟩
end Go.Proofs.Ytpahjfijpjgdnaa
