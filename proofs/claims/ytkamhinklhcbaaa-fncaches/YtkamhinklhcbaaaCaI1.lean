/- What impl's copyBlock and copyEach of blocks do: all of it new memory. -/
import Derived.Test.YtkamhinklhcbaaaCa4
import Derived.Test.YtkamhinklhcbaaaCp0
namespace Go.Proofs.Ytkamhinklhcbaaa
open Go.RowKit
set_option linter.unusedVariables false

theorem vrow_srcK {w : World} {a : Option Addr} {vs : List Value} (h : VRow w a vs) (h0 : 0 < vs.length) : ∃ b off, a = some ⟨b, off, none⟩ ∧ ∀ j v, vs[j]? = some v → w.cell? ((⟨b, off, none⟩ : Addr).add j) = some v := by
  obtain ⟨b, off, rfl, hc⟩ := h.2 0 _ (List.getElem?_eq_getElem h0)
  refine ⟨b, off, rfl, fun j v hv => ?_⟩
  obtain ⟨b', off', e, hc'⟩ := h.2 j v hv
  simp at e
  obtain ⟨rfl, rfl⟩ := e
  rw [addr_add]
  exact hc'
theorem kd_all (d : Nat → KD) {n i : Nat} (hi : i < n) : kd (allL d n) i = d i := by
  unfold kd allL
  simp [List.getD_eq_getElem?_getD, hi]
theorem KL.of {w w' : World} {a : Option Addr} {c n : Nat} {d : Nat → KD} {p : Nat → Pl} (h : KO w' a c n d p) (lo : ∀ b, RS a c n (fun i => QK (p i)) b → w.heap.size ≤ b) (b : Below w.heap.size w w') : KL w w' (allL d n) a c p := by
  refine ⟨?_, fun x hx => lo x (by rw [allL_length] at hx; exact hx), b⟩
  rw [allL_length]
  exact Rw.congr h (fun i hi => by rw [kd_all d hi]) (fun i hi => rfl) (fun i hi => by rw [kd_all d hi])

set_option maxRecDepth 100000 in
set_option maxHeartbeats 1000000 in
theorem copyInsL_any (a : Option Addr) (ca n : Nat) (d : Nat → XD) (w : World) (ha : IR w a n d) :
    Calls Try.prog 79 #[.slice a n ca] w fun e w' => ∃ a' c', e = .returned (.slice a' n c') ∧ IOw w' w.heap.size a' c' n d ∧ Below w.heap.size w w' := by
  obtain ⟨i0, hi, hz0, hz1, hz2⟩ := info_parts info_ins2
  have hsm := ha.1
  by_cases h0 : n = 0
  · subst h0
    go_enter Try.func79, Try.ntmps79
    go_wp2
    go_ret
    exact ⟨_, _, rfl, World.ownsRow_nil _ _ _ _, Below.refl _ _⟩
  · have h0' : (0 : Int) < n := by omega
    have HC : Hid ((chunks n fun i => ic (d i)).length = n * 5) := chunks_length (s := 5) n (fun i _ => rfl)
    have hone : ∀ v ∈ chunks n (fun i => ic (d i)), v.oneCell' = true := ic_one
    go_enter Try.func79, Try.ntmps79
    go_wp2_with (at_make; refine wpList_make_full _ rfl (.tmp 8) (.tmp 8) 25 rfl w.heap.size 38 i0 (.agg #[.int .i64 0, .int .i64 0, .int .i64 0, .int .i64 0, .int .i64 0]) 5 Try.underlying25 hi hz0 hz1 .i64 .i64 _ _ n rfl rfl rfl rfl (by rw [hz2]; omega) (by unfold maxLen; omega) (Nat.le_refl _) ?_)
    intro w1 ho hg
    obtain ⟨zs, ho⟩ : ∃ zs, w1.ownsRow w.heap.size 38 5 (.slice (some ⟨w.heap.size, 0, none⟩) n n) n zs := ⟨_, ho⟩
    have hb1 : Below w.heap.size w w1 := (Below.refl _ _).grown hg (Nat.le_refl _) (fun k hk => by cases hk)
    clear hg
    obtain ⟨ba, oa, rfl, hsrc⟩ := vrow_srcK (ha.2.below hb1) (by have := HC.out; omega)
    clear ha
    go_wp2_with (guard_target =~ wpList _ _ _ (Oper.mk _ (Op.call ⟨Callee.builtin Builtin.copy, _, _⟩) _ _ _ _ :: _) _ _; refine wpList_copy_fullYtkamhinklhcbaaa rfl (.tmp 10) (.tmp 11) 25 25 rfl 38 Try.underlying25 5 (by rw [hi]; simp [hz1]) w.heap.size w.heap.size n ca ⟨ba, oa, none⟩ rfl rfl zs ho _ HC.out hsrc hone ?_)
    · intro w2 o2 g2
      have hb2 := hb1.grown g2 hb1.size (fun k hk => by simp at hk; omega)
      clear g2 hb1 ho hsrc hone
      go_wp2
      go_ret
      exact ⟨_, _, rfl, o2, hb2⟩

set_option maxRecDepth 100000 in
set_option maxHeartbeats 1000000 in
theorem copyBlocks_any (a : Option Addr) (ca n : Nat) (cs : List Value) (w : World) (hsm : n ≤ 1048577) (hcl : cs.length = n * 2) (hone : ∀ v ∈ cs, v.oneCell' = true) (ha : VRow w a cs) :
    Calls Try.prog 78 #[.slice a n ca] w fun e w' => ∃ a' c', e = .returned (.slice a' n c') ∧ w'.ownsRow w.heap.size 27 2 (.slice a' n c') n cs ∧ Below w.heap.size w w' := by
  obtain ⟨i0, hi, hz0, hz1, hz2⟩ := info_parts info_block2
  by_cases h0 : n = 0
  · subst h0
    have : cs = [] := List.length_eq_zero_iff.1 (by omega)
    subst this
    go_enter Try.func78, Try.ntmps78
    go_wp2
    go_ret
    exact ⟨_, _, rfl, World.ownsRow_nil _ _ _ _, Below.refl _ _⟩
  · have h0' : (0 : Int) < n := by omega
    have HC : Hid (cs.length = n * 2) := hcl
    clear hcl
    go_enter Try.func78, Try.ntmps78
    go_wp2_with (at_make; refine wpList_make_full _ rfl (.tmp 8) (.tmp 8) 24 rfl w.heap.size 27 i0 (.agg #[.int .i64 0, .slice none 0 0]) 2 Try.underlying24 hi hz0 hz1 .i64 .i64 _ _ n rfl rfl rfl rfl (by rw [hz2]; omega) (by unfold maxLen; omega) (Nat.le_refl _) ?_)
    intro w1 ho hg
    obtain ⟨zs, ho⟩ : ∃ zs, w1.ownsRow w.heap.size 27 2 (.slice (some ⟨w.heap.size, 0, none⟩) n n) n zs := ⟨_, ho⟩
    have hb1 : Below w.heap.size w w1 := (Below.refl _ _).grown hg (Nat.le_refl _) (fun k hk => by cases hk)
    clear hg
    obtain ⟨ba, oa, rfl, hsrc⟩ := vrow_srcK (ha.below hb1) (by have := HC.out; omega)
    clear ha
    go_wp2_with (guard_target =~ wpList _ _ _ (Oper.mk _ (Op.call ⟨Callee.builtin Builtin.copy, _, _⟩) _ _ _ _ :: _) _ _; refine wpList_copy_fullYtkamhinklhcbaaa rfl (.tmp 10) (.tmp 11) 24 24 rfl 27 Try.underlying24 2 (by rw [hi]; simp [hz1]) w.heap.size w.heap.size n ca ⟨ba, oa, none⟩ rfl rfl zs ho cs HC.out hsrc hone ?_)
    · intro w2 o2 g2
      have hb2 := hb1.grown g2 hb1.size (fun k hk => by simp at hk; omega)
      clear g2 hb1 ho hsrc hone
      go_wp2
      go_ret
      exact ⟨_, _, rfl, o2, hb2⟩

set_option maxRecDepth 100000 in
set_option maxHeartbeats 2000000 in
theorem copyBlock_any (st : Int) (a : Option Addr) (c n : Nat) (d : Nat → XD) (w : World) (ha : IR w a n d) :
    Calls Try.prog 40 #[.agg #[.int .i64 st, .slice a n c]] w (CpP st n d w) := by
  have B := bel_alloc (bel_alloc (Below.refl w.heap.size w) (.cells #[.int .i64 st, .slice a n c] 27)) (.cells #[.int .i64 0, .slice none 0 0] 27)
  obtain ⟨X0, X1⟩ := Box.two w #[.int .i64 st, .slice a n c] #[.int .i64 0, .slice none 0 0] 27 27
  have hra := ha.below B
  clear ha
  go_enter Try.func40, Try.ntmps40
  go_wp2_with fail
  refine (copyInsL_any a c n d _ hra).mono ?_
  rintro e w1 ⟨a1, c1, rfl, o1, b1⟩
  have hz1 : w.heap.size + 2 ≤ w1.heap.size := by have := b1.size; simp at this; omega
  replace B := bel_trans B b1
  replace X0 := X0.below b1
  replace X1 := X1.below b1
  have L1 : Hid (∀ j, (Value.slice a1 n c1).ownBlock = some j → w.heap.size + 2 ≤ j) := fun j h => by have := (World.ownsRow.lt o1 j h).1; simp at this; omega
  have HO : Hid (IOw w1 w.heap.size a1 c1 n d) := owns_base o1 (b' := w.heap.size) (by first | omega | (simp; done) | (simp; omega))
  clear b1 o1 hra
  obtain ⟨x0, x1, zx⟩ := X0.at2
  have fz := X0.frozen 1
  obtain ⟨y0, y1, zy⟩ := X1.at2
  have g0 := X1.frozen 0
  have g1 := X1.frozen 1
  have HB : Hid (Below w.heap.size w w1) := B
  clear X0 X1 B
  go_wp2
  refine bodyPost_ret (v := .agg #[.int .i64 st, .slice a1 n c1]) (by simp [results, Try.results40, go_sem, y0, y1]) rfl ⟨a1, c1, rfl, ?_, ?_⟩
  · show World.ownsRow _ _ _ _ _ _ _
    repeat refine owns_setCell ?_ ?_ _
    · exact HO.out
    all_goals (intro j h; have := L1.out j h; simp; omega)
  · repeat refine bel_setCell ?_ _ _ ?_
    · exact HB.out
    all_goals (simp; try omega)

set_option maxRecDepth 100000 in
set_option maxHeartbeats 4000000 in
theorem copyEachK_any (a : Option Addr) (ca n : Nat) (d : Nat → KD) (p : Nat → Pl) (w : World) (ha : KR w a n d p) :
    Calls Try.prog 39 #[.slice a n ca, .func (.func 40) #[] #[]] w fun e w' => ∃ a' c' p', e = .returned (.slice a' n c') ∧ KO w' a' c' n d p' ∧ (∀ b, RS a' c' n (fun i => QK (p' i)) b → w.heap.size ≤ b) ∧ Below w.heap.size w w' := by
  have hn := ha.1
  have HA : Hid (KR w a n d p) := ha
  have hv := ha.2.1
  clear ha
  go_enter Try.func39, Try.ntmps39
  go_wp2_with fail
  refine (copyBlocks_any a ca n _ _ hn (chunks_length n (fun i _ => rfl)) k_one hv).mono ?_
  rintro e w1 ⟨a', c', rfl, o1, b1⟩
  have HL : Hid (∀ g, blk (a', c') = some g → w.heap.size ≤ g) := owns_low o1
  have F0 : KTw w1 w.heap.size a' c' n 0 d (fun _ => (none, 0)) (fun i => bkcells (d i) (p i)) := Tw.start (owns_base o1 (Nat.zero_le _))
  clear o1 hv
  go_wp2
  go_loopw [12] (fun i wr => ∃ k : Nat, k ≤ n ∧ i = .int .i64 k ∧ ∃ p', KTw wr w.heap.size a' c' n k d p' (fun i => bkcells (d i) (p i)) ∧ Below w.heap.size w wr) (fun i _ => n - (intOf i).toNat)
  case atStart => exact ⟨0, Nat.zero_le _, rfl, _, F0, b1⟩
  case round =>
    obtain ⟨k, hk, rfl, p', hF, hbr⟩ := hrel
    clear F0 b1
    by_cases hkn : k < n
    · have hi' : (k : Int) < (n : Int) := by omega
      obtain ⟨g, rfl⟩ := owns_addr hF.r.row (by omega)
      have har := HA.out.below hbr
      have HG : Hid (w.heap.size ≤ g) := HL.out g rfl
      have cc : ∀ t, t < 2 → wr.cell? ⟨g, k * 2 + t, none⟩ = (bkcells (d k) (p k))[t]? := fun t ht => by
        have := owns_chunk hF.r.row (fun i hi => by split <;> rfl) hkn ht
        simpa using this
      have y0 := cc 0 (by decide)
      have y1 := cc 1 (by decide)
      simp only [Nat.add_zero, bkcells, List.getElem?_cons_zero, List.getElem?_cons_succ] at y0 y1
      clear cc
      have hrow := har.2.2 k hkn
      have bx := bel_alloc (Below.refl wr.heap.size wr) (.cells #[.int .i64 (d k).st, .slice (p k).1 (d k).n (p k).2] 27)
      go_wp2_with fail
      refine (copyBlock_any (d k).st (p k).1 (p k).2 (d k).n (d k).x _ (hrow.below bx)).mono ?_
      rintro e w2 ⟨a2, c2, rfl, o2, b2⟩
      replace o2 : IOw w2 wr.heap.size a2 c2 (d k).n (d k).x := owns_base o2 (b' := wr.heap.size) (by simp)
      have B2 := bel_trans bx b2
      have R : Hid _ := block_put hF (fun i _ => rfl) hkn B2 hbr.size o2
      have hr2 := owns_below hF.r.row B2
      have hg2 := HG.out
      have BB : Hid _ := bel_setCell (bel_setCell (bel_trans hbr B2) ⟨g, k * 2, none⟩ (.int .i64 (d k).st) hg2) ⟨g, k * 2 + 1, none⟩ (.slice a2 (d k).n c2) hg2
      have q0 := hr2.frozenAt (k * 2)
      have q1 := hr2.frozenAt (k * 2 + 1)
      obtain ⟨u0, g0⟩ := cellN hr2 hkn (t := 0) (by decide)
      obtain ⟨u1, g1⟩ := cellN hr2 hkn (t := 1) (by decide)
      rw [Nat.add_zero] at g0
      clear hF har y0 y1 hr2 o2 b2 hbr bx B2 hg2 hrow
      go_wp2
      go_roundw
      case rel => exact ⟨k + 1, by omega, by go_num, _, R.out, BB.out⟩
      case measure => simp [intOf]; omega
    · have : k = n := by omega
      subst this
      have R := hF.all
      have R2 := hF.low HL.out
      clear hF
      go_wp2
      go_ret
      exact ⟨_, _, p', rfl, R, R2, hbr⟩
end Go.Proofs.Ytkamhinklhcbaaa
