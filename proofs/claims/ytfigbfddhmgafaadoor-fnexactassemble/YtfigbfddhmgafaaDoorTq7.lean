/- What impl's InsText answers. -/
import Derived.Test.YtfigbfddhmgafaaDoorTq6
import Derived.Test.YtfigbfddhmgafaaDoorIn8j
namespace Go.Proofs.YtfigbfddhmgafaaDoor
open Go.RowKit
set_option linter.unusedVariables false

theorem digs_dec (n : Nat) : Lib.decDigits n = digs n := rfl
theorem itoa_small (n : Nat) (hn : n < 100) (w : World) : Calls Tryd.prog 23 #[.int .i64 n] w fun e w' => e = .returned (txt (digs n)) ∧ w' = w := by
  have h := Tryd.strconv_Itoa_small n hn w
  rw [digs_dec] at h
  exact h
def PV.get (p : PV) (c : UInt8) : Int := if c = 82 then p.r else if c = 65 then p.a else if c = 66 then p.b else p.n
theorem PV.cell (op : Int) (p : PV) (c : UInt8) : (p.cells op)[ixF c]? = some (.int .i64 (p.get c)) := by
  unfold ixF PV.get PV.cells
  repeat' split
  all_goals rfl
/-- One field as it is written. -/
def pcT (p : PV) (c : UInt8) : List UInt8 := if c = 78 then [32] ++ digs (p.get c).toNat else [32] ++ ([114] ++ digs (p.get c).toNat)
def wrT (op : Int) (p : PV) (F : List UInt8) : List UInt8 := nameT op ++ F.flatMap (pcT p)
theorem wrT_op {op : Nat} (h1 : 1 ≤ op) (h2 : op ≤ 10) (r a b n : Nat) : wrT op ⟨r, a, b, n⟩ (fldT op) = opT op r a b n := by
  rcases op_ten h1 h2 with rfl | rfl | rfl | rfl | rfl | rfl | rfl | rfl | rfl | rfl <;>
    simp [wrT, fldT, opT, pcT, regT, numT, PV.get]
theorem wrT_next (op : Int) (p : PV) (F : List UInt8) (k : Nat) (h : k < F.length) : wrT op p (F.take (k + 1)) = wrT op p (F.take k) ++ pcT p (F.getD k 0) := by
  unfold wrT
  rw [take_one h, List.flatMap_append]
  simp
theorem pcT_len (p : PV) (c : UInt8) (h : p.get c ≤ 63) : (pcT p c).length ≤ 66 := by
  have := digs_len (p.get c).toNat
  unfold pcT
  split <;> simp <;> omega
theorem wrT_len (op : Int) (p : PV) (F : List UInt8) (h : ∀ c, p.get c ≤ 63) : ∀ k, k ≤ F.length → (wrT op p (F.take k)).length ≤ 5 + 66 * k := by
  intro k
  induction k with
  | zero =>
    intro _
    unfold wrT nameT
    simp only [List.take_zero, List.flatMap_nil, List.append_nil]
    repeat' split
    all_goals simp
  | succ k ih =>
    intro hk
    rw [wrT_next op p F k (by omega), List.length_append]
    have := ih (by omega)
    have := pcT_len p (F.getD k 0) (h _)
    omega

set_option maxRecDepth 100000 in
set_option maxHeartbeats 4000000 in
theorem implInsText_any (op r a b n : Int) (w : World) : Calls Tryd.prog 8 #[.agg (icells op r a b n)] w fun e w' => e = .returned (txt (insT op r a b n)) ∧ Below w.heap.size w w' := by
  have B := bel_alloc (Below.refl w.heap.size w) (.cells (icells op r a b n) 25)
  cases hi : insB op r a b n
  · have HI : Hid (insB op r a b n = false) := hi
    have HT : Hid (insT op r a b n = []) := by show _ = _; unfold insT; rw [hi]; rfl
    clear hi
    go_enter Tryd.func8, Tryd.ntmps8
    go_wp2_with fail
    refine (implInsOk_any op r a b n _).mono ?_
    rintro e w1 ⟨rfl, b1⟩
    rw [HI.out]
    replace B := bel_trans B b1
    clear b1
    go_wp2
    go_ret
    exact ⟨by rw [HT.out]; rfl, B⟩
  · obtain ⟨ho, ⟨r0, r1⟩, ⟨a0, a1⟩, ⟨b0, b1⟩, ⟨n0, n1⟩⟩ := ins_bounds hi
    obtain ⟨kr, rfl⟩ : ∃ k : Nat, r = (k : Int) := ⟨r.toNat, by omega⟩
    obtain ⟨ka, rfl⟩ : ∃ k : Nat, a = (k : Int) := ⟨a.toNat, by omega⟩
    obtain ⟨kb, rfl⟩ : ∃ k : Nat, b = (k : Int) := ⟨b.toNat, by omega⟩
    obtain ⟨kn, rfl⟩ : ∃ k : Nat, n = (k : Int) := ⟨n.toNat, by omega⟩
    obtain ⟨ko, rfl⟩ : ∃ k : Nat, op = (k : Int) := ⟨op.toNat, by have := op_cases ho; omega⟩
    have h1 : 1 ≤ ko := by have := op_cases ho; omega
    have h2 : ko ≤ 10 := by have := op_cases ho; omega
    obtain ⟨p, hp⟩ : ∃ p : PV, (⟨kr, ka, kb, kn⟩ : PV) = p := ⟨_, rfl⟩
    have hc : icells ko kr ka kb kn = p.cells ko := by rw [← hp]; rfl
    have HG : Hid (∀ c, ∃ v : Nat, p.get c = v ∧ v ≤ 63) := fun c => by
      rw [← hp]
      unfold PV.get
      repeat' split
      · exact ⟨kr, rfl, by omega⟩
      · exact ⟨ka, rfl, by omega⟩
      · exact ⟨kb, rfl, by omega⟩
      · exact ⟨kn, rfl, by omega⟩
    obtain ⟨F, hF⟩ : ∃ F, fldT ko = F := ⟨_, rfl⟩
    have HF : Hid (fldT ko = F) := hF
    have HT : Hid (insT ko kr ka kb kn = wrT ko p F) := by
      show _ = _
      rw [← hp, ← hF, wrT_op h1 h2]
      unfold insT
      rw [hi]
      rfl
    have HI : Hid (insB ko kr ka kb kn = true) := hi
    have X := Box.new w (icells ko kr ka kb kn) 25
    have hl4 : F.length ≤ 4 := by rw [← hF]; exact fldT_len _
    have hFs : (⟨F.toArray⟩ : ByteArray).size = F.length := by simp [ByteArray.size]
    have HMEM : Hid (∀ c ∈ F, c = 82 ∨ c = 65 ∨ c = 66 ∨ c = 78) := by rw [← HF.out]; exact fun c hc => fldT_mem hc
    have HC : Hid (icells ko kr ka kb kn = p.cells ko) := hc
    clear hF hp hc hi ho
    go_enter Tryd.func8, Tryd.ntmps8
    go_wp2_with fail
    refine (implInsOk_any ko kr ka kb kn _).mono ?_
    rintro e w1 ⟨rfl, b1⟩
    rw [HI.out]
    replace B := bel_trans B b1
    replace X := X.below b1
    obtain ⟨x0, x1, x2, x3, x4, xz⟩ := X.at5i
    clear b1
    go_wp2_with (go_at_call 22; refine (wordingOf_any ko h1 h2 _).mono ?_; rintro e w2 ⟨rfl, b2⟩)
    rw [HF.out]
    replace X := X.below b2
    replace B := bel_trans B b2
    have hw2 : w.heap.size + 1 ≤ w2.heap.size := by have := b2.size; omega
    clear b2 x0 x1 x2 x3 x4 xz
    obtain ⟨D, hD⟩ : ∃ D, w2.alloc (.cells #[.string ⟨(nameT ko).toArray⟩, .string ⟨F.toArray⟩] 43) = D := ⟨_, rfl⟩
    have hDs : D.heap.size = w2.heap.size + 1 := by rw [← hD]; simp
    have XD : Box D w.heap.size (p.cells ko) 25 := by rw [← HC.out, ← hD]; exact X.below (bel_alloc (Below.refl _ _) _)
    have BD : Below w.heap.size w D := by rw [← hD]; exact bel_alloc B _
    have HX : Hid (Box (D.iter ⟨F.toArray⟩ 0) w.heap.size (p.cells ko) 25) := XD.below (bel_alloc (Below.refl _ _) _)
    have HB : Hid (Below w.heap.size w (D.iter ⟨F.toArray⟩ 0)) := bel_alloc BD _
    have HIT : Hid ((D.iter ⟨F.toArray⟩ 0).heap[w2.heap.size + 1]? = some (.stringIter ⟨F.toArray⟩ 0)) := by
      have h := World.iter_heap D ⟨F.toArray⟩ 0
      rw [hDs] at h
      exact h
    rw [hD]
    clear hD X XD B BD hDs
    have HLEN := fun k hk => wrT_len ko p F (fun c => by obtain ⟨v, h3, h4⟩ := HG.out c; omega) k hk
    go_loopw [4] (fun v wr => ∃ k : Nat, k ≤ F.length ∧ v = txt (wrT ko p (F.take k)) ∧ wr.heap[w2.heap.size + 1]? = some (.stringIter ⟨F.toArray⟩ k) ∧ Box wr w.heap.size (p.cells ko) 25 ∧ Below w.heap.size w wr) (fun _ wr => F.length - wr.iterPos (w2.heap.size + 1))
    case atStart => exact ⟨0, Nat.zero_le _, by simp [wrT], HIT.out, HX.out, HB.out⟩
    case round =>
      obtain ⟨k, hk, rfl, hit, X, B⟩ := hrel
      clear HX HB HIT
      have HI2 : Hid (wr.iterPos (w2.heap.size + 1) = k) := iterPos_of hit
      by_cases hkF : k < F.length
      · have hp : k < (⟨F.toArray⟩ : ByteArray).size := by rw [hFs]; exact hkF
        have hnx := fun ty => Lib.run_next_any_at (P := Tryd.prog) wr (w2.heap.size + 1) ⟨F.toArray⟩ k ty hit hp
        obtain ⟨ch, hch⟩ : ∃ x, F.getD k 0 = x := ⟨_, rfl⟩
        have hc4 : ch = 82 ∨ ch = 65 ∨ ch = 66 ∨ ch = 78 := by
          refine HMEM.out ch ?_
          rw [← hch]
          exact mem_at hkF
        have hc128 : ch.toNat < 128 := by rcases hc4 with rfl | rfl | rfl | rfl <;> decide
        have R := rune_at F k hkF
        obtain ⟨hr, hd⟩ := R.small (by rw [hch]; exact hc128)
        rw [hr, hd, hch] at hnx
        clear R hr hd hp hc128
        have hit2 := Lib.iterAt_heap wr (w2.heap.size + 1) ⟨F.toArray⟩ k (k + 1) hit
        have X2 : Box (wr.iterAt (w2.heap.size + 1) ⟨F.toArray⟩ (k + 1)) w.heap.size (p.cells ko) 25 := (Lib.iterAt_other wr (w2.heap.size + 1) w.heap.size ⟨F.toArray⟩ (k + 1) (by omega)).trans X
        have B2 := Lib.below_iterAt B (show w.heap.size ≤ w2.heap.size + 1 by omega) ⟨F.toArray⟩ (k + 1)
        obtain ⟨V, hV⟩ : ∃ V, wr.iterAt (w2.heap.size + 1) ⟨F.toArray⟩ (k + 1) = V := ⟨_, rfl⟩
        rw [hV] at hnx hit2 X2 B2
        clear hV X B hit
        obtain ⟨T, hT⟩ : ∃ T, wrT ko p (F.take k) = T := ⟨_, rfl⟩
        obtain ⟨v, hv, hv63⟩ := HG.out ch
        have hTl : T.length ≤ 300 := by rw [← hT]; have := HLEN k hk; omega
        have HN : Hid (wrT ko p (F.take (k + 1)) = T ++ pcT p ch) := by show _ = _; rw [wrT_next ko p F k hkF, hT, hch]
        have HPC : Hid (pcT p ch = if ch = 78 then [32] ++ digs v else [32] ++ ([114] ++ digs v)) := by show _ = _; unfold pcT; rw [hv]; rfl
        have hdl := digs_len v
        obtain ⟨g, hg⟩ : ∃ g, digs v = g := ⟨_, rfl⟩
        have hitoa := fun W => itoa_small v (by omega) W
        rw [hg] at hdl hitoa HPC
        have HITO : Hid (∀ W, Calls Tryd.prog 23 #[.int .i64 v] W fun e w' => e = .returned (txt g) ∧ w' = W) := hitoa
        obtain ⟨ix, hix⟩ : ∃ x, ixF ch = x := ⟨_, rfl⟩
        have hfield := fun W => field_any w.heap.size ch hc4 W
        have hcell : V.cell? ⟨w.heap.size, ix, none⟩ = some (.int .i64 v) := by rw [X2.cell, ← hix, PV.cell, hv]
        rw [hix] at hfield
        have HFLD : Hid (∀ W, Calls Tryd.prog 24 #[.pointer (some ⟨w.heap.size, 0, none⟩), .int .i32 ch.toNat] W fun e w' => e = .returned (.pointer (some ⟨w.heap.size, ix, none⟩)) ∧ w' = W) := hfield
        rw [hT]
        clear hch hT hv hg hix hfield hitoa
        by_cases h78 : ch = 78
        · have HE : Hid (T ++ pcT p ch = T ++ ([32] ++ g)) := by show _ = _; rw [HPC.out, if_pos h78]
          have hne : ((ch.toNat : Int) == 78) = true := by rw [h78]; rfl
          clear h78
          go_wp2_with (first | (go_at_call 24; refine (HFLD.out _).mono ?_; rintro e w9 ⟨rfl, h9⟩; replace h9 := h9.symm; subst h9) | (go_at_call 23; refine (HITO.out _).mono ?_; rintro e w9 ⟨rfl, h9⟩; replace h9 := h9.symm; subst h9))
          have e : (⟨T.toArray⟩ : ByteArray) ++ ⟨#[32]⟩ ++ ⟨g.toArray⟩ = ⟨(T ++ ([32] ++ g)).toArray⟩ := by apply ByteArray.ext; simp
          exact ⟨⟨k + 1, by omega, by rw [HN.out, HE.out, e], hit2, X2, B2⟩, by rw [iterPos_of hit2, HI2.out]; omega⟩
        · have hne : ((ch.toNat : Int) == 78) = false := by
            have : ¬ ch.toNat = 78 := fun e => h78 (by rw [← UInt8.toNat_inj]; exact e)
            simp; omega
          go_wp2_with (first | (go_at_call 24; refine (HFLD.out _).mono ?_; rintro e w9 ⟨rfl, h9⟩; replace h9 := h9.symm; subst h9) | (go_at_call 23; refine (HITO.out _).mono ?_; rintro e w9 ⟨rfl, h9⟩; replace h9 := h9.symm; subst h9))
          have e : (⟨T.toArray⟩ : ByteArray) ++ ⟨#[32]⟩ ++ ⟨#[114]⟩ ++ ⟨g.toArray⟩ = ⟨(T ++ ([32] ++ ([114] ++ g))).toArray⟩ := by apply ByteArray.ext; simp
          exact ⟨⟨k + 1, by omega, by rw [HN.out, HPC.out, if_neg h78, e], hit2, X2, B2⟩, by rw [iterPos_of hit2, HI2.out]; omega⟩
      · have hkk : k = F.length := by omega
        subst hkk
        have hp : ¬ F.length < (⟨F.toArray⟩ : ByteArray).size := by rw [hFs]; exact Nat.lt_irrefl _
        have hnx := fun ty => Lib.run_next_end_at (P := Tryd.prog) wr (w2.heap.size + 1) ⟨F.toArray⟩ F.length ty hit hp
        have HE : Hid (wrT ko p (F.take F.length) = insT ko kr ka kb kn) := by show _ = _; rw [List.take_length, HT.out]
        clear hp hit hkF
        go_wp2
        go_ret
        exact ⟨by rw [HE.out]; rfl, B⟩
end Go.Proofs.YtfigbfddhmgafaaDoor
