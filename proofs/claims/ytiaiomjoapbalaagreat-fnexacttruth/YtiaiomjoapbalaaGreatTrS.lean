/- TrF and TrS: see the heads of the parts. -/
import Derived.Test.YtiaiomjoapbalaaGreatTrT
import Derived.Test.YtiaiomjoapbalaaGreatTrA
import Derived.BigQuiet
/- What the specification's Coming and Truth answer. -/
namespace Go.Proofs.YtiaiomjoapbalaaGreat
open Go.RowKit
set_option linter.unusedVariables false

/-- A call that answers a row of messages. -/
def MsgsP (y : List Say) (w : World) (e : Ending) (w' : World) : Prop := ∃ (a : Option Addr) (c : Nat) (ds : List M), e = .returned (.slice a ds.length c) ∧ ds.map M.say = y ∧ Deep w' w.heap.size a c ds ∧ Below w.heap.size w w'
def comW (d : WoD) (f t : Int) : List Say := if worldB d && (inB f 0 (d.size - 1) && inB t 0 (d.size - 1)) then comD d f.toNat t.toNat else []
def truW (d : WoD) (page : Int) : List Int := if worldB d && inB page 0 5 then truthL d page.toNat else []
theorem comW_no {d : WoD} {f t : Int} (h : (worldB d && (inB f 0 (d.size - 1) && inB t 0 (d.size - 1))) = false) : comW d f t = [] := by unfold comW; rw [h]; rfl
theorem comW_yes {d : WoD} {f t : Int} (h : (worldB d && (inB f 0 (d.size - 1) && inB t 0 (d.size - 1))) = true) : comW d f t = comD d f.toNat t.toNat := by unfold comW; rw [h]; rfl
theorem truW_no {d : WoD} {page : Int} (h : (worldB d && inB page 0 5) = false) : truW d page = [] := by unfold truW; rw [h]; rfl
theorem truW_yes {d : WoD} {page : Int} (h : (worldB d && inB page 0 5) = true) : truW d page = truthL d page.toNat := by unfold truW; rw [h]; rfl
theorem msgs_none {d : WoD} {f t : Int} (h : comW d f t = []) {w w' : World} {a : Option Addr} (o : w'.ownsRow w.heap.size 55 4 (.slice a 0 0) 0 []) (b : Below w.heap.size w w') : MsgsP (comW d f t) w (.returned (.slice a 0 0)) w' := by
  rw [h]
  exact ⟨a, 0, [], rfl, rfl, ⟨o, Lists.nil _ _⟩, b⟩
theorem ints_none {d : WoD} {page : Int} (h : truW d page = []) {w w' : World} {a : Option Addr} (o : w'.ownsRow w.heap.size 3 1 (.slice a 0 0) 0 []) (b : Below w.heap.size w w') : IntsP (truW d page) w (.returned (.slice a 0 0)) w' := by
  rw [h]
  exact ⟨a, 0, rfl, o, b⟩
theorem lit_end {w w1 : World} {e s : Nat} (b : Below w.heap.size w w1) : (w1.alloc (.cells #[] e)).ownsRow w.heap.size e s (.slice (some ⟨w1.heap.size, 0, none⟩) 0 0) 0 [] ∧ Below w.heap.size w (w1.alloc (.cells #[] e)) :=
  ⟨own_litE w1 e s w.heap.size b.size, bel_alloc b _⟩

set_option maxRecDepth 100000 in
set_option maxHeartbeats 4000000 in
theorem specComing_any (d : WoD) (p : WoP) (f t : Int) (w : World) (hbs : ∀ i, i < d.nn → ∀ j, j < (d.d i).nh → ((d.d i).h j).bs.length ≤ 1048577) (hR : WoR w d p) :
    Calls Tryz.prog 6 #[.agg (wcells d p), .int .i64 f, .int .i64 t] w (MsgsP (comW d f t) w) := by
  have B := bel_alloc (Below.refl w.heap.size w) (.cells (wcells d p) 32)
  have X := Box.new w (wcells d p) 32
  have HR : Hid (WoR w d p) := hR
  have hR1 := hR.below B
  clear hR
  cases hw : worldB d
  · have HW : Hid (worldB d = false) := hw
    have HC : Hid (comW d f t = []) := comW_no (by rw [hw]; rfl)
    clear hw X
    go_enter Tryz.func6, Tryz.ntmps6
    go_wp2_with fail
    refine (specWorldOk_any d p _ hbs hR1).mono ?_
    rintro e w1 ⟨rfl, b1⟩
    rw [HW.out]
    have HF : Hid (Below w.heap.size w w1) := bel_trans B b1
    clear b1 hR1 B
    go_wp2
    go_ret
    exact msgs_none HC.out (lit_end HF.out).1 (bel_alloc HF.out _)
  · have hok := WOk.of hw
    obtain ⟨size, nn, D, nk, K⟩ := d
    have hsz : size = (nn : Int) := hok.n.1
    have hn1 : 1 ≤ nn := hok.n.2.1
    have hn4 : nn ≤ 4 := hok.n.2.2
    subst hsz
    have HW : Hid (worldB ⟨nn, nn, D, nk, K⟩ = true) := hw
    have HOK : Hid (WOk ⟨nn, nn, D, nk, K⟩) := hok
    clear hok
    cases h1 : inB f 0 ((nn : Int) - 1)
    · have H1 : Hid (inB f 0 ((nn : Int) - 1) = false) := h1
      have HC : Hid (comW ⟨nn, nn, D, nk, K⟩ f t = []) := comW_no (by rw [hw, h1]; rfl)
      clear hw h1
      go_enter Tryz.func6, Tryz.ntmps6
      go_wp2_with fail
      refine (specWorldOk_any _ p _ hbs hR1).mono ?_
      rintro e w1 ⟨rfl, b1⟩
      rw [HW.out]
      have HF : Hid (Below w.heap.size w w1) := bel_trans B b1
      obtain ⟨x0, x1, x2, xz⟩ := (X.below b1).at3
      clear b1 hR1 B X
      go_wp2_with fail
      refine (specIn_h f 0 ((nn : Int) - 1) _).mono ?_
      rintro e w2 ⟨rfl, h⟩
      replace h := h.symm
      subst h
      rw [H1.out]
      go_wp2
      go_ret
      exact msgs_none HC.out (lit_end HF.out).1 (bel_alloc HF.out _)
    · have H1 : Hid (inB f 0 ((nn : Int) - 1) = true) := h1
      cases h2 : inB t 0 ((nn : Int) - 1)
      · have H2 : Hid (inB t 0 ((nn : Int) - 1) = false) := h2
        have HC : Hid (comW ⟨nn, nn, D, nk, K⟩ f t = []) := comW_no (by rw [hw, h1, h2]; rfl)
        clear hw h1 h2
        go_enter Tryz.func6, Tryz.ntmps6
        go_wp2_with fail
        refine (specWorldOk_any _ p _ hbs hR1).mono ?_
        rintro e w1 ⟨rfl, b1⟩
        rw [HW.out]
        have HF : Hid (Below w.heap.size w w1) := bel_trans B b1
        obtain ⟨x0, x1, x2, xz⟩ := (X.below b1).at3
        clear b1 hR1 B X
        go_wp2_with fail
        refine (specIn_h f 0 ((nn : Int) - 1) _).mono ?_
        rintro e w2 ⟨rfl, h⟩
        replace h := h.symm
        subst h
        rw [H1.out]
        go_wp2_with fail
        refine (specIn_h t 0 ((nn : Int) - 1) _).mono ?_
        rintro e w2 ⟨rfl, h⟩
        replace h := h.symm
        subst h
        rw [H2.out]
        go_wp2
        go_ret
        exact msgs_none HC.out (lit_end HF.out).1 (bel_alloc HF.out _)
      · have H2 : Hid (inB t 0 ((nn : Int) - 1) = true) := h2
        obtain ⟨f0, f1⟩ : 0 ≤ f ∧ f ≤ (nn : Int) - 1 := by simpa [inB] using h1
        obtain ⟨t0, t1⟩ : 0 ≤ t ∧ t ≤ (nn : Int) - 1 := by simpa [inB] using h2
        obtain ⟨fn, rfl⟩ : ∃ n : Nat, f = (n : Int) := ⟨f.toNat, by omega⟩
        obtain ⟨tn, rfl⟩ : ∃ n : Nat, t = (n : Int) := ⟨t.toNat, by omega⟩
        have HC : Hid (comW ⟨nn, nn, D, nk, K⟩ fn tn = comD ⟨nn, nn, D, nk, K⟩ fn tn) := comW_yes (by rw [hw, h1, h2]; rfl)
        clear hw h1 h2
        go_enter Tryz.func6, Tryz.ntmps6
        go_wp2_with fail
        refine (specWorldOk_any _ p _ hbs hR1).mono ?_
        rintro e w1 ⟨rfl, b1⟩
        rw [HW.out]
        have HF : Hid (Below w.heap.size w w1) := bel_trans B b1
        obtain ⟨x0, x1, x2, xz⟩ := (X.below b1).at3
        clear b1 hR1 B X
        go_wp2_with fail
        refine (specIn_h (fn : Int) 0 ((nn : Int) - 1) _).mono ?_
        rintro e w2 ⟨rfl, h⟩
        replace h := h.symm
        subst h
        rw [H1.out]
        go_wp2_with fail
        refine (specIn_h (tn : Int) 0 ((nn : Int) - 1) _).mono ?_
        rintro e w2 ⟨rfl, h⟩
        replace h := h.symm
        subst h
        rw [H2.out]
        go_wp2_with fail
        refine (l7Coming_any ⟨nn, nn, D, nk, K⟩ p fn tn _ (HR.out.below HF.out) HOK.out (by show fn < nn; omega) (by show tn < nn; omega)).mono ?_
        rintro e w3 ⟨a3, k3, ds, rfl, hds, hdeep, b3⟩
        have HD : Hid (Deep w3 w.heap.size a3 k3 ds) := hdeep.base HF.out.size
        have HS : Hid (ds.map M.say = comW ⟨nn, nn, D, nk, K⟩ fn tn) := by show _ = _; rw [HC.out]; exact hds
        have HG : Hid (Below w.heap.size w w3) := bel_trans HF.out b3
        clear hds hdeep b3 x0 x1 x2 xz
        go_wp2
        go_ret
        exact ⟨a3, k3, ds, rfl, HS.out, HD.out, HG.out⟩

set_option maxRecDepth 100000 in
set_option maxHeartbeats 4000000 in
theorem specTruth_any (d : WoD) (p : WoP) (page : Int) (w : World) (hbs : ∀ i, i < d.nn → ∀ j, j < (d.d i).nh → ((d.d i).h j).bs.length ≤ 1048577) (hR : WoR w d p) :
    Calls Tryz.prog 14 #[.agg (wcells d p), .int .i64 page] w (IntsP (truW d page) w) := by
  have B := bel_alloc (Below.refl w.heap.size w) (.cells (wcells d p) 32)
  have X := Box.new w (wcells d p) 32
  have HR : Hid (WoR w d p) := hR
  have hR1 := hR.below B
  clear hR
  cases hw : worldB d
  · have HW : Hid (worldB d = false) := hw
    have HC : Hid (truW d page = []) := truW_no (by rw [hw]; rfl)
    clear hw X
    go_enter Tryz.func14, Tryz.ntmps14
    go_wp2_with fail
    refine (specWorldOk_any d p _ hbs hR1).mono ?_
    rintro e w1 ⟨rfl, b1⟩
    rw [HW.out]
    have HF : Hid (Below w.heap.size w w1) := bel_trans B b1
    clear b1 hR1 B
    go_wp2
    go_ret
    exact ints_none HC.out (lit_end HF.out).1 (bel_alloc HF.out _)
  · have HW : Hid (worldB d = true) := hw
    have HOK : Hid (WOk d) := WOk.of hw
    cases h1 : inB page 0 5
    · have H1 : Hid (inB page 0 5 = false) := h1
      have HC : Hid (truW d page = []) := truW_no (by rw [hw, h1]; rfl)
      clear hw h1 X
      go_enter Tryz.func14, Tryz.ntmps14
      go_wp2_with fail
      refine (specWorldOk_any d p _ hbs hR1).mono ?_
      rintro e w1 ⟨rfl, b1⟩
      rw [HW.out]
      have HF : Hid (Below w.heap.size w w1) := bel_trans B b1
      clear b1 hR1 B
      go_wp2_with fail
      refine (specIn_h page 0 5 _).mono ?_
      rintro e w2 ⟨rfl, h⟩
      replace h := h.symm
      subst h
      rw [H1.out]
      go_wp2
      go_ret
      exact ints_none HC.out (lit_end HF.out).1 (bel_alloc HF.out _)
    · have H1 : Hid (inB page 0 5 = true) := h1
      obtain ⟨p0, p5⟩ : 0 ≤ page ∧ page ≤ 5 := by simpa [inB] using h1
      obtain ⟨pg, rfl⟩ : ∃ n : Nat, page = (n : Int) := ⟨page.toNat, by omega⟩
      have HC : Hid (truW d pg = truthL d pg) := truW_yes (by rw [hw, h1]; rfl)
      clear hw h1
      go_enter Tryz.func14, Tryz.ntmps14
      go_wp2_with fail
      refine (specWorldOk_any d p _ hbs hR1).mono ?_
      rintro e w1 ⟨rfl, b1⟩
      rw [HW.out]
      have HF : Hid (Below w.heap.size w w1) := bel_trans B b1
      obtain ⟨x0, x1, x2, xz⟩ := (X.below b1).at3
      clear b1 hR1 B X
      go_wp2_with fail
      refine (specIn_h (pg : Int) 0 5 _).mono ?_
      rintro e w2 ⟨rfl, h⟩
      replace h := h.symm
      subst h
      rw [H1.out]
      go_wp2_with fail
      refine (l7Truth_any d p pg _ (HR.out.below HF.out) HOK.out (by omega)).mono ?_
      rintro e w3 ⟨a3, k3, rfl, o3, b3⟩
      have HO : Hid (w3.ownsRow w.heap.size 3 1 (.slice a3 (truthL d pg).length k3) (truthL d pg).length ((truthL d pg).map (Value.int .i64))) := owns_base o3 HF.out.size
      have HG : Hid (Below w.heap.size w w3) := bel_trans HF.out b3
      obtain ⟨L, eL⟩ : ∃ L, truthL d pg = L := ⟨_, rfl⟩
      rw [eL] at HO HC ⊢
      clear o3 b3 x0 x1 x2 xz eL
      go_wp2
      go_ret
      exact ints_p HC.out (ints_of rfl HO.out HG.out)
end Go.Proofs.YtiaiomjoapbalaaGreat

/- What the specification's Sane answers. -/
namespace Go.Proofs.YtiaiomjoapbalaaGreat
open Go.RowKit
set_option linter.unusedVariables false

theorem truth_len {d : WoD} (h : WOk d) {k : Nat} (hk : k < 6) : (truthL d k).length ≤ 1048577 := by
  have hm : k % d.nn < d.nn := Nat.mod_lt _ h.n.2.1
  have h1 := hoB_parts (h.h _ hm k hk)
  unfold truthL
  split
  · omega
  · have ho : ((d.d (k % d.nn)).h k).ow.toNat < d.nn := by omega
    have h2 := frB_parts (h.f _ ho k hk)
    split
    · omega
    · have h3 := lastY_len 3 k (com_ok h hm ho)
      have h7 := lastY_len 7 k (com_ok h ho hm)
      split <;> omega
theorem sane_bad {d : WoD} {k : Nat} (hk : k < 6) (h : saneP d k = false) : saneB d = false := by unfold saneB; rw [allB_bad hk h]; rfl
theorem saneP_alone {d : WoD} {k : Nat} (h : aloneB d k = false) : saneP d k = false := by unfold saneP; rw [h]; rfl
theorem saneP_len {d : WoD} {k : Nat} (h : ¬ (truthL d k).length = 4) : saneP d k = false := by unfold saneP; rw [decide_eq_false h]; simp
theorem saneP_frame {d : WoD} {k i : Nat} (hi : i < d.nn) (h : (((d.d i).f k).s == 0 || decide (((d.d i).f k).xs = truthL d k)) = false) : saneP d k = false := by unfold saneP; rw [allB_bad hi h]; simp
theorem saneP_ok {d : WoD} {k : Nat} (h : aloneB d k = true) (h2 : (truthL d k).length = 4) (h3 : ∀ i, i < d.nn → (((d.d i).f k).s == 0 || decide (((d.d i).f k).xs = truthL d k)) = true) : saneP d k = true := by unfold saneP; rw [h, decide_eq_true h2, allB_ok h3]; rfl
theorem sane_sent {d : WoD} {i k : Nat} (hi : i < d.nn) (hk : k < d.nn) (h : sentB d i k = false) : saneB d = false := by unfold saneB; rw [allB_bad (n := d.nn) hi (allB_bad hk h)]; simp
theorem sane_ok {d : WoD} (h : ∀ k, k < 6 → saneP d k = true) (h2 : ∀ i, i < d.nn → ∀ k, k < d.nn → sentB d i k = true) : saneB d = true := by unfold saneB; rw [allB_ok h, allB_ok (fun i hi => allB_ok (h2 i hi))]; rfl


end Go.Proofs.YtiaiomjoapbalaaGreat
