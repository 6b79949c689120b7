/- What the specification's Decode answers (written by mki8.py). -/
import Derived.Test.YtnfjmdegbdphpaaGreatIn8
namespace Go.Proofs.YtnfjmdegbdphpaaGreat
open Go.RowKit
set_option linter.unusedVariables false

/-- What Decode reads. -/
def decD (v : Int) : Int × Int × Int × Int × Int := (v % 16, v / 16 % 4, v / 64 % 4, v / 256 % 4, v / 1024)
def decB (v : Int) : Bool := inB v 0 65535 && insB (decD v).1 (decD v).2.1 (decD v).2.2.1 (decD v).2.2.2.1 (decD v).2.2.2.2
def decV (v : Int) : Array Value := if decB v then icells (decD v).1 (decD v).2.1 (decD v).2.2.1 (decD v).2.2.2.1 (decD v).2.2.2.2 else icells 0 0 0 0 0

set_option maxRecDepth 100000 in
set_option maxHeartbeats 4000000 in
theorem specDecode_any (v : Int) (w : World) : Calls Tryz.prog 91 #[.int .i64 v] w fun e w' => e = .returned (.tuple #[.agg (decV v), .bool (decB v)]) ∧ Below w.heap.size w w' := by
  have B := bel_alloc (Below.refl w.heap.size w) (.cells (icells 0 0 0 0 0) 152)
  cases hb : inB v 0 65535
  · have HB : Hid (inB v 0 65535 = false) := hb
    have HV : Hid (decB v = false) := by show _ = _; unfold decB; rw [hb]; rfl
    have HW : Hid (decV v = icells 0 0 0 0 0) := by show _ = _; unfold decV; rw [HV.out]; rfl
    clear hb
    go_enter Tryz.func91, Tryz.ntmps91
    go_wp2_with fail
    refine (specIn_8 v 0 65535 _).mono ?_
    rintro e w1 ⟨rfl, h⟩
    subst h
    rw [HB.out]
    go_wp2
    refine bodyPost_ret (v := .tuple #[.agg (icells 0 0 0 0 0), .bool false]) (by simp [results, Tryz.results91, go_sem]) rfl ⟨by rw [HW.out, HV.out], ?_⟩
    first | exact B | (simpa using B) | exact bel_setCell (bel_setCell (bel_setCell (bel_setCell (bel_setCell B _ _ (Nat.le_refl _)) _ _ (Nat.le_refl _)) _ _ (Nat.le_refl _)) _ _ (Nat.le_refl _)) _ _ (Nat.le_refl _)
  · have HB : Hid (inB v 0 65535 = true) := hb
    obtain ⟨v0, v1⟩ : 0 ≤ v ∧ v ≤ 65535 := by simpa [inB] using hb
    obtain ⟨op, hop⟩ : ∃ x, v % 16 = x := ⟨_, rfl⟩
    obtain ⟨r, hr⟩ : ∃ x, v / 16 % 4 = x := ⟨_, rfl⟩
    obtain ⟨a, ha⟩ : ∃ x, v / 64 % 4 = x := ⟨_, rfl⟩
    obtain ⟨b, hbb⟩ : ∃ x, v / 256 % 4 = x := ⟨_, rfl⟩
    obtain ⟨n, hn⟩ : ∃ x, v / 1024 = x := ⟨_, rfl⟩
    have n0 : 0 ≤ n := by omega
    have n1 : n ≤ 63 := by omega
    have HD : Hid (decD v = (op, r, a, b, n)) := by show _ = _; unfold decD; rw [hop, hr, ha, hbb, hn]
    have HDB : Hid (decB v = insB op r a b n) := by show _ = _; unfold decB; rw [hb, HD.out]; rfl
    clear hb
    have B2 := bel_alloc B (.cells (icells op r a b n) 152)
    obtain ⟨X0, X1⟩ := Box.two w (icells 0 0 0 0 0) (icells op r a b n) 152 152
    cases hi : insB op r a b n
    · have HI : Hid (insB op r a b n = false) := hi
      have HW : Hid (decV v = icells 0 0 0 0 0) := by show _ = _; unfold decV; rw [HDB.out, hi]; rfl
      clear hi
      go_enter Tryz.func91, Tryz.ntmps91
      go_wp2_with fail
      refine (specIn_8 v 0 65535 _).mono ?_
      rintro e w1 ⟨rfl, h⟩
      subst h
      rw [HB.out]
      go_wp2_with fail
      refine (specInsOk_any op r a b n _).mono ?_
      rintro e w1 ⟨rfl, b1⟩
      rw [HI.out]
      obtain ⟨x0, x1, x2, x3, x4, xz⟩ := (X0.below b1).at5i
      have f0 := (X0.below b1).frozen 0
      have f1 := (X0.below b1).frozen 1
      have f2 := (X0.below b1).frozen 2
      have f3 := (X0.below b1).frozen 3
      have f4 := (X0.below b1).frozen 4
      have B3 := bel_trans B2 b1
      clear X0 X1 b1 B B2
      go_wp2
      refine bodyPost_ret (v := .tuple #[.agg (icells 0 0 0 0 0), .bool false]) (by simp [results, Tryz.results91, go_sem, x0, x1, x2, x3, x4]) rfl ⟨by rw [HW.out, HDB.out, HI.out], ?_⟩
      first | exact B3 | exact bel_setCell (bel_setCell (bel_setCell (bel_setCell (bel_setCell B3 _ _ (Nat.le_refl _)) _ _ (Nat.le_refl _)) _ _ (Nat.le_refl _)) _ _ (Nat.le_refl _)) _ _ (Nat.le_refl _)
    · have HI : Hid (insB op r a b n = true) := hi
      have HW : Hid (decV v = icells op r a b n) := by show _ = _; unfold decV; rw [HDB.out, hi, HD.out]; rfl
      clear hi
      go_enter Tryz.func91, Tryz.ntmps91
      go_wp2_with fail
      refine (specIn_8 v 0 65535 _).mono ?_
      rintro e w1 ⟨rfl, h⟩
      subst h
      rw [HB.out]
      go_wp2_with fail
      refine (specInsOk_any op r a b n _).mono ?_
      rintro e w1 ⟨rfl, b1⟩
      rw [HI.out]
      obtain ⟨x0, x1, x2, x3, x4, xz⟩ := (X0.below b1).at5i
      obtain ⟨y0, y1, y2, y3, y4, yz⟩ := (X1.below b1).at5i
      have f0 := (X0.below b1).frozen 0
      have f1 := (X0.below b1).frozen 1
      have f2 := (X0.below b1).frozen 2
      have f3 := (X0.below b1).frozen 3
      have f4 := (X0.below b1).frozen 4
      have B3 := bel_trans B2 b1
      clear X0 X1 b1 B B2
      go_wp2
      refine bodyPost_ret (v := .tuple #[.agg (icells op r a b n), .bool true]) (by simp [results, Tryz.results91, go_sem, x0, x1, x2, x3, x4]) rfl ⟨by rw [HW.out, HDB.out, HI.out], ?_⟩
      first | exact B3 | exact bel_setCell (bel_setCell (bel_setCell (bel_setCell (bel_setCell B3 _ _ (Nat.le_refl _)) _ _ (Nat.le_refl _)) _ _ (Nat.le_refl _)) _ _ (Nat.le_refl _)) _ _ (Nat.le_refl _)

end Go.Proofs.YtnfjmdegbdphpaaGreat
