/- The laws of chapter 8 over any impl that answers as it should; the law's toIns, eqIns. -/
import Derived.Test.YtnigpgemdlcehaaIn8d
import Derived.Test.YtnigpgemdlcehaaHomT
namespace Go.Proofs.Ytnigpgemdlcehaa
open Go.RowKit
set_option linter.unusedVariables false

set_option maxRecDepth 100000 in
set_option maxHeartbeats 2000000 in
theorem toIns_any (op r a b n : Int) (w : World) : Calls Try.prog 21 #[.agg (icells op r a b n)] w fun e w' => e = .returned (.agg (icells op r a b n)) ∧ Below w.heap.size w w' := by
  go_enter Try.func21, Try.ntmps21
  go_wp2
  refine bodyPost_ret (v := .agg (icells op r a b n)) (by simp [results, Try.results21, go_sem]) rfl ⟨rfl, ?_⟩
  exact bel_alloc (bel_alloc (bel_alloc (Below.refl _ _) _) _) _

set_option maxRecDepth 100000 in
set_option maxHeartbeats 2000000 in
theorem eqIns_any (op r a b n : Int) (w : World) : Calls Try.prog 22 #[.agg (icells op r a b n), .agg (icells op r a b n)] w fun e w' => e = .returned (.bool true) ∧ Below w.heap.size w w' := by
  have B := bel_alloc (bel_alloc (Below.refl w.heap.size w) (.cells (icells op r a b n) 25)) (.cells (icells op r a b n) 25)
  go_enter Try.func22, Try.ntmps22
  go_wp2
  go_ret
  exact ⟨rfl, B⟩

set_option maxRecDepth 100000 in
set_option maxHeartbeats 2000000 in
theorem lawInsOkG (HI : ∀ (op r a b n : Int) (w : World), Calls Try.prog 12 #[.agg (icells op r a b n)] w fun e w' => e = .returned (.bool (insB op r a b n)) ∧ Below w.heap.size w w') (op r a b n : Int) (w : World) :
    Calls Try.prog 4 #[.agg (icells op r a b n)] w fun e w' => e = .returned (.bool true) ∧ Below w.heap.size w w' := by
  have HI' : Hid _ := HI
  clear HI
  have B := bel_alloc (Below.refl w.heap.size w) (.cells (icells op r a b n) 33)
  have X := Box.new w (icells op r a b n) 33
  go_enter Try.func4, Try.ntmps4
  go_wp2_with fail
  refine (toIns_any op r a b n _).mono ?_
  rintro e w1 ⟨rfl, b1⟩
  replace X := X.below b1
  replace B := bel_trans B b1
  clear b1
  go_wp2_with fail
  refine (specInsOk_any op r a b n _).mono ?_
  rintro e w2 ⟨rfl, b1⟩
  replace X := X.below b1
  replace B := bel_trans B b1
  clear b1
  obtain ⟨x0, x1, x2, x3, x4, xz⟩ := X.at5i
  go_wp2_with fail
  refine (toIns_any op r a b n _).mono ?_
  rintro e w3 ⟨rfl, b1⟩
  replace B := bel_trans B b1
  clear b1 X x0 x1 x2 x3 x4 xz
  go_wp2_with fail
  refine (HI'.out op r a b n _).mono ?_
  rintro e w4 ⟨rfl, b1⟩
  replace B := bel_trans B b1
  clear b1
  generalize insB op r a b n = z
  go_wp2
  go_ret
  exact ⟨rfl, B⟩

set_option maxRecDepth 100000 in
set_option maxHeartbeats 2000000 in
theorem lawEndsG (HI : ∀ (op r a b n : Int) (w : World), Calls Try.prog 19 #[.agg (icells op r a b n)] w fun e w' => e = .returned (.bool (endsB op r a b n)) ∧ Below w.heap.size w w') (op r a b n : Int) (w : World) :
    Calls Try.prog 7 #[.agg (icells op r a b n)] w fun e w' => e = .returned (.bool true) ∧ Below w.heap.size w w' := by
  have HI' : Hid _ := HI
  clear HI
  have B := bel_alloc (Below.refl w.heap.size w) (.cells (icells op r a b n) 33)
  have X := Box.new w (icells op r a b n) 33
  go_enter Try.func7, Try.ntmps7
  go_wp2_with fail
  refine (toIns_any op r a b n _).mono ?_
  rintro e w1 ⟨rfl, b1⟩
  replace X := X.below b1
  replace B := bel_trans B b1
  clear b1
  go_wp2_with fail
  refine (specEnds_any op r a b n _).mono ?_
  rintro e w2 ⟨rfl, b1⟩
  replace X := X.below b1
  replace B := bel_trans B b1
  clear b1
  obtain ⟨x0, x1, x2, x3, x4, xz⟩ := X.at5i
  go_wp2_with fail
  refine (toIns_any op r a b n _).mono ?_
  rintro e w3 ⟨rfl, b1⟩
  replace B := bel_trans B b1
  clear b1 X x0 x1 x2 x3 x4 xz
  go_wp2_with fail
  refine (HI'.out op r a b n _).mono ?_
  rintro e w4 ⟨rfl, b1⟩
  replace B := bel_trans B b1
  clear b1
  generalize endsB op r a b n = z
  go_wp2
  go_ret
  exact ⟨rfl, B⟩

set_option maxRecDepth 100000 in
set_option maxHeartbeats 2000000 in
theorem lawCodeG (HI : ∀ (op r a b n : Int) (w : World), Calls Try.prog 10 #[.agg (icells op r a b n)] w fun e w' => e = .returned (.tuple #[.int .i64 (if insB op r a b n then codeW op r a b n else 0), .bool (insB op r a b n)]) ∧ Below w.heap.size w w') (op r a b n : Int) (w : World) :
    Calls Try.prog 5 #[.agg (icells op r a b n)] w fun e w' => e = .returned (.bool true) ∧ Below w.heap.size w w' := by
  have HI' : Hid _ := HI
  clear HI
  have B := bel_alloc (Below.refl w.heap.size w) (.cells (icells op r a b n) 33)
  have X := Box.new w (icells op r a b n) 33
  go_enter Try.func5, Try.ntmps5
  go_wp2_with fail
  refine (toIns_any op r a b n _).mono ?_
  rintro e w1 ⟨rfl, b1⟩
  replace X := X.below b1
  replace B := bel_trans B b1
  clear b1
  go_wp2_with fail
  refine (specCode_any op r a b n _).mono ?_
  rintro e w2 ⟨rfl, b1⟩
  replace X := X.below b1
  replace B := bel_trans B b1
  clear b1
  obtain ⟨x0, x1, x2, x3, x4, xz⟩ := X.at5i
  obtain ⟨c, hc⟩ : ∃ c, (if insB op r a b n then codeW op r a b n else 0) = c := ⟨_, rfl⟩
  obtain ⟨z, hz⟩ : ∃ z, insB op r a b n = z := ⟨_, rfl⟩
  have HC : Hid (∀ (W : World) (e : Ending) (W' : World), (e = .returned (.tuple #[.int .i64 (if insB op r a b n then codeW op r a b n else 0), .bool (insB op r a b n)]) ∧ Below W.heap.size W W') → e = .returned (.tuple #[.int .i64 c, .bool z]) ∧ Below W.heap.size W W') := fun W e W' h => by rw [hc, hz] at h; exact h
  rw [hc, hz]
  clear hc hz
  go_wp2_with fail
  refine (toIns_any op r a b n _).mono ?_
  rintro e w3 ⟨rfl, b1⟩
  replace B := bel_trans B b1
  clear b1 X x0 x1 x2 x3 x4 xz
  go_wp2_with fail
  refine (HI'.out op r a b n _).mono ?_
  intro e w4 h4
  obtain ⟨rfl, b1⟩ := HC.out _ _ _ h4
  replace B := bel_trans B b1
  clear b1 h4
  go_wp2
  go_ret
  exact ⟨rfl, B⟩

theorem decV_cells (v : Int) : ∃ op r a b n, decV v = icells op r a b n := by
  unfold decV
  split
  · exact ⟨_, _, _, _, _, rfl⟩
  · exact ⟨_, _, _, _, _, rfl⟩

set_option maxRecDepth 100000 in
set_option maxHeartbeats 2000000 in
theorem lawDecodeG (HI : ∀ (v : Int) (w : World), Calls Try.prog 13 #[.int .i64 v] w fun e w' => e = .returned (.tuple #[.agg (decV v), .bool (decB v)]) ∧ Below w.heap.size w w') (v : Int) (w : World) :
    Calls Try.prog 6 #[.int .i64 v] w fun e w' => e = .returned (.bool true) ∧ Below w.heap.size w w' := by
  have HI' : Hid _ := HI
  clear HI
  obtain ⟨op, r, a, b, n, hd⟩ := decV_cells v
  obtain ⟨z, hz⟩ : ∃ z, decB v = z := ⟨_, rfl⟩
  have HC : Hid (∀ (W : World) (e : Ending) (W' : World), (e = .returned (.tuple #[.agg (decV v), .bool (decB v)]) ∧ Below W.heap.size W W') → e = .returned (.tuple #[.agg (icells op r a b n), .bool z]) ∧ Below W.heap.size W W') := fun W e W' h => by rw [hd, hz] at h; exact h
  clear hd hz
  go_enter Try.func6, Try.ntmps6
  go_wp2_with fail
  refine (specDecode_any v _).mono ?_
  intro e w1 h1
  obtain ⟨rfl, B⟩ := HC.out _ _ _ h1
  clear h1
  have bx := bel_alloc (Below.refl w1.heap.size w1) (.cells (icells op r a b n) 25)
  have X := Box.new w1 (icells op r a b n) 25
  replace B := bel_trans B bx
  clear bx
  go_wp2_with fail
  refine (HI'.out v _).mono ?_
  intro e w2 h2
  obtain ⟨rfl, b1⟩ := HC.out _ _ _ h2
  clear h2
  replace X := X.below b1
  replace B := bel_trans B b1
  clear b1
  have bx := bel_alloc (Below.refl w2.heap.size w2) (.cells (icells op r a b n) 25)
  have HB2 : Hid (Below w.heap.size w _) := bel_trans B bx
  obtain ⟨x0, x1, x2, x3, x4, xz⟩ := X.at5i
  clear B bx X
  go_wp2_with fail
  refine (eqIns_any op r a b n _).mono ?_
  rintro e w3 ⟨rfl, b1⟩
  have HB3 : Hid (Below w.heap.size w w3) := bel_trans HB2.out b1
  clear b1 x0 x1 x2 x3 x4 xz
  go_wp2
  go_ret
  exact ⟨rfl, HB3.out⟩
end Go.Proofs.Ytnigpgemdlcehaa
