/- What impl's do (a hart's step, by a switch that falls through) and Work answer. -/
import Derived.Test.YtiilgkloddflcaaHi9
import Derived.Test.YtiilgkloddflcaaHw9
import Derived.Test.YtiilgkloddflcaaIn8j
import Derived.Deep.RegionHeld3
namespace Go.Proofs.Ytiilgkloddflcaa
open Go.RowKit
set_option linter.unusedVariables false

/-- What a step leaves of a hart's box m and its registers' block g, and what it tells to write. -/
def DoP (R : List Int × Int × Int × Int) (m g c lo : Nat) (w : World) (e : Ending) (w' : World) : Prop :=
  e = .returned (.int .i64 R.2.2.2) ∧ Box w' m #[.slice (some ⟨g, 0, none⟩) 4 c, .int .i64 R.2.1, .int .i64 R.2.2.1] 27 ∧ w'.ownsRow lo 3 1 (.slice (some ⟨g, 0, none⟩) 4 c) 4 (R.1.map (Value.int .i64)) ∧ Only w w' (fun i => i = m ∨ i = g)

theorem do_end {R : List Int × Int × Int × Int} {L : List Int} {pc q st v : Int} (hR : R = (L, q, st, v)) {m g c lo : Nat} (hne : m ≠ g) {w U : World} (X : Box U m #[.slice (some ⟨g, 0, none⟩) 4 c, .int .i64 pc, .int .i64 st] 27) (o : U.ownsRow lo 3 1 (.slice (some ⟨g, 0, none⟩) 4 c) 4 (L.map (Value.int .i64))) (k : Only w U (fun i => i = m ∨ i = g)) :
    DoP R m g c lo w (.returned (.int .i64 v)) (U.setCell ⟨m, 1, none⟩ (.int .i64 q)) := by
  rw [hR]
  exact ⟨rfl, heap_setCell_same U m 1 _ _ _ X, owns_setCell o (fun j hj => by simp [Value.ownBlock] at hj; subst hj; exact hne) _, k.setCell _ _ (.inl rfl)⟩

set_option maxRecDepth 100000 in
set_option maxHeartbeats 8000000 in
theorem do_any (m g c lo : Nat) (xs : List Int) (pc op r a b n got : Int) (w : World) (X : Box w m #[.slice (some ⟨g, 0, none⟩) 4 c, .int .i64 pc, .int .i64 0] 27) (O : w.ownsRow lo 3 1 (.slice (some ⟨g, 0, none⟩) 4 c) 4 (xs.map (Value.int .i64))) (hne : m ≠ g)
    (h1 : hartB xs pc 0 = true) (h2 : inB got 0 65535 = true) :
    Calls Try.prog 51 #[.pointer (some ⟨m, 0, none⟩), .agg (icells op r a b n), .int .i64 got] w (DoP (workR xs pc 0 op r a b n got) m g c lo w) := by
  obtain ⟨hl4, ⟨hp0, hp1⟩, _, hwd⟩ := hart_parts h1
  have HW : Hid (∀ i, i < 4 → 0 ≤ xs.getD i 0 ∧ xs.getD i 0 ≤ 65535) := hwd
  obtain ⟨hg0, hg1⟩ : 0 ≤ got ∧ got ≤ 65535 := by simpa [inB] using h2
  have HR : Hid (workR xs pc 0 op r a b n got = if insB op r a b n then opR xs pc op r n got (xs.getD a.toNat 0) (xs.getD b.toNat 0) else (xs, pc, 2, -1)) := by show _ = _; unfold workR; rw [h1, h2]; rfl
  have HL4 : Hid (xs.length = 4) := hl4
  clear h1 h2 hwd hl4
  have bA := bel_alloc (Below.refl w.heap.size w) (.cells (icells op r a b n) 37)
  have XI := Box.new w (icells op r a b n) 37
  have hmz : m < w.heap.size := X.lt
  have hgz : g < w.heap.size := (O.lt g rfl).2
  replace X := X.below bA
  replace O := owns_below O bA
  obtain ⟨i0, i1, i2, i3, i4, iz⟩ := XI.at5i
  go_enter Try.func51, Try.ntmps51
  go_wp2_with fail
  refine (implInsOk_any op r a b n _).mono ?_
  rintro e w4 ⟨rfl, b4⟩
  have hz4 : w.heap.size < w4.heap.size := by have := b4.size; simp at this; omega
  have YI : Hid (Box w4 w.heap.size (icells op r a b n) 37) := XI.below b4
  have YX : Hid (Box w4 m #[.slice (some ⟨g, 0, none⟩) 4 c, .int .i64 pc, .int .i64 0] 27) := X.below b4
  have YO : Hid (w4.ownsRow lo 3 1 (.slice (some ⟨g, 0, none⟩) 4 c) 4 (xs.map (Value.int .i64))) := owns_below O b4
  have YB : Hid (Only w w4 (fun i => i = m ∨ i = g)) := (Only.refl w _).below (bel_trans bA b4)
  clear X O XI b4 bA i0 i1 i2 i3 i4 iz
  cases hi : insB op r a b n
  · rw [hi] at HR
    have HR2 : Hid (workR xs pc 0 op r a b n got = (xs, pc, 2, -1)) := by show _ = _; rw [HR.out]; rfl
    clear hi HR
    obtain ⟨k0, k1, k2, kz⟩ := YX.out.at3
    have fk2 := YX.out.frozen 2
    go_wp2
    go_ret
    rw [HR2.out]
    exact ⟨rfl, heap_setCell_same w4 m 2 _ _ _ YX.out, owns_setCell YO.out (fun j hj => by simp [Value.ownBlock] at hj; subst hj; exact hne) _, YB.out.setCell _ _ (.inl rfl)⟩
  · rw [hi] at HR
    obtain ⟨p1, ⟨r0, r1⟩, ⟨a0, a1⟩, ⟨b0, b1⟩, ⟨n0, n1⟩⟩ := ins_parts hi
    obtain ⟨kr, rfl⟩ : ∃ k : Nat, r = (k : Int) := ⟨r.toNat, by omega⟩
    obtain ⟨ka, rfl⟩ : ∃ k : Nat, a = (k : Int) := ⟨a.toNat, by omega⟩
    obtain ⟨kb, rfl⟩ : ∃ k : Nat, b = (k : Int) := ⟨b.toNat, by omega⟩
    have HOP : Hid (op = 1 ∨ op = 2 ∨ op = 3 ∨ op = 4 ∨ op = 5 ∨ op = 6 ∨ op = 7 ∨ op = 8 ∨ op = 9 ∨ op = 10) := by show _ ∨ _; omega
    obtain ⟨va, hva⟩ : ∃ v, xs.getD ka 0 = v := ⟨_, rfl⟩
    obtain ⟨vb, hvb⟩ : ∃ v, xs.getD kb 0 = v := ⟨_, rfl⟩
    have hwa := HW.out ka (by omega)
    have hwb := HW.out kb (by omega)
    rw [hva] at hwa
    rw [hvb] at hwb
    obtain ⟨va0, va1⟩ := hwa
    obtain ⟨vb0, vb1⟩ := hwb
    have HR2 : Hid (workR xs pc 0 op kr ka kb n got = opR xs pc op kr n got va vb) := by
      show _ = _
      rw [HR.out, ← hva, ← hvb]
      rfl
    have gcell : ∀ k : Nat, k < 4 → w4.cell? ⟨g, k, none⟩ = some (.int .i64 (xs.getD k 0)) := fun k hk => by
      have h4 := HL4.out
      rw [YO.out.cellAt k (by omega), List.getElem?_map, List.getElem?_eq_getElem (by omega)]
      simp [show k < xs.length by omega]
    have ca := gcell ka (by omega)
    have cb := gcell kb (by omega)
    rw [hva] at ca
    rw [hvb] at cb
    obtain ⟨i0, i1, i2, i3, i4, iz⟩ := YI.out.at5i
    obtain ⟨k0, k1, k2, kz⟩ := YX.out.at3
    have hka : (ka : Int) < 4 := by omega
    have hkb : (kb : Int) < 4 := by omega
    have hkr : (kr : Int) < 4 := by omega
    have hqw : IntKind.i64.wrap (pc + 1) = pc + 1 := by rw [IntKind.wrap_i64]; omega
    clear hi HR hva hvb p1 a0 a1 b0 b1 r0 r1 gcell
    go_wp2_with fail
    go_region
    obtain ⟨V, hV⟩ : ∃ V, w4.drew = V := ⟨_, rfl⟩
    have bV : Below w4.heap.size w4 V := by rw [← hV]; exact below_drewN (Below.refl _ _) 1
    have hzV : w.heap.size < V.heap.size := Nat.lt_of_lt_of_le hz4 bV.size
    rw [hV]
    have ZI : Hid (Box V w.heap.size (icells op kr ka kb n) 37) := YI.out.below bV
    have ZX : Hid (Box V m #[.slice (some ⟨g, 0, none⟩) 4 c, .int .i64 pc, .int .i64 0] 27) := YX.out.below bV
    have ZO : Hid (V.ownsRow lo 3 1 (.slice (some ⟨g, 0, none⟩) 4 c) 4 (xs.map (Value.int .i64))) := owns_below YO.out bV
    have ZB : Hid (Only w V (fun i => i = m ∨ i = g)) := YB.out.below bV
    clear YI YX YO YB k0 k1 k2 kz i0 i1 i2 i3 i4 iz ca cb bV hV hz4
    obtain ⟨k0, k1, k2, kz⟩ := ZX.out.at3
    obtain ⟨i0, i1, i2, i3, i4, iz⟩ := ZI.out.at5i
    go_wp2_with fail
    refine (addressOf_any _ _).mono ?_
    rintro e w5 ⟨rfl, h⟩
    subst h
    obtain ⟨q, hq⟩ : ∃ q, (pc + 1) % 24 = q := ⟨_, rfl⟩
    have HQ : Hid ((pc + 1) % 24 = q) := hq
    rw [hq]
    clear hq
    have gc : w5.cell? ⟨g, kr, none⟩ = some (.int .i64 (xs.getD kr 0)) := by
      have h4 := HL4.out
      rw [ZO.out.cellAt kr (by omega), List.getElem?_map, List.getElem?_eq_getElem (by omega)]
      simp [show kr < xs.length by omega]
    have gf := ZO.out.frozenAt kr
    obtain ⟨ov, hov⟩ : ∃ v, xs.getD kr 0 = v := ⟨_, rfl⟩
    rw [hov] at gc
    have fk1 := ZX.out.frozen 1
    have fk2 := ZX.out.frozen 2
    have gz := lt_of_cell gc
    have DS : Hid (∀ (v : Int) (d : Nat), Box ((w5.setCell ⟨g, kr, none⟩ (.int .i64 v)).drewN d) m #[.slice (some ⟨g, 0, none⟩) 4 c, .int .i64 pc, .int .i64 0] 27 ∧ ((w5.setCell ⟨g, kr, none⟩ (.int .i64 v)).drewN d).ownsRow lo 3 1 (.slice (some ⟨g, 0, none⟩) 4 c) 4 ((xs.set kr v).map (Value.int .i64)) ∧ Only w ((w5.setCell ⟨g, kr, none⟩ (.int .i64 v)).drewN d) (fun i => i = m ∨ i = g)) := fun v d => by
      have h := (ZO.out.stored kr (.int .i64 v)).1
      rw [← List.map_set] at h
      have bd : Below (w5.setCell ⟨g, kr, none⟩ (.int .i64 v)).heap.size (w5.setCell ⟨g, kr, none⟩ (.int .i64 v)) ((w5.setCell ⟨g, kr, none⟩ (.int .i64 v)).drewN d) := below_drewN (Below.refl _ _) d
      exact ⟨(ZX.out.far ⟨g, kr, none⟩ (.int .i64 v) hne).below bd, owns_below h bd, (ZB.out.setCell _ _ (.inr rfl)).below bd⟩
    clear hov hp0 hp1
    have hop := HOP.out
    clear HOP
    rcases hop with rfl | rfl | rfl | rfl | rfl | rfl | rfl | rfl | rfl | rfl
    · -- InSet
      have hwr : IntKind.i64.wrap (0 + n) = n := by rw [IntKind.wrap_i64]; omega
      have hwn : n % 65536 = n := by omega
      go_wp2_with fail
      have ne1 : g ≠ m := Ne.symm hne
      have ne2 : g ≠ w.heap.size := by omega
      go_region_held3 (fun w' => w'.cell? ⟨m, 0, none⟩ = some (.slice (some ⟨g, 0, none⟩) 4 c) ∧ w'.cell? ⟨w.heap.size, 1, none⟩ = some (.int .i64 (kr : Int)) ∧ w'.cell? ⟨w.heap.size, 4, none⟩ = some (.int .i64 n))
        (go_keep) ((go_at_call 46; refine (wrapped_any _ _).mono ?_; rintro e w6 ⟨rfl, rfl⟩))
      all_goals
        go_wp2
        go_ret
        obtain ⟨d1, d2, d3⟩ := DS.out n 1
        exact do_end (HR2.out.trans (by rw [← HQ.out]; rfl)) hne d1 d2 d3
    · -- InAdd
      have hwr : IntKind.i64.wrap (va + vb) = va + vb := by rw [IntKind.wrap_i64]; omega
      go_wp2_with fail
      have ne1 : g ≠ m := Ne.symm hne
      have ne2 : g ≠ w.heap.size := by omega
      go_region_held3 (fun w' => w'.cell? ⟨m, 0, none⟩ = some (.slice (some ⟨g, 0, none⟩) 4 c) ∧ w'.cell? ⟨w.heap.size, 1, none⟩ = some (.int .i64 (kr : Int)) ∧ w'.cell? ⟨w.heap.size, 4, none⟩ = some (.int .i64 n))
        (go_keep) ((go_at_call 46; refine (wrapped_any _ _).mono ?_; rintro e w6 ⟨rfl, rfl⟩))
      all_goals
        go_wp2
        go_ret
        obtain ⟨d1, d2, d3⟩ := DS.out ((va + vb) % 65536) 1
        exact do_end (HR2.out.trans (by rw [← HQ.out]; rfl)) hne d1 d2 d3
    · -- InMore
      have hwr : IntKind.i64.wrap (va + n) = va + n := by rw [IntKind.wrap_i64]; omega
      go_wp2_with fail
      have ne1 : g ≠ m := Ne.symm hne
      have ne2 : g ≠ w.heap.size := by omega
      go_region_held3 (fun w' => w'.cell? ⟨m, 0, none⟩ = some (.slice (some ⟨g, 0, none⟩) 4 c) ∧ w'.cell? ⟨w.heap.size, 1, none⟩ = some (.int .i64 (kr : Int)) ∧ w'.cell? ⟨w.heap.size, 4, none⟩ = some (.int .i64 n))
        (go_keep) ((go_at_call 46; refine (wrapped_any _ _).mono ?_; rintro e w6 ⟨rfl, rfl⟩))
      all_goals
        go_wp2
        go_ret
        obtain ⟨d1, d2, d3⟩ := DS.out ((va + n) % 65536) 1
        exact do_end (HR2.out.trans (by rw [← HQ.out]; rfl)) hne d1 d2 d3
    · -- InLoad
      go_wp2_with fail
      go_region
      all_goals
        go_wp2
        go_ret
        obtain ⟨d1, d2, d3⟩ := DS.out got 1
        exact do_end (HR2.out.trans (by rw [← HQ.out]; rfl)) hne d1 d2 d3
    · -- InStore
      go_wp2
      go_ret
      exact do_end (HR2.out.trans (by rw [← HQ.out]; rfl)) hne ZX.out ZO.out ZB.out
    · -- InSwap
      have hwr : IntKind.i64.wrap (got + vb) = got + vb := by rw [IntKind.wrap_i64]; omega
      go_wp2_with fail
      refine (wrapped_any _ _).mono ?_
      rintro e w6 ⟨rfl, h⟩
      replace h := h.symm
      subst h
      obtain ⟨u, hu⟩ : ∃ u, (got + vb) % 65536 = u := ⟨_, rfl⟩
      have HU : Hid ((got + vb) % 65536 = u) := hu
      rw [hu]
      clear hu
      go_wp2_with fail
      go_region
      all_goals
        go_wp2
        go_ret
        obtain ⟨d1, d2, d3⟩ := DS.out got 1
        exact do_end (HR2.out.trans (by rw [← HQ.out, ← HU.out]; rfl)) hne d1 d2 d3
    · -- InZero
      by_cases hz : va = 0
      · subst hz
        go_wp2_with fail
        refine (addressOf_any _ _).mono ?_
        rintro e w6 ⟨rfl, h⟩
        replace h := h.symm
        subst h
        obtain ⟨u, hu⟩ : ∃ u, n % 24 = u := ⟨_, rfl⟩
        have HU : Hid (n % 24 = u) := hu
        rw [hu]
        clear hu
        go_wp2
        go_ret
        exact do_end (HR2.out.trans (by rw [← HU.out]; rfl)) hne ZX.out ZO.out ZB.out
      · have ez : (va == 0) = false := by simpa using hz
        have HZ : Hid (¬ va = 0) := hz
        go_wp2
        go_ret
        exact do_end (HR2.out.trans (by rw [← HQ.out]; unfold opR; simp [HZ.out])) hne ZX.out ZO.out ZB.out
    · -- InJump
      go_wp2_with fail
      refine (addressOf_any _ _).mono ?_
      rintro e w6 ⟨rfl, h⟩
      subst h
      obtain ⟨u, hu⟩ : ∃ u, n % 24 = u := ⟨_, rfl⟩
      have HU : Hid (n % 24 = u) := hu
      rw [hu]
      clear hu
      go_wp2
      go_ret
      exact do_end (HR2.out.trans (by rw [← HU.out]; rfl)) hne ZX.out ZO.out ZB.out
    · -- InHalt
      go_wp2
      go_ret
      exact do_end (HR2.out.trans (by rfl)) hne (heap_setCell_same w5 m 2 _ _ _ ZX.out) (owns_setCell ZO.out (fun j hj => by simp [Value.ownBlock] at hj; subst hj; exact hne) _) (ZB.out.setCell _ _ (.inl rfl))
    · -- InSub
      have hwn : IntKind.i64.wrap (-vb) = -vb := by rw [IntKind.wrap_i64]; omega
      have hwr : IntKind.i64.wrap (va + -vb) = va - vb := by rw [IntKind.wrap_i64]; omega
      go_wp2_with fail
      have ne1 : g ≠ m := Ne.symm hne
      have ne2 : g ≠ w.heap.size := by omega
      go_region_held3 (fun w' => w'.cell? ⟨m, 0, none⟩ = some (.slice (some ⟨g, 0, none⟩) 4 c) ∧ w'.cell? ⟨w.heap.size, 1, none⟩ = some (.int .i64 (kr : Int)) ∧ w'.cell? ⟨w.heap.size, 4, none⟩ = some (.int .i64 n))
        (go_keep) ((go_at_call 46; refine (wrapped_any _ _).mono ?_; rintro e w6 ⟨rfl, rfl⟩))
      all_goals
        go_wp2
        go_ret
        obtain ⟨d1, d2, d3⟩ := DS.out ((va - vb) % 65536) 1
        exact do_end (HR2.out.trans (by rw [← HQ.out]; rfl)) hne d1 d2 d3
end Go.Proofs.Ytiilgkloddflcaa
