/- FrmI and FrmH and FrmR: see the heads of the parts. -/
import Derived.Test.YtpfppeifppdmbaaGreatFrm
import Derived.Test.YtpfppeifppdmbaaGreatWords
import Derived.Deep.RegionWith
import Derived.BigRegion
import Derived.Deep.RegionHeld3
import Derived.Deep.DeepCutAuto
/- What impl's small functions over frames do: noWords, empty, isState, isPlace. -/
namespace Go.Proofs.YtpfppeifppdmbaaGreat
open Go.RowKit
set_option linter.unusedVariables false

set_option maxHeartbeats 400000 in
theorem noWords_any (w : World) :
    Calls Tryz.prog 117 #[] w fun e w' => e = .returned (.agg #[.int .i64 (-1), .int .i64 0, .int .i64 0, .int .i64 0]) ∧ Below w.heap.size w w' := by
  go_enter Tryz.func117, Tryz.ntmps117
  go_wp2
  refine bodyPost_ret (v := .agg #[.int .i64 (-1), .int .i64 0, .int .i64 0, .int .i64 0]) (by simp [results, Tryz.results117, go_sem]) rfl ⟨rfl, ?_⟩
  exact bel_alloc (Below.refl _ _) _

set_option maxHeartbeats 1000000 in
theorem arr_eq (a b c d a' b' c' d' : Int) (w : World) : (Op.equalIn 10000 161 (.agg #[.int .i64 a, .int .i64 b, .int .i64 c, .int .i64 d]) (.agg #[.int .i64 a', .int .i64 b', .int .i64 c', .int .i64 d'])).run Tryz.prog w = .ok (a == a' && (b == b' && (c == c' && d == d'))) w := by
  have u3 := Tryz.underlying3
  have a3 := Tryz.isAgg3
  have z3 := Tryz.sizeOf3
  rw [show (10000 : Nat) = 9999 + 1 from rfl, Op.equalIn]
  simp only [Sem.run_bind, run_underlying Tryz.underlying161, Result.andThen_ok]
  simp only [Std.Legacy.Range.forIn_eq_forIn_range', Std.Legacy.Range.size, Nat.sub_zero, Nat.add_sub_cancel, Nat.div_one, List.range'_succ, List.range'_zero, List.forIn_cons, List.forIn_nil]
  go_simp
  by_cases h1 : a = a' <;> by_cases h2 : b = b' <;> by_cases h3 : c = c' <;> by_cases h4 : d = d' <;> simp [h1, h2, h3, h4]

set_option maxRecDepth 100000 in
set_option maxHeartbeats 1000000 in
theorem empty_yes (s : Int) (q : Bool) (w : World) :
    Calls Tryz.prog 119 #[.agg #[.int .i64 s, .int .i64 (-1), .int .i64 0, .int .i64 0, .int .i64 0, .bool q]] w fun e w' => e = .returned (.bool true) ∧ Below w.heap.size w w' := by
  have bA := bel_alloc (Below.refl w.heap.size w) (.cells #[.int .i64 s, .int .i64 (-1), .int .i64 0, .int .i64 0, .int .i64 0, .bool q] 165)
  have heq := arr_eq (-1) 0 0 0 (-1) 0 0 0
  go_enter Tryz.func119, Tryz.ntmps119
  go_wp2_with fail
  go_region_with (go_at_call 117; refine (noWords_any _).mono ?_; rintro e w1 ⟨rfl, b1⟩; have b1 := bel_undrew b1; obtain ⟨hc, hf⟩ := bcell b1)
  all_goals
    have B := bel_trans bA b1
    go_wp2
    go_ret
    exact ⟨rfl, B⟩

set_option maxRecDepth 100000 in
set_option maxHeartbeats 1000000 in
theorem empty_no (s : Int) (q : Bool) (c0 c1 c2 c3 : Int) (w : World) (h0 : 0 ≤ c0) :
    Calls Tryz.prog 119 #[.agg #[.int .i64 s, .int .i64 c0, .int .i64 c1, .int .i64 c2, .int .i64 c3, .bool q]] w fun e w' => e = .returned (.bool false) ∧ Below w.heap.size w w' := by
  have bA := bel_alloc (Below.refl w.heap.size w) (.cells #[.int .i64 s, .int .i64 c0, .int .i64 c1, .int .i64 c2, .int .i64 c3, .bool q] 165)
  have heq : ∀ W, (Op.equalIn 10000 161 (.agg #[.int .i64 c0, .int .i64 c1, .int .i64 c2, .int .i64 c3]) (.agg #[.int .i64 (-1), .int .i64 0, .int .i64 0, .int .i64 0])).run Tryz.prog W = .ok false W := fun W => by
    rw [arr_eq]
    have hne : (c0 == -1) = false := by simp; omega
    rw [hne]
    rfl
  go_enter Tryz.func119, Tryz.ntmps119
  go_wp2_with fail
  go_region_with (go_at_call 117; refine (noWords_any _).mono ?_; rintro e w1 ⟨rfl, b1⟩; have b1 := bel_undrew b1; obtain ⟨hc, hf⟩ := bcell b1)
  all_goals
    have B := bel_trans bA b1
    go_wp2
    go_ret
    exact ⟨rfl, B⟩

def stateB (s : Int) : Bool := decide (0 ≤ s ∧ s ≤ 2)
set_option maxHeartbeats 400000 in
theorem isState_any (s : Int) (w : World) :
    Calls Tryz.prog 118 #[.int .i64 s] w fun e w' => e = .returned (.bool (stateB s)) ∧ w' = w := by
  by_cases h0 : s = 0
  · subst h0
    go_enter Tryz.func118, Tryz.ntmps118
    go_wp2
    go_ret
    exact ⟨rfl, rfl⟩
  by_cases h1 : s = 1
  · subst h1
    go_enter Tryz.func118, Tryz.ntmps118
    go_wp2
    go_ret
    exact ⟨rfl, rfl⟩
  by_cases h2 : s = 2
  · subst h2
    go_enter Tryz.func118, Tryz.ntmps118
    go_wp2
    go_ret
    exact ⟨rfl, rfl⟩
  have hd : Hid (stateB s = false) := by show _ = _; unfold stateB; simp; omega
  have b0 : (s == 0) = false := by simp [h0]
  have b1 : (s == 1) = false := by simp [h1]
  have b2 : (s == 2) = false := by simp [h2]
  clear h0 h1 h2
  go_enter Tryz.func118, Tryz.ntmps118
  go_wp2
  go_ret
  rw [hd.out]
  exact ⟨rfl, rfl⟩

end Go.Proofs.YtpfppeifppdmbaaGreat

/- What impl's holdingOf and FrameOk do. -/
namespace Go.Proofs.YtpfppeifppdmbaaGreat
open Go.RowKit
set_option linter.unusedVariables false

theorem Box.at6 {w : World} {m : Nat} {c0 c1 c2 c3 c4 c5 : Value} {t : TypeId} (h : Box w m #[c0, c1, c2, c3, c4, c5] t) :
    w.cell? ⟨m, 0, none⟩ = some c0 ∧ w.cell? ⟨m, 1, none⟩ = some c1 ∧ w.cell? ⟨m, 2, none⟩ = some c2 ∧ w.cell? ⟨m, 3, none⟩ = some c3 ∧ w.cell? ⟨m, 4, none⟩ = some c4 ∧ w.cell? ⟨m, 5, none⟩ = some c5 ∧ m < w.heap.size :=
  ⟨by rw [h.cell]; rfl, by rw [h.cell]; rfl, by rw [h.cell]; rfl, by rw [h.cell]; rfl, by rw [h.cell]; rfl, by rw [h.cell]; rfl, h.lt⟩

/-- A holding's words: those of the list, or none. -/
def HW (s : Int) (xs : List Int) (c0 c1 c2 c3 : Int) : Prop :=
  (s = 0 ∧ xs = [] ∧ c0 = -1 ∧ c1 = 0 ∧ c2 = 0 ∧ c3 = 0) ∨ ((s = 1 ∨ s = 2) ∧ xs = [c0, c1, c2, c3] ∧ wordsB xs 4 = true)

def HoldP (s : Int) (q : Bool) (xs : List Int) (w : World) (e : Ending) (w' : World) : Prop :=
  ∃ (t c0 c1 c2 c3 : Int) (r : Bool), e = .returned (.tuple #[.agg #[.int .i64 t, .int .i64 c0, .int .i64 c1, .int .i64 c2, .int .i64 c3, .bool r], .bool (frameOkB s xs)]) ∧
    (frameOkB s xs = true → t = s ∧ r = q ∧ HW s xs c0 c1 c2 c3) ∧ Below w.heap.size w w'

theorem keep2 {W W' : World} (b : Below W.heap.size W W') {a0 a1 : Addr} {u0 u1 : Value}
    (h : W.cell? a0 = some u0 ∧ W.cell? a1 = some u1) : W'.cell? a0 = some u0 ∧ W'.cell? a1 = some u1 :=
  ⟨cell_later b h.1, cell_later b h.2⟩

theorem keep2f {W : World} {x : Addr} {u : Value} {a0 a1 : Addr} {u0 u1 : Value}
    (h : W.cell? a0 = some u0 ∧ W.cell? a1 = some u1) (hlt : a0.block < x.block ∧ a1.block < x.block) :
    (W.setCell x u).cell? a0 = some u0 ∧ (W.setCell x u).cell? a1 = some u1 := by
  have far : ∀ y : Addr, ∀ v, y.block < x.block → W.cell? y = some v → (W.setCell x u).cell? y = some v := fun y v hy hv => by
    rw [World.cell?_setCell_other _ _ _ _ (fun e => by subst e; omega)]
    exact hv
  exact ⟨far _ _ hlt.1 h.1, far _ _ hlt.2 h.2⟩

theorem keep6F {W W' : World} (b : Below W.heap.size W W') {a0 a1 a2 a3 a4 a5 : Addr} {u0 u1 u2 u3 u4 u5 : Value}
    (h : W.cell? a0 = some u0 ∧ W.cell? a1 = some u1 ∧ W.cell? a2 = some u2 ∧ W.cell? a3 = some u3 ∧ W.cell? a4 = some u4 ∧ W.cell? a5 = some u5) :
    W'.cell? a0 = some u0 ∧ W'.cell? a1 = some u1 ∧ W'.cell? a2 = some u2 ∧ W'.cell? a3 = some u3 ∧ W'.cell? a4 = some u4 ∧ W'.cell? a5 = some u5 :=
  ⟨cell_later b h.1, cell_later b h.2.1, cell_later b h.2.2.1, cell_later b h.2.2.2.1, cell_later b h.2.2.2.2.1, cell_later b h.2.2.2.2.2⟩

/-- The holding that is made, in its box. -/
def HB (W : World) (s : Int) (q : Bool) (v : Value) (wx : World) : Prop :=
  ∃ A : Nat, v = .pointer (some ⟨A, 0, none⟩) ∧ W.heap.size ≤ A ∧ Box wx A #[.int .i64 s, .int .i64 (-1), .int .i64 0, .int .i64 0, .int .i64 0, .bool q] 165 ∧ Below W.heap.size W wx

theorem hb_new {W w1 : World} {s : Int} {q : Bool} (b1 : Below W.heap.size W w1) :
    HB W s q (.pointer (some ⟨w1.heap.size, 0, none⟩)) (w1.alloc (.cells #[.int .i64 s, .int .i64 (-1), .int .i64 0, .int .i64 0, .int .i64 0, .bool q] 165)) :=
  ⟨_, rfl, b1.size, Box.new w1 _ _, bel_alloc b1 _⟩

theorem hb_set {W w1 : World} {s : Int} {q : Bool} (X : Box w1 W.heap.size #[.int .i64 0, .int .i64 0, .int .i64 0, .int .i64 0, .int .i64 0, .bool false] 165) (b1 : Below W.heap.size W w1) :
    HB W s q (.pointer (some ⟨W.heap.size, 0, none⟩)) ((((((w1.setCell ⟨W.heap.size, 0, none⟩ (.int .i64 s)).setCell ⟨W.heap.size, 1, none⟩ (.int .i64 (-1))).setCell ⟨W.heap.size, 2, none⟩ (.int .i64 0)).setCell ⟨W.heap.size, 3, none⟩ (.int .i64 0)).setCell ⟨W.heap.size, 4, none⟩ (.int .i64 0)).setCell ⟨W.heap.size, 5, none⟩ (.bool q)) := by
  refine ⟨_, rfl, Nat.le_refl _, ?_, ?_⟩
  · exact heap_setCell_same _ _ 5 _ _ _ (heap_setCell_same _ _ 4 _ _ _ (heap_setCell_same _ _ 3 _ _ _ (heap_setCell_same _ _ 2 _ _ _ (heap_setCell_same _ _ 1 _ _ _ (heap_setCell_same _ _ 0 _ _ _ X)))))
  · repeat refine bel_setCell ?_ _ _ (Nat.le_refl _)
    exact b1

theorem frame_pos {xs : List Int} (h : (0 : Int) < xs.length) : frameOkB 0 xs = false := by
  rw [frame_zero]
  exact beq_eq_false_iff_ne.2 (by omega)

set_option maxRecDepth 100000 in
set_option maxHeartbeats 2000000 in
theorem holding_any (s : Int) (q : Bool) (a : Option Addr) (ca : Nat) (xs : List Int) (w : World) (ha : Row .i64 w a xs) :
    Calls Tryz.prog 109 #[.agg #[.int .i64 s, .slice a xs.length ca, .bool q]] w fun e w' => HoldP s q xs w e w' := by
  have bA := bel_alloc (bel_alloc (Below.refl w.heap.size w) (.cells #[.int .i64 s, .slice a xs.length ca, .bool q] 95)) (.cells #[.int .i64 0, .int .i64 0, .int .i64 0, .int .i64 0, .int .i64 0, .bool false] 165)
  obtain ⟨X0, X1⟩ := Box.two w #[.int .i64 s, .slice a xs.length ca, .bool q] #[.int .i64 0, .int .i64 0, .int .i64 0, .int .i64 0, .int .i64 0, .bool false] 95 165
  obtain ⟨W, hW⟩ : ∃ W, ((w.alloc (.cells #[.int .i64 s, .slice a xs.length ca, .bool q] 95)).alloc (.cells #[.int .i64 0, .int .i64 0, .int .i64 0, .int .i64 0, .int .i64 0, .bool false] 165)) = W := ⟨_, rfl⟩
  have HWs : Hid (W.heap.size = w.heap.size + 2) := by show _ = _; rw [← hW]; simp
  go_enter Tryz.func109, Tryz.ntmps109
  go_upto_region 1 with fail
  rw [hW] at bA X0 X1
  clear hW
  have hr := ha.below bA
  clear ha
  obtain ⟨x0, x1, x2, zx⟩ := X0.at3
  go_cut [4] (fun v wx => HB W s q v wx)
  case first =>
    go_region_held3 (fun w' => w'.cell? ⟨w.heap.size, 0, none⟩ = some (.int .i64 s) ∧ w'.cell? ⟨w.heap.size, 2, none⟩ = some (.bool q))
      (first | (with_reducible exact keep2 b1 ‹_›) | (with_reducible exact keep2 (bel_alloc (bel_undrew b1) _) ⟨x0, x2⟩) | ((with_reducible refine keep2f (keep2f (keep2f (keep2f (keep2f (keep2f ‹_› ?_) ?_) ?_) ?_) ?_) ?_) <;> (have := HWs.out; simp; omega)) | go_keep)
      (first | (go_at_call 117; refine (noWords_any _).mono ?_; rintro e w1 ⟨rfl, b1⟩; try (have XN := (Box.new W #[.int .i64 0, .int .i64 0, .int .i64 0, .int .i64 0, .int .i64 0, .bool false] 165).below (bel_undrew b1); obtain ⟨n0, n1, n2, n3, n4, n5, nz⟩ := XN.at6; have nf0 := XN.frozen 0; have nf1 := XN.frozen 1; have nf2 := XN.frozen 2; have nf3 := XN.frozen 3; have nf4 := XN.frozen 4; have nf5 := XN.frozen 5)))
    all_goals go_wp2_with fail
    all_goals go_meet
    all_goals
      have b2 := bel_undrew b1
      first | (with_reducible exact hb_new b2) | (with_reducible exact hb_set XN (bel_trans (bel_alloc (Below.refl _ _) _) b2))
  case rest =>
    obtain ⟨A, rfl, hA, XH, bH⟩ := hcut
    have X0 := X0.below bH
    have X1 := X1.below bH
    have hr := hr.below bH
    have B := bel_trans bA bH
    have s0 : w.heap.size + 2 ≤ A := by have h2 := HWs.out; omega
    clear bH bA x0 x1 x2 zx
    obtain ⟨x0, x1, x2, zx⟩ := X0.at3
    obtain ⟨y0, y1, y2, y3, y4, y5, zy⟩ := X1.at6
    by_cases hx : xs = []
    · subst hx
      obtain ⟨h0, h1, h2, h3, h4, h5, zh⟩ := XH.at6
      go_upto_region 7 with fail
      by_cases hs0 : s = 0
      · subst hs0
        have hst : stateB 0 = true := rfl
        go_cut [39] (fun v wx => v = .bool false ∧ Below wc.heap.size wc wx)
        case first =>
          go_region_held3 (fun w' => w'.cell? ⟨A, 0, none⟩ = some (.int .i64 0) ∧ w'.cell? ⟨A, 1, none⟩ = some (.int .i64 (-1)) ∧ w'.cell? ⟨A, 2, none⟩ = some (.int .i64 0) ∧ w'.cell? ⟨A, 3, none⟩ = some (.int .i64 0) ∧ w'.cell? ⟨A, 4, none⟩ = some (.int .i64 0) ∧ w'.cell? ⟨A, 5, none⟩ = some (.bool q))
            (first | (with_reducible exact keep6F b2 ‹_›) | go_keep)
            (first | (go_at_call 118; refine (isState_any _ _).mono ?_; rintro e w1 ⟨rfl, rfl⟩) | (go_at_call 119; refine (empty_yes _ _ _).mono ?_; rintro e w2 ⟨rfl, b2⟩))
          all_goals go_wp2_with fail
          all_goals go_meet
          all_goals exact ⟨rfl, bel_undrew b2⟩
        case rest =>
          obtain ⟨rfl, b2⟩ := hcut
          have X1 := X1.below b2
          have XH := XH.below b2
          have B := bel_trans B b2
          clear b2 x0 x1 x2 zx y0 y1 y2 y3 y4 y5 zy h0 h1 h2 h3 h4 h5 zh
          obtain ⟨y0, y1, y2, y3, y4, y5, zy⟩ := X1.at6
          obtain ⟨h0, h1, h2, h3, h4, h5, zh⟩ := XH.at6
          have f0 := X1.frozen 0
          have f1 := X1.frozen 1
          have f2 := X1.frozen 2
          have f3 := X1.frozen 3
          have f4 := X1.frozen 4
          have f5 := X1.frozen 5
          go_wp2
          refine bodyPost_ret (v := .tuple #[.agg #[.int .i64 0, .int .i64 (-1), .int .i64 0, .int .i64 0, .int .i64 0, .bool q], .bool true]) (by simp [results, Tryz.results109, go_sem, y0, y1, y2, y3, y4, y5]) rfl ⟨0, -1, 0, 0, 0, q, rfl, fun _ => ⟨rfl, rfl, .inl ⟨rfl, rfl, rfl, rfl, rfl, rfl⟩⟩, ?_⟩
          repeat refine bel_setCell ?_ _ _ ?_
          · exact B
          all_goals (simp; try omega)
      · have hs0' : (s == 0) = false := by simp [hs0]
        have HF : Hid (frameOkB s [] = false) := by show _ = _; rw [frame_some hs0']; simp [wordsB]
        go_cut [39] (fun v wx => v = .bool true ∧ Below wc.heap.size wc wx)
        case first =>
          cases hst : stateB s
          · clear hs0 HF
            go_quiet ((go_at_call 118; exact Calls.quiet_of_same (isState_any _ _)))
            all_goals go_wp2_with fail
            all_goals go_meet
            all_goals exact ⟨rfl, below_drewN (Below.refl _ _) nq⟩
          · clear hs0 HF
            go_region_held3 (fun w' => w'.cell? ⟨A, 0, none⟩ = some (.int .i64 s) ∧ w'.cell? ⟨A, 1, none⟩ = some (.int .i64 (-1)) ∧ w'.cell? ⟨A, 2, none⟩ = some (.int .i64 0) ∧ w'.cell? ⟨A, 3, none⟩ = some (.int .i64 0) ∧ w'.cell? ⟨A, 4, none⟩ = some (.int .i64 0) ∧ w'.cell? ⟨A, 5, none⟩ = some (.bool q))
              (first | (with_reducible exact keep6F b2 ‹_›) | go_keep)
              (first | (go_at_call 118; refine (isState_any _ _).mono ?_; rintro e w1 ⟨rfl, rfl⟩) | (go_at_call 119; refine (empty_yes _ _ _).mono ?_; rintro e w2 ⟨rfl, b2⟩))
            all_goals go_wp2_with fail
            all_goals go_meet
            all_goals exact ⟨rfl, bel_undrew b2⟩
        case rest =>
          obtain ⟨rfl, b2⟩ := hcut
          have X1 := X1.below b2
          have B := bel_trans B b2
          clear b2 x0 x1 x2 zx y0 y1 y2 y3 y4 y5 zy h0 h1 h2 h3 h4 h5 zh XH hs0
          obtain ⟨y0, y1, y2, y3, y4, y5, zy⟩ := X1.at6
          have f0 := X1.frozen 0
          have f1 := X1.frozen 1
          have f2 := X1.frozen 2
          have f3 := X1.frozen 3
          have f4 := X1.frozen 4
          have f5 := X1.frozen 5
          go_wp2
          refine bodyPost_ret (v := .tuple #[.agg #[.int .i64 0, .int .i64 0, .int .i64 0, .int .i64 0, .int .i64 0, .bool false], .bool false]) (by simp [results, Tryz.results109, go_sem, y0, y1, y2, y3, y4, y5]) rfl ⟨0, 0, 0, 0, 0, false, by rw [HF.out], fun h => (by rw [HF.out] at h; cases h), ?_⟩
          repeat refine bel_setCell ?_ _ _ ?_
          · exact B
          all_goals (simp; try omega)
    · have hpos : (0 : Int) < xs.length := by have := List.length_pos_iff.2 hx; omega
      have HX : Hid (¬ xs = []) := hx
      clear hx
      go_wp2_with fail
      refine (words_any a ca xs _ hr).mono ?_
      rintro e w1 ⟨c0, c1, c2, c3, rfl, hw, b1⟩
      have X1 := X1.below b1
      have XH := XH.below b1
      have B := bel_trans B b1
      clear b1 x0 x1 x2 zx y0 y1 y2 y3 y4 y5 zy X0 hr
      cases hwb : wordsB xs 4
      · have HF : Hid (frameOkB s xs = false) := by
          show _ = _
          by_cases hs0 : s = 0
          · subst hs0
            exact frame_pos hpos
          · rw [frame_some (by simp [hs0]), hwb, Bool.and_false]
        clear hw hwb XH
        have bx := bel_alloc (Below.refl w1.heap.size w1) (.cells #[.int .i64 c0, .int .i64 c1, .int .i64 c2, .int .i64 c3] 161)
        have X1 := X1.below bx
        have B := bel_trans B bx
        obtain ⟨W2, hW2⟩ : ∃ W2, w1.alloc (.cells #[.int .i64 c0, .int .i64 c1, .int .i64 c2, .int .i64 c3] 161) = W2 := ⟨_, rfl⟩
        rw [hW2] at X1 B
        clear bx
        obtain ⟨y0, y1, y2, y3, y4, y5, zy⟩ := X1.at6
        have f0 := X1.frozen 0
        have f1 := X1.frozen 1
        have f2 := X1.frozen 2
        have f3 := X1.frozen 3
        have f4 := X1.frozen 4
        have f5 := X1.frozen 5
        go_wp2
        refine bodyPost_ret (v := .tuple #[.agg #[.int .i64 0, .int .i64 0, .int .i64 0, .int .i64 0, .int .i64 0, .bool false], .bool false]) (by simp [results, Tryz.results109, go_sem, y0, y1, y2, y3, y4, y5]) rfl ⟨0, 0, 0, 0, 0, false, by rw [HF.out], fun h => (by rw [HF.out] at h; cases h), ?_⟩
        repeat refine bel_setCell ?_ _ _ ?_
        · exact B
        all_goals (simp; try omega)
      · have HX4 := hw hwb
        have HWB : Hid (wordsB xs 4 = true) := hwb
        have hc0 : 0 ≤ c0 := by
          rw [HX4] at hwb
          unfold wordsB at hwb
          simp only [Bool.and_eq_true, List.all_cons] at hwb
          exact (wordB_true hwb.1.1).1
        have hX4 : Hid (xs = [c0, c1, c2, c3]) := HX4
        clear hw hwb HX4
        have bx := bel_alloc (Below.refl w1.heap.size w1) (.cells #[.int .i64 c0, .int .i64 c1, .int .i64 c2, .int .i64 c3] 161)
        have X1 := X1.below bx
        have XH := XH.below bx
        have B := bel_trans B bx
        have XH2 : Box (((((w1.alloc (.cells #[.int .i64 c0, .int .i64 c1, .int .i64 c2, .int .i64 c3] 161)).setCell ⟨A, 1, none⟩ (.int .i64 c0)).setCell ⟨A, 2, none⟩ (.int .i64 c1)).setCell ⟨A, 3, none⟩ (.int .i64 c2)).setCell ⟨A, 4, none⟩ (.int .i64 c3)) A #[.int .i64 s, .int .i64 c0, .int .i64 c1, .int .i64 c2, .int .i64 c3, .bool q] 165 := heap_setCell_same _ _ 4 _ _ _ (heap_setCell_same _ _ 3 _ _ _ (heap_setCell_same _ _ 2 _ _ _ (heap_setCell_same _ _ 1 _ _ _ XH)))
        have X12 := (((X1.far ⟨A, 1, none⟩ (.int .i64 c0) (by simp; omega)).far ⟨A, 2, none⟩ (.int .i64 c1) (by simp; omega)).far ⟨A, 3, none⟩ (.int .i64 c2) (by simp; omega)).far ⟨A, 4, none⟩ (.int .i64 c3) (by simp; omega)
        have B2 := bel_setCell (bel_setCell (bel_setCell (bel_setCell B ⟨A, 1, none⟩ (.int .i64 c0) (by simp; omega)) ⟨A, 2, none⟩ (.int .i64 c1) (by simp; omega)) ⟨A, 3, none⟩ (.int .i64 c2) (by simp; omega)) ⟨A, 4, none⟩ (.int .i64 c3) (by simp; omega)
        obtain ⟨h0, h1, h2, h3, h4, h5, zh⟩ := XH.at6
        have f1 := XH.frozen 1
        have f2 := XH.frozen 2
        have f3 := XH.frozen 3
        have f4 := XH.frozen 4
        obtain ⟨W2, hW2⟩ : ∃ W2, ((((w1.alloc (.cells #[.int .i64 c0, .int .i64 c1, .int .i64 c2, .int .i64 c3] 161)).setCell ⟨A, 1, none⟩ (.int .i64 c0)).setCell ⟨A, 2, none⟩ (.int .i64 c1)).setCell ⟨A, 3, none⟩ (.int .i64 c2)).setCell ⟨A, 4, none⟩ (.int .i64 c3) = W2 := ⟨_, rfl⟩
        rw [hW2] at XH2 X12 B2
        clear bx
        go_upto_region 7 with fail
        clear hW2 h0 h1 h2 h3 h4 h5 zh f1 f2 f3 f4 X1 XH B
        obtain ⟨y0, y1, y2, y3, y4, y5, zy⟩ := X12.at6
        obtain ⟨h0, h1, h2, h3, h4, h5, zh⟩ := XH2.at6
        by_cases hs0 : s = 0
        · subst hs0
          have HF : Hid (frameOkB 0 xs = false) := frame_pos hpos
          have hst : stateB 0 = true := rfl
          go_cut [39] (fun v wx => v = .bool true ∧ Below W2.heap.size W2 wx)
          case first =>
            go_region_held3 (fun w' => w'.cell? ⟨A, 0, none⟩ = some (.int .i64 0) ∧ w'.cell? ⟨A, 1, none⟩ = some (.int .i64 c0) ∧ w'.cell? ⟨A, 2, none⟩ = some (.int .i64 c1) ∧ w'.cell? ⟨A, 3, none⟩ = some (.int .i64 c2) ∧ w'.cell? ⟨A, 4, none⟩ = some (.int .i64 c3) ∧ w'.cell? ⟨A, 5, none⟩ = some (.bool q))
              (first | (with_reducible exact keep6F b2 ‹_›) | go_keep)
              (first | (go_at_call 118; refine (isState_any _ _).mono ?_; rintro e w1 ⟨rfl, rfl⟩) | (go_at_call 119; refine (empty_no _ _ c0 c1 c2 c3 _ hc0).mono ?_; rintro e w2 ⟨rfl, b2⟩))
            all_goals go_wp2_with fail
            all_goals go_meet
            all_goals exact ⟨rfl, bel_undrew b2⟩
          case rest =>
            obtain ⟨rfl, b2⟩ := hcut
            have X1 := X12.below b2
            have B := bel_trans B2 b2
            clear b2 y0 y1 y2 y3 y4 y5 zy h0 h1 h2 h3 h4 h5 zh XH2 X12 B2
            obtain ⟨y0, y1, y2, y3, y4, y5, zy⟩ := X1.at6
            have f0 := X1.frozen 0
            have f1 := X1.frozen 1
            have f2 := X1.frozen 2
            have f3 := X1.frozen 3
            have f4 := X1.frozen 4
            have f5 := X1.frozen 5
            go_wp2
            refine bodyPost_ret (v := .tuple #[.agg #[.int .i64 0, .int .i64 0, .int .i64 0, .int .i64 0, .int .i64 0, .bool false], .bool false]) (by simp [results, Tryz.results109, go_sem, y0, y1, y2, y3, y4, y5]) rfl ⟨0, 0, 0, 0, 0, false, by rw [HF.out], fun h => (by rw [HF.out] at h; cases h), ?_⟩
            repeat refine bel_setCell ?_ _ _ ?_
            · exact B
            all_goals (simp; try omega)
        · have hs0' : (s == 0) = false := by simp [hs0]
          cases hst : stateB s
          · have HF : Hid (frameOkB s xs = false) := by show _ = _; rw [frame_some hs0']; unfold stateB at hst; rw [hst]; rfl
            clear hs0
            go_cut [39] (fun v wx => v = .bool true ∧ Below W2.heap.size W2 wx)
            case first =>
              go_quiet ((go_at_call 118; exact Calls.quiet_of_same (isState_any _ _)))
              all_goals go_wp2_with fail
              all_goals go_meet
              all_goals exact ⟨rfl, below_drewN (Below.refl _ _) nq⟩
            case rest =>
              obtain ⟨rfl, b2⟩ := hcut
              have X1 := X12.below b2
              have B := bel_trans B2 b2
              clear b2 y0 y1 y2 y3 y4 y5 zy h0 h1 h2 h3 h4 h5 zh XH2 X12 B2
              obtain ⟨y0, y1, y2, y3, y4, y5, zy⟩ := X1.at6
              have f0 := X1.frozen 0
              have f1 := X1.frozen 1
              have f2 := X1.frozen 2
              have f3 := X1.frozen 3
              have f4 := X1.frozen 4
              have f5 := X1.frozen 5
              go_wp2
              refine bodyPost_ret (v := .tuple #[.agg #[.int .i64 0, .int .i64 0, .int .i64 0, .int .i64 0, .int .i64 0, .bool false], .bool false]) (by simp [results, Tryz.results109, go_sem, y0, y1, y2, y3, y4, y5]) rfl ⟨0, 0, 0, 0, 0, false, by rw [HF.out], fun h => (by rw [HF.out] at h; cases h), ?_⟩
              repeat refine bel_setCell ?_ _ _ ?_
              · exact B
              all_goals (simp; try omega)
          · have HF : Hid (frameOkB s xs = true) := by show _ = _; rw [frame_some hs0', HWB.out]; unfold stateB at hst; rw [hst]; rfl
            have HS : Hid (s = 1 ∨ s = 2) := by unfold stateB at hst; have := of_decide_eq_true hst; show _ ∨ _; omega
            clear hs0
            go_cut [39] (fun v wx => v = .bool false ∧ Below W2.heap.size W2 wx)
            case first =>
              go_region_held3 (fun w' => w'.cell? ⟨A, 0, none⟩ = some (.int .i64 s) ∧ w'.cell? ⟨A, 1, none⟩ = some (.int .i64 c0) ∧ w'.cell? ⟨A, 2, none⟩ = some (.int .i64 c1) ∧ w'.cell? ⟨A, 3, none⟩ = some (.int .i64 c2) ∧ w'.cell? ⟨A, 4, none⟩ = some (.int .i64 c3) ∧ w'.cell? ⟨A, 5, none⟩ = some (.bool q))
                (first | (with_reducible exact keep6F b2 ‹_›) | go_keep)
                (first | (go_at_call 118; refine (isState_any _ _).mono ?_; rintro e w1 ⟨rfl, rfl⟩) | (go_at_call 119; refine (empty_no _ _ c0 c1 c2 c3 _ hc0).mono ?_; rintro e w2 ⟨rfl, b2⟩))
              all_goals go_wp2_with fail
              all_goals go_meet
              all_goals exact ⟨rfl, bel_undrew b2⟩
            case rest =>
              obtain ⟨rfl, b2⟩ := hcut
              have X1 := X12.below b2
              have XH := XH2.below b2
              have B := bel_trans B2 b2
              clear b2 y0 y1 y2 y3 y4 y5 zy h0 h1 h2 h3 h4 h5 zh XH2 X12 B2
              obtain ⟨y0, y1, y2, y3, y4, y5, zy⟩ := X1.at6
              obtain ⟨h0, h1, h2, h3, h4, h5, zh⟩ := XH.at6
              have f0 := X1.frozen 0
              have f1 := X1.frozen 1
              have f2 := X1.frozen 2
              have f3 := X1.frozen 3
              have f4 := X1.frozen 4
              have f5 := X1.frozen 5
              go_wp2
              refine bodyPost_ret (v := .tuple #[.agg #[.int .i64 s, .int .i64 c0, .int .i64 c1, .int .i64 c2, .int .i64 c3, .bool q], .bool true]) (by simp [results, Tryz.results109, go_sem, y0, y1, y2, y3, y4, y5]) rfl ⟨s, c0, c1, c2, c3, q, by rw [HF.out], fun _ => ⟨rfl, rfl, .inr ⟨HS.out, hX4.out, HWB.out⟩⟩, ?_⟩
              repeat refine bel_setCell ?_ _ _ ?_
              · exact B
              all_goals (simp; try omega)

set_option maxHeartbeats 400000 in
theorem frameOk_any (s : Int) (q : Bool) (a : Option Addr) (ca : Nat) (xs : List Int) (w : World) (ha : Row .i64 w a xs) :
    Calls Tryz.prog 88 #[.agg #[.int .i64 s, .slice a xs.length ca, .bool q]] w fun e w' => e = .returned (.bool (frameOkB s xs)) ∧ Below w.heap.size w w' := by
  have bA := bel_alloc (Below.refl w.heap.size w) (.cells #[.int .i64 s, .slice a xs.length ca, .bool q] 95)
  have hr := ha.below bA
  go_enter Tryz.func88, Tryz.ntmps88
  go_wp2_with fail
  refine (holding_any s q a ca xs _ hr).mono ?_
  rintro e w1 ⟨t, c0, c1, c2, c3, r, rfl, hL, b1⟩
  have B := bel_trans bA b1
  clear hL b1 bA hr ha
  go_wp2
  go_ret
  exact ⟨rfl, bel_alloc B _⟩
end Go.Proofs.YtpfppeifppdmbaaGreat

/- What FrameRead does on both sides; the specification's FrameOk. -/
namespace Go.Proofs.YtpfppeifppdmbaaGreat
open Go.RowKit
set_option linter.unusedVariables false

set_option maxHeartbeats 1000000 in
theorem specFrameOk_any (s : Int) (q : Bool) (a : Option Addr) (ca : Nat) (xs : List Int) (w : World) (ha : Row .i64 w a xs) :
    Calls Tryz.prog 72 #[.agg #[.int .i64 s, .slice a xs.length ca, .bool q]] w fun e w' => e = .returned (.bool (frameOkB s xs)) ∧ Below w.heap.size w w' := by
  have bA := bel_alloc (Below.refl w.heap.size w) (.cells #[.int .i64 s, .slice a xs.length ca, .bool q] 95)
  have hr := ha.below bA
  by_cases h0 : s = 0
  · subst h0
    clear ha hr
    go_enter Tryz.func72, Tryz.ntmps72
    go_wp2
    go_ret
    exact ⟨ret_bool (frame_zero xs).symm, bA⟩
  · have hs : (s == 0) = false := by simp [h0]
    have HF : Hid (frameOkB s xs = (decide (0 ≤ s ∧ s ≤ 2) && wordsB xs 4)) := frame_some hs
    clear h0
    cases hd : decide (0 ≤ s ∧ s ≤ 2)
    all_goals
      rw [hd] at HF
      go_enter Tryz.func72, Tryz.ntmps72
      go_wp2_with (first | (go_at_call 26; refine (specIn_any _ _ _ _).mono ?_; rintro e w1 ⟨rfl, rfl⟩) | (go_at_call 103; refine (specWords_any a ca xs _ _ hr).mono ?_; rintro e w1 ⟨rfl, rfl⟩))
      go_ret
      exact ⟨ret_bool (HF.out.symm), bA⟩

/-- What FrameRead answers. -/
def readN (s : Int) (xs : List Int) (i : Int) : Int := if frameOkB s xs && decide (0 ≤ i ∧ i < xs.length) then xs.getD i.toNat 0 else 0
def readB (s : Int) (xs : List Int) (i : Int) : Bool := frameOkB s xs && decide (0 ≤ i ∧ i < xs.length)

theorem read_no {s : Int} {xs : List Int} {i : Int} (h : readB s xs i = false) : readN s xs i = 0 := by
  unfold readB at h
  unfold readN
  rw [h]
  rfl
theorem read_yes {s : Int} {xs : List Int} {i : Int} (h : readB s xs i = true) : readN s xs i = xs.getD i.toNat 0 := by
  unfold readB at h
  unfold readN
  rw [h]
  rfl


end Go.Proofs.YtpfppeifppdmbaaGreat
