/- What DrawMsgBytes, DrawMsgOk and DrawMsgOf give. -/
import Derived.Test.YtbihhndpjpdbmaaDrawM2
import Derived.Test.YtbihhndpjpdbmaaSpecBytes
import Derived.Deep.RegionHeld3
import Derived.Deep.RegionLaw
namespace Go.Proofs.Ytbihhndpjpdbmaa
open Go.RowKit
set_option linter.unusedVariables false

set_option maxRecDepth 100000 in
set_option maxHeartbeats 2000000 in
theorem drawMB_any (a : Option Addr) (ca : Nat) (bs : List Int) (w : World) (ha : Row .u8 w a bs) :
    Calls Try.prog 5 #[.slice a bs.length ca] w fun e w' => ∃ (k p : Int) (o : Bool) (v : Value) (xs : List Int), e = .returned (.agg #[.int .i64 k, .int .i64 p, .bool o, v]) ∧ xs.length ≤ 5 ∧ w'.ownsRow w.heap.size 3 1 v xs.length (xs.map (Value.int .i64)) ∧ Below w.heap.size w w' := by
  have hlt := ha.far
  have bR := bel_alloc (Below.refl w.heap.size w) (.cells #[.int .i64 0, .int .i64 0, .bool false, .slice none 0 0] 26)
  have XR := Box.new w #[.int .i64 0, .int .i64 0, .bool false, .slice none 0 0] 26
  obtain ⟨W, hW⟩ : ∃ W, w.alloc (.cells #[.int .i64 0, .int .i64 0, .bool false, .slice none 0 0] 26) = W := ⟨_, rfl⟩
  have hWs : W.heap.size = w.heap.size + 1 := by rw [← hW]; simp
  rw [hW] at bR XR
  have HWs : Hid (W.heap.size = w.heap.size + 1) := hWs
  clear hWs
  have haW := ha.below bR
  go_enter Try.func5, Try.ntmps5
  go_wp2_with fail
  clear hW
  refine (l1New_any a ca bs _ haW).mono ?_
  rintro e w1 ⟨rfl, hC, b1⟩
  obtain ⟨r, hr⟩ : ∃ r, W.heap.size = r := ⟨_, rfl⟩
  have hr1 : w.heap.size + 1 ≤ r := by rw [← hr]; exact Nat.le_of_eq HWs.out.symm
  rw [hr] at hC ⊢
  replace XR := XR.below b1
  replace haW := haW.below b1
  have B := bel_trans bR b1
  clear b1 bR HWs hr
  have hne : 0 < bs.length → ∀ x, a = some x → x.block ≠ r := fun h0 x hx => by have := hlt h0 x hx; omega
  clear hlt ha
  go_wp2_with fail
  refine (draw_any r a ca bs _ hC haW hne).mono ?_
  rintro e w2 ⟨k, p, o, v, xs, rfl, hxl, o2, hC2, g2⟩
  have zC1 := hC.lt
  have HLO : Hid (∀ j, v.ownBlock = some j → r < j) := fun j hj => by have h := (o2.lt j hj).1; omega
  replace XR := XR.kept g2 (fun j hj => by simp at hj; omega)
  replace B := B.grown g2 B.size (fun j hj => by simp at hj; omega)
  replace o2 := owns_base o2 (show w.heap.size ≤ _ by omega)
  clear g2 hC hC2 haW hne
  obtain ⟨av, cv, rfl⟩ := owns_slice o2
  obtain ⟨y0, y1, y2, y3, yz⟩ := XR.at4
  have f0 := XR.frozen 0
  have f1 := XR.frozen 1
  have f2 := XR.frozen 2
  have f3 := XR.frozen 3
  go_wp2
  refine bodyPost_ret (v := .agg #[.int .i64 k, .int .i64 p, .bool o, .slice av xs.length cv]) (by simp [results, Try.results5, go_sem, y0, y1, y2, y3]) rfl ⟨_, _, _, _, xs, rfl, hxl, ?_, ?_⟩
  · repeat refine owns_setCell ?_ ?_ _
    · exact o2
    all_goals (intro j h; have := HLO.out j h; simp; omega)
  · repeat refine bel_setCell ?_ _ _ ?_
    · exact B
    all_goals (simp; try omega)

set_option maxRecDepth 100000 in
set_option maxHeartbeats 2000000 in
theorem drawMO_any (a : Option Addr) (ca : Nat) (bs : List Int) (w : World) (ha : Row .u8 w a bs) :
    Calls Try.prog 13 #[.slice a bs.length ca] w fun e w' => ∃ (k p : Int) (o : Bool) (v : Value) (xs : List Int), e = .returned (.agg #[.int .i64 k, .int .i64 p, .bool o, v]) ∧ xs.length ≤ 5 ∧ w'.ownsRow w.heap.size 3 1 v xs.length (xs.map (Value.int .i64)) ∧ Below w.heap.size w w' := by
  have hlt := ha.far
  have bR := bel_alloc (Below.refl w.heap.size w) (.cells #[.int .i64 0, .int .i64 0, .bool false, .slice none 0 0] 26)
  have XR := Box.new w #[.int .i64 0, .int .i64 0, .bool false, .slice none 0 0] 26
  obtain ⟨W, hW⟩ : ∃ W, w.alloc (.cells #[.int .i64 0, .int .i64 0, .bool false, .slice none 0 0] 26) = W := ⟨_, rfl⟩
  have hWs : W.heap.size = w.heap.size + 1 := by rw [← hW]; simp
  rw [hW] at bR XR
  have HWs : Hid (W.heap.size = w.heap.size + 1) := hWs
  clear hWs
  have haW := ha.below bR
  go_enter Try.func13, Try.ntmps13
  go_wp2_with fail
  clear hW
  refine (l1New_any a ca bs _ haW).mono ?_
  rintro e w1 ⟨rfl, hC, b1⟩
  obtain ⟨r, hr⟩ : ∃ r, W.heap.size = r := ⟨_, rfl⟩
  have hr1 : w.heap.size + 1 ≤ r := by rw [← hr]; exact Nat.le_of_eq HWs.out.symm
  rw [hr] at hC ⊢
  replace XR := XR.below b1
  replace haW := haW.below b1
  have B := bel_trans bR b1
  clear b1 bR HWs hr
  have hne : 0 < bs.length → ∀ x, a = some x → x.block ≠ r := fun h0 x hx => by have := hlt h0 x hx; omega
  clear hlt ha
  go_wp2_with fail
  refine (draw_any r a ca bs _ hC haW hne).mono ?_
  rintro e w2 ⟨k, p, o, v, xs, rfl, hxl, o2, hC2, g2⟩
  have zC1 := hC.lt
  have HLO : Hid (∀ j, v.ownBlock = some j → r < j) := fun j hj => by have h := (o2.lt j hj).1; omega
  replace XR := XR.kept g2 (fun j hj => by simp at hj; omega)
  replace B := B.grown g2 B.size (fun j hj => by simp at hj; omega)
  replace o2 := owns_base o2 (show w.heap.size ≤ _ by omega)
  clear g2 hC hC2 haW hne
  obtain ⟨av, cv, rfl⟩ := owns_slice o2
  obtain ⟨y0, y1, y2, y3, yz⟩ := XR.at4
  have f0 := XR.frozen 0
  have f1 := XR.frozen 1
  have f2 := XR.frozen 2
  have f3 := XR.frozen 3
  go_wp2
  refine bodyPost_ret (v := .agg #[.int .i64 k, .int .i64 p, .bool o, .slice av xs.length cv]) (by simp [results, Try.results13, go_sem, y0, y1, y2, y3]) rfl ⟨_, _, _, _, xs, rfl, hxl, ?_, ?_⟩
  · repeat refine owns_setCell ?_ ?_ _
    · exact o2
    all_goals (intro j h; have := HLO.out j h; simp; omega)
  · repeat refine bel_setCell ?_ _ _ ?_
    · exact B
    all_goals (simp; try omega)

theorem msgB_bytes (k p : Int) (o : Bool) (xs : List Int) : Bytes (msgB k p o xs) := by
  unfold msgB
  split
  · exact flatB_byte _ (nums_in ‹_›)
  · intro z hz
    simp at hz

theorem row_take {W : World} {a : Option Addr} {xs : List Int} (h : Row .u8 W a xs) (n : Nat) : Row .u8 W a (xs.take n) := by
  refine ⟨by have := h.1; simp; omega, fun i hi => ?_⟩
  have hi' : i < n ∧ i < xs.length := by simp at hi; omega
  obtain ⟨b, off, e, hc⟩ := h.2 i hi'.2
  refine ⟨b, off, e, ?_⟩
  rw [hc]
  simp [hi'.1, hi'.2]

theorem own_form {w : World} {base e size n cap : Nat} {a : Option Addr} {xs : List Value} (h : w.ownsRow base e size (.slice a n cap) n xs) : (a = none ∧ n = 0 ∧ cap = 0) ∨ ∃ g, a = some ⟨g, 0, none⟩ := by
  rcases h.2 with ⟨h1, h2⟩ | ⟨g, cap', cur, h1, _⟩
  · simp only [Value.slice.injEq] at h1
    exact .inl ⟨h1.1, h2, h1.2.2⟩
  · simp only [Value.slice.injEq] at h1
    exact .inr ⟨g, h1.1⟩

theorem own_litu (W : World) (base : Nat) (h : base ≤ W.heap.size) : (W.alloc (.cells #[] 5)).ownsRow base 5 1 (.slice (some ⟨W.heap.size, 0, none⟩) 0 0) 0 [] :=
  World.ownsRow_lit W #[] 0 h (by simp [maxLen]) rfl

theorem src_of {k : IntKind} {w : World} {b off : Nat} {xs : List Int} (h : Row k w (some ⟨b, off, none⟩) xs) : ∀ j v, (xs.map (Value.int k))[j]? = some v → w.cell? ((⟨b, off, none⟩ : Addr).add j) = some v := fun j v hv => by
  have hj : j < xs.length := by
    have := (List.getElem?_eq_some_iff.1 hv).1
    simpa using this
  obtain ⟨b', off', he, hc⟩ := h.2 j hj
  simp at he
  obtain ⟨rfl, rfl⟩ := he
  have e : (⟨b, off, none⟩ : Addr).add j = ⟨b, off + j, none⟩ := by unfold Addr.add; split <;> simp_all
  rw [e, hc]
  rw [List.getElem?_map, List.getElem?_eq_getElem hj] at hv
  simp at hv
  rw [← hv]
  simp [hj]
theorem src_take {w : World} {g : Nat} {xs : List Int} (h : Row .u8 w (some ⟨g, 0, none⟩) xs) (n : Nat) : ∀ j v, ((xs.take n).map (Value.int .u8))[j]? = some v → w.cell? ((⟨g, 0, none⟩ : Addr).add j) = some v := src_of (row_take h n)

theorem own_lit1u (W : World) (base : Nat) (c : Int) (h : base ≤ W.heap.size) : (W.alloc (.cells #[.int .u8 c] 5)).ownsRow base 5 1 (.slice (some ⟨W.heap.size, 0, none⟩) 1 1) 1 [.int .u8 c] :=
  World.ownsRow_lit W #[.int .u8 c] 1 h (by simp [maxLen]) rfl

theorem new_u8c (W : World) (c : Int) : ∀ j u, [Value.int .u8 c][j]? = some u → (W.alloc (.cells #[.int .u8 c] 5)).cell? ((⟨W.heap.size, 0, none⟩ : Addr).add j) = some u := fun j u hu => by
  have h := Box.new W #[.int .u8 c] 5
  have e : (⟨W.heap.size, 0, none⟩ : Addr).add j = ⟨W.heap.size, j, none⟩ := by unfold Addr.add; split <;> simp_all
  rw [e, h.cell]
  simpa using hu

theorem row_drop {W : World} {g : Nat} {xs : List Int} (h : Row .u8 W (some ⟨g, 0, none⟩) xs) (n : Nat) : Row .u8 W (some ⟨g, n, none⟩) (xs.drop n) := by
  refine ⟨by have := h.1; simp; omega, fun i hi => ⟨g, n, rfl, ?_⟩⟩
  have hi' : n + i < xs.length := by simp at hi; omega
  obtain ⟨b, off, e, hc⟩ := h.2 (n + i) hi'
  simp at e
  obtain ⟨rfl, rfl⟩ := e
  rw [Nat.zero_add] at hc
  rw [hc]
  simp [hi']

theorem own_both {w : World} {base e size n m cap : Nat} {a : Option Addr} {xs ys : List Value} (h : w.ownsRow base e size (.slice a n cap) n xs) (hn : n = m) (hx : xs = ys) : w.ownsRow base e size (.slice a m cap) m ys := by
  subst hn hx
  exact h

theorem own_len {w : World} {base e size n m : Nat} {v : Value} {xs ys : List Value} (h : w.ownsRow base e size v n xs) (hn : n = m) (hx : xs = ys) : w.ownsRow base e size v m ys := by
  subst hn hx
  exact h

theorem bytes_cut {M : List Int} (h : Bytes M) (x : Nat) (c : Int) (h0 : 0 ≤ c) (h1 : c < 256) : Bytes (M.take x ++ c :: M.drop x) := fun z hz => by
  rcases List.mem_append.1 hz with hz | hz
  · exact h z (List.mem_of_mem_take hz)
  · rcases List.mem_cons.1 hz with rfl | hz
    · exact ⟨h0, h1⟩
    · exact h z (List.mem_of_mem_drop hz)

/-- Drawn bytes, at most so many. -/
def RawP (w : World) (e : Ending) (w' : World) : Prop :=
  ∃ (a : Option Addr) (c : Nat) (xs : List Int), e = .returned (.slice a xs.length c) ∧ Bytes xs ∧ xs.length ≤ 50 ∧ xs.length ≤ c ∧ c ≤ maxLen ∧ Row .u8 w' a xs ∧ Below w.heap.size w w'

theorem raw_of {w w9 : World} {lo g9 cap9 N : Nat} {L : List Int} (o : w9.ownsRow lo 5 1 (.slice (some ⟨g9, 0, none⟩) N cap9) N (L.map (Value.int .u8))) (hN : N = L.length) (hb : Bytes L) (hl : L.length ≤ 50) (B : Below w.heap.size w w9) : RawP w (.returned (.slice (some ⟨g9, 0, none⟩) N cap9)) w9 := by
  subst hN
  obtain ⟨a', c', e, q, hc, hm⟩ := owns_row o (by omega)
  simp only [Value.slice.injEq] at e
  obtain ⟨rfl, _, rfl⟩ := e
  exact ⟨_, _, L, rfl, hb, hl, hc, hm, q, B⟩

set_option maxRecDepth 100000 in
set_option maxHeartbeats 4000000 in
theorem drawMOf_any (a : Option Addr) (ca : Nat) (bs : List Int) (w : World) (ha : Row .u8 w a bs) :
    Calls Try.prog 11 #[.slice a bs.length ca] w fun e w' => RawP w e w' := by
  have hlt := ha.far
  go_enter Try.func11, Try.ntmps11
  go_wp2_with fail
  refine (l1New_any a ca bs _ ha).mono ?_
  rintro e w1 ⟨rfl, hC, b1⟩
  obtain ⟨r, hr⟩ : ∃ r, w.heap.size = r := ⟨_, rfl⟩
  have HR : Hid (w.heap.size = r) := hr
  have haW := ha.below b1
  have hne : 0 < bs.length → ∀ x, a = some x → x.block ≠ r := fun h0 x hx => by have := hlt h0 x hx; omega
  rw [hr] at hC ⊢
  have B := b1
  clear b1 hr hlt ha
  go_wp2_with fail
  refine (drawRight_any r a ca bs _ hC haW hne).mono ?_
  rintro e w2 ⟨k, p, o, v, xs, rfl, hxl, o2, hC2, g2⟩
  have zC1 := hC.lt
  replace haW := haW.kept2 g2 hne
  replace B := B.grown g2 B.size (fun j hj => by simp at hj; have := HR.out; omega)
  clear g2 hC
  obtain ⟨av, cv, rfl⟩ := owns_slice o2
  go_wp2_with fail
  refine (specBytes_any k p o av cv xs _ (owns_row' o2 (by omega))).mono ?_
  have hml := msgB_len k p o xs
  have hmb := msgB_bytes k p o xs
  obtain ⟨M, hM⟩ : ∃ M, msgB k p o xs = M := ⟨_, rfl⟩
  rw [hM] at hml hmb ⊢
  clear hM
  rintro e w3 ⟨vb, rfl, ob, b3⟩
  have z2 := hC2.lt
  have LB : Hid (∀ j, vb.ownBlock = some j → r < j ∧ j < w3.heap.size) := fun j hj => by have h := ob.lt j hj; omega
  replace hC2 := hC2.below b3
  replace haW := haW.below b3
  replace B := bel_trans B b3
  clear b3 o2
  obtain ⟨ab, cb, rfl⟩ := owns_slice ob
  have hcast : ((M.length : Int) + 1) = ((M.length + 1 : Nat) : Int) := by omega
  have HCAST : Hid (((M.length : Int) + 1) = ((M.length + 1 : Nat) : Int)) := hcast
  clear hcast
  have hml' : (M.length : Int) ≤ 21 := by omega
  go_wp2_with fail
  rw [HCAST.out]
  refine (l1Below_any r a ca bs (M.length + 1) _ (by omega) (by omega) hC2 haW hne).mono ?_
  rintro e w4 ⟨x, rfl, hx, hC4, g4⟩
  replace haW := haW.kept2 g4 hne
  replace ob := owns_ne ob g4 (fun j hj he => by simp at he; have := LB.out j hj; omega)
  replace B := B.grown g4 B.size (fun j hj => by simp at hj; have := HR.out; omega)
  clear g4 hC2
  go_wp2_with fail
  refine (l1Below_any r a ca bs 5 _ (by omega) (by omega) hC4 haW hne).mono ?_
  rintro e w5 ⟨y, rfl, hy, hC5, g5⟩
  replace haW := haW.kept2 g5 hne
  replace ob := owns_ne ob g5 (fun j hj he => by simp at he; have := LB.out j hj; omega)
  replace B := B.grown g5 B.size (fun j hj => by simp at hj; have := HR.out; omega)
  clear g5 hC4
  obtain ⟨a', c', he, qb, hbc, hbm⟩ := owns_row ob (by omega)
  simp only [Value.slice.injEq] at he
  obtain ⟨rfl, _, rfl⟩ := he
  have hxb : (x : Int) ≤ (M.length : Int) := by omega
  have hxc : (x : Int) ≤ (cb : Int) := by omega
  have hbc' : (M.length : Int) ≤ (cb : Int) := by omega
  by_cases hy0 : y = 0
  · subst hy0
    have hle : Hid ((M.take x).length = x) := by show _ = _; simp; omega
    have hR := row_take qb x
    have hby : Bytes (M.take x) := fun z hz => hmb z (List.mem_of_mem_take hz)
    have hcap := own_form ob
    clear hC5 haW ob hne qb
    rcases hcap with ⟨rfl, hM0, rfl⟩ | ⟨g, rfl⟩
    · obtain rfl : x = 0 := by omega
      go_wp2
      go_ret
      exact ⟨none, 0, [], rfl, fun z hz => by simp at hz, by simp, by simp, by simp [maxLen], Row.nil _ _ _, B⟩
    · go_wp2
      go_ret
      refine ⟨some ⟨g, 0, none⟩, cb, M.take x, by rw [hle.out]; rfl, hby, by rw [hle.out]; omega, by rw [hle.out]; omega, hbm, hR, B⟩
  by_cases hy1 : y = 1
  · subst hy1
    obtain ⟨i0, hi, hz0, hz1, hz2⟩ := info_parts info_u8
    have zC5 := hC5.lt
    have bL := bel_alloc (Below.refl w5.heap.size w5) (.cells #[] 5)
    have bI := bel_alloc (Below.refl w5.heap.size w5) (.cells #[.int .i64 0, .int .i64 1, .int .i64 128, .int .i64 3] 3)
    have bLI := bel_alloc bL (.cells #[.int .i64 0, .int .i64 1, .int .i64 128, .int .i64 3] 3)
    have bIL := bel_alloc bI (.cells #[] 5)
    have oL := own_litu w5 w5.heap.size (Nat.le_refl _)
    have oLI := owns_below oL (bel_alloc (Below.refl _ (w5.alloc (.cells #[] 5))) (.cells #[.int .i64 0, .int .i64 1, .int .i64 128, .int .i64 3] 3))
    have oIL := own_litu (w5.alloc (.cells #[.int .i64 0, .int .i64 1, .int .i64 128, .int .i64 3] 3)) w5.heap.size (by simp)
    have eI : (w5.alloc (.cells #[.int .i64 0, .int .i64 1, .int .i64 128, .int .i64 3] 3)).heap.size = w5.heap.size + 1 := by simp
    have eL : (w5.alloc (.cells #[] 5)).heap.size = w5.heap.size + 1 := by simp
    rw [eI] at oIL
    have rLI := row_lit (w5.alloc (.cells #[] 5)) [0, 1, 128, 3] (by simp)
    rw [eL] at rLI
    have rIL := (row_lit w5 [0, 1, 128, 3] (by simp)).below (bel_alloc (Below.refl _ _) (.cells #[] 5))
    clear eI eL
    have hn0 : Hid (∀ n, (Value.slice (some ⟨n, 0, none⟩) 0 0).ownBlock = some n) := fun _ => rfl
    have hCLI := hC5.below bLI
    have hCIL := hC5.below bIL
    have aLI := haW.below bLI
    have aIL := haW.below bIL
    have hcap := own_form ob
    rcases hcap with ⟨rfl, hM0, rfl⟩ | ⟨g, rfl⟩
    · obtain rfl : x = 0 := by omega
      obtain rfl : M = [] := List.length_eq_zero_iff.1 hM0
      clear qb
      go_wp2_with fail
      go_region_law (first | (go_simp; go_at_call 28; refine (l1Pick_any r a ca bs (some ⟨_, 0, none⟩) 4 [0, 1, 128, 3] _ (by simp) (by simp) ?_ ?_ ?_ ?_ hne).mono ?_; (first | exact rLI | exact rIL); (intro z hz; simp at hz; subst hz; simp; omega); (first | exact hCLI | exact hCIL); (first | exact aLI | exact aIL); rintro e w7 ⟨u, hu, rfl, hC7, g7⟩; have hu2 : 0 ≤ IntKind.u8.wrap u ∧ IntKind.u8.wrap u < 256 := (by simp at hu; rcases hu with rfl | rfl | rfl | rfl <;> decide); obtain ⟨c, hc⟩ : ∃ c, IntKind.u8.wrap u = c := ⟨_, rfl⟩; rw [hc] at hu2; obtain ⟨hu0, hu1⟩ := hu2; have g7' := gr_undrew g7; (first | (have o67 := owns_ne oLI g7' (fun j hj he => by simp [Value.ownBlock] at hj; simp at he; omega); have B7 := (bel_trans B bLI).grown g7' (bel_trans B bLI).size (fun j hj => by simp at hj; have := HR.out; omega); have s7 : w5.heap.size + 2 ≤ w7.heap.size := (by have h2 := g7'.size; simp at h2; omega)) | (have o67 := owns_ne oIL g7' (fun j hj he => by simp [Value.ownBlock] at hj; simp at he; omega); have B7 := (bel_trans B bIL).grown g7' (bel_trans B bIL).size (fun j hj => by simp at hj; have := HR.out; omega); have s7 : w5.heap.size + 2 ≤ w7.heap.size := (by have h2 := g7'.size; simp at h2; omega)))) | (refine step_append_lies _ (by rfl) _ _ _ (by rfl) w5.heap.size 5 i0 (.int .u8 0) 1 1 Try.underlying22 hi hz0 hz1 hz2 rfl (by omega) _ 0 [] (by rfl) (owns_below o67 (bel_alloc (Below.refl _ _) (.cells #[.int .u8 c] 5))) ⟨w7.heap.size, 0, none⟩ 1 1 [.int .u8 c] (by rfl) rfl (new_u8c w7 c) ?_ (by omega) (by unfold maxLen; omega) (by omega) (by first | (simp; done) | (simp; omega) | omega) _ rfl ?_; (intro u' hu'; simp at hu'; subst hu'; rfl); intro g9 cap9 w9 o9 gr9 hat9 hlt9) | fail)
      all_goals
        have hN : 1 = ([c]).length := by simp
        have o9c := own_both o9 (show 0 + 1 = 1 by omega) (show _ = ([c]).map (Value.int .u8) by simp)
        have B9 := (bel_alloc B7 (.cells #[.int .u8 c] 5)).grown gr9 ((bel_alloc B7 (.cells #[.int .u8 c] 5))).size (fun j hj => by simp [Value.ownBlock] at hj; have h1 := B.size; omega)
        clear hC5 haW ob hC7 o67 o9 gr9 bL bI bLI bIL oL oLI oIL rLI rIL
        go_wp2
        go_ret
        exact raw_of o9c hN (fun z hz => by simp at hz; omega) (by simp; try omega) B9
    have hgl := LB.out g rfl
    have z5 : g < w5.heap.size := (ob.lt g rfl).2
    by_cases hx0 : x = 0
    · subst hx0
      by_cases hM1 : M.length = 0
      · obtain rfl : M = [] := List.length_eq_zero_iff.1 hM1
        clear qb
        by_cases hc0 : cb = 0
        · subst hc0
          go_wp2_with fail
          go_region_law (first | (go_simp; go_at_call 28; refine (l1Pick_any r a ca bs (some ⟨_, 0, none⟩) 4 [0, 1, 128, 3] _ (by simp) (by simp) ?_ ?_ ?_ ?_ hne).mono ?_; (first | exact rLI | exact rIL); (intro z hz; simp at hz; subst hz; simp; omega); (first | exact hCLI | exact hCIL); (first | exact aLI | exact aIL); rintro e w7 ⟨u, hu, rfl, hC7, g7⟩; have hu2 : 0 ≤ IntKind.u8.wrap u ∧ IntKind.u8.wrap u < 256 := (by simp at hu; rcases hu with rfl | rfl | rfl | rfl <;> decide); obtain ⟨c, hc⟩ : ∃ c, IntKind.u8.wrap u = c := ⟨_, rfl⟩; rw [hc] at hu2; obtain ⟨hu0, hu1⟩ := hu2; have g7' := gr_undrew g7; (first | (have o67 := owns_ne oLI g7' (fun j hj he => by simp [Value.ownBlock] at hj; simp at he; omega); have B7 := (bel_trans B bLI).grown g7' (bel_trans B bLI).size (fun j hj => by simp at hj; have := HR.out; omega); have s7 : w5.heap.size + 2 ≤ w7.heap.size := (by have h2 := g7'.size; simp at h2; omega)) | (have o67 := owns_ne oIL g7' (fun j hj he => by simp [Value.ownBlock] at hj; simp at he; omega); have B7 := (bel_trans B bIL).grown g7' (bel_trans B bIL).size (fun j hj => by simp at hj; have := HR.out; omega); have s7 : w5.heap.size + 2 ≤ w7.heap.size := (by have h2 := g7'.size; simp at h2; omega)))) | (refine step_append_lies _ (by rfl) _ _ _ (by rfl) w5.heap.size 5 i0 (.int .u8 0) 1 1 Try.underlying22 hi hz0 hz1 hz2 rfl (by omega) _ 0 [] (by rfl) (owns_below o67 (bel_alloc (Below.refl _ _) (.cells #[.int .u8 c] 5))) ⟨w7.heap.size, 0, none⟩ 1 1 [.int .u8 c] (by rfl) rfl (new_u8c w7 c) ?_ (by omega) (by unfold maxLen; omega) (by omega) (by first | (simp; done) | (simp; omega) | omega) _ rfl ?_; (intro u' hu'; simp at hu'; subst hu'; rfl); intro g9 cap9 w9 o9 gr9 hat9 hlt9) | fail)
          all_goals
            have hN : 1 = ([c]).length := by simp
            have o9c := own_both o9 (show 0 + 1 = 1 by omega) (show _ = ([c]).map (Value.int .u8) by simp)
            have B9 := (bel_alloc B7 (.cells #[.int .u8 c] 5)).grown gr9 ((bel_alloc B7 (.cells #[.int .u8 c] 5))).size (fun j hj => by simp [Value.ownBlock] at hj; have h1 := B.size; omega)
            clear hC5 haW ob hC7 o67 o9 gr9 bL bI bLI bIL oL oLI oIL rLI rIL
            go_wp2
            go_ret
            exact raw_of o9c hN (fun z hz => by simp at hz; omega) (by simp; try omega) B9
        · go_wp2_with fail
          go_region_law (first | (go_simp; go_at_call 28; refine (l1Pick_any r a ca bs (some ⟨_, 0, none⟩) 4 [0, 1, 128, 3] _ (by simp) (by simp) ?_ ?_ ?_ ?_ hne).mono ?_; (first | exact rLI | exact rIL); (intro z hz; simp at hz; subst hz; simp; omega); (first | exact hCLI | exact hCIL); (first | exact aLI | exact aIL); rintro e w7 ⟨u, hu, rfl, hC7, g7⟩; have hu2 : 0 ≤ IntKind.u8.wrap u ∧ IntKind.u8.wrap u < 256 := (by simp at hu; rcases hu with rfl | rfl | rfl | rfl <;> decide); obtain ⟨c, hc⟩ : ∃ c, IntKind.u8.wrap u = c := ⟨_, rfl⟩; rw [hc] at hu2; obtain ⟨hu0, hu1⟩ := hu2; have g7' := gr_undrew g7; (first | (have o67 := owns_ne oLI g7' (fun j hj he => by simp [Value.ownBlock] at hj; simp at he; omega); have B7 := (bel_trans B bLI).grown g7' (bel_trans B bLI).size (fun j hj => by simp at hj; have := HR.out; omega); have s7 : w5.heap.size + 2 ≤ w7.heap.size := (by have h2 := g7'.size; simp at h2; omega)) | (have o67 := owns_ne oIL g7' (fun j hj he => by simp [Value.ownBlock] at hj; simp at he; omega); have B7 := (bel_trans B bIL).grown g7' (bel_trans B bIL).size (fun j hj => by simp at hj; have := HR.out; omega); have s7 : w5.heap.size + 2 ≤ w7.heap.size := (by have h2 := g7'.size; simp at h2; omega)))) | (refine step_append_lies _ (by rfl) _ _ _ (by rfl) w5.heap.size 5 i0 (.int .u8 0) 1 1 Try.underlying22 hi hz0 hz1 hz2 rfl (by omega) _ 0 [] (by rfl) (owns_below o67 (bel_alloc (Below.refl _ _) (.cells #[.int .u8 c] 5))) ⟨w7.heap.size, 0, none⟩ 1 1 [.int .u8 c] (by rfl) rfl (new_u8c w7 c) ?_ (by omega) (by unfold maxLen; omega) (by omega) (by first | (simp; done) | (simp; omega) | omega) _ rfl ?_; (intro u' hu'; simp at hu'; subst hu'; rfl); intro g9 cap9 w9 o9 gr9 hat9 hlt9) | fail)
          all_goals
            have hN : 1 = ([c]).length := by simp
            have o9c := own_both o9 (show 0 + 1 = 1 by omega) (show _ = ([c]).map (Value.int .u8) by simp)
            have B9 := (bel_alloc B7 (.cells #[.int .u8 c] 5)).grown gr9 ((bel_alloc B7 (.cells #[.int .u8 c] 5))).size (fun j hj => by simp [Value.ownBlock] at hj; have h1 := B.size; omega)
            clear hC5 haW ob hC7 o67 o9 gr9 bL bI bLI bIL oL oLI oIL rLI rIL
            go_wp2
            go_ret
            exact raw_of o9c hN (fun z hz => by simp at hz; omega) (by simp; try omega) B9
      · have hcx : ¬ cb = 0 := by omega
        go_wp2_with fail
        go_region_law (first | (go_simp; go_at_call 28; refine (l1Pick_any r a ca bs (some ⟨_, 0, none⟩) 4 [0, 1, 128, 3] _ (by simp) (by simp) ?_ ?_ ?_ ?_ hne).mono ?_; (first | exact rLI | exact rIL); (intro z hz; simp at hz; subst hz; simp; omega); (first | exact hCLI | exact hCIL); (first | exact aLI | exact aIL); rintro e w7 ⟨u, hu, rfl, hC7, g7⟩; have hu2 : 0 ≤ IntKind.u8.wrap u ∧ IntKind.u8.wrap u < 256 := (by simp at hu; rcases hu with rfl | rfl | rfl | rfl <;> decide); obtain ⟨c, hc⟩ : ∃ c, IntKind.u8.wrap u = c := ⟨_, rfl⟩; rw [hc] at hu2; obtain ⟨hu0, hu1⟩ := hu2; have g7' := gr_undrew g7; (first | (have q7 := (qb.below bLI).kept g7' (fun z hz => by simp at hz; subst hz; simp; omega); have o67 := owns_ne oLI g7' (fun j hj he => by simp [Value.ownBlock] at hj; simp at he; omega); have B7 := (bel_trans B bLI).grown g7' (bel_trans B bLI).size (fun j hj => by simp at hj; have := HR.out; omega); have s7 : w5.heap.size + 2 ≤ w7.heap.size := (by have h2 := g7'.size; simp at h2; omega)) | (have q7 := (qb.below bIL).kept g7' (fun z hz => by simp at hz; subst hz; simp; omega); have o67 := owns_ne oIL g7' (fun j hj he => by simp [Value.ownBlock] at hj; simp at he; omega); have B7 := (bel_trans B bIL).grown g7' (bel_trans B bIL).size (fun j hj => by simp at hj; have := HR.out; omega); have s7 : w5.heap.size + 2 ≤ w7.heap.size := (by have h2 := g7'.size; simp at h2; omega)))) | (refine step_append_lies _ (by rfl) _ _ _ (by rfl) w5.heap.size 5 i0 (.int .u8 0) 1 1 Try.underlying22 hi hz0 hz1 hz2 rfl (by omega) (.slice (some ⟨w7.heap.size, 0, none⟩) 1 1) 1 [.int .u8 c] (by rfl) (own_lit1u w7 w5.heap.size c (by omega)) ⟨g, 0, none⟩ M.length cb (M.map (Value.int .u8)) (by rfl) (by simp) (src_of (q7.below (bel_alloc (Below.refl _ _) _))) ?_ (by omega) (by unfold maxLen; omega) (by omega) (by first | (simp; done) | (simp; omega) | omega) _ rfl ?_; (intro u' hu'; obtain ⟨z, _, rfl⟩ := List.mem_map.1 hu'; rfl); intro g8 cap8 w8 o8 gr8 hat8 hlt8; have s8 : w7.heap.size < w8.heap.size := (by have h := gr8.size; simp at h; omega); have o8c : w8.ownsRow w5.heap.size 5 1 (.slice (some ⟨g8, 0, none⟩) (c :: M).length cap8) (c :: M).length ((c :: M).map (Value.int .u8)) := (by have h := own_len o8 (show 1 + M.length = (c :: M).length from (by simp; omega)) (show _ = (c :: M).map (Value.int .u8) from (by simp)); rw [show 1 + M.length = (c :: M).length from (by simp; omega)] at h; exact h); have o68 := owns_ne (owns_below o67 (bel_alloc (Below.refl _ _) (.cells #[.int .u8 c] 5))) gr8 (fun j hj he => by simp [Value.ownBlock] at hj he; omega); have B8 := (bel_alloc B7 (.cells #[.int .u8 c] 5)).grown gr8 (bel_alloc B7 _).size (fun j hj => by simp [Value.ownBlock] at hj; have h1 := B.size; omega)) | (refine step_append_lies _ (by rfl) _ _ _ (by rfl) w5.heap.size 5 i0 (.int .u8 0) 1 1 Try.underlying22 hi hz0 hz1 hz2 rfl (by omega) _ 0 [] (by rfl) o68 ⟨g8, 0, none⟩ (1 + M.length) cap8 ((c :: M).map (Value.int .u8)) (by rfl) (by simp; omega) (src_of (owns_row' o8c (by simp; omega))) ?_ (by omega) (by unfold maxLen; omega) (by omega) (by first | (simp; done) | (simp; omega) | omega) _ rfl ?_; (intro u' hu'; obtain ⟨z, _, rfl⟩ := List.mem_map.1 hu'; rfl); intro g9 cap9 w9 o9 gr9 hat9 hlt9) | fail)
        all_goals
          have hN : 1 + M.length = (c :: M).length := by simp; omega
          have o9c := own_both o9 (show 0 + (1 + M.length) = 1 + M.length by omega) (show _ = (c :: M).map (Value.int .u8) by simp)
          have B9 := B8.grown gr9 (B8).size (fun j hj => by simp [Value.ownBlock] at hj; have h1 := B.size; omega)
          clear hC5 haW ob hC7 o67 o9 gr9 bL bI bLI bIL oL oLI oIL rLI rIL
          go_wp2
          go_ret
          exact raw_of o9c hN (fun z hz => by rcases List.mem_cons.1 hz with rfl | hz; exact ⟨hu0, hu1⟩; exact hmb z hz) (by simp; try omega) B9
    by_cases hxl : x = M.length
    · subst hxl
      have hx1 : 0 < M.length := by omega
      have hsbL := src_of (qb.below bL)
      have hsbLI := src_of (qb.below bLI)
      have hsbIL := src_of (qb.below bIL)
      by_cases hcm : cb = M.length
      · subst hcm
        go_wp2_with fail
        go_region_law (first | (refine step_append_lies _ (by rfl) _ _ _ (by rfl) w5.heap.size 5 i0 (.int .u8 0) 1 1 Try.underlying22 hi hz0 hz1 hz2 rfl (by omega) (.slice (some ⟨w5.heap.size, 0, none⟩) 0 0) 0 [] (by rfl) oL ⟨g, 0, none⟩ M.length _ (M.map (Value.int .u8)) (by rfl) (by simp) hsbL ?_ (by omega) (by unfold maxLen; omega) (by omega) (by first | (simp; done) | (simp; omega) | omega) _ rfl ?_; (intro u' hu'; obtain ⟨z, _, rfl⟩ := List.mem_map.1 hu'; rfl); intro g6 cap6 w6 o6 gr6 hat6 hlt6; have hg6 := gr_undrew gr6; have b56 := bL.grown hg6 bL.size (fun j hj => by rw [hn0.out] at hj; simp at hj; omega); have o6c : w6.ownsRow w5.heap.size 5 1 (.slice (some ⟨g6, 0, none⟩) M.length cap6) M.length (M.map (Value.int .u8)) := (by simpa using o6); have l6 := (o6c.lt g6 rfl); have hC6 := hC5.below b56; have haW6 := haW.below b56; have s56 := b56.size) | (refine step_append_lies _ (by rfl) _ _ _ (by rfl) w5.heap.size 5 i0 (.int .u8 0) 1 1 Try.underlying22 hi hz0 hz1 hz2 rfl (by omega) (.slice (some ⟨w5.heap.size, 0, none⟩) 0 0) 0 [] (by rfl) oLI ⟨g, 0, none⟩ M.length _ (M.map (Value.int .u8)) (by rfl) (by simp) hsbLI ?_ (by omega) (by unfold maxLen; omega) (by omega) (by first | (simp; done) | (simp; omega) | omega) _ rfl ?_; (intro u' hu'; obtain ⟨z, _, rfl⟩ := List.mem_map.1 hu'; rfl); intro g6 cap6 w6 o6 gr6 hat6 hlt6; have hg6 := gr_undrew gr6; have b56 := bLI.grown hg6 bLI.size (fun j hj => by rw [hn0.out] at hj; simp at hj; omega); have r6 := rLI.kept hg6 (fun x hx => by simp at hx; subst hx; simp); have o6c : w6.ownsRow w5.heap.size 5 1 (.slice (some ⟨g6, 0, none⟩) M.length cap6) M.length (M.map (Value.int .u8)) := (by simpa using o6); have l6 := (o6c.lt g6 rfl); have hC6 := hC5.below b56; have haW6 := haW.below b56; have s56 := b56.size) | (refine step_append_lies _ (by rfl) _ _ _ (by rfl) w5.heap.size 5 i0 (.int .u8 0) 1 1 Try.underlying22 hi hz0 hz1 hz2 rfl (by omega) (.slice (some ⟨w5.heap.size + 1, 0, none⟩) 0 0) 0 [] (by rfl) oIL ⟨g, 0, none⟩ M.length _ (M.map (Value.int .u8)) (by rfl) (by simp) hsbIL ?_ (by omega) (by unfold maxLen; omega) (by omega) (by first | (simp; done) | (simp; omega) | omega) _ rfl ?_; (intro u' hu'; obtain ⟨z, _, rfl⟩ := List.mem_map.1 hu'; rfl); intro g6 cap6 w6 o6 gr6 hat6 hlt6; have hg6 := gr_undrew gr6; have b56 := bIL.grown hg6 bIL.size (fun j hj => by rw [hn0.out] at hj; simp at hj; omega); have r6 := rIL.kept hg6 (fun x hx => by simp at hx; subst hx; simp); have o6c : w6.ownsRow w5.heap.size 5 1 (.slice (some ⟨g6, 0, none⟩) M.length cap6) M.length (M.map (Value.int .u8)) := (by simpa using o6); have l6 := (o6c.lt g6 rfl); have hC6 := hC5.below b56; have haW6 := haW.below b56; have s56 := b56.size) | (go_simp; go_at_call 28; refine (l1Pick_any r a ca bs (some ⟨_, 0, none⟩) 4 [0, 1, 128, 3] _ (by simp) (by simp) ?_ ?_ ?_ ?_ hne).mono ?_; (first | exact r6 | exact row_lit w6 [0, 1, 128, 3] (by simp)); (intro z hz; simp at hz; subst hz; simp; omega); (first | exact hC6 | exact hC6.below (bel_alloc (Below.refl _ _) _)); (first | exact haW6 | exact haW6.below (bel_alloc (Below.refl _ _) _)); rintro e w7 ⟨u, hu, rfl, hC7, g7⟩; have hu2 : 0 ≤ IntKind.u8.wrap u ∧ IntKind.u8.wrap u < 256 := (by simp at hu; rcases hu with rfl | rfl | rfl | rfl <;> decide); obtain ⟨c, hc⟩ : ∃ c, IntKind.u8.wrap u = c := ⟨_, rfl⟩; rw [hc] at hu2; obtain ⟨hu0, hu1⟩ := hu2; (first | (have b67 : Below w6.heap.size w6 w6 := Below.refl _ _; have o67 := owns_ne (owns_below o6c b67) g7 (fun j hj he => by simp [Value.ownBlock] at hj; simp at he; omega)) | (have b67 := bel_alloc (Below.refl w6.heap.size w6) (.cells #[.int .i64 0, .int .i64 1, .int .i64 128, .int .i64 3] 3); have o67 := owns_ne (owns_below o6c b67) g7 (fun j hj he => by simp [Value.ownBlock] at hj; simp at he; omega))); have B7 := (bel_trans B (bel_trans b56 b67)).grown g7 (bel_trans B (bel_trans b56 b67)).size (fun j hj => by simp at hj; have := HR.out; omega); have s7 : w6.heap.size ≤ w7.heap.size := (by have h1 := b67.size; have h2 := g7.size; omega)) | (refine step_append_lies _ (by rfl) _ _ _ (by rfl) w5.heap.size 5 i0 (.int .u8 0) 1 1 Try.underlying22 hi hz0 hz1 hz2 rfl (by omega) (.slice (some ⟨g6, 0, none⟩) M.length cap6) M.length (M.map (Value.int .u8)) (by rfl) (owns_below o67 (bel_alloc (Below.refl _ _) (.cells #[.int .u8 c] 5))) ⟨w7.heap.size, 0, none⟩ 1 1 [.int .u8 c] (by rfl) rfl (new_u8c w7 c) ?_ (by omega) (by unfold maxLen; omega) (by omega) (by first | (simp; done) | (simp; omega) | omega) _ rfl ?_; (intro u' hu'; simp at hu'; subst hu'; rfl); intro g9 cap9 w9 o9 gr9 hat9 hlt9) | fail)
        all_goals
          have hN : M.length + 1 = (M ++ [c]).length := by simp
          have o9c := own_both o9 (show M.length + 1 = M.length + 1 by omega) (show _ = (M ++ [c]).map (Value.int .u8) by simp)
          have B9 := (bel_alloc B7 (.cells #[.int .u8 c] 5)).grown gr9 ((bel_alloc B7 (.cells #[.int .u8 c] 5))).size (fun j hj => by simp [Value.ownBlock] at hj; have h1 := B.size; omega)
          clear hC5 haW ob hC7 o67 o9 gr9 bL bI bLI bIL oL oLI oIL rLI rIL
          go_wp2
          go_ret
          exact raw_of o9c hN (fun z hz => by rcases List.mem_append.1 hz with hz | hz; exact hmb z hz; simp at hz; omega) (by simp; try omega) B9
      · have hcm' : ¬ M.length = cb := fun e => hcm e.symm
        go_wp2_with fail
        go_region_law (first | (refine step_append_lies _ (by rfl) _ _ _ (by rfl) w5.heap.size 5 i0 (.int .u8 0) 1 1 Try.underlying22 hi hz0 hz1 hz2 rfl (by omega) (.slice (some ⟨w5.heap.size, 0, none⟩) 0 0) 0 [] (by rfl) oL ⟨g, 0, none⟩ M.length _ (M.map (Value.int .u8)) (by rfl) (by simp) hsbL ?_ (by omega) (by unfold maxLen; omega) (by omega) (by first | (simp; done) | (simp; omega) | omega) _ rfl ?_; (intro u' hu'; obtain ⟨z, _, rfl⟩ := List.mem_map.1 hu'; rfl); intro g6 cap6 w6 o6 gr6 hat6 hlt6; have hg6 := gr_undrew gr6; have b56 := bL.grown hg6 bL.size (fun j hj => by rw [hn0.out] at hj; simp at hj; omega); have o6c : w6.ownsRow w5.heap.size 5 1 (.slice (some ⟨g6, 0, none⟩) M.length cap6) M.length (M.map (Value.int .u8)) := (by simpa using o6); have l6 := (o6c.lt g6 rfl); have hC6 := hC5.below b56; have haW6 := haW.below b56; have s56 := b56.size) | (refine step_append_lies _ (by rfl) _ _ _ (by rfl) w5.heap.size 5 i0 (.int .u8 0) 1 1 Try.underlying22 hi hz0 hz1 hz2 rfl (by omega) (.slice (some ⟨w5.heap.size, 0, none⟩) 0 0) 0 [] (by rfl) oLI ⟨g, 0, none⟩ M.length _ (M.map (Value.int .u8)) (by rfl) (by simp) hsbLI ?_ (by omega) (by unfold maxLen; omega) (by omega) (by first | (simp; done) | (simp; omega) | omega) _ rfl ?_; (intro u' hu'; obtain ⟨z, _, rfl⟩ := List.mem_map.1 hu'; rfl); intro g6 cap6 w6 o6 gr6 hat6 hlt6; have hg6 := gr_undrew gr6; have b56 := bLI.grown hg6 bLI.size (fun j hj => by rw [hn0.out] at hj; simp at hj; omega); have r6 := rLI.kept hg6 (fun x hx => by simp at hx; subst hx; simp); have o6c : w6.ownsRow w5.heap.size 5 1 (.slice (some ⟨g6, 0, none⟩) M.length cap6) M.length (M.map (Value.int .u8)) := (by simpa using o6); have l6 := (o6c.lt g6 rfl); have hC6 := hC5.below b56; have haW6 := haW.below b56; have s56 := b56.size) | (refine step_append_lies _ (by rfl) _ _ _ (by rfl) w5.heap.size 5 i0 (.int .u8 0) 1 1 Try.underlying22 hi hz0 hz1 hz2 rfl (by omega) (.slice (some ⟨w5.heap.size + 1, 0, none⟩) 0 0) 0 [] (by rfl) oIL ⟨g, 0, none⟩ M.length _ (M.map (Value.int .u8)) (by rfl) (by simp) hsbIL ?_ (by omega) (by unfold maxLen; omega) (by omega) (by first | (simp; done) | (simp; omega) | omega) _ rfl ?_; (intro u' hu'; obtain ⟨z, _, rfl⟩ := List.mem_map.1 hu'; rfl); intro g6 cap6 w6 o6 gr6 hat6 hlt6; have hg6 := gr_undrew gr6; have b56 := bIL.grown hg6 bIL.size (fun j hj => by rw [hn0.out] at hj; simp at hj; omega); have r6 := rIL.kept hg6 (fun x hx => by simp at hx; subst hx; simp); have o6c : w6.ownsRow w5.heap.size 5 1 (.slice (some ⟨g6, 0, none⟩) M.length cap6) M.length (M.map (Value.int .u8)) := (by simpa using o6); have l6 := (o6c.lt g6 rfl); have hC6 := hC5.below b56; have haW6 := haW.below b56; have s56 := b56.size) | (go_simp; go_at_call 28; refine (l1Pick_any r a ca bs (some ⟨_, 0, none⟩) 4 [0, 1, 128, 3] _ (by simp) (by simp) ?_ ?_ ?_ ?_ hne).mono ?_; (first | exact r6 | exact row_lit w6 [0, 1, 128, 3] (by simp)); (intro z hz; simp at hz; subst hz; simp; omega); (first | exact hC6 | exact hC6.below (bel_alloc (Below.refl _ _) _)); (first | exact haW6 | exact haW6.below (bel_alloc (Below.refl _ _) _)); rintro e w7 ⟨u, hu, rfl, hC7, g7⟩; have hu2 : 0 ≤ IntKind.u8.wrap u ∧ IntKind.u8.wrap u < 256 := (by simp at hu; rcases hu with rfl | rfl | rfl | rfl <;> decide); obtain ⟨c, hc⟩ : ∃ c, IntKind.u8.wrap u = c := ⟨_, rfl⟩; rw [hc] at hu2; obtain ⟨hu0, hu1⟩ := hu2; (first | (have b67 : Below w6.heap.size w6 w6 := Below.refl _ _; have o67 := owns_ne (owns_below o6c b67) g7 (fun j hj he => by simp [Value.ownBlock] at hj; simp at he; omega)) | (have b67 := bel_alloc (Below.refl w6.heap.size w6) (.cells #[.int .i64 0, .int .i64 1, .int .i64 128, .int .i64 3] 3); have o67 := owns_ne (owns_below o6c b67) g7 (fun j hj he => by simp [Value.ownBlock] at hj; simp at he; omega))); have B7 := (bel_trans B (bel_trans b56 b67)).grown g7 (bel_trans B (bel_trans b56 b67)).size (fun j hj => by simp at hj; have := HR.out; omega); have s7 : w6.heap.size ≤ w7.heap.size := (by have h1 := b67.size; have h2 := g7.size; omega)) | (refine step_append_lies _ (by rfl) _ _ _ (by rfl) w5.heap.size 5 i0 (.int .u8 0) 1 1 Try.underlying22 hi hz0 hz1 hz2 rfl (by omega) (.slice (some ⟨g6, 0, none⟩) M.length cap6) M.length (M.map (Value.int .u8)) (by rfl) (owns_below o67 (bel_alloc (Below.refl _ _) (.cells #[.int .u8 c] 5))) ⟨w7.heap.size, 0, none⟩ 1 1 [.int .u8 c] (by rfl) rfl (new_u8c w7 c) ?_ (by omega) (by unfold maxLen; omega) (by omega) (by first | (simp; done) | (simp; omega) | omega) _ rfl ?_; (intro u' hu'; simp at hu'; subst hu'; rfl); intro g9 cap9 w9 o9 gr9 hat9 hlt9) | fail)
        all_goals
          have hN : M.length + 1 = (M ++ [c]).length := by simp
          have o9c := own_both o9 (show M.length + 1 = M.length + 1 by omega) (show _ = (M ++ [c]).map (Value.int .u8) by simp)
          have B9 := (bel_alloc B7 (.cells #[.int .u8 c] 5)).grown gr9 ((bel_alloc B7 (.cells #[.int .u8 c] 5))).size (fun j hj => by simp [Value.ownBlock] at hj; have h1 := B.size; omega)
          clear hC5 haW ob hC7 o67 o9 gr9 bL bI bLI bIL oL oLI oIL rLI rIL
          go_wp2
          go_ret
          exact raw_of o9c hN (fun z hz => by rcases List.mem_append.1 hz with hz | hz; exact hmb z hz; simp at hz; omega) (by simp; try omega) B9
    have hx1 : 0 < x := by omega
    have hx2 : x < M.length := by omega
    have hcx : ¬ cb = x := by omega
    have hP : Hid ((M.take x).length = x) := by show _ = _; simp; omega
    have hsL := src_take (qb.below bL) x
    have hsLI := src_take (qb.below bLI) x
    have hsIL := src_take (qb.below bIL) x
    have hcl : ((M.take x).map (Value.int .u8)).length = x * 1 := by rw [List.length_map, hP.out, Nat.mul_one]
    have hcd : ((M.drop x).map (Value.int .u8)).length = (M.length - x) * 1 := by simp
    go_wp2_with fail
    go_region_law (first | (refine step_append_lies _ (by rfl) _ _ _ (by rfl) w5.heap.size 5 i0 (.int .u8 0) 1 1 Try.underlying22 hi hz0 hz1 hz2 rfl (by omega) (.slice (some ⟨w5.heap.size, 0, none⟩) 0 0) 0 [] (by rfl) oL ⟨g, 0, none⟩ x cb ((M.take x).map (Value.int .u8)) (by rfl) hcl hsL ?_ (by omega) (by unfold maxLen; omega) (by omega) (by first | (simp; done) | (simp; omega)) _ rfl ?_; (intro u hu; obtain ⟨z, _, rfl⟩ := List.mem_map.1 hu; rfl); intro g6 cap6 w6 o6 gr6 hat6 hlt6; have hg6 := gr_undrew gr6; have b56 := bL.grown hg6 bL.size (fun j hj => by rw [hn0.out] at hj; simp at hj; omega); have o6c : w6.ownsRow w5.heap.size 5 1 (.slice (some ⟨g6, 0, none⟩) x cap6) x ((M.take x).map (Value.int .u8)) := (by simpa using o6); have l6 := (o6c.lt g6 rfl); have q6 := qb.below b56; have hC6 := hC5.below b56; have haW6 := haW.below b56; have s56 := b56.size) | (refine step_append_lies _ (by rfl) _ _ _ (by rfl) w5.heap.size 5 i0 (.int .u8 0) 1 1 Try.underlying22 hi hz0 hz1 hz2 rfl (by omega) (.slice (some ⟨w5.heap.size, 0, none⟩) 0 0) 0 [] (by rfl) oLI ⟨g, 0, none⟩ x cb ((M.take x).map (Value.int .u8)) (by rfl) hcl hsLI ?_ (by omega) (by unfold maxLen; omega) (by omega) (by first | (simp; done) | (simp; omega)) _ rfl ?_; (intro u hu; obtain ⟨z, _, rfl⟩ := List.mem_map.1 hu; rfl); intro g6 cap6 w6 o6 gr6 hat6 hlt6; have hg6 := gr_undrew gr6; have b56 := bLI.grown hg6 bLI.size (fun j hj => by rw [hn0.out] at hj; simp at hj; omega); have r6 := rLI.kept hg6 (fun x hx => by simp at hx; subst hx; simp); have o6c : w6.ownsRow w5.heap.size 5 1 (.slice (some ⟨g6, 0, none⟩) x cap6) x ((M.take x).map (Value.int .u8)) := (by simpa using o6); have l6 := (o6c.lt g6 rfl); have q6 := qb.below b56; have hC6 := hC5.below b56; have haW6 := haW.below b56; have s56 := b56.size) | (refine step_append_lies _ (by rfl) _ _ _ (by rfl) w5.heap.size 5 i0 (.int .u8 0) 1 1 Try.underlying22 hi hz0 hz1 hz2 rfl (by omega) (.slice (some ⟨w5.heap.size + 1, 0, none⟩) 0 0) 0 [] (by rfl) oIL ⟨g, 0, none⟩ x cb ((M.take x).map (Value.int .u8)) (by rfl) hcl hsIL ?_ (by omega) (by unfold maxLen; omega) (by omega) (by first | (simp; done) | (simp; omega)) _ rfl ?_; (intro u hu; obtain ⟨z, _, rfl⟩ := List.mem_map.1 hu; rfl); intro g6 cap6 w6 o6 gr6 hat6 hlt6; have hg6 := gr_undrew gr6; have b56 := bIL.grown hg6 bIL.size (fun j hj => by rw [hn0.out] at hj; simp at hj; omega); have r6 := rIL.kept hg6 (fun x hx => by simp at hx; subst hx; simp); have o6c : w6.ownsRow w5.heap.size 5 1 (.slice (some ⟨g6, 0, none⟩) x cap6) x ((M.take x).map (Value.int .u8)) := (by simpa using o6); have l6 := (o6c.lt g6 rfl); have q6 := qb.below b56; have hC6 := hC5.below b56; have haW6 := haW.below b56; have s56 := b56.size) | (go_simp; go_at_call 28; refine (l1Pick_any r a ca bs (some ⟨_, 0, none⟩) 4 [0, 1, 128, 3] _ (by simp) (by simp) ?_ ?_ ?_ ?_ hne).mono ?_; (first | exact r6 | exact row_lit w6 [0, 1, 128, 3] (by simp)); (intro z hz; simp at hz; subst hz; simp; omega); (first | exact hC6 | exact hC6.below (bel_alloc (Below.refl _ _) _)); (first | exact haW6 | exact haW6.below (bel_alloc (Below.refl _ _) _)); rintro e w7 ⟨u, hu, rfl, hC7, g7⟩; have hu2 : 0 ≤ IntKind.u8.wrap u ∧ IntKind.u8.wrap u < 256 := (by simp at hu; rcases hu with rfl | rfl | rfl | rfl <;> decide); obtain ⟨c, hc⟩ : ∃ c, IntKind.u8.wrap u = c := ⟨_, rfl⟩; rw [hc] at hu2; obtain ⟨hu0, hu1⟩ := hu2; (first | (have b67 : Below w6.heap.size w6 w6 := Below.refl _ _; have q7 := q6.kept g7 (fun z hz => by simp at hz; subst hz; simp; omega)) | (have b67 := bel_alloc (Below.refl w6.heap.size w6) (.cells #[.int .i64 0, .int .i64 1, .int .i64 128, .int .i64 3] 3); have q7 := (q6.below b67).kept g7 (fun z hz => by simp at hz; subst hz; simp; omega))); have o67 := owns_ne (owns_below o6c b67) g7 (fun j hj he => by simp [Value.ownBlock] at hj; simp at he; omega); have rd7 := row_drop q7 x; have B7 := (bel_trans B (bel_trans b56 b67)).grown g7 (bel_trans B (bel_trans b56 b67)).size (fun j hj => by simp at hj; have := HR.out; omega); have s7 : w6.heap.size ≤ w7.heap.size := (by have h1 := b67.size; have h2 := g7.size; omega)) | (refine step_append_lies _ (by rfl) _ _ _ (by rfl) w5.heap.size 5 i0 (.int .u8 0) 1 1 Try.underlying22 hi hz0 hz1 hz2 rfl (by omega) (.slice (some ⟨w7.heap.size, 0, none⟩) 1 1) 1 [.int .u8 c] (by rfl) (own_lit1u w7 w5.heap.size c (by omega)) ⟨g, x, none⟩ (M.length - x) (cb - x) ((M.drop x).map (Value.int .u8)) (by rfl) hcd (src_of (rd7.below (bel_alloc (Below.refl _ _) _))) ?_ (by omega) (by unfold maxLen; omega) (by omega) (by first | (simp; done) | (simp; omega) | omega) _ rfl ?_; (intro u' hu'; obtain ⟨z, _, rfl⟩ := List.mem_map.1 hu'; rfl); intro g8 cap8 w8 o8 gr8 hat8 hlt8; have o8c : w8.ownsRow w5.heap.size 5 1 (.slice (some ⟨g8, 0, none⟩) (1 + (M.length - x)) cap8) (c :: M.drop x).length ((c :: M.drop x).map (Value.int .u8)) := own_len o8 (by simp; omega) (by simp); have o68 := owns_ne (owns_below o67 (bel_alloc (Below.refl _ _) (.cells #[.int .u8 c] 5))) gr8 (fun j hj he => by simp [Value.ownBlock] at hj he; omega); have B8 := (bel_alloc B7 (.cells #[.int .u8 c] 5)).grown gr8 (bel_alloc B7 _).size (fun j hj => by simp [Value.ownBlock] at hj; have h1 := B.size; omega); have s8 : w7.heap.size < w8.heap.size := (by have h := gr8.size; simp at h; omega); have o8c' : w8.ownsRow w5.heap.size 5 1 (.slice (some ⟨g8, 0, none⟩) (c :: M.drop x).length cap8) (c :: M.drop x).length ((c :: M.drop x).map (Value.int .u8)) := (by have h := o8c; rw [show 1 + (M.length - x) = (c :: M.drop x).length from (by simp; omega)] at h; exact h)) | (refine step_append_lies _ (by rfl) _ _ _ (by rfl) w5.heap.size 5 i0 (.int .u8 0) 1 1 Try.underlying22 hi hz0 hz1 hz2 rfl (by omega) (.slice (some ⟨g6, 0, none⟩) x cap6) x ((M.take x).map (Value.int .u8)) (by rfl) o68 ⟨g8, 0, none⟩ (1 + (M.length - x)) cap8 ((c :: M.drop x).map (Value.int .u8)) (by rfl) (by simp; omega) (src_of (owns_row' o8c' (by simp only [List.length_cons, List.length_drop]; omega))) ?_ (by omega) (by unfold maxLen; omega) (by omega) (by first | (simp; done) | (simp; omega) | omega) _ rfl ?_; (intro u' hu'; obtain ⟨z, _, rfl⟩ := List.mem_map.1 hu'; rfl); intro g9 cap9 w9 o9 gr9 hat9 hlt9) | fail)
    all_goals
      have hN : x + (1 + (M.length - x)) = (M.take x ++ c :: M.drop x).length := by simp; omega
      have o9c := own_both o9 (show x + (1 + (M.length - x)) = x + (1 + (M.length - x)) by omega) (show _ = (M.take x ++ c :: M.drop x).map (Value.int .u8) by simp)
      have B9 := B8.grown gr9 B8.size (fun j hj => by simp [Value.ownBlock] at hj; have h1 := B.size; omega)
      clear qb hC5 haW ob q6 hC6 haW6 q7 hC7 o67 o68 o8c o8c' o9 gr9 gr8 g7 rd7 B7 B8 bL bI bLI bIL oL oLI oIL rLI rIL hsL hsLI hsIL
      go_wp2
      go_ret
      exact raw_of o9c hN (bytes_cut hmb x c hu0 hu1) (by simp; omega) B9
  have e0 : ((y : Int) == 0) = false := by simp; omega
  have e1 : ((y : Int) == 1) = false := by simp; omega
  clear hC5 haW ob hne
  go_wp2
  go_ret
  exact ⟨ab, cb, M, rfl, hmb, by omega, hbc, hbm, qb, B⟩
end Go.Proofs.Ytbihhndpjpdbmaa
