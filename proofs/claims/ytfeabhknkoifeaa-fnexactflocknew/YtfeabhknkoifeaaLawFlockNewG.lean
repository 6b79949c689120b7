/- The law FnExactFlockNew over any impl.FlockNew that answers as it should (written by mk13w.py). -/
import Derived.Test.YtfeabhknkoifeaaFw3
import Derived.Test.YtfeabhknkoifeaaFw4
import Derived.Test.YtfeabhknkoifeaaOpenC
namespace Go.Proofs.Ytfeabhknkoifeaa
open Go.ChangeShapes Go.WideShapes Go.ChangeAt Go.RowKit
set_option linter.unusedVariables false

theorem only_ofF {w w' : World} {row : Option Nat} (g : w.grownBy w' row) : Only w w' (fun b => row = some b) := (Only.refl w _).grown g (fun j hj => hj)
theorem bel_dnF {w w' : World} {d : Nat} (h : w' = w.drewN d) : Below w.heap.size w w' := by
  subst h
  exact below_drewN (Below.refl _ _) d
theorem cap_F {w : World} {base e size n cap : Nat} {a : Option Addr} {xs : List Value} (h : w.ownsRow base e size (.slice a n cap) n xs) : n ≤ cap ∧ cap ≤ maxLen := by
  rcases h.2 with ⟨h1, h2⟩ | ⟨g, cap', cur, h1, _, _, h3, h4, _⟩
  · simp only [Value.slice.injEq] at h1
    obtain ⟨_, rfl, rfl⟩ := h1
    exact ⟨Nat.le_refl _, Nat.zero_le _⟩
  · simp only [Value.slice.injEq] at h1
    obtain ⟨_, _, rfl⟩ := h1
    exact ⟨h3, h4⟩

namespace LawFnExactFlockNew
set_option maxRecDepth 100000 in
set_option maxHeartbeats 8000000 in
theorem walkG (HI : ∀ (size : Int) (am at0 : Option Addr) (cm cs : Nat) (mem starts : List Int) (w : World), Row .i64 w am mem → mem.length ≤ cm → cm ≤ maxLen → Row .i64 w at0 starts → starts.length ≤ 1048577 → Calls Try.prog 6 #[.int .i64 size, .slice am mem.length cm, .slice at0 starts.length cs] w (FNewP size mem starts w))
    (size : Int) (pm : Option Addr) (cm : Nat) (mem : List Int) (po : Option Addr) (co : Nat) (ks : List Int) (w : World) (hcm : Came .i64 w pm cm mem) (hck : Came .i64 w po co ks) :
    Calls Try.prog 3 #[.int .i64 size, .slice pm mem.length cm, .slice po ks.length co] w fun e w' => e = .returned (.bool true) ∧ Below w.heap.size w w' := by
  by_cases hlm : 1048576 < mem.length
  · have hn : mem.length ≤ maxLen := Nat.le_trans hcm.1 hcm.2.1
    unfold maxLen at hn
    have hl' : (1048576 : Int) < (mem.length : Int) := by omega
    clear hcm hck HI
    go_enter Try.func3, Try.ntmps3
    go_wp2
    go_ret
    exact ⟨rfl, Below.refl _ _⟩
  have hmm : mem.length ≤ 1048576 := by omega
  have HM0 : Hid (Row .i64 w pm mem) := hcm.row (by omega)
  clear hcm hlm
  by_cases hlk : 1048576 < ks.length
  · have hn : ks.length ≤ maxLen := Nat.le_trans hck.1 hck.2.1
    unfold maxLen at hn
    have hl' : (1048576 : Int) < (ks.length : Int) := by omega
    clear hck HI
    go_enter Try.func3, Try.ntmps3
    go_wp2
    go_ret
    exact ⟨rfl, Below.refl _ _⟩
  have hkm : ks.length ≤ 1048576 := by omega
  have HK0 : Hid (Row .i64 w po ks) := hck.row (by omega)
  clear hck hlk
  obtain ⟨D, hD⟩ : ∃ D, theFD size mem ks = D := ⟨_, rfl⟩
  obtain ⟨ok, hok⟩ : ∃ ok, flkB size mem = ok := ⟨_, rfl⟩
  have HP : Hid (∀ W e W', FNewP size mem ks W e W' → ∃ p : FkP, e = .returned (.tuple #[.agg (fkcells D p), .bool ok]) ∧ Fti D p ∧ FkO W' D p ∧ (∀ b, FkB D p b → W.heap.size ≤ b) ∧ Below W.heap.size W W') := fun W e W' h => by
    obtain ⟨p, h1, h2, h3, h4, h5⟩ := h
    have h6 := fnew_ti h2 h3
    rw [hD] at h1 h3 h4 h6
    rw [hok] at h1
    exact ⟨p, h1, h6, h3, h4, h5⟩
  clear hD hok
  have HS : Hid (∀ (q : Option Addr) (c0 : Nat) (u : Option Addr) (c2 : Nat) (W : World), Row .i64 W q mem → mem.length ≤ c0 ∧ c0 ≤ maxLen → Row .i64 W u ks → Calls Try.prog 4 #[.int .i64 size, .slice q mem.length c0, .slice u ks.length c2] W (FNewP size mem ks W)) := fun q c0 u c2 W h h' h'' => specFlockNew_any size q u c0 c2 mem ks W h h'.1 h'.2 h'' (by omega)
  have HI' : Hid (∀ (q : Option Addr) (c0 : Nat) (u : Option Addr) (c2 : Nat) (W : World), Row .i64 W q mem → mem.length ≤ c0 ∧ c0 ≤ maxLen → Row .i64 W u ks → Calls Try.prog 6 #[.int .i64 size, .slice q mem.length c0, .slice u ks.length c2] W (FNewP size mem ks W)) := fun q c0 u c2 W h h' h'' => HI size q u c0 c2 mem ks W h h'.1 h'.2 h'' (by omega)
  clear HI
  have B := Below.refl w.heap.size w
  go_enter Try.func3, Try.ntmps3
  go_wp2_with fail
  refine (toIntS_any pm cm mem _ hmm (HM0.out.below B)).mono ?_
  rintro e w1 ⟨v1, rfl, o1, bw1⟩
  obtain ⟨a1, c1, rfl⟩ := owns_slice o1
  have l1 : Hid (∀ j, (Value.slice a1 mem.length c1).ownBlock = some j → w.heap.size ≤ j ∧ j < w1.heap.size) := fun j h => o1.lt j h
  have zw1 := bw1.size
  replace B := bel_trans B bw1
  clear bw1
  go_wp2_with fail
  refine (toIntS_any po co ks _ hkm (HK0.out.below B)).mono ?_
  rintro e w2 ⟨v2, rfl, o2, bw2⟩
  obtain ⟨a2, c2, rfl⟩ := owns_slice o2
  have l2 : Hid (∀ j, (Value.slice a2 ks.length c2).ownBlock = some j → w1.heap.size ≤ j ∧ j < w2.heap.size) := fun j h => o2.lt j h
  have zw2 := bw2.size
  replace o1 := owns_below o1 bw2
  replace B := bel_trans B bw2
  clear bw2
  go_wp2_with fail
  refine (HS.out a1 c1 a2 c2 _ (owns_row' o1 (by omega)) (cap_F o1) (owns_row' o2 (by omega))).mono ?_
  intro e w3 hp
  obtain ⟨pW, rfl, tW, FW, loW, bw3⟩ := HP.out _ _ _ hp
  clear hp
  have lW : Hid (∀ j, FkB D pW j → w2.heap.size ≤ j ∧ j < w3.heap.size) := fun j h => ⟨loW j h, FW.lt h⟩
  have zw3 := bw3.size
  clear loW
  have TW : Hid (Fti D pW) := tW
  clear tW
  replace o1 := owns_below o1 bw3
  replace o2 := owns_below o2 bw3
  replace B := bel_trans B bw3
  clear bw3
  clear o1 o2
  clear l1 l2 HS
  have pz : True := trivial
  have bx := bel_alloc (Below.refl w3.heap.size w3) (.cells (fkcells D pW) 29)
  have XW := Box.new w3 (fkcells D pW) 29
  have zxW : (w3.alloc (.cells (fkcells D pW) 29)).heap.size = w3.heap.size + 1 := by simp
  replace FW := FW.below bx
  replace B := bel_trans B bx
  clear bx
  go_wp2_with fail
  refine (toIntS_any pm cm mem _ hmm (HM0.out.below B)).mono ?_
  rintro e w4 ⟨v3, rfl, o3, bw4⟩
  obtain ⟨a3, c3, rfl⟩ := owns_slice o3
  have l3 : Hid (∀ j, (Value.slice a3 mem.length c3).ownBlock = some j → (w3.alloc (.cells (fkcells D pW) 29)).heap.size ≤ j ∧ j < w4.heap.size) := fun j h => o3.lt j h
  have zw4 := bw4.size
  replace FW := FW.below bw4
  replace XW := XW.below bw4
  replace B := bel_trans B bw4
  clear bw4
  go_wp2_with fail
  refine (toIntS_any po co ks _ hkm (HK0.out.below B)).mono ?_
  rintro e w5 ⟨v4, rfl, o4, bw5⟩
  obtain ⟨a4, c4, rfl⟩ := owns_slice o4
  have l4 : Hid (∀ j, (Value.slice a4 ks.length c4).ownBlock = some j → w4.heap.size ≤ j ∧ j < w5.heap.size) := fun j h => o4.lt j h
  have zw5 := bw5.size
  replace FW := FW.below bw5
  replace XW := XW.below bw5
  replace o3 := owns_below o3 bw5
  replace B := bel_trans B bw5
  clear bw5
  go_wp2_with fail
  refine (HI'.out a3 c3 a4 c4 _ (owns_row' o3 (by omega)) (cap_F o3) (owns_row' o4 (by omega))).mono ?_
  intro e w6 hp
  obtain ⟨pG, rfl, tG, FG, loG, bw6⟩ := HP.out _ _ _ hp
  clear hp
  have lG : Hid (∀ j, FkB D pG j → w5.heap.size ≤ j ∧ j < w6.heap.size) := fun j h => ⟨loG j h, FG.lt h⟩
  have zw6 := bw6.size
  clear loG
  have TG : Hid (Fti D pG) := tG
  clear tG
  replace FW := FW.below bw6
  replace XW := XW.below bw6
  replace o3 := owns_below o3 bw6
  replace o4 := owns_below o4 bw6
  replace B := bel_trans B bw6
  clear bw6
  have bx := bel_alloc (Below.refl w6.heap.size w6) (.cells (fkcells D pG) 29)
  have XG := Box.new w6 (fkcells D pG) 29
  have zxG : (w6.alloc (.cells (fkcells D pG) 29)).heap.size = w6.heap.size + 1 := by simp
  replace FW := FW.below bx
  replace XW := XW.below bx
  replace o3 := owns_below o3 bx
  replace o4 := owns_below o4 bx
  replace FG := FG.below bx
  replace B := bel_trans B bx
  clear bx
  obtain ⟨x0, x1, x2, x3, xz⟩ := XG.at4
  obtain ⟨y0, y1, y2, y3, yz⟩ := XW.at4
  go_wp2_with fail
  refine (eqFlock_any D pG pW _ (FG.fr TG.out.s) (FW.fr TW.out.s)).mono ?_
  rintro e w7 ⟨rfl, bw7⟩
  have zw7 := bw7.size
  clear x0 x1 x2 x3 xz
  clear y0 y1 y2 y3 yz
  replace FW := FW.below bw7
  replace XW := XW.below bw7
  replace o3 := owns_below o3 bw7
  replace o4 := owns_below o4 bw7
  replace FG := FG.below bw7
  replace XG := XG.below bw7
  replace B := bel_trans B bw7
  clear bw7
  go_wp2_with fail
  refine (toIntS_any pm cm mem _ hmm (HM0.out.below B)).mono ?_
  rintro e w8 ⟨v5, rfl, o5, bw8⟩
  obtain ⟨a5, c5, rfl⟩ := owns_slice o5
  have l5 : Hid (∀ j, (Value.slice a5 mem.length c5).ownBlock = some j → w7.heap.size ≤ j ∧ j < w8.heap.size) := fun j h => o5.lt j h
  have zw8 := bw8.size
  replace FW := FW.below bw8
  replace XW := XW.below bw8
  replace o3 := owns_below o3 bw8
  replace o4 := owns_below o4 bw8
  replace FG := FG.below bw8
  replace XG := XG.below bw8
  replace B := bel_trans B bw8
  clear bw8
  go_wp2_with fail
  refine (eqIntS_any a3 a5 c3 c5 mem _ (owns_row' o3 (by omega)) (owns_row' o5 (by omega))).mono ?_
  rintro e w9 ⟨rfl, dw9, hw9⟩
  have bw9 := bel_dnF hw9
  have zw9 := bw9.size
  clear hw9
  replace FW := FW.below bw9
  replace XW := XW.below bw9
  replace o3 := owns_below o3 bw9
  replace o4 := owns_below o4 bw9
  replace FG := FG.below bw9
  replace XG := XG.below bw9
  replace o5 := owns_below o5 bw9
  replace B := bel_trans B bw9
  clear bw9
  clear o5
  clear l5
  go_wp2_with fail
  refine (toIntS_any po co ks _ hkm (HK0.out.below B)).mono ?_
  rintro e w10 ⟨v6, rfl, o6, bw10⟩
  obtain ⟨a6, c6, rfl⟩ := owns_slice o6
  have l6 : Hid (∀ j, (Value.slice a6 ks.length c6).ownBlock = some j → w9.heap.size ≤ j ∧ j < w10.heap.size) := fun j h => o6.lt j h
  have zw10 := bw10.size
  replace FW := FW.below bw10
  replace XW := XW.below bw10
  replace o3 := owns_below o3 bw10
  replace o4 := owns_below o4 bw10
  replace FG := FG.below bw10
  replace XG := XG.below bw10
  replace B := bel_trans B bw10
  clear bw10
  go_wp2_with fail
  refine (eqIntS_any a4 a6 c4 c6 ks _ (owns_row' o4 (by omega)) (owns_row' o6 (by omega))).mono ?_
  rintro e w11 ⟨rfl, dw11, hw11⟩
  have bw11 := bel_dnF hw11
  have zw11 := bw11.size
  clear hw11
  replace FW := FW.below bw11
  replace XW := XW.below bw11
  replace o3 := owns_below o3 bw11
  replace o4 := owns_below o4 bw11
  replace FG := FG.below bw11
  replace XG := XG.below bw11
  replace o6 := owns_below o6 bw11
  replace B := bel_trans B bw11
  clear bw11
  clear o6
  clear l6
  go_wp2_with fail
  refine (markIntS_any _ mem.length _ 1 _ _ (by omega) (by omega) (by omega) o3).mono ?_
  rintro e w12 ⟨rfl, N3, gw12⟩
  have kw12 := only_ofF gw12
  have zw12 := gw12.size
  clear gw12 o3 N3
  replace FW := FW.sm (kw12.sm (fun j hj hs => by have := l3.out j hs; have := lW.out j hj; omega))
  replace XW := XW.only kw12 (fun hs => by have := l3.out _ hs; have := zxW; omega)
  replace o4 := owns_only o4 kw12 (fun j hj hs => by have := l3.out j hs; have := l4.out j hj; omega)
  replace FG := FG.sm (kw12.sm (fun j hj hs => by have := l3.out j hs; have := lG.out j hj; omega))
  replace XG := XG.only kw12 (fun hs => by have := l3.out _ hs; have := zxG; omega)
  replace B := kw12.bel B (fun j hj => by have := l3.out j hj; omega)
  clear kw12
  clear l3
  go_wp2_with fail
  refine (markIntS_any _ ks.length _ (1 + (mem.length : Int)) _ _ (by omega) (by omega) (by omega) o4).mono ?_
  rintro e w13 ⟨rfl, N4, gw13⟩
  have kw13 := only_ofF gw13
  have zw13 := gw13.size
  clear gw13 o4 N4
  replace FW := FW.sm (kw13.sm (fun j hj hs => by have := l4.out j hs; have := lW.out j hj; omega))
  replace XW := XW.only kw13 (fun hs => by have := l4.out _ hs; have := zxW; omega)
  replace FG := FG.sm (kw13.sm (fun j hj hs => by have := l4.out j hs; have := lG.out j hj; omega))
  replace XG := XG.only kw13 (fun hs => by have := l4.out _ hs; have := zxG; omega)
  replace B := kw13.bel B (fun j hj => by have := l4.out j hj; omega)
  clear kw13
  clear l4
  have hd : decide (1 + (mem.length : Int) + (ks.length : Int) < 0) = false := by simp; omega
  obtain ⟨x0, x1, x2, x3, xz⟩ := XG.at4
  obtain ⟨y0, y1, y2, y3, yz⟩ := XW.at4
  go_wp2_with fail
  refine (eqFlock_any D pG pW _ (FG.fr TG.out.s) (FW.fr TW.out.s)).mono ?_
  rintro e w14 ⟨rfl, bw14⟩
  have zw14 := bw14.size
  clear x0 x1 x2 x3 xz
  clear y0 y1 y2 y3 yz
  replace FW := FW.below bw14
  replace XW := XW.below bw14
  replace FG := FG.below bw14
  replace XG := XG.below bw14
  replace B := bel_trans B bw14
  clear bw14
  obtain ⟨x0, x1, x2, x3, xz⟩ := XG.at4
  go_wp2_with fail
  refine (markFlock_new D pG _ TG.out FG).mono ?_
  rintro e w15 ⟨rfl, MG, kw15⟩
  have zw15 := kw15.size
  clear FG
  clear x0 x1 x2 x3 xz
  replace FW := FW.sm (kw15.sm (fun j hj hs => by have := lG.out j hs; have := lW.out j hj; omega))
  replace XW := XW.only kw15 (fun hs => by have := lG.out _ hs; have := zxW; omega)
  replace XG := XG.only kw15 (fun hs => by have := lG.out _ hs; have := zxG; omega)
  replace B := kw15.bel B (fun j hj => by have := lG.out j hj; omega)
  clear kw15
  have hk2 : 1 ≤ kF2 D pG := by have h1 := (kF1_le TG.out).1; have h2 := kF2_le TG.out; omega
  obtain ⟨K2, hK2⟩ : ∃ K, kF2 D pG = K := ⟨_, rfl⟩
  have HE2 : Hid (kF2 D pG = K2) := hK2
  rw [hK2] at hk2 ⊢
  clear hK2
  have hd2 : decide (K2 < 0) = false := by simp; omega
  obtain ⟨x0, x1, x2, x3, xz⟩ := XG.at4
  go_wp2_with fail
  refine (heldFlock_new D pG _ TG.out MG).mono ?_
  rintro e w16 ⟨rfl, bw16⟩
  rw [HE2.out]
  have zw16 := bw16.size
  clear x0 x1 x2 x3 xz
  replace FW := FW.below bw16
  replace XW := XW.below bw16
  replace XG := XG.below bw16
  replace MG := MG.below bw16
  replace B := bel_trans B bw16
  clear bw16
  go_wp2_with fail
  refine (toIntS_any pm cm mem _ hmm (HM0.out.below B)).mono ?_
  rintro e w17 ⟨v7, rfl, o7, bw17⟩
  obtain ⟨a7, c7, rfl⟩ := owns_slice o7
  have l7 : Hid (∀ j, (Value.slice a7 mem.length c7).ownBlock = some j → w16.heap.size ≤ j ∧ j < w17.heap.size) := fun j h => o7.lt j h
  have zw17 := bw17.size
  replace FW := FW.below bw17
  replace XW := XW.below bw17
  replace XG := XG.below bw17
  replace MG := MG.below bw17
  replace B := bel_trans B bw17
  clear bw17
  go_wp2_with fail
  refine (toIntS_any po co ks _ hkm (HK0.out.below B)).mono ?_
  rintro e w18 ⟨v8, rfl, o8, bw18⟩
  obtain ⟨a8, c8, rfl⟩ := owns_slice o8
  have l8 : Hid (∀ j, (Value.slice a8 ks.length c8).ownBlock = some j → w17.heap.size ≤ j ∧ j < w18.heap.size) := fun j h => o8.lt j h
  have zw18 := bw18.size
  replace FW := FW.below bw18
  replace XW := XW.below bw18
  replace XG := XG.below bw18
  replace MG := MG.below bw18
  replace o7 := owns_below o7 bw18
  replace B := bel_trans B bw18
  clear bw18
  go_wp2_with fail
  refine (HI'.out a7 c7 a8 c8 _ (owns_row' o7 (by omega)) (cap_F o7) (owns_row' o8 (by omega))).mono ?_
  intro e w19 hp
  obtain ⟨pH, rfl, tH, FH, loH, bw19⟩ := HP.out _ _ _ hp
  clear hp
  have lH : Hid (∀ j, FkB D pH j → w18.heap.size ≤ j ∧ j < w19.heap.size) := fun j h => ⟨loH j h, FH.lt h⟩
  have zw19 := bw19.size
  clear loH
  have TH : Hid (Fti D pH) := tH
  clear tH
  replace FW := FW.below bw19
  replace XW := XW.below bw19
  replace XG := XG.below bw19
  replace MG := MG.below bw19
  replace o7 := owns_below o7 bw19
  replace o8 := owns_below o8 bw19
  replace B := bel_trans B bw19
  clear bw19
  clear o7 o8
  clear l7 l8
  have bx := bel_alloc (Below.refl w19.heap.size w19) (.cells (fkcells D pH) 29)
  have XH := Box.new w19 (fkcells D pH) 29
  have zxH : (w19.alloc (.cells (fkcells D pH) 29)).heap.size = w19.heap.size + 1 := by simp
  replace FW := FW.below bx
  replace XW := XW.below bx
  replace XG := XG.below bx
  replace MG := MG.below bx
  replace FH := FH.below bx
  replace B := bel_trans B bx
  clear bx
  obtain ⟨x0, x1, x2, x3, xz⟩ := XH.at4
  obtain ⟨y0, y1, y2, y3, yz⟩ := XW.at4
  go_wp2_with fail
  refine (eqFlock_any D pH pW _ (FH.fr TH.out.s) (FW.fr TW.out.s)).mono ?_
  rintro e w20 ⟨rfl, bw20⟩
  have zw20 := bw20.size
  clear x0 x1 x2 x3 xz
  clear y0 y1 y2 y3 yz
  replace FW := FW.below bw20
  replace XW := XW.below bw20
  replace XG := XG.below bw20
  replace MG := MG.below bw20
  replace FH := FH.below bw20
  replace XH := XH.below bw20
  replace B := bel_trans B bw20
  clear bw20
  clear FH FW XH XW
  clear lH lW
  obtain ⟨x0, x1, x2, x3, xz⟩ := XG.at4
  go_wp2_with fail
  refine (heldFlock_new D pG _ TG.out MG).mono ?_
  rintro e w21 ⟨rfl, bw21⟩
  rw [HE2.out]
  have zw21 := bw21.size
  clear x0 x1 x2 x3 xz
  replace XG := XG.below bw21
  replace MG := MG.below bw21
  replace B := bel_trans B bw21
  clear bw21
  go_wp2
  go_ret
  exact ⟨rfl, B⟩
end LawFnExactFlockNew
end Go.Proofs.Ytfeabhknkoifeaa
