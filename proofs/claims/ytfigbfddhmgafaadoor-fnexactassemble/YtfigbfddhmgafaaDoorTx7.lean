/- What the specification's InsRead answers. -/
import Derived.Test.YtfigbfddhmgafaaDoorTx5
import Derived.Test.YtfigbfddhmgafaaDoorTx2
import Derived.BigQuiet
namespace Go.Proofs.YtfigbfddhmgafaaDoor
open Go.RowKit
set_option linter.unusedVariables false

/-- The names of the ops, by number. -/
def nmL (i : Nat) : List UInt8 := if i = 0 then [] else nameT i
/-- The op of a name among the first k: 0, where there is none. -/
def nmOp (s : List UInt8) : Nat → Nat
  | 0 => 0
  | k + 1 => if nmL (k + 1) = s then k + 1 else nmOp s k
theorem nmOp_le (s : List UInt8) : ∀ k, nmOp s k ≤ k
  | 0 => Nat.le_refl _
  | k + 1 => by
    unfold nmOp
    split
    · exact Nat.le_refl _
    · have := nmOp_le s k; omega
theorem splitA_pos (cur s : List UInt8) : 0 < (splitA cur s).length := by
  induction s generalizing cur with
  | nil => simp [splitA]
  | cons c t ih =>
    unfold splitA
    split
    · simp
    · exact ih _
theorem splitA_len (cur s : List UInt8) : (splitA cur s).length ≤ s.length + 1 := by
  induction s generalizing cur with
  | nil => simp [splitA]
  | cons c t ih =>
    unfold splitA
    split
    · have := ih []; simp; omega
    · have := ih (cur ++ [c]); simp; omega
abbrev NMS : Array Value := #[txt [], txt [115, 101, 116], txt [97, 100, 100], txt [109, 111, 114, 101], txt [108, 111, 97, 100], txt [115, 116, 111, 114, 101], txt [115, 119, 97, 112], txt [122, 101, 114, 111], txt [106, 117, 109, 112], txt [104, 97, 108, 116], txt [115, 117, 98]]
theorem nms_at {i : Nat} (h : i < 11) : NMS[i]? = some (txt (nmL i)) := by
  have : i = 0 ∨ i = 1 ∨ i = 2 ∨ i = 3 ∨ i = 4 ∨ i = 5 ∨ i = 6 ∨ i = 7 ∨ i = 8 ∨ i = 9 ∨ i = 10 := by omega
  rcases this with rfl | rfl | rfl | rfl | rfl | rfl | rfl | rfl | rfl | rfl | rfl <;> rfl

theorem tab_le (op : Int) : 0 ≤ tab op ∧ tab op ≤ 15 := by
  unfold tab
  split
  · next h =>
    rcases op_cases h with rfl | rfl | rfl | rfl | rfl | rfl | rfl | rfl | rfl | rfl <;> decide
  · omega
/-- Whether a place has its field k, by the list of the ops. -/
def bt (h : Int) (k : Nat) : Bool := !(bits .and .i64 (h / 2 ^ k) 1 == 0)
/-- Which word is the next one behind k fields. -/
def atF (ws : List (List UInt8)) (h : Int) : Nat → Nat
  | 0 => 1
  | k + 1 => if bt h k && decide (atF ws h k < ws.length) then atF ws h k + 1 else atF ws h k
def cutT (k : Nat) (s : List UInt8) : List UInt8 := if k < 3 then s.drop 1 else s
/-- What field k says. -/
def numF (ws : List (List UInt8)) (h : Int) (k : Nat) : Int := if bt h k && decide (atF ws h k < ws.length) then max (numV (cutT k (ws.getD (atF ws h k) []))) 0 else 0
theorem atF_le (ws : List (List UInt8)) (h : Int) : ∀ k, atF ws h k ≤ k + 1
  | 0 => Nat.le_refl _
  | k + 1 => by
    have := atF_le ws h k
    unfold atF
    split <;> omega
def nF (ws : List (List UInt8)) (h : Int) (k j : Nat) : Int := if j < k then numF ws h j else 0
def nA (ws : List (List UInt8)) (h : Int) (k : Nat) : Array Value := #[.int .i64 (nF ws h k 0), .int .i64 (nF ws h k 1), .int .i64 (nF ws h k 2), .int .i64 (nF ws h k 3)]
theorem nA_same {ws : List (List UInt8)} {h : Int} {k : Nat} (hk : numF ws h k = 0) : nA ws h (k + 1) = nA ws h k := by
  have : ∀ j, nF ws h (k + 1) j = nF ws h k j := fun j => by
    unfold nF
    by_cases e : j = k
    · subst e; rw [if_pos (by omega), if_neg (by omega), hk]
    · by_cases e2 : j < k
      · rw [if_pos (by omega), if_pos e2]
      · rw [if_neg (by omega), if_neg e2]
  unfold nA
  rw [this, this, this, this]
theorem nA_set {ws : List (List UInt8)} {h : Int} {k : Nat} (hk : k < 4) : (nA ws h k).setIfInBounds k (.int .i64 (numF ws h k)) = nA ws h (k + 1) := by
  have : k = 0 ∨ k = 1 ∨ k = 2 ∨ k = 3 := by omega
  rcases this with rfl | rfl | rfl | rfl <;> simp [nA, nF]
theorem nA_at {ws : List (List UInt8)} {h : Int} {k j : Nat} (hj : j < 4) : (nA ws h k)[j]? = some (.int .i64 (nF ws h k j)) := by
  have : j = 0 ∨ j = 1 ∨ j = 2 ∨ j = 3 := by omega
  rcases this with rfl | rfl | rfl | rfl <;> rfl
theorem l1Max_t (a b : Int) (w : World) : Calls Tryd.prog 26 #[.int .i64 a, .int .i64 b] w fun e w' => e = .returned (.int .i64 (max a b)) ∧ w' = w := by
  by_cases h : b < a
  · have HV : Hid (max a b = a) := by show _ = _; omega
    go_enter Tryd.func26, Tryd.ntmps26
    go_wp2
    go_ret
    exact ⟨by rw [HV.out]; rfl, rfl⟩
  · have HV : Hid (max a b = b) := by show _ = _; omega
    go_enter Tryd.func26, Tryd.ntmps26
    go_wp2
    go_ret
    exact ⟨by rw [HV.out]; rfl, rfl⟩

/-- What a line says: op and fields. -/
def rdW (s : List UInt8) : List (List UInt8) := splitA [] s
def rdO (s : List UInt8) : Nat := nmOp ((rdW s).getD 0 []) 10
def rdN (s : List UInt8) (k : Nat) : Int := numF (rdW s) (tab (rdO s)) k
def rdB (s : List UInt8) : Bool := !s.isEmpty && decide (insT (rdO s) (rdN s 0) (rdN s 1) (rdN s 2) (rdN s 3) = s)
def rdV (s : List UInt8) : Array Value := if rdB s then icells (rdO s) (rdN s 0) (rdN s 1) (rdN s 2) (rdN s 3) else icells 0 0 0 0 0

set_option maxRecDepth 100000 in
set_option maxHeartbeats 8000000 in
theorem specInsRead_any (s : List UInt8) (w : World) (hs : s.length ≤ 1048576) : Calls Tryd.prog 9 #[txt s] w fun e w' => e = .returned (.tuple #[.agg (rdV s), .bool (rdB s)]) ∧ Below w.heap.size w w' := by
  have X2 := Box.new w (icells 0 0 0 0 0) 25
  have B := bel_alloc (Below.refl w.heap.size w) (.cells (icells 0 0 0 0 0) 25)
  go_enter Tryd.func9, Tryd.ntmps9
  go_wp2_with fail
  refine (l16Words_any s _ hs).mono ?_
  rintro e w1 ⟨aw, cw, rfl, OW, b1⟩
  have hlw : Hid (∀ j, (Value.slice aw (splitA [] s).length cw).ownBlock = some j → w.heap.size + 1 ≤ j ∧ j < w1.heap.size) := fun j hj => by have h := OW.lt j hj; simp at h; omega
  have hz1 : w.heap.size + 1 ≤ w1.heap.size := by have := b1.size; simp at this; omega
  replace X2 := X2.below b1
  replace B := bel_trans B b1
  clear b1
  go_wp2_with fail
  refine (l16Names_any _).mono ?_
  rintro e w2 ⟨rfl, XN, b2⟩
  replace X2 := X2.below b2
  replace OW := owns_below OW b2
  replace B := bel_trans B b2
  have hz2 : w1.heap.size < w2.heap.size := XN.lt
  clear b2
  obtain ⟨ws, hws⟩ : ∃ ws, splitA [] s = ws := ⟨_, rfl⟩
  have HWS : Hid (splitA [] s = ws) := hws
  have hp : 0 < ws.length := by rw [← hws]; exact splitA_pos _ _
  rw [hws] at OW hlw ⊢
  clear hws
  obtain ⟨g, cap, hv, hgl, hgz⟩ := OW.form (by omega)
  simp only [Value.slice.injEq, true_and] at hv
  obtain ⟨rfl, rfl⟩ := hv
  have hgw : w.heap.size + 1 ≤ g ∧ g < w1.heap.size := hlw.out g rfl
  obtain ⟨w0, hw0⟩ : ∃ x, ws.getD 0 [] = x := ⟨_, rfl⟩
  have hl : ws.length ≤ 1048577 := by
    rw [← HWS.out]
    exact Nat.le_trans (splitA_len [] s) (by omega)
  have bx := bel_alloc (Below.refl w2.heap.size w2) (.cells (icells 0 0 0 0 0) 25)
  have HX6 : Hid (Box (w2.alloc (.cells (icells 0 0 0 0 0) 25)) w2.heap.size (icells (nmOp w0 0 : Nat) 0 0 0 0) 25) := Box.new w2 _ _
  have HK : Hid (∀ W, Below w2.heap.size w2 W → Box W w.heap.size (icells 0 0 0 0 0) 25 ∧ Box W w1.heap.size NMS 9 ∧ W.ownsRow (w.heap.size + 1) 9 1 (.slice (some ⟨g, 0, none⟩) ws.length cw) ws.length (ws.map txt) ∧ Below w.heap.size w W) := fun W b => ⟨X2.below b, XN.below b, owns_below (by simpa using OW) b, bel_trans B b⟩
  have HB6 : Hid (Below w2.heap.size w2 (w2.alloc (.cells (icells 0 0 0 0 0) 25))) := bx
  clear bx X2 XN OW B
  go_wp2
  go_loopw [7] (fun i wr => ∃ k : Nat, 1 ≤ k ∧ k ≤ 11 ∧ i = .int .i64 k ∧ Box wr w2.heap.size (icells (nmOp w0 (k - 1) : Nat) 0 0 0 0) 25 ∧ Below w2.heap.size w2 wr) (fun i _ => 11 - (intOf i).toNat)
  case atStart => exact ⟨1, by omega, by omega, rfl, HX6.out, HB6.out⟩
  case round =>
    obtain ⟨k, hk1, hk, rfl, X6, B6⟩ := hrel
    clear HX6 HB6
    by_cases hk11 : k < 11
    · have hi : (k : Int) < 11 := by omega
      obtain ⟨X2, XN, OW, B⟩ := HK.out _ B6
      have cn : wr.cell? ⟨w1.heap.size, k, none⟩ = some (txt (nmL k)) := by rw [XN.cell k]; exact nms_at hk11
      have c0 : wr.cell? ⟨g, 0, none⟩ = some (txt w0) := by
        rw [OW.cellAt 0 (by omega), List.getElem?_map, List.getElem?_eq_getElem hp, ← hw0]
        simp [List.getD_eq_getElem?_getD, List.getElem?_eq_getElem hp]
      obtain ⟨x0, x1, x2, x3, x4, xz⟩ := X6.at5i
      have fx0 := X6.frozen 0
      have hnn : nmOp w0 (k - 1) ≤ k - 1 := nmOp_le _ _
      by_cases he : nmL k = w0
      · have HE : Hid (nmOp w0 (k + 1 - 1) = k) := by
          show _ = _
          obtain ⟨j, rfl⟩ : ∃ j, k = j + 1 := ⟨k - 1, by omega⟩
          show nmOp w0 (j + 1) = j + 1
          unfold nmOp
          rw [if_pos he]
        rw [he] at cn
        clear X2 XN OW B
        go_wp2
        go_quiet (fail)
        have HB7 : Hid (Below w2.heap.size w2 (wr.drewN nq)) := below_drewN B6 nq
        have HX7 : Hid (Box (wr.drewN nq) w2.heap.size (icells (nmOp w0 (k - 1) : Nat) 0 0 0 0) 25) := X6.below (below_drewN (Below.refl _ _) nq)
        clear x0 x1 x2 x3 x4 xz fx0 X6 B6 cn c0
        obtain ⟨V, hV⟩ : ∃ V, wr.drewN nq = V := ⟨_, rfl⟩
        rw [hV] at HB7 HX7 ⊢
        clear hV
        obtain ⟨x0, x1, x2, x3, x4, xz⟩ := HX7.out.at5i
        have fx0 := HX7.out.frozen 0
        go_wp2
        go_roundw
        case rel => exact ⟨k + 1, by omega, by omega, by go_num, by rw [HE.out]; exact heap_setCell_same V w2.heap.size 0 _ _ _ HX7.out, bel_setCell HB7.out _ _ (Nat.le_refl _)⟩
        case measure => simp [intOf]; omega
      · have HE : Hid (nmOp w0 (k + 1 - 1) = nmOp w0 (k - 1)) := by
          show _ = _
          obtain ⟨j, rfl⟩ : ∃ j, k = j + 1 := ⟨k - 1, by omega⟩
          show nmOp w0 (j + 1) = nmOp w0 j
          rw [nmOp, if_neg he]
        obtain ⟨nk, hnk⟩ : ∃ x, nmL k = x := ⟨_, rfl⟩
        rw [hnk] at cn he
        have he2 : (nk == w0) = false := by simpa using he
        clear X2 XN OW B hnk
        go_wp2
        go_quiet (fail)
        have HB7 : Hid (Below w2.heap.size w2 (wr.drewN nq)) := below_drewN B6 nq
        have HX7 : Hid (Box (wr.drewN nq) w2.heap.size (icells (nmOp w0 (k - 1) : Nat) 0 0 0 0) 25) := X6.below (below_drewN (Below.refl _ _) nq)
        clear x0 x1 x2 x3 x4 xz fx0 X6 B6 cn c0
        go_wp2
        go_roundw
        case rel => exact ⟨k + 1, by omega, by omega, by go_num, by rw [HE.out]; exact HX7.out, HB7.out⟩
        case measure => simp [intOf]; omega
    · have hkk : k = 11 := by omega
      subst hkk
      obtain ⟨op, hop⟩ : ∃ x, nmOp w0 (11 - 1) = x := ⟨_, rfl⟩
      rw [hop] at X6
      obtain ⟨x0, x1, x2, x3, x4, xz⟩ := X6.at5i
      go_wp2_with fail
      refine (l8Has_any op _).mono ?_
      rintro e w4 ⟨rfl, b4⟩
      obtain ⟨h, hh⟩ : ∃ x, tab op = x := ⟨_, rfl⟩
      rw [hh]
      have hb15 : 0 ≤ h ∧ h ≤ 15 := by
        rw [← hh]
        exact tab_le op
      obtain ⟨h0, h15⟩ := hb15
      replace X6 := X6.below b4
      have HB4 : Hid (Below w2.heap.size w2 w4) := bel_trans B6 b4
      have hz4 : w2.heap.size ≤ w4.heap.size := HB4.out.size
      have HX6 : Hid (Box w4 w2.heap.size (icells op 0 0 0 0) 25) := X6
      have HC : Hid (Box (w4.alloc (.cells (nA ws h 0) 3)) w4.heap.size (nA ws h 0) 3) := Box.new w4 _ _
      have HB5 : Hid (Below w4.heap.size w4 (w4.alloc (.cells (nA ws h 0) 3))) := bel_alloc (Below.refl _ _) _
      clear x0 x1 x2 x3 x4 xz X6 B6 b4
      go_wp2
      go_loopw [10, 11] (fun at_ i wr => ∃ k : Nat, k ≤ 4 ∧ i = .int .i64 k ∧ at_ = .int .i64 (atF ws h k : Nat) ∧ Box wr w4.heap.size (nA ws h k) 3 ∧ Below w4.heap.size w4 wr) (fun _ i _ => 4 - (intOf i).toNat)
      case atStart => exact ⟨0, by omega, rfl, rfl, HC.out, HB5.out⟩
      case round =>
        obtain ⟨k, hk, rfl, rfl, XC, B5⟩ := hrel
        clear HC HB5
        have hat := atF_le ws h k
        obtain ⟨t, ht⟩ : ∃ x, atF ws h k = x := ⟨_, rfl⟩
        have HT : Hid (atF ws h k = t) := ht
        rw [ht] at hat ⊢
        clear ht
        by_cases hk4 : k < 4
        · have hi4 : (k : Int) < 4 := by omega
          obtain ⟨bb, hbb⟩ : ∃ x, bits BinOp.and IntKind.i64 (h / 2 ^ k) 1 = x := ⟨_, rfl⟩
          have HBT : Hid (bt h k = !(bb == 0)) := by show _ = _; unfold bt; rw [hbb]
          by_cases hb0 : bb = 0
          · subst hb0
            have HNX : Hid (atF ws h (k + 1) = t ∧ nA ws h (k + 1) = nA ws h k) := by
              have e1 : bt h k = false := by rw [HBT.out]; rfl
              exact ⟨by rw [atF, e1]; exact HT.out, nA_same (by unfold numF; rw [e1]; rfl)⟩
            go_wp2
            go_roundw
            case rel => exact ⟨k + 1, by omega, by go_num, by rw [HNX.out.1], by rw [HNX.out.2]; exact XC, B5⟩
            case measure => simp [intOf]; omega
          · have hbn : (bb == 0) = false := by simpa using hb0
            by_cases hlt : t < ws.length
            · have hlt2 : ¬ ((ws.length : Int) ≤ (t : Int)) := by omega
              obtain ⟨X2, XN, OW, B⟩ := HK.out _ (bel_trans HB4.out B5)
              obtain ⟨sw, hsw⟩ : ∃ x, ws.getD t [] = x := ⟨_, rfl⟩
              have ct : wr.cell? ⟨g, t, none⟩ = some (txt sw) := by
                rw [OW.cellAt t (by omega), List.getElem?_map, List.getElem?_eq_getElem hlt, ← hsw]
                simp [List.getD_eq_getElem?_getD, List.getElem?_eq_getElem hlt]
              have e1 : (bt h k && decide (atF ws h k < ws.length)) = true := by rw [HT.out, HBT.out, hbn]; simpa using hlt
              have HAT : Hid (atF ws h (k + 1) = t + 1) := by show _ = _; rw [atF, e1, HT.out]; rfl
              have HNF : Hid (numF ws h k = max (numV (cutT k sw)) 0) := by show _ = _; unfold numF; rw [e1, HT.out, hsw]; rfl
              clear e1 X2 XN OW B hsw
              by_cases hk3 : k < 3
              · have hi3 : (k : Int) < 3 := by omega
                have hcut : cutT k sw = sw.drop 1 := by unfold cutT; rw [if_pos hk3]
                rw [hcut] at HNF
                clear hcut
                cases sw with
                | nil =>
                  go_wp2_with fail
                  refine (l16Num_any [] _).mono ?_
                  rintro e w6 ⟨rfl, b6⟩
                  replace XC := XC.below b6
                  replace B5 := bel_trans B5 b6
                  clear b6
                  go_wp2_with fail
                  refine (l1Max_t _ 0 _).mono ?_
                  rintro e w7 ⟨rfl, h7⟩
                  subst h7
                  obtain ⟨mx, hmx⟩ : ∃ x, max (numV []) 0 = x := ⟨_, rfl⟩
                  have HMX : Hid (numF ws h k = mx) := HNF.out.trans hmx
                  rw [hmx]
                  clear hmx
                  have cx : w7.cell? ⟨w4.heap.size, k, none⟩ = some (.int .i64 (nF ws h k k)) := by rw [XC.cell k]; exact nA_at hk4
                  have fx := XC.frozen k
                  have xz := XC.lt
                  have HXC : Hid (Box w7 w4.heap.size (nA ws h k) 3) := XC
                  clear XC
                  go_wp2
                  go_roundw
                  case rel => exact ⟨k + 1, by omega, by go_num, by rw [HAT.out]; go_num, by rw [← nA_set hk4, HMX.out]; exact heap_setCell_same w7 w4.heap.size k _ _ _ HXC.out, bel_setCell B5 _ _ (Nat.le_refl _)⟩
                  case measure => simp [intOf]; omega
                | cons c0 tl =>
                  have hsz2 : (⟨(c0 :: tl).toArray⟩ : ByteArray).size = tl.length + 1 := by simp [ByteArray.size]
                  have hex : (⟨(c0 :: tl).toArray⟩ : ByteArray).extract 1 (tl.length + 1) = ⟨tl.toArray⟩ := by rw [ext_txt]; simp
                  go_wp2_with fail
                  refine (l16Num_any tl _).mono ?_
                  rintro e w6 ⟨rfl, b6⟩
                  replace XC := XC.below b6
                  replace B5 := bel_trans B5 b6
                  clear b6
                  go_wp2_with fail
                  refine (l1Max_t _ 0 _).mono ?_
                  rintro e w7 ⟨rfl, h7⟩
                  subst h7
                  obtain ⟨mx, hmx⟩ : ∃ x, max (numV tl) 0 = x := ⟨_, rfl⟩
                  have HMX : Hid (numF ws h k = mx) := HNF.out.trans hmx
                  rw [hmx]
                  clear hmx
                  have cx : w7.cell? ⟨w4.heap.size, k, none⟩ = some (.int .i64 (nF ws h k k)) := by rw [XC.cell k]; exact nA_at hk4
                  have fx := XC.frozen k
                  have xz := XC.lt
                  have HXC : Hid (Box w7 w4.heap.size (nA ws h k) 3) := XC
                  clear XC
                  go_wp2
                  go_roundw
                  case rel => exact ⟨k + 1, by omega, by go_num, by rw [HAT.out]; go_num, by rw [← nA_set hk4, HMX.out]; exact heap_setCell_same w7 w4.heap.size k _ _ _ HXC.out, bel_setCell B5 _ _ (Nat.le_refl _)⟩
                  case measure => simp [intOf]; omega
              · have hi3 : ¬ (k : Int) < 3 := by omega
                have hcut : cutT k sw = sw := by unfold cutT; rw [if_neg hk3]
                rw [hcut] at HNF
                clear hcut
                go_wp2_with fail
                refine (l16Num_any sw _).mono ?_
                rintro e w6 ⟨rfl, b6⟩
                replace XC := XC.below b6
                replace B5 := bel_trans B5 b6
                clear b6
                go_wp2_with fail
                refine (l1Max_t _ 0 _).mono ?_
                rintro e w7 ⟨rfl, h7⟩
                subst h7
                obtain ⟨mx, hmx⟩ : ∃ x, max (numV sw) 0 = x := ⟨_, rfl⟩
                have HMX : Hid (numF ws h k = mx) := HNF.out.trans hmx
                rw [hmx]
                clear hmx
                have cx : w7.cell? ⟨w4.heap.size, k, none⟩ = some (.int .i64 (nF ws h k k)) := by rw [XC.cell k]; exact nA_at hk4
                have fx := XC.frozen k
                have xz := XC.lt
                have HXC : Hid (Box w7 w4.heap.size (nA ws h k) 3) := XC
                clear XC
                go_wp2
                go_roundw
                case rel => exact ⟨k + 1, by omega, by go_num, by rw [HAT.out]; go_num, by rw [← nA_set hk4, HMX.out]; exact heap_setCell_same w7 w4.heap.size k _ _ _ HXC.out, bel_setCell B5 _ _ (Nat.le_refl _)⟩
                case measure => simp [intOf]; omega
            · have hge : (ws.length : Int) ≤ (t : Int) := by omega
              have HNX : Hid (atF ws h (k + 1) = t ∧ nA ws h (k + 1) = nA ws h k) := by
                have e1 : (bt h k && decide (atF ws h k < ws.length)) = false := by rw [HT.out]; simp; omega
                exact ⟨by rw [atF, e1]; exact HT.out, nA_same (by unfold numF; rw [e1]; rfl)⟩
              go_wp2
              go_roundw
              case rel => exact ⟨k + 1, by omega, by go_num, by rw [HNX.out.1], by rw [HNX.out.2]; exact XC, B5⟩
              case measure => simp [intOf]; omega
        · have hkk : k = 4 := by omega
          subst hkk
          have XC4 : Box wr w4.heap.size #[.int .i64 (numF ws h 0), .int .i64 (numF ws h 1), .int .i64 (numF ws h 2), .int .i64 (numF ws h 3)] 3 := by simpa [nA, nF] using XC
          obtain ⟨X2, XN, OW, B⟩ := HK.out _ (bel_trans HB4.out B5)
          have X6 := HX6.out.below B5
          obtain ⟨c0, c1, c2, c3, cz⟩ := XC4.at4
          have HR : Hid (rdO s = op ∧ (∀ j, rdN s j = numF ws h j)) := by
            have e1 : rdW s = ws := HWS.out
            have e2 : rdO s = op := by unfold rdO; rw [e1, hw0]; exact hop
            exact ⟨e2, fun j => by unfold rdN; rw [e1, e2, hh]⟩
          obtain ⟨n0, e0⟩ : ∃ x, numF ws h 0 = x := ⟨_, rfl⟩
          obtain ⟨n1, e1⟩ : ∃ x, numF ws h 1 = x := ⟨_, rfl⟩
          obtain ⟨n2, e2⟩ : ∃ x, numF ws h 2 = x := ⟨_, rfl⟩
          obtain ⟨n3, e3⟩ : ∃ x, numF ws h 3 = x := ⟨_, rfl⟩
          have HN : Hid (rdO s = op ∧ rdN s 0 = n0 ∧ rdN s 1 = n1 ∧ rdN s 2 = n2 ∧ rdN s 3 = n3) := ⟨HR.out.1, (HR.out.2 0).trans e0, (HR.out.2 1).trans e1, (HR.out.2 2).trans e2, (HR.out.2 3).trans e3⟩
          rw [e0] at c0
          rw [e1] at c1
          rw [e2] at c2
          rw [e3] at c3
          have hz6 : w2.heap.size < w4.heap.size := HX6.out.lt
          have hz5 : w4.heap.size ≤ wr.heap.size := B5.size
          have HX2 : Hid (Box wr w.heap.size (icells 0 0 0 0 0) 25) := X2
          have HX7 : Hid (Box wr w2.heap.size (icells op 0 0 0 0) 25) := X6
          have HBB : Hid (Below w.heap.size w wr) := B
          obtain ⟨x0, x1, x2, x3, x4, xz⟩ := X6.at5i
          have fx1 := X6.frozen 1
          have fx2 := X6.frozen 2
          have fx3 := X6.frozen 3
          have fx4 := X6.frozen 4
          obtain ⟨m0, m1, m2, m3, m4, mz⟩ := X2.at5i
          have fm0 := X2.frozen 0
          have fm1 := X2.frozen 1
          have fm2 := X2.frozen 2
          have fm3 := X2.frozen 3
          have fm4 := X2.frozen 4
          clear XC XC4 XN OW HR e0 e1 e2 e3 X2 X6 B B5 HT hat hk HK HB4 HX6
          cases hse : s.isEmpty
          · obtain ⟨V, hV⟩ : ∃ V, (((wr.setCell ⟨w2.heap.size, 1, none⟩ (.int .i64 n0)).setCell ⟨w2.heap.size, 2, none⟩ (.int .i64 n1)).setCell ⟨w2.heap.size, 3, none⟩ (.int .i64 n2)).setCell ⟨w2.heap.size, 4, none⟩ (.int .i64 n3) = V := ⟨_, rfl⟩
            have on : Only wr V (fun b => b = w2.heap.size) := by
              rw [← hV]
              exact ((((Only.refl wr (fun b => b = w2.heap.size)).setCell _ _ rfl).setCell _ _ rfl).setCell _ _ rfl).setCell _ _ rfl
            have HV7 : Hid (Box V w2.heap.size (icells op n0 n1 n2 n3) 25) := by
              show Box _ _ _ _
              rw [← hV]
              exact heap_setCell_same _ _ 4 _ _ _ (heap_setCell_same _ _ 3 _ _ _ (heap_setCell_same _ _ 2 _ _ _ (heap_setCell_same _ _ 1 _ _ _ HX7.out)))
            have HV2 : Hid (Box V w.heap.size (icells 0 0 0 0 0) 25) := HX2.out.only on (by omega)
            have HVB : Hid (Below w.heap.size w V) := on.bel HBB.out (fun i hi => by omega)
            obtain ⟨y0, y1, y2, y3, y4, yz⟩ := HV7.out.at5i
            go_wp2_with fail
            refine (specInsText_any op n0 n1 n2 n3 _).mono ?_
            rintro e w9 ⟨rfl, b9⟩
            have X9 := HV7.out.below b9
            have X2 := HV2.out.below b9
            have B9 : Hid (Below w.heap.size w w9) := bel_trans HVB.out b9
            clear x0 x1 x2 x3 x4 xz y0 y1 y2 y3 y4 yz fx1 fx2 fx3 fx4 m0 m1 m2 m3 m4 mz fm0 fm1 fm2 fm3 fm4 c0 c1 c2 c3 cz b9 on hV HV7 HV2 HVB HX2 HX7 HBB
            obtain ⟨x0, x1, x2, x3, x4, xz⟩ := X9.at5i
            obtain ⟨m0, m1, m2, m3, m4, mz⟩ := X2.at5i
            have fm0 := X2.frozen 0
            have fm1 := X2.frozen 1
            have fm2 := X2.frozen 2
            have fm3 := X2.frozen 3
            have fm4 := X2.frozen 4
            by_cases he : insT op n0 n1 n2 n3 = s
            · have HV : Hid (rdB s = true ∧ rdV s = icells op n0 n1 n2 n3) := by
                obtain ⟨q0, q1, q2, q3, q4⟩ := HN.out
                have e : rdB s = true := by unfold rdB; rw [hse, q0, q1, q2, q3, q4]; simpa using he
                exact ⟨e, by unfold rdV; rw [e, q0, q1, q2, q3, q4]; rfl⟩
              rw [he]
              go_wp2
              refine bodyPost_ret (v := .tuple #[.agg #[.int .i64 op, .int .i64 n0, .int .i64 n1, .int .i64 n2, .int .i64 n3], .bool true]) (by simp [results, Tryd.results9, go_sem, m0, m1, m2, m3, m4]) rfl ?_
              refine ⟨by rw [HV.out.1, HV.out.2], ?_⟩
              repeat refine bel_setCell ?_ _ _ ?_
              · exact B9.out
              all_goals (simp)
            · have HV : Hid (rdB s = false ∧ rdV s = icells 0 0 0 0 0) := by
                obtain ⟨q0, q1, q2, q3, q4⟩ := HN.out
                have e : rdB s = false := by unfold rdB; rw [hse, q0, q1, q2, q3, q4]; simpa using he
                exact ⟨e, by unfold rdV; rw [e]; rfl⟩
              obtain ⟨L, hL⟩ : ∃ L, insT op n0 n1 n2 n3 = L := ⟨_, rfl⟩
              rw [hL] at he ⊢
              have he2 : (L == s) = false := by simpa using he
              have he3 : (L != s) = true := by simpa using he
              go_wp2
              refine bodyPost_ret (v := .tuple #[.agg #[.int .i64 0, .int .i64 0, .int .i64 0, .int .i64 0, .int .i64 0], .bool false]) (by simp [results, Tryd.results9, go_sem, m0, m1, m2, m3, m4]) rfl ?_
              refine ⟨by rw [HV.out.1, HV.out.2], ?_⟩
              repeat refine bel_setCell ?_ _ _ ?_
              · exact B9.out
              all_goals (simp)
          · have HV : Hid (rdB s = false ∧ rdV s = icells 0 0 0 0 0) := by
              have e : rdB s = false := by unfold rdB; rw [hse]; rfl
              exact ⟨e, by unfold rdV; rw [e]; rfl⟩
            go_wp2
            refine bodyPost_ret (v := .tuple #[.agg #[.int .i64 0, .int .i64 0, .int .i64 0, .int .i64 0, .int .i64 0], .bool false]) (by simp [results, Tryd.results9, go_sem, m0, m1, m2, m3, m4]) rfl ?_
            refine ⟨by rw [HV.out.1, HV.out.2], ?_⟩
            repeat refine bel_setCell ?_ _ _ ?_
            · exact HBB.out
            all_goals (simp; try omega)
end Go.Proofs.YtfigbfddhmgafaaDoor
