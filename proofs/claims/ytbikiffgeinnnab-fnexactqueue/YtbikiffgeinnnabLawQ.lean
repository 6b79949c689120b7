/- For every sender and every message the law FnExactQueue returns true: Queue answers as the specification, writes into no argument, keeps nothing of one, and its answer owns its memory, behind another call too. Conditions: none. -/
import Derived.Test.YtbikiffgeinnnabOpenS
import Derived.Test.YtbikiffgeinnnabSpecQ3
import Derived.Test.YtbikiffgeinnnabMark2
import Derived.Test.YtbikiffgeinnnabMsg2
import Derived.Deep.RegionWith
import Derived.BigRegion
import Derived.Deep.RegionHeld3
import Derived.Deep.DeepCutAuto
namespace Go.Proofs.Ytbikiffgeinnnab
open Go.ChangeShapes Go.WideShapes Go.ChangeAt Go.RowKit
set_option linter.unusedVariables false

set_option maxHeartbeats 400000 in
theorem markMsg_wide (k p : Int) (o : Bool) (base n : Nat) (a : Option Addr) (c : Nat) (k0 : Int) (xs : List Value) (w : World) (h0 : 0 ≤ k0) (h1 : k0 ≤ 3000000000000) (hn : n ≤ 1048577) (hown : w.ownsRow base 3 1 (.slice a n c) n xs) :
    Calls Try.prog 18 #[.agg #[.int .i64 k, .int .i64 p, .bool o, .slice a n c], .int .i64 k0] w fun e w' => e = .returned (.int .i64 (k0 + n)) ∧ w.grownBy w' (Value.slice a n c).ownBlock := by
  go_enter Try.func18, Try.ntmps18
  go_wp2_with fail
  refine (markIntS_any base n _ k0 xs _ h0 (by omega) (by omega) (hown.alloc _)).mono ?_
  rintro e w1 ⟨rfl, o1, g1⟩
  have g := grownBy_trans (World.grownBy_alloc w (.cells #[.int .i64 k, .int .i64 p, .bool o, .slice a n c] 33) (Value.slice a n c).ownBlock) g1
  clear g1
  go_wp2
  go_ret
  exact ⟨rfl, g⟩

theorem owns_cap {w : World} {base e size n cap : Nat} {a : Option Addr} {xs : List Value} (h : w.ownsRow base e size (.slice a n cap) n xs) : n ≤ cap := by
  rcases h.2 with ⟨h1, h2⟩ | ⟨g, cap', cur, h1, _, _, hc, _⟩
  · simp at h1; omega
  · simp at h1; omega

theorem keep4b {W W' : World} (b : Below W.heap.size W W') {a0 a1 a2 a3 : Addr} {u0 u1 u2 u3 : Value}
    (h : W.cell? a0 = some u0 ∧ W.cell? a1 = some u1 ∧ W.cell? a2 = some u2 ∧ W.cell? a3 = some u3) :
    W'.cell? a0 = some u0 ∧ W'.cell? a1 = some u1 ∧ W'.cell? a2 = some u2 ∧ W'.cell? a3 = some u3 :=
  ⟨cell_later b h.1, cell_later b h.2.1, cell_later b h.2.2.1, cell_later b h.2.2.2⟩

theorem Deep.Lt.mono {a : Option Addr} {c : Nat} {ms : List M} {hi hi' : Nat} (h : Deep.Lt a c ms hi) (hl : hi ≤ hi') : Deep.Lt a c ms hi' := ⟨fun j hj => Nat.lt_of_lt_of_le (h.1 j hj) hl, fun m hm j hj => Nat.lt_of_lt_of_le (h.2 m hm j hj) hl⟩

/-- What Queue answers, said of the messages alone. -/
def QP2 (B : Int) (bq : Bool) (L : List M) (w : World) (e : Ending) (w' : World) : Prop :=
  ∃ (a' : Option Addr) (c' : Nat) (ds : List M), e = .returned (.tuple #[.agg #[.int .i64 B, .slice a' L.length c'], .bool bq]) ∧ ds.map M.say = L.map M.say ∧ Deep w' w.heap.size a' c' ds ∧ Below w.heap.size w w'

theorem QPost.conv {B : Int} {ms ds : List M} {k p : Int} {o : Bool} {am a' : Option Addr} {cm c' : Nat} {xs : List Int} {bq : Bool} {L : List M} {w w' : World} {e : Ending} (h : QPost B ds ⟨k, p, o, a', c', xs⟩ w e w') (hs : ds.map M.say = ms.map M.say) (hb : senderB B (ms ++ [⟨k, p, o, am, cm, xs⟩]) = bq) (hL : (if bq then ms ++ [⟨k, p, o, am, cm, xs⟩] else ms) = L) : QP2 B bq L w e w' := by
  obtain ⟨a1, c1, es, he, hes, hD, hB⟩ := h
  have hs2 : (ds ++ [(⟨k, p, o, a', c', xs⟩ : M)]).map M.say = (ms ++ [(⟨k, p, o, am, cm, xs⟩ : M)]).map M.say := by rw [List.map_append, List.map_append, hs]; rfl
  have hb2 : senderB B (ds ++ [⟨k, p, o, a', c', xs⟩]) = bq := by rw [senderB_say B hs2, hb]
  rw [hb2] at he hes
  have hes2 : es.map M.say = L.map M.say := by
    rw [hes, ← hL]
    cases bq
    · exact hs
    · exact hs2
  have hl : es.length = L.length := by have := congrArg List.length hes2; simpa using this
  rw [hl] at he
  exact ⟨a1, c1, es, he, hes2, hD, hB⟩

theorem specQ2 (B : Int) (a : Option Addr) (c : Nat) (ds ms : List M) (k p : Int) (o : Bool) (am a' : Option Addr) (cm c' : Nat) (xs : List Int) (bq : Bool) (L : List M) (n : Nat) (w : World) (hn : ds.length = n) (ha : MRow w a ds) (hl : n ≤ 1048576) (hxs : ∀ x ∈ ds, x.xs.length ≤ 1048577) (hmx : xs.length ≤ 1048577) (hrm : Row .i64 w a' xs) (hs : ds.map M.say = ms.map M.say) (hb : senderB B (ms ++ [⟨k, p, o, am, cm, xs⟩]) = bq) (hL : (if bq then ms ++ [⟨k, p, o, am, cm, xs⟩] else ms) = L) :
    Calls Try.prog 29 #[.agg #[.int .i64 B, .slice a n c], .agg #[.int .i64 k, .int .i64 p, .bool o, .slice a' xs.length c']] w fun e w' => QP2 B bq L w e w' := by
  subst hn
  exact (specQueue_any B a c ds ⟨k, p, o, a', c', xs⟩ w ha hl hxs hmx hrm).mono fun e w' h => h.conv hs hb hL
theorem implQ2 (B : Int) (a : Option Addr) (c : Nat) (ds ms : List M) (k p : Int) (o : Bool) (am a' : Option Addr) (cm c' : Nat) (xs : List Int) (bq : Bool) (L : List M) (n : Nat) (w : World) (hn : ds.length = n) (ha : MRow w a ds) (hl : n ≤ 1048576) (hc : n ≤ c) (hxs : ∀ x ∈ ds, x.xs.length ≤ 1048577) (hmx : xs.length ≤ 1048577) (hrm : Row .i64 w a' xs) (hs : ds.map M.say = ms.map M.say) (hb : senderB B (ms ++ [⟨k, p, o, am, cm, xs⟩]) = bq) (hL : (if bq then ms ++ [⟨k, p, o, am, cm, xs⟩] else ms) = L) :
    Calls Try.prog 30 #[.agg #[.int .i64 B, .slice a n c], .agg #[.int .i64 k, .int .i64 p, .bool o, .slice a' xs.length c']] w fun e w' => QP2 B bq L w e w' := by
  subst hn
  exact (implQueue_any B a c ds ⟨k, p, o, a', c', xs⟩ w ha hl hc hxs hmx hrm).mono fun e w' h => h.conv hs hb hL

/-- An answer in its box, and its flag. -/
def QR (w0 : World) (B : Int) (bq : Bool) (L : List M) (s6 s7 : Value) (wx : World) : Prop :=
  ∃ (A : Nat) (a' : Option Addr) (c' : Nat) (ds : List M), s6 = .pointer (some ⟨A, 0, none⟩) ∧ s7 = .bool bq ∧ w0.heap.size ≤ A ∧ Box wx A #[.int .i64 B, .slice a' L.length c'] 49 ∧ ds.map M.say = L.map M.say ∧ Deep wx w0.heap.size a' c' ds ∧ Below w0.heap.size w0 wx

theorem QR.new {w0 w5 : World} {B : Int} {bq : Bool} {L ds : List M} {a' : Option Addr} {c' lo : Nat} (hs : ds.map M.say = L.map M.say) (hD : Deep w5 lo a' c' ds) (hlo : w0.heap.size ≤ lo) (hb : Below w0.heap.size w0 w5) :
    QR w0 B bq L (.pointer (some ⟨w5.heap.size, 0, none⟩)) (.bool bq) (w5.alloc (.cells #[.int .i64 B, .slice a' L.length c'] 49)) :=
  ⟨_, a', c', ds, rfl, rfl, hb.size, Box.new w5 _ _, hs, (hD.base hlo).below (bel_alloc (Below.refl _ _) _), bel_alloc hb _⟩

theorem QR.set {w0 w5 : World} {A : Nat} {B : Int} {bq : Bool} {L ds : List M} {a' : Option Addr} {c' lo : Nat} (X : Box w5 A #[.int .i64 0, .slice none 0 0] 49) (hA : w0.heap.size ≤ A) (hAl : A < lo) (hs : ds.map M.say = L.map M.say) (hD : Deep w5 lo a' c' ds) (hb : Below w0.heap.size w0 w5) :
    QR w0 B bq L (.pointer (some ⟨A, 0, none⟩)) (.bool bq) ((w5.setCell ⟨A, 0, none⟩ (.int .i64 B)).setCell ⟨A, 1, none⟩ (.slice a' L.length c')) :=
  ⟨_, a', c', ds, rfl, rfl, hA, heap_setCell_same _ _ 1 _ _ _ (heap_setCell_same _ _ 0 _ _ _ X), hs, ((hD.far _ _ hAl).far _ _ hAl).base (by omega), bel_setCell (bel_setCell hb _ _ hA) _ _ hA⟩

namespace LawFnExactQueue
set_option maxRecDepth 100000 in
set_option maxHeartbeats 8000000 in
theorem walk (B : Int) (a : Option Addr) (ca : Nat) (ms : List M) (k p : Int) (o : Bool) (am : Option Addr) (cm : Nat) (xs : List Int) (w : World) (hcw : MCame w a ca ms ∧ (Lit.int .i64 B).wf = true) (hcm : Came .i64 w am cm xs) (wk : (Lit.int .i64 k).wf = true) (wp : (Lit.int .i64 p).wf = true) :
    Calls Try.prog 7 #[.agg #[.int .i64 B, .slice a ms.length ca], .agg #[.int .i64 k, .int .i64 p, .bool o, .slice am xs.length cm]] w fun e w' => e = .returned (.bool true) ∧ Below w.heap.size w w' := by
  obtain ⟨hc, _⟩ := hcw
  clear wk wp
  have bA := bel_alloc (bel_alloc (Below.refl w.heap.size w) (.cells #[.int .i64 B, .slice a ms.length ca] 44)) (.cells #[.int .i64 k, .int .i64 p, .bool o, .slice am xs.length cm] 30)
  obtain ⟨XA, XB⟩ := Box.two w #[.int .i64 B, .slice a ms.length ca] #[.int .i64 k, .int .i64 p, .bool o, .slice am xs.length cm] 44 30
  have hc := hc.below bA
  have hcm := hcm.below bA
  go_enter Try.func7, Try.ntmps7
  go_wp2_with fail
  refine (szSender_any B a ca ms _ hc).mono ?_
  rintro e w1 ⟨r, rfl, hsz, b1⟩
  have XA := XA.below b1
  have XB := XB.below b1
  have hc := hc.below b1
  have hcm := hcm.below b1
  have B1 := bel_trans bA b1
  clear b1 bA
  rcases hsz with rfl | ⟨h0, h1, hml, hxl⟩
  · clear hc hcm XA XB
    go_wp2
    go_ret
    exact ⟨rfl, B1⟩
  have hd : decide (r < 0) = false := by simp; omega
  obtain ⟨y0, y1, y2, y3, zy⟩ := XB.at4
  have hnm : xs.length ≤ maxLen := Nat.le_trans hcm.1 hcm.2.1
  go_wp2_with fail
  refine (szMsg_gen k p o am xs.length cm r _ h0 h1 hnm).mono ?_
  rintro e w2 ⟨r2, rfl, hsz2, b2⟩
  have XA := XA.below b2
  have XB := XB.below b2
  have hc := hc.below b2
  have hcm := hcm.below b2
  have B1 := bel_trans B1 b2
  clear b2 y0 y1 y2 y3 zy hd
  rcases hsz2 with rfl | ⟨hr2, hr20⟩
  · clear hc hcm XA XB
    go_wp2
    go_ret
    exact ⟨rfl, B1⟩
  have hd : decide (r2 < 0) = false := by simp; omega
  have hxm : xs.length ≤ 1048576 := by omega
  have hr := hc.mrow hml hxl
  have hrm := hcm.row (by omega)
  clear hc hcm hr2
  obtain ⟨x0, x1, zx⟩ := XA.at2
  obtain ⟨y0, y1, y2, y3, zy⟩ := XB.at4
  obtain ⟨bq, hbq⟩ : ∃ bq, senderB B (ms ++ [⟨k, p, o, am, cm, xs⟩]) = bq := ⟨_, rfl⟩
  have HBQ : Hid (senderB B (ms ++ [⟨k, p, o, am, cm, xs⟩]) = bq) := hbq
  obtain ⟨L, hL⟩ : ∃ L, (if bq then ms ++ [⟨k, p, o, am, cm, xs⟩] else ms) = L := ⟨_, rfl⟩
  have HL : Hid ((if bq then ms ++ [⟨k, p, o, am, cm, xs⟩] else ms) = L) := hL
  have hLl : L.length ≤ 1048577 := by
    rw [← hL]
    split
    · simp; omega
    · omega
  have hLx : ∀ m ∈ L, m.xs.length ≤ 1048576 := by
    rw [← hL]
    split
    · intro m hm
      rcases List.mem_append.1 hm with hm | hm
      · exact hxl m hm
      · simp at hm; subst hm; exact hxm
    · exact hxl
  clear hbq hL
  go_upto_region 8 with fail
  go_cut [6, 7] (fun s6 s7 wx => QR w2 B bq L s6 s7 wx)
  case first =>
    go_region_held3 (fun w' => w'.cell? ⟨w.heap.size, 0, none⟩ = some (.int .i64 B) ∧ w'.cell? ⟨w.heap.size, 1, none⟩ = some (.slice a ms.length ca) ∧ w'.cell? ⟨w.heap.size + 1, 0, none⟩ = some (.int .i64 k) ∧ w'.cell? ⟨w.heap.size + 1, 1, none⟩ = some (.int .i64 p) ∧ w'.cell? ⟨w.heap.size + 1, 2, none⟩ = some (.bool o) ∧ w'.cell? ⟨w.heap.size + 1, 3, none⟩ = some (.slice am xs.length cm))
      (first | (with_reducible exact keep6 b5 ‹_›) | (with_reducible exact keep6 b4 ‹_›) | (with_reducible exact keep6 b3 ‹_›) | (with_reducible exact keep6 (bel_alloc B25 _) ⟨x0, x1, y0, y1, y2, y3⟩) | (refine keep6f (keep6f ‹_› ?_) ?_ <;> (have h1 := b3'.size; have h2 := b4'.size; have h3 := zy; simp; omega)) | go_keep)
      (first | (go_at_call 26; refine (toSender_any B a ca ms _ hml hxl ?_).mono ?_; (first | exact hr | exact hr.below (bel_drew (bel_alloc (Below.refl _ _) _))); rintro e w3 ⟨a3, c3, d3, rfl, s3, D3, b3⟩; have b3' : Below w2.heap.size w2 w3 := (by first | exact bel_undrew b3 | exact bel_trans (bel_alloc (Below.refl _ _) _) (bel_undrew b3)); have hl3 : d3.length = ms.length := (by have h := congrArg List.length s3; simpa using h); (first | (have XN := (Box.new w2 #[.int .i64 0, .slice none 0 0] 49).below (bel_undrew b3)) | skip)) | (go_at_call 15; refine (toMsg_any k p o am cm xs _ hxm ?_).mono ?_; (first | exact hrm.below b3' | exact hrm.below (bel_alloc b3' _)); rintro e w4 ⟨v4, rfl, o4, b4⟩; obtain ⟨a4, c4, rfl⟩ := owns_slice o4; have b4' : Below w3.heap.size w3 w4 := (by first | exact b4 | exact bel_trans (bel_alloc (Below.refl _ _) _) b4); (first | (have XN := (Box.new w3 #[.int .i64 0, .slice none 0 0] 49).below b4) | (have XN := XN.below b4') | skip)) | (go_at_call 29; refine (specQ2 B a3 c3 d3 ms k p o am a4 cm c4 xs bq L ms.length _ hl3 ?_ hml (say_len s3 hxl) (by omega) ?_ s3 HBQ.out HL.out).mono ?_; (first | exact (D3.below b4').mrow (by omega) (say_len s3 hxl) | exact ((D3.below b4').below (bel_alloc (Below.refl _ _) _)).mrow (by omega) (say_len s3 hxl)); (first | exact owns_row' o4 (by omega) | exact owns_row' (owns_below o4 (bel_alloc (Below.refl _ _) _)) (by omega)); rintro e w5 ⟨a5, c5, d5, rfl, s5, D5, b5⟩; have b5' : Below w4.heap.size w4 w5 := (by first | exact b5 | exact bel_trans (bel_alloc (Below.refl _ _) _) b5); have B25 := bel_trans b3' (bel_trans b4' b5'); (first | (have XN := (Box.new w4 #[.int .i64 0, .slice none 0 0] 49).below b5; obtain ⟨n0, n1, nz⟩ := XN.at2; have nf0 := XN.frozen 0; have nf1 := XN.frozen 1) | (have XN := XN.below b5'; obtain ⟨n0, n1, nz⟩ := XN.at2; have nf0 := XN.frozen 0; have nf1 := XN.frozen 1) | skip)))
    all_goals go_wp2_with fail
    all_goals go_meet
    all_goals
      have t3 := b3'.size
      have t4 := b4'.size
      have u3 := b3.size
      have u4 := b4.size
      have u5 := b5.size
      first | exact QR.new s5 D5 (by omega) B25 | exact QR.set XN (by omega) (by first | omega | (simp; done) | (simp; omega) | (have h := (bel_undrew b3).size; simp at h; omega) | (simp at u4; omega)) s5 D5 B25
  case rest =>
    clear x0 x1 zx y0 y1 y2 y3 zy hd
    obtain ⟨AW, aW, cW, dW, rfl, rfl, hAW, XW, sW, DW, Bn⟩ := hcut
    have hlW : dW.length = L.length := by have h := congrArg List.length sW; simpa using h
    have LW := DW.lt
    have zW := XW.lt
    have zA := XA.lt
    have zB := XB.lt
    have zn := Bn.size
    obtain ⟨x0, x1, zx⟩ := (XA.below Bn).at2
    go_wp2_with fail
    refine (toSender_any B a ca ms _ hml hxl (hr.below Bn)).mono ?_
    rintro e w3 ⟨a3, c3, d3, rfl, s3, D3, b3⟩
    have hl3 : d3.length = ms.length := by have h := congrArg List.length s3; simpa using h
    have XW := XW.below b3
    have DW := DW.below b3
    have Bn := bel_trans Bn b3
    have z3 := b3.size
    have L3 := D3.lt
    have hc3 : ms.length ≤ c3 := by have h := D3.row; rw [hl3] at h; exact owns_cap h
    clear b3 x0 x1 zx
    obtain ⟨y0, y1, y2, y3, zy⟩ := (XB.below Bn).at4
    go_wp2_with fail
    have bx := bel_alloc (Below.refl w3.heap.size w3) (.cells #[.int .i64 B, .slice a3 ms.length c3] 49)
    have X3 := Box.new w3 #[.int .i64 B, .slice a3 ms.length c3] 49
    have XW := XW.below bx
    have DW := DW.below bx
    have D3 := D3.below bx
    have Bn := bel_trans Bn bx
    clear bx y0 y1 y2 y3 zy
    refine (toMsg_any k p o am cm xs _ hxm (hrm.below Bn)).mono ?_
    rintro e w4 ⟨v4, rfl, O4, b4⟩
    have z4 : w3.heap.size < w4.heap.size := by have := b4.size; simp at this; omega
    have L4 : ∀ j, v4.ownBlock = some j → w3.heap.size + 1 ≤ j ∧ j < w4.heap.size := fun j h => by have := O4.lt j h; simp at this; omega
    obtain ⟨a4, c4, rfl⟩ := owns_slice O4
    have X3 := X3.below b4
    have XW := XW.below b4
    have DW := DW.below b4
    have D3 := D3.below b4
    have Bn := bel_trans Bn b4
    clear b4
    obtain ⟨x0, x1, zx⟩ := X3.at2
    go_wp2_with fail
    have bx := bel_alloc (Below.refl w4.heap.size w4) (.cells #[.int .i64 k, .int .i64 p, .bool o, .slice a4 xs.length c4] 33)
    have X4 := Box.new w4 #[.int .i64 k, .int .i64 p, .bool o, .slice a4 xs.length c4] 33
    have X3 := X3.below bx
    have XW := XW.below bx
    have DW := DW.below bx
    have D3 := D3.below bx
    have O4 := owns_below O4 bx
    have Bn := bel_trans Bn bx
    clear bx x0 x1 zx
    refine (implQ2 B a3 c3 d3 ms k p o am a4 cm c4 xs bq L ms.length _ hl3 (D3.mrow (by omega) (say_len s3 hxl)) hml hc3 (say_len s3 hxl) (by omega) (owns_row' O4 (by omega)) s3 HBQ.out HL.out).mono ?_
    rintro e w6 ⟨a6, c6, d6, rfl, s6, D6, b6⟩
    have hl6 : d6.length = L.length := by have h := congrArg List.length s6; simpa using h
    have z6 : w4.heap.size < w6.heap.size := by have := b6.size; simp at this; omega
    have D6 : Deep w6 (w4.heap.size + 1) a6 c6 d6 := D6.base (by simp)
    have L6 := D6.lt
    have X4 := X4.below b6
    have X3 := X3.below b6
    have XW := XW.below b6
    have DW := DW.below b6
    have D3 := D3.below b6
    have O4 := owns_below O4 b6
    have Bn := bel_trans Bn b6
    clear b6
    obtain ⟨x0, x1, zx⟩ := XW.at2
    go_wp2_with fail
    have bx := bel_alloc (Below.refl w6.heap.size w6) (.cells #[.int .i64 B, .slice a6 L.length c6] 49)
    have X6 := Box.new w6 #[.int .i64 B, .slice a6 L.length c6] 49
    have X4 := X4.below bx
    have X3 := X3.below bx
    have XW := XW.below bx
    have DW := DW.below bx
    have D3 := D3.below bx
    have D6 := D6.below bx
    have O4 := owns_below O4 bx
    have Bn := bel_trans Bn bx
    clear bx x0 x1 zx
    refine (eqSender_any B a6 aW c6 cW d6 dW L.length _ hl6 (sW.trans s6.symm) (D6.mrow (by omega) (say_len s6 hLx)) (DW.mrow (by omega) (say_len sW hLx))).mono ?_
    rintro e w7 ⟨rfl, b7⟩
    have X6 := X6.below b7
    have X4 := X4.below b7
    have X3 := X3.below b7
    have XW := XW.below b7
    have DW := DW.below b7
    have D3 := D3.below b7
    have D6 := D6.below b7
    have O4 := owns_below O4 b7
    have Bn := bel_trans Bn b7
    clear b7
    obtain ⟨x0, x1, zx⟩ := (XA.below Bn).at2
    obtain ⟨y0, y1, zy⟩ := X3.at2
    have q3 := D3.mrow (by omega) (say_len s3 hxl)
    have hrn := hr.below Bn
    go_wp2_with fail
    go_region_held3 (fun w' => w'.cell? ⟨w.heap.size, 0, none⟩ = some (.int .i64 B) ∧ w'.cell? ⟨w.heap.size, 1, none⟩ = some (.slice a ms.length ca) ∧ w'.cell? ⟨w3.heap.size, 0, none⟩ = some (.int .i64 B) ∧ w'.cell? ⟨w3.heap.size, 1, none⟩ = some (.slice a3 ms.length c3))
      (first | (with_reducible exact keep4b b9 ‹_›) | (with_reducible exact keep4b b8 ‹_›) | go_keep)
      (first | (go_at_call 26; refine (toSender_any B a ca ms _ hml hxl ?_).mono ?_; exact hrn; rintro e w8 ⟨a8, c8, d8, rfl, s8, D8, b8⟩; have q8 := D8.mrow (by have h := congrArg List.length s8; simp at h; omega) (say_len s8 hxl)) | (go_at_call 28; refine (eqSender_any B a3 a8 c3 c8 d3 d8 ms.length _ ?_ ?_ ?_ ?_).mono ?_; exact hl3; exact s8.trans s3.symm; exact q3.below (bel_undrew b8); exact q8; rintro e w9 ⟨rfl, b9⟩))
    have b79 := bel_trans (bel_undrew b8) b9
    have X6 := X6.below b79
    have X4 := X4.below b79
    have X3 := X3.below b79
    have XW := XW.below b79
    have DW := DW.below b79
    have D3 := D3.below b79
    have D6 := D6.below b79
    have O4 := owns_below O4 b79
    have Bn := bel_trans Bn b79
    clear b79 b8 b9 q3 q8 D8 s8 x0 x1 zx y0 y1 zy hrn
    obtain ⟨x0, x1, x2, x3, zx⟩ := (XB.below Bn).at4
    obtain ⟨y0, y1, y2, y3, zy⟩ := X4.at4
    have q4 := owns_row' O4 (by omega)
    have hrn := hrm.below Bn
    go_wp2_with fail
    go_region_held3 (fun w' => w'.cell? ⟨w.heap.size + 1, 0, none⟩ = some (.int .i64 k) ∧ w'.cell? ⟨w.heap.size + 1, 1, none⟩ = some (.int .i64 p) ∧ w'.cell? ⟨w.heap.size + 1, 2, none⟩ = some (.bool o) ∧ w'.cell? ⟨w.heap.size + 1, 3, none⟩ = some (.slice am xs.length cm) ∧ w'.cell? ⟨w4.heap.size, 0, none⟩ = some (.int .i64 k) ∧ w'.cell? ⟨w4.heap.size, 1, none⟩ = some (.int .i64 p) ∧ w'.cell? ⟨w4.heap.size, 2, none⟩ = some (.bool o) ∧ w'.cell? ⟨w4.heap.size, 3, none⟩ = some (.slice a4 xs.length c4))
      (first | (with_reducible exact keep8 b11 ‹_›) | (with_reducible exact keep8 b10 ‹_›) | go_keep)
      (first | (go_at_call 15; refine (toMsg_any k p o am cm xs _ hxm ?_).mono ?_; exact hrn; rintro e w10 ⟨v10, rfl, o10, b10⟩; obtain ⟨a10, c10, rfl, q10, _, _⟩ := owns_row o10 (by omega)) | (go_at_call 17; refine (eqMsg_any k p o a4 a10 c4 c10 xs _ ?_ ?_).mono ?_; exact q4.below (bel_undrew b10); exact q10; rintro e w11 ⟨rfl, b11⟩))
    have b79 := bel_trans (bel_undrew b10) b11
    have X6 := X6.below b79
    have X4 := X4.below b79
    have X3 := X3.below b79
    have XW := XW.below b79
    have DW := DW.below b79
    have D3 := D3.below b79
    have D6 := D6.below b79
    have O4 := owns_below O4 b79
    have Bn := bel_trans Bn b79
    clear b79 b10 b11 q4 q10 o10 x0 x1 x2 x3 zx y0 y1 y2 y3 zy hrn
    obtain ⟨y0, y1, zy⟩ := X3.at2
    have hmk := markSender_any B wc.heap.size w3.heap.size a3 c3 d3 1 w11 (by omega) (by omega) (by omega) (say_len s3 hxl) D3 L3
    rw [hl3] at hmk
    obtain ⟨kx, hkx⟩ : ∃ kx, markEnd 1 d3 = kx := ⟨_, rfl⟩
    have hkb : 1 ≤ kx ∧ kx ≤ 2000000000000 := by
      have h := markEnd_bound 1 d3 1048577 (say_len s3 hxl)
      have hm : ((d3.length : Nat) : Int) * (3 + (1048577 : Nat)) ≤ 1048577 * (3 + (1048577 : Nat)) := Int.mul_le_mul_of_nonneg_right (by omega) (by omega)
      omega
    rw [hkx] at hmk
    obtain ⟨hk1, hk2⟩ := hkb
    clear hkx
    go_wp2_with fail
    refine hmk.mono ?_
    rintro e w12 ⟨rfl, _, K12⟩
    have XW := XW.keep K12 (.inl zW)
    have DW := DW.keepLow K12 LW
    have X4 := X4.keep K12 (.inr (by omega))
    have X6 := X6.keep K12 (.inr (by omega))
    have D6 := D6.keepHigh K12 (by omega)
    have O4 := owns_keep O4 K12 (fun j hj => .inr (by have := L4 j hj; omega))
    have Bn := K12.bel Bn zn
    clear K12 D3 X3 y0 y1 zy hmk
    obtain ⟨y0, y1, y2, y3, zy⟩ := X4.at4
    go_wp2_with fail
    refine (markMsg_wide k p o _ xs.length a4 c4 kx _ _ (by omega) (by omega) (by omega) O4).mono ?_
    rintro e w13 ⟨rfl, g13⟩
    have K13 : Kept w12 w13 (w3.heap.size + 1) w4.heap.size := (Kept.refl _ _ _).grown g13 L4
    have XW := XW.keep K13 (.inl (by omega))
    have DW := DW.keepLow K13 (LW.mono (by omega))
    have X6 := X6.keep K13 (.inr (by omega))
    have D6 := D6.keepHigh K13 (by omega)
    have Bn := K13.bel Bn (by omega)
    clear K13 g13 O4 X4 y0 y1 y2 y3 zy
    have hd : decide (kx + (xs.length : Int) < 0) = false := by simp; omega
    obtain ⟨x0, x1, zx⟩ := XW.at2
    obtain ⟨y0, y1, zy⟩ := X6.at2
    go_wp2_with fail
    refine (eqSender_any B a6 aW c6 cW d6 dW L.length _ hl6 (sW.trans s6.symm) (D6.mrow (by omega) (say_len s6 hLx)) (DW.mrow (by omega) (say_len sW hLx))).mono ?_
    rintro e w14 ⟨rfl, b14⟩
    have X6 := X6.below b14
    have XW := XW.below b14
    have DW := DW.below b14
    have D6 := D6.below b14
    have Bn := bel_trans Bn b14
    clear b14 x0 x1 zx y0 y1 zy hd
    obtain ⟨y0, y1, zy⟩ := X6.at2
    have hmk := markSender_any B (w4.heap.size + 1) w6.heap.size a6 c6 d6 1 w14 (by omega) (by omega) (by omega) (say_len s6 hLx) D6 L6
    rw [hl6] at hmk
    go_wp2_with fail
    refine hmk.mono ?_
    rintro e w15 ⟨rfl, D6, K15⟩
    have XW := XW.keep K15 (.inl (by omega))
    have DW := DW.keepLow K15 (LW.mono (by omega))
    have X6 := X6.keep K15 (.inr (by omega))
    have Bn := K15.bel Bn (by omega)
    clear K15 y0 y1 zy hmk
    obtain ⟨y0, y1, zy⟩ := X6.at2
    have hhd : ∀ w', Deep w' (w4.heap.size + 1) a6 c6 (markMs 1 d6) → Calls Try.prog 32 #[.agg #[.int .i64 B, .slice a6 L.length c6], .int .i64 1] w' fun e w'' => e = .returned (.int .i64 (markEnd 1 d6)) ∧ Below w'.heap.size w' w'' := fun w' hD => by
      have h := heldSender_any B (w4.heap.size + 1) a6 c6 d6 1 w' (by omega) (by omega) (by omega) (say_len s6 hLx) hD
      rw [hl6] at h
      exact h
    have HHD : Hid (∀ w', Deep w' (w4.heap.size + 1) a6 c6 (markMs 1 d6) → Calls Try.prog 32 #[.agg #[.int .i64 B, .slice a6 L.length c6], .int .i64 1] w' fun e w'' => e = .returned (.int .i64 (markEnd 1 d6)) ∧ Below w'.heap.size w' w'') := hhd
    have hge : 1 ≤ markEnd 1 d6 := (markEnd_bound 1 d6 1048577 (say_len s6 hLx)).1
    obtain ⟨ke, hke⟩ : ∃ ke, markEnd 1 d6 = ke := ⟨_, rfl⟩
    rw [hke] at hge
    have HKE : Hid (markEnd 1 d6 = ke) := hke
    rw [hke]
    clear hke hhd
    go_wp2_with fail
    refine (HHD.out _ D6).mono ?_
    rintro e w16 ⟨rfl, b16⟩
    rw [HKE.out]
    have X6 := X6.below b16
    have XW := XW.below b16
    have DW := DW.below b16
    have D6 := D6.below b16
    have Bn := bel_trans Bn b16
    clear b16 y0 y1 zy
    have hd : decide (ke < 0) = false := by simp; omega
    obtain ⟨x0, x1, zx⟩ := (XA.below Bn).at2
    obtain ⟨y0, y1, y2, y3, zy⟩ := (XB.below Bn).at4
    have hrn := hr.below Bn
    have hrmn := hrm.below Bn
    go_upto_region 31 with fail
    go_cut [15, 16] (fun s15 s16 wx => QR w16 B bq L s15 s16 wx)
    case first =>
      go_region_held3 (fun w' => w'.cell? ⟨w.heap.size, 0, none⟩ = some (.int .i64 B) ∧ w'.cell? ⟨w.heap.size, 1, none⟩ = some (.slice a ms.length ca) ∧ w'.cell? ⟨w.heap.size + 1, 0, none⟩ = some (.int .i64 k) ∧ w'.cell? ⟨w.heap.size + 1, 1, none⟩ = some (.int .i64 p) ∧ w'.cell? ⟨w.heap.size + 1, 2, none⟩ = some (.bool o) ∧ w'.cell? ⟨w.heap.size + 1, 3, none⟩ = some (.slice am xs.length cm))
        (first | (with_reducible exact keep6 b5 ‹_›) | (with_reducible exact keep6 b4 ‹_›) | (with_reducible exact keep6 b3 ‹_›) | (with_reducible exact keep6 (bel_alloc B25 _) ⟨x0, x1, y0, y1, y2, y3⟩) | (refine keep6f (keep6f ‹_› ?_) ?_ <;> (have h1 := b3'.size; have h2 := b4'.size; have h3 := zy; simp; omega)) | go_keep)
        (first | (go_at_call 26; refine (toSender_any B a ca ms _ hml hxl ?_).mono ?_; (first | exact hrn | exact hrn.below (bel_drew (bel_alloc (Below.refl _ _) _))); rintro e v3 ⟨a3, c3, d3, rfl, s3, D3, b3⟩; have b3' : Below w16.heap.size w16 v3 := (by first | exact bel_undrew b3 | exact bel_trans (bel_alloc (Below.refl _ _) _) (bel_undrew b3)); have hl3 : d3.length = ms.length := (by have h := congrArg List.length s3; simpa using h); have hc3 : ms.length ≤ c3 := (by have h := D3.row; rw [hl3] at h; exact owns_cap h); (first | (have XN := (Box.new w16 #[.int .i64 0, .slice none 0 0] 49).below (bel_undrew b3)) | skip)) | (go_at_call 15; refine (toMsg_any k p o am cm xs _ hxm ?_).mono ?_; (first | exact hrmn.below b3' | exact hrmn.below (bel_alloc b3' _)); rintro e v4 ⟨vv4, rfl, o4, b4⟩; obtain ⟨a4, c4, rfl⟩ := owns_slice o4; have b4' : Below v3.heap.size v3 v4 := (by first | exact b4 | exact bel_trans (bel_alloc (Below.refl _ _) _) b4); (first | (have XN := (Box.new v3 #[.int .i64 0, .slice none 0 0] 49).below b4) | (have XN := XN.below b4') | skip)) | (go_at_call 30; refine (implQ2 B a3 c3 d3 ms k p o am a4 cm c4 xs bq L ms.length _ hl3 ?_ hml hc3 (say_len s3 hxl) (by omega) ?_ s3 HBQ.out HL.out).mono ?_; (first | exact (D3.below b4').mrow (by omega) (say_len s3 hxl) | exact ((D3.below b4').below (bel_alloc (Below.refl _ _) _)).mrow (by omega) (say_len s3 hxl)); (first | exact owns_row' o4 (by omega) | exact owns_row' (owns_below o4 (bel_alloc (Below.refl _ _) _)) (by omega)); rintro e v5 ⟨a5, c5, d5, rfl, s5, D5, b5⟩; have b5' : Below v4.heap.size v4 v5 := (by first | exact b5 | exact bel_trans (bel_alloc (Below.refl _ _) _) b5); have B25 := bel_trans b3' (bel_trans b4' b5'); (first | (have XN := (Box.new v4 #[.int .i64 0, .slice none 0 0] 49).below b5; obtain ⟨n0, n1, nz⟩ := XN.at2; have nf0 := XN.frozen 0; have nf1 := XN.frozen 1) | (have XN := XN.below b5'; obtain ⟨n0, n1, nz⟩ := XN.at2; have nf0 := XN.frozen 0; have nf1 := XN.frozen 1) | skip)))
      all_goals go_wp2_with fail
      all_goals go_meet
      all_goals
        have t3 := b3'.size
        have t4 := b4'.size
        have u3 := b3.size
        have u4 := b4.size
        have u5 := b5.size
        first | exact QR.new s5 D5 (by omega) B25 | exact QR.set XN (by omega) (by first | omega | (simp; done) | (simp; omega) | (have h := (bel_undrew b3).size; simp at h; omega) | (simp at u4; omega)) s5 D5 B25
    case rest =>
      clear x0 x1 zx y0 y1 y2 y3 zy hrn hrmn
      obtain ⟨AH, aH, cH, dH, rfl, rfl, hAH, XH, sH, DH, bH⟩ := hcut
      have X6 := X6.below bH
      have XW := XW.below bH
      have DW := DW.below bH
      have D6 := D6.below bH
      have Bn := bel_trans Bn bH
      have hlH : dH.length = L.length := by have h := congrArg List.length sH; simpa using h
      clear bH
      obtain ⟨x0, x1, zx⟩ := XW.at2
      obtain ⟨y0, y1, zy⟩ := XH.at2
      go_wp2_with fail
      refine (eqSender_any B aH aW cH cW dH dW L.length _ hlH (sW.trans sH.symm) (DH.mrow (by omega) (say_len sH hLx)) (DW.mrow (by omega) (say_len sW hLx))).mono ?_
      rintro e w17 ⟨rfl, b17⟩
      have X6 := X6.below b17
      have D6 := D6.below b17
      have Bn := bel_trans Bn b17
      clear b17 x0 x1 zx y0 y1 zy DW XW DH XH
      obtain ⟨y0, y1, zy⟩ := X6.at2
      go_wp2_with fail
      refine (HHD.out _ D6).mono ?_
      rintro e w18 ⟨rfl, b18⟩
      rw [HKE.out]
      have Bn := bel_trans (bel_trans B1 Bn) b18
      clear b18 y0 y1 zy D6 X6
      go_wp2
      go_ret
      exact ⟨rfl, Bn⟩

set_option maxRecDepth 100000 in
theorem lifted (os : Os) (started : os.Started) (H : Type) (enc : TypeId × Value → H) :
    ReturnsInHanded {} Try.checked os 7 .any (Rows.fnExactQueueSpec.pre6 enc Try.prog Try.f7 Rows.fnExactQueueRow.domain false) (Rows.fnExactQueueSpec.post enc Try.prog Try.f7 false true false false) := by
  refine returnsInHanded_of_change (C := Try.checked) own started (by kernel_rfl) Try.func7
    (ChangeSpec.witness6 (enc := enc) (C := Try.checked) false ⟨#[], #[.agg #[.int .i64 0, .slice none 0 0], .agg #[.int .i64 0, .int .i64 0, .bool false, .slice none 0 0]], []⟩ 8 (by kernel_rfl) (by kernel_rfl) (by kernel_rfl) (by kernel_rfl)) ?_
  intro W base args ds gs before hval0 hW hcnd _
  have hval : ∀ (j : Nat) t v, Try.f7.params[j]? = some t → args[j]? = some v → Value.okWide Try.prog W .any base t v := hval0
  have hW' := hW
  obtain ⟨p, q, hA0, hV, rfl, hfz, hnd⟩ := hW
  have hA : DataW.TrodAll enc Try.prog W 0 (fun _ => true) true Try.f7.params.toList args.toList ds p := hA0
  rw [Try.params7] at hA hval
  obtain ⟨v0, vs0, d0, ds0, p0, q0, hargs, rfl, rfl, h0, r0⟩ := trodAll_cons hA
  obtain ⟨v1, vs1, d1, ds1, p1, q1, rfl, rfl, rfl, h1, r1⟩ := trodAll_cons r0
  obtain ⟨rfl, rfl, rfl⟩ := trodAll_nil r1
  obtain rfl : args = #[v0, v1] := by cases args; simp_all
  obtain ⟨rfl, rfl⟩ := trodVars_none hV
  have k0 := h0
  have lt0 : ∀ x ∈ p0, x.block < W.heap.size := by obtain ⟨m, hm⟩ := k0; exact DataW.trod_lt m _ _ _ hm
  obtain ⟨f0, a0, cap0, x0, rfl, w0⟩ := open_sender (hval 0 44 v0 rfl rfl) h0
  have k1 := h1
  have lt1 : ∀ x ∈ p1, x.block < W.heap.size := by obtain ⟨m, hm⟩ := k1; exact DataW.trod_lt m _ _ _ hm
  obtain ⟨c0, c1, c2, c3, y0, y1, y2, y3, fu, rfl, _, _, hy0, hy1, hy2, hy3⟩ := Go.Joins.open_agg4 Try.underlying30 (by kernel_rfl) (by kernel_rfl) (hval 1 30 v1 rfl rfl) h1
  obtain ⟨mk1, e0, _, wk1⟩ := DataW.trod_int Try.underlying3 hy0
  obtain ⟨mp1, e1, _, wp1⟩ := DataW.trod_int Try.underlying3 hy1
  obtain ⟨mo1, e2, _⟩ := DataW.trod_bool Try.underlying4 hy2
  simp only [List.cons.injEq, and_true] at e0 e1 e2
  subst e0 e1 e2
  obtain ⟨a1, cap1, x1, rfl, w1⟩ : ∃ (a : Option Addr) (cap : Nat) (xs : List Int), c3 = .slice a xs.length cap ∧ Came .i64 W a cap xs := by
    rcases open_ints Try.underlying28 Try.underlying3 (by kernel_rfl) hy3 with ⟨hcs, _⟩ | ⟨x, l, c, zs, hcs, _, hl, hm, hz, _, hcell, hwz⟩
    · simp only [List.cons.injEq, and_true] at hcs
      exact ⟨none, 0, [], hcs, came_nil _ _⟩
    · simp only [List.cons.injEq, and_true] at hcs
      have hc := came_of hl hm (by simpa using hz) hcell hwz
      exact ⟨some x, c, zs.take l, by rw [hc.1]; exact hcs, hc.2⟩
  clear hA0 hval0
  refine (walk f0 a0 cap0 x0 mk1 mp1 mo1 a1 cap1 x1 W w0 w1 wk1 wp1).mono fun e W' ⟨he, bel⟩ => ?_
  subst he
  exact ⟨_, rfl, _, _, _, [], _, [], hW', trodAll_mk1 (shut_bool Try.underlying4 _), (trodAll_cons_mk (Below.trod laidOut (by kernel_rfl) (of_decide_eq_true (by kernel_rfl)) k0 bel lt0) (trodAll_cons_mk (Below.trod laidOut (by kernel_rfl) (of_decide_eq_true (by kernel_rfl)) k1 bel lt1) trodAll_mk0)), rfl, bel.frame _, fun h => by cases h⟩

theorem over : Rows.fnExactQueueRow.holds Try.pinned (OpenSpec.ofChange Rows.fnExactQueueSpec) :=
  OpenClaim.holds_of_wide 7 Try.f7 rfl rfl rfl rfl rfl rfl rfl ⟨rfl, rfl, rfl, rfl, rfl⟩ rfl rfl rfl rfl rfl (by kernel_rfl) Try.func7 (by kernel_rfl)
    (of_decide_eq_true (by kernel_rfl)) (by unfold Func.isWrapper; first | (rw [if_pos (by decide +kernel)]; kernel_rfl) | (rw [if_neg (by decide +kernel)]; exact ⟨rfl, rfl⟩))
    (fun os started H enc _ => lifted os started H enc)
end LawFnExactQueue

theorem fnExactQueue_holds : Rows.FnExactQueueSaid := LawFnExactQueue.over
#print axioms fnExactQueue_holds
end Go.Proofs.Ytbikiffgeinnnab
