/- NfI and NfL: see the heads of the parts. -/
import Derived.RangeFuncNested
import Derived.RangeFuncBound
import Derived.RangeFuncCalls
import Derived.RangeFuncLeaves
import Derived.Shelf.Abstract
import Derived.Deep.RegionHeld3
import Derived.Shelf.RegionOpen
import Derived.WalkKit
import Derived.OwnWalkIn
import Derived.TacticsInMore
import Derived.LoopNIn
import Derived.LoopIn
import Derived.Test.YtiaiomjoapbalaaGreatRvI
/- The iterator newestFirst: what it hands back, and what it yields. -/
namespace Go.Proofs.YtiaiomjoapbalaaGreat
open Go.RowKit Go.Shelf
set_option linter.unusedVariables false

attribute [local go_sem] Oper.semAt_some

/-- A message whose words lie in w0. -/
abbrev MS (w0 : World) := { m : M // Row .i64 w0 m.a m.xs ∧ okS m.say = true }
abbrev M.val (m : M) : Value := .agg #[.int .i64 m.k, .int .i64 m.p, .bool m.o, .slice m.a m.xs.length m.c]

/-- What a round keeps: all below n, and the two boxes that the iterator reads. -/
def KpN (n Bl Bg : Nat) (W W' : World) : Prop := Below n W W' ∧ (∀ cs t, Box W Bl cs t → Box W' Bl cs t) ∧ (∀ cs t, Box W Bg cs t → Box W' Bg cs t)
theorem kpn_t {n Bl Bg : Nat} {A B C : World} (h : KpN n Bl Bg A B) (k : KpN n Bl Bg B C) : KpN n Bl Bg A C :=
  ⟨h.1.trans k.1, fun cs t x => k.2.1 cs t (h.2.1 cs t x), fun cs t x => k.2.2 cs t (h.2.2 cs t x)⟩
theorem box_putObj {W : World} {b l : Nat} {cs : Array Value} {t : TypeId} {o : Obj} (o' : Obj) (h : Box W b cs t) (hl : W.heap[l]? = some o) (ho : o.isCells = false) : Box (W.putObj l o') b cs t := by
  have hne : b ≠ l := fun e => by
    subst e
    rw [show W.heap[b]? = _ from h] at hl
    cases hl
    cases ho
  exact (World.putObj_heap_other hne).trans h
theorem kpn_b {n Bl Bg : Nat} {w : World} (hn : n ≤ w.heap.size) (W : World) (l : Nat) (o o' : Obj) (hl : w.heap.size ≤ l) (h : W.heap[l]? = some o) (ho : o.isCells = false) (hw : o.isWalk = false) : KpN n Bl Bg W (W.putObj l o') :=
  ⟨belowK_b hn W l o o' hl h ho hw, fun cs t x => box_putObj o' x h ho, fun cs t x => box_putObj o' x h ho⟩
theorem KpN.refl (n Bl Bg : Nat) (W : World) : KpN n Bl Bg W W := ⟨Below.refl _ _, fun _ _ h => h, fun _ _ h => h⟩

theorem drop_rev {α : Type} {l : List α} {k : Nat} {x : α} (h : l[k]? = some x) : (l.drop (k + 1)).reverse ++ [x] = (l.drop k).reverse := by
  obtain ⟨hk, rfl⟩ := List.getElem?_eq_some_iff.1 h
  rw [List.drop_eq_getElem_cons hk, List.reverse_cons]

set_option maxRecDepth 100000 in
set_option maxHeartbeats 4000000 in
theorem nf1_in (F : Fence) (n : Nat) (hF : F.fn 52) (hro : F.round = none) (hn : 1 ≤ n) (l Bl Bg : Nat) (base got : Int) (q1 : Option Addr) (q2 : Nat) (w0 : World) (ms : List (MS w0)) (hM : MRow w0 q1 (ms.map Subtype.val))
    (hb : 0 ≤ base ∧ base ≤ 100000) (hg : 0 ≤ got ∧ got ≤ 100000) (hl30 : ms.length ≤ 30) (J Jx : List (MS w0) → World → Prop)
    (hY : ∀ pre x W, J pre W → pre.length < ms.length → YieldAt F (n - 1) Tryz.prog l #[M.val x.1] W fun e W' =>
      (e = .returned (.bool true) ∧ J (pre ++ [x]) W' ∧ KpN w0.heap.size Bl Bg W W') ∨ (e = .returned (.bool false) ∧ Jx (pre ++ [x]) W'))
    (W : World) (hBl : Box W Bl #[.int .i64 base, .slice q1 ms.length q2] 87) (hBg : Box W Bg #[.int .i64 got] 3) (hB : Below w0.heap.size w0 W) (h0 : J [] W) :
    CallsIn F n Tryz.prog 52 #[.func (.yield l) #[] #[], .pointer (some ⟨Bl, 0, none⟩), .pointer (some ⟨Bg, 0, none⟩)] W fun e W' => (∃ v, e = .returned v) ∧
      ((∃ ys, ys = (ms.drop (got - base).toNat).reverse ∧ J ys W') ∨ (∃ pre, (∃ k, (got - base).toNat ≤ k ∧ k < ms.length ∧ pre = (ms.drop k).reverse) ∧ Jx pre W')) := by
  obtain ⟨N, hN⟩ : ∃ N, ms.length = N := ⟨_, rfl⟩
  obtain ⟨s, hs⟩ : ∃ s, (got - base).toNat = s := ⟨_, rfl⟩
  rw [hN] at hl30 hBl
  have HM : Hid (MRow w0 q1 (ms.map Subtype.val)) := hM
  have HBl : Hid (Box W Bl #[.int .i64 base, .slice q1 N q2] 87) := hBl
  have HBg : Hid (Box W Bg #[.int .i64 got] 3) := hBg
  have HN : Hid (ms.length = N) := hN
  have HS : Hid ((got - base).toNat = s) := hs
  obtain ⟨l0, l1, lz⟩ := hBl.at2
  rw [hN, hs]
  rw [hN] at hY
  obtain ⟨hb0, hb1⟩ := hb
  obtain ⟨hg0, hg1⟩ := hg
  clear hM hBl hBg hN hs
  refine callsIn_of_wp Tryz.func52 rfl hF ?_ hro
  simp only [Tryz.ntmps52, List.size_toArray, List.length_cons, List.length_nil, Nat.reduceAdd, Nat.reduceSub, Array.replicate_succ, Array.replicate_zero, List.push_toArray, List.append_toArray, List.nil_append, List.cons_append]
  gi_wp2
  gi_loopw [4] (fun i wr => ∃ k : Nat, k ≤ N ∧ i = .int .i64 ((k : Int) - 1) ∧ J (ms.drop (max s k)).reverse wr ∧ Below w0.heap.size w0 wr ∧ Box wr Bl #[.int .i64 base, .slice q1 N q2] 87 ∧ Box wr Bg #[.int .i64 got] 3) (fun i _ => (intOf i + 1).toNat)
  case atStart => exact ⟨N, Nat.le_refl _, by first | rfl | go_num, by rw [List.drop_of_length_le (by rw [HN.out]; omega)]; exact h0, hB, HBl.out, HBg.out⟩
  case round =>
    obtain ⟨k, hk, rfl, hJ, hBr, hXl, hXg⟩ := hrel
    obtain ⟨l0, l1, lz⟩ := hXl.at2
    have g0 : wr.cell? ⟨Bg, 0, none⟩ = some (.int .i64 got) := by rw [hXg.cell]; rfl
    have gz := hXg.lt
    cases k with
    | zero =>
      have HJ : Hid (J (ms.drop s).reverse wr) := by have := hJ; rwa [Nat.max_eq_left (Nat.zero_le s)] at this
      clear hJ
      gi_wp2
      go_end0
      exact ⟨⟨_, rfl⟩, .inl ⟨_, rfl, HJ.out⟩⟩
    | succ k =>
      rw [show ((k + 1 : Nat) : Int) - 1 = (k : Int) by omega]
      by_cases hsk : s ≤ k
      · have hge : got ≤ base + k := by have := HS.out; omega
        obtain ⟨m, hmk⟩ : ∃ m, ms[k]? = some m := ⟨_, List.getElem?_eq_getElem (by rw [HN.out]; omega)⟩
        have HJ : J (ms.drop (k + 1)).reverse wr := by have := hJ; rwa [Nat.max_eq_right (by omega)] at this
        have HP : Hid ((ms.drop (k + 1)).reverse ++ [m] = (ms.drop k).reverse) := drop_rev hmk
        obtain ⟨⟨b, off, ea, m0, m1, m2, m3⟩, hrow⟩ := (HM.out.below hBr).2 k m.1 (by rw [List.getElem?_map, hmk]; rfl)
        subst ea
        obtain ⟨fn, tmps, assign, body, hy, hR⟩ := hY _ m wr HJ (by rw [List.length_reverse, List.length_drop, HN.out]; omega)
        dsimp only [M.val] at hy
        have HXl : Hid (Box wr Bl #[.int .i64 base, .slice (some ⟨b, off, none⟩) N q2] 87) := hXl
        have HXg : Hid (Box wr Bg #[.int .i64 got] 3) := hXg
        have HBr : Hid (Below w0.heap.size w0 wr) := hBr
        have hkN : (k : Int) < (N : Int) := by omega
        clear hJ HJ hXl hXg hBr hrow hmk hY
        gi_wp2
        refine hR.mono ?_
        rintro e W3 (⟨rfl, hJ3, hk3⟩ | ⟨rfl, hJx3⟩)
        · rw [HP.out] at hJ3
          clear hR hy
          gi_wp2
          go_roundw
          case rel => exact ⟨k, by omega, by first | rfl | go_num, by rw [Nat.max_eq_right hsk]; exact hJ3, HBr.out.trans hk3.1, hk3.2.1 _ _ HXl.out, hk3.2.2 _ _ HXg.out⟩
          case measure => simp [intOf]
        · rw [HP.out] at hJx3
          clear hR hy
          gi_wp2
          refine bodyPost_ret (results_none rfl _ _ _) rfl ?_
          exact ⟨⟨_, rfl⟩, .inr ⟨_, ⟨k, hsk, by omega, rfl⟩, hJx3⟩⟩
      · have hlt : base + k < got := by have := HS.out; omega
        have HJ : Hid (J (ms.drop s).reverse wr) := by have := hJ; rwa [Nat.max_eq_left (by omega)] at this
        clear hJ
        gi_wp2
        go_end0
        exact ⟨⟨_, rfl⟩, .inl ⟨_, rfl, HJ.out⟩⟩

/-- What newestFirst's value yields: what is coming, the newest first; or a part, where a round has said 'no more'. -/
theorem nf_stops (F : Fence) (n : Nat) (hF : F.fn 52) (hro : F.round = none) (hn : 1 ≤ n) (Bl Bg : Nat) (base got : Int) (q1 : Option Addr) (q2 : Nat) (w0 : World) (ms : List (MS w0)) (hM : MRow w0 q1 (ms.map Subtype.val))
    (hb : 0 ≤ base ∧ base ≤ 100000) (hg : 0 ≤ got ∧ got ≤ 100000) (hl30 : ms.length ≤ 30) (w : World) (hBl : Box w Bl #[.int .i64 base, .slice q1 ms.length q2] 87) (hBg : Box w Bg #[.int .i64 got] 3) (hB : Below w0.heap.size w0 w) :
    SeqStopsK F n Tryz.prog 52 #[.pointer (some ⟨Bl, 0, none⟩), .pointer (some ⟨Bg, 0, none⟩)] (fun x : MS w0 => #[M.val x.1]) (KpN w0.heap.size Bl Bg)
      (fun ys => ys = (ms.drop (got - base).toNat).reverse) (fun pre => ∃ k, (got - base).toNat ≤ k ∧ k < ms.length ∧ pre = (ms.drop k).reverse) ms.length w := fun l J Jx W hW _ _ hY h0 =>
  nf1_in F n hF hro hn l Bl Bg base got q1 q2 w0 ms hM hb hg hl30 J Jx hY W (hBl.below hW) (hBg.below hW) (hB.trans (hW.mono hB.size)) h0

theorem row_subtype {w : World} {q1 : Option Addr} {ms : List M} (hM : MRow w q1 ms) (h : ∀ s ∈ ms.map M.say, okS s = true) : ∃ ns : List (MS w), ns.map Subtype.val = ms := by
  refine ⟨ms.attach.map (fun m => ⟨m.1, ?_⟩), ?_⟩
  · obtain ⟨i, hi⟩ := List.mem_iff_getElem?.1 m.2
    exact ⟨(hM.2 i m.1 hi).2, h _ (List.mem_map_of_mem m.2)⟩
  · rw [List.map_map]
    exact List.attach_map_subtype_val ms

def NfP (d : WoD) (f t : Nat) (w0 w : World) (e : Ending) (w' : World) : Prop := ∃ (q1 : Option Addr) (q2 : Nat) (ns : List (MS w0)) (Bl Bg : Nat), e = .returned (.func (.func 52) #[] #[.pointer (some ⟨Bl, 0, none⟩), .pointer (some ⟨Bg, 0, none⟩)]) ∧
  MRow w0 q1 (ns.map Subtype.val) ∧ (ns.map Subtype.val).map M.say = (d.d f).y t ∧ Box w' Bl #[.int .i64 ((d.d f).b t), .slice q1 ns.length q2] 87 ∧ Box w' Bg #[.int .i64 ((d.d t).g f)] 3 ∧ (w.heap.size ≤ Bl ∧ w.heap.size ≤ Bg) ∧ Below w.heap.size w w'

theorem nf_two {w W : World} (h : Below w.heap.size w W) (cs cs2 : Array Value) (t t2 : TypeId) : Box ((W.alloc (.cells cs t)).alloc (.cells cs2 t2)).drew W.heap.size cs t ∧ Box ((W.alloc (.cells cs t)).alloc (.cells cs2 t2)).drew (W.heap.size + 1) cs2 t2 ∧ (w.heap.size ≤ W.heap.size ∧ w.heap.size ≤ W.heap.size + 1) ∧ Below w.heap.size w ((W.alloc (.cells cs t)).alloc (.cells cs2 t2)).drew := by
  obtain ⟨a, b⟩ := Box.two W cs cs2 t t2
  have hd : Below ((W.alloc (.cells cs t)).alloc (.cells cs2 t2)).heap.size ((W.alloc (.cells cs t)).alloc (.cells cs2 t2)) ((W.alloc (.cells cs t)).alloc (.cells cs2 t2)).drew := below_drewN (Below.refl _ _) 1
  have hs := h.size
  exact ⟨a.below hd, b.below hd, ⟨hs, by omega⟩, bel_trans (bel_alloc (bel_alloc h _) _) hd⟩
theorem nf_out {d : WoD} {f t : Nat} {w0 w W' : World} {q1 : Option Addr} {q2 n : Nat} {ns : List (MS w0)} {Bl Bg : Nat} {base got : Int} {y : List Say} (HE : (d.d f).b t = base ∧ (d.d t).g f = got ∧ (d.d f).y t = y) (HN : ns.length = n)
    (HM : MRow w0 q1 (ns.map Subtype.val) ∧ (ns.map Subtype.val).map M.say = y) (hl : Box W' Bl #[.int .i64 base, .slice q1 n q2] 87) (hg : Box W' Bg #[.int .i64 got] 3) (h : w.heap.size ≤ Bl ∧ w.heap.size ≤ Bg) (hB : Below w.heap.size w W') :
    NfP d f t w0 w (.returned (.func (.func 52) #[] #[.pointer (some ⟨Bl, 0, none⟩), .pointer (some ⟨Bg, 0, none⟩)])) W' :=
  ⟨q1, q2, ns, Bl, Bg, rfl, HM.1, HM.2.trans HE.2.2.symm, by rw [HE.1, HN]; exact hl, by rw [HE.2.1]; exact hg, h, hB⟩

set_option maxRecDepth 100000 in
set_option maxHeartbeats 4000000 in
theorem newestFirst_any (d : WoD) (p : WoP) (f t : Nat) (w0 w : World) (hR0 : WoR w0 d p) (hB0 : Below w0.heap.size w0 w) (hok : WOk d) (hf : f < d.nn) (ht : t < d.nn) :
    Calls Tryz.prog 28 #[.agg (wcells d p), .int .i64 (f : Int), .int .i64 (t : Int)] w (NfP d f t w0 w) := by
  have hR := hR0.below hB0
  obtain ⟨size, nn, D, nk, K⟩ := d
  obtain ⟨⟨pn, cn⟩, np, ⟨pk, ck⟩, kp⟩ := p
  have hn4 := hok.n.2.2
  obtain ⟨cf1, cf2, cf3, cf4⟩ := hok.c f hf
  obtain ⟨ct1, ct2, ct3, ct4⟩ := hok.c t ht
  obtain ⟨sb1, sb2, sb3, sb4⟩ := sB_parts (hok.o f hf t ht)
  obtain ⟨base, hbase⟩ : ∃ x, (D f).b t = x := ⟨_, rfl⟩
  obtain ⟨got, hgot⟩ : ∃ x, (D t).g f = x := ⟨_, rfl⟩
  obtain ⟨y, hy⟩ : ∃ x, (D f).y t = x := ⟨_, rfl⟩
  have HE : Hid ((D f).b t = base ∧ (D t).g f = got ∧ (D f).y t = y) := ⟨hbase, hgot, hy⟩
  simp only [hbase, hy] at sb1 sb2 sb3 sb4 hf ht hn4 cf1 cf2 cf3 cf4 ct1 ct2 ct3 ct4
  have bA := bel_alloc (Below.refl w.heap.size w) (.cells #[.int .i64 size, .slice pn nn cn, .slice pk nk ck] 32)
  have X := Box.new w #[.int .i64 size, .slice pn nn cn, .slice pk nk ck] 32
  have hR1 : NsR _ pn nn D np := hR.n.below bA
  obtain ⟨bn, on1, rfl, y0, y1, y2, y3, y4⟩ := hR1.at hf
  obtain ⟨bn2, on2, ea, z0, z1, z2, z3, z4⟩ := hR1.at ht
  simp only [Option.some.injEq, Addr.mk.injEq, and_true] at ea
  obtain ⟨e1, e2⟩ := ea
  subst e1 e2
  have hrf := hR1.2.2 f hf
  have hrt := hR1.2.2 t ht
  obtain ⟨bo, oo, eo, o0, o1⟩ := hrf.o.at (i := t) (by omega)
  obtain ⟨bi, oi, ei, i1⟩ := hrt.i.at (i := f) (by omega)
  have hsm := (hR0.n.2.2 f hf).o.2.2 t (by show t < (D f).no; omega)
  rw [eo, cf3] at y3
  rw [ei, ct4] at z4
  rw [hbase] at o0
  rw [hgot] at i1
  rw [hy] at o1 hsm
  obtain ⟨⟨q1, q2⟩, cq⟩ : ∃ q, (np f).op t = q := ⟨_, rfl⟩
  obtain ⟨ms, hmse⟩ : ∃ m, (np f).ms t = m := ⟨_, rfl⟩
  rw [cq] at o1 hsm
  simp only at o1 hsm
  rw [hmse] at hsm
  obtain ⟨hms, hsay⟩ := hsm
  obtain ⟨ns, hns⟩ := row_subtype hms (by rw [hsay]; exact sb4)
  have HL : Hid (ns.length = y.length) := by show _ = _; rw [← hsay, ← hns]; simp
  subst hns
  have HM : Hid (MRow w0 q1 (ns.map Subtype.val) ∧ (ns.map Subtype.val).map M.say = y) := ⟨hms, hsay⟩
  rw [← HL.out] at o1
  obtain ⟨n, hn⟩ : ∃ n, ns.length = n := ⟨_, rfl⟩
  have HN : Hid (ns.length = n) := hn
  rw [hn] at o1
  have hbn := lt_of_cell y0
  have hbo := lt_of_cell o0
  have hbi := lt_of_cell i1
  obtain ⟨x0, x1, x2, xz⟩ := X.at3
  obtain ⟨W1, hW1⟩ : ∃ W1, w.alloc (.cells #[.int .i64 size, .slice (some ⟨bn, on1, none⟩) nn cn, .slice pk nk ck] 32) = W1 := ⟨_, rfl⟩
  rw [hW1] at bA X y0 y1 y2 y3 y4 z0 z1 z2 z3 z4 o0 o1 i1 hbn hbo hbi x0 x1 x2 xz
  have HBA : Hid (Below w.heap.size w W1) := bA
  have hfi : (f : Int) < (nn : Int) := by omega
  have hti : (t : Int) < (nn : Int) := by omega
  have v1 := World.new_ne W1 _ x1
  have v2 := World.new_ne W1 _ y3
  have v3 := World.new_ne W1 _ z4
  have v4 := World.new_ne W1 _ o0
  have v5 := World.new_ne W1 _ o1
  have v6 := World.new_ne W1 _ i1
  clear bA X hR1 hrf hrt eo ei hms hsay sb4 y0 y1 y2 y4 z0 z1 z2 z3 hbase hgot hy cq hmse hn hok hR hR0 hB0 cf1 cf2 cf3 cf4 ct1 ct2 ct3 ct4 sb1 sb2 sb3 x0 x2
  go_enter Tryz.func28, Tryz.ntmps28
  go_wp2_with fail
  go_region_held3 (fun w' => w'.cell? ⟨w.heap.size, 1, none⟩ = some (.slice (some ⟨bn, on1, none⟩) nn cn) ∧ w'.cell? ⟨bn, on1 + f * 5 + 3, none⟩ = some (.slice (some ⟨bo, oo, none⟩) nn (np f).o.2) ∧ w'.cell? ⟨bn, on1 + t * 5 + 4, none⟩ = some (.slice (some ⟨bi, oi, none⟩) nn (np t).i.2) ∧ w'.cell? ⟨bo, oo + t * 2, none⟩ = some (.int .i64 base) ∧ w'.cell? ⟨bo, oo + t * 2 + 1, none⟩ = some (.slice q1 n q2) ∧ w'.cell? ⟨bi, oi + f, none⟩ = some (.int .i64 got))
    (go_keep) (fail)
  · have HT : Hid _ := nf_two HBA.out #[.int .i64 base, .slice q1 n q2] #[.int .i64 got] 87 3
    clear v1 v2 v3 v4 v5 v6 x1 y3 z4 o0 o1 i1
    go_wp2
    go_ret
    exact nf_out HE.out HN.out HM.out HT.out.1 HT.out.2.1 HT.out.2.2.1 HT.out.2.2.2
  · have HT : Hid _ := nf_two HBA.out #[.int .i64 got] #[.int .i64 base, .slice q1 n q2] 3 87
    clear v1 v2 v3 v4 v5 v6 x1 y3 z4 o0 o1 i1
    go_wp2
    go_ret
    exact nf_out HE.out HN.out HM.out HT.out.2.1 HT.out.1 ⟨HT.out.2.2.1.2, HT.out.2.2.1.1⟩ HT.out.2.2.2
end Go.Proofs.YtiaiomjoapbalaaGreat

/- What impl.lastWords hands back: the words of the last message that is coming and is like that one; they lie where they lay. -/
namespace Go.Proofs.YtiaiomjoapbalaaGreat
open Go.RowKit Go.Shelf
set_option linter.unusedVariables false

attribute [local go_sem] Oper.semAt_some

/-- The words of the last one that fits. -/
def lastP (P : Say → Bool) (l : List Say) : List Int := l.foldl (fun acc s => if P s then s.2.2.2 else acc) []
theorem lastY_eq (kind page : Int) (l : List Say) : lastY kind page l = lastP (isL kind page) l := rfl
theorem lastP_congr {P Q : Say → Bool} {l : List Say} (h : ∀ s ∈ l, P s = Q s) : lastP P l = lastP Q l := by
  have key : ∀ (l : List Say) (acc : List Int), (∀ s ∈ l, P s = Q s) → l.foldl (fun acc s => if P s then s.2.2.2 else acc) acc = l.foldl (fun acc s => if Q s then s.2.2.2 else acc) acc := by
    intro l
    induction l with
    | nil => intro acc _; rfl
    | cons s l ih =>
      intro acc hs
      rw [List.foldl_cons, List.foldl_cons, hs s (List.mem_cons_self ..)]
      exact ih _ (fun x hx => hs x (List.mem_cons_of_mem _ hx))
  exact key l [] h
theorem lastP_none {P : Say → Bool} {l : List Say} (h : ∀ s ∈ l, P s = false) : lastP P l = [] := by
  have key : ∀ (l : List Say) (acc : List Int), (∀ s ∈ l, P s = false) → l.foldl (fun acc s => if P s then s.2.2.2 else acc) acc = acc := by
    intro l
    induction l with
    | nil => intro acc _; rfl
    | cons s l ih =>
      intro acc hs
      rw [List.foldl_cons, hs s (List.mem_cons_self ..)]
      exact ih _ (fun x hx => hs x (List.mem_cons_of_mem _ hx))
  exact key l [] h
theorem lastP_some {P : Say → Bool} {A B : List Say} {s : Say} (hs : P s = true) (h : ∀ x ∈ B, P x = false) : lastP P (A ++ s :: B) = s.2.2.2 := by
  unfold lastP
  rw [List.foldl_append, List.foldl_cons, hs]
  have key : ∀ (l : List Say) (acc : List Int), (∀ s ∈ l, P s = false) → l.foldl (fun acc s => if P s then s.2.2.2 else acc) acc = acc := by
    intro l
    induction l with
    | nil => intro acc _; rfl
    | cons s l ih =>
      intro acc hs
      rw [List.foldl_cons, hs s (List.mem_cons_self ..)]
      exact ih _ (fun x hx => hs x (List.mem_cons_of_mem _ hx))
  exact key B _ h
/-- It is like that one. -/
def likeB (k p : Int) (o : Bool) (s : Say) : Bool := s.1 == k && (s.2.1 == p && s.2.2.1 == o)

theorem box_grown {A B : World} {row : Option Nat} {m : Nat} {cs : Array Value} {t : TypeId} (h : Box A m cs t) (hg : A.grownBy B row) (hr : ∀ r, row = some r → ∃ o : Obj, A.heap[r]? = some o ∧ o.isCells = false) : Box B m cs t :=
  h.kept hg (fun j e => by
    obtain ⟨ob, ho, hc⟩ := hr j e
    intro ej
    subst ej
    rw [show A.heap[j]? = _ from h] at ho
    cases ho
    cases hc)
theorem box_cell1 {W : World} {m : Nat} {c0 : Value} {t : TypeId} (h : Box W m #[c0] t) : W.cell? ⟨m, 0, none⟩ = some c0 := by rw [h.cell]; rfl
theorem box_set1 {W : World} {m : Nat} {c0 : Value} {t : TypeId} (h : Box W m #[c0] t) (v : Value) : Box (W.setCell ⟨m, 0, none⟩ v) m #[v] t := Boxed.set (v := c0) v h
theorem like_no {k pg : Int} {o : Bool} {s : Say} (h : s.1 ≠ k ∨ s.2.1 ≠ pg ∨ s.2.2.1 ≠ o) : likeB k pg o s = false := by
  unfold likeB
  rcases h with h | h | h
  · have : (s.1 == k) = false := by simpa using h
    rw [this]; rfl
  · have : (s.2.1 == pg) = false := by simpa using h
    rw [this]; simp
  · have : (s.2.2.1 == o) = false := by simpa using h
    rw [this]; simp

/-- A slice of words that lie in w. -/
def LwP (y : List Int) (w : World) (e : Ending) (w' : World) : Prop := ∃ (a : Option Addr) (c : Nat), e = .returned (.slice a y.length c) ∧ Row .i64 w a y ∧ Below w.heap.size w w'

def LwI (k pg : Int) (o : Bool) (w : World) (pre : List (MS w)) (W : World) : Prop := ((∀ x ∈ pre, likeB k pg o x.1.say = false) ∧ Box W (w.heap.size + 1 + 1) #[.slice none 0 0] 39 ∧ Box W (w.heap.size + 1) #[.int .i64 k, .int .i64 pg, .bool o, .slice none 0 0] 55) ∧ Below w.heap.size w W
def LwX (k pg : Int) (o : Bool) (w : World) (c : Code) (pre : List (MS w)) (W : World) : Prop := (c = .ret ∧ ∃ (pre0 : List (MS w)) (x : MS w), pre = pre0 ++ [x] ∧ (∀ y ∈ pre0, likeB k pg o y.1.say = false) ∧ likeB k pg o x.1.say = true ∧ Box W (w.heap.size + 1 + 1) #[.slice x.1.a x.1.xs.length x.1.c] 39) ∧ Below w.heap.size w W
theorem lw_none {d : WoD} {f t : Nat} {w : World} {ns : List (MS w)} {P : Say → Bool} (hsay : (ns.map Subtype.val).map M.say = (d.d f).y t) (h : ∀ x ∈ (ns.drop ((d.d t).g f - (d.d f).b t).toNat).reverse, P x.1.say = false) : lastP P (comD d f t) = [] := by
  refine lastP_none fun s hs => ?_
  unfold comD comY at hs
  rw [← hsay, List.map_map, ← List.map_drop] at hs
  obtain ⟨x, hx, rfl⟩ := List.mem_map.1 hs
  exact h x (List.mem_reverse.2 hx)
theorem lw_some {d : WoD} {f t : Nat} {w : World} {ns : List (MS w)} {P : Say → Bool} {j : Nat} {p0 : List (MS w)} {x : MS w} (hsay : (ns.map Subtype.val).map M.say = (d.d f).y t) (hj : ((d.d t).g f - (d.d f).b t).toNat ≤ j) (h1 : (ns.drop j).reverse = p0 ++ [x])
    (h2 : ∀ y ∈ p0, P y.1.say = false) (h3 : P x.1.say = true) : lastP P (comD d f t) = x.1.xs := by
  unfold comD comY
  obtain ⟨i, rfl⟩ : ∃ i, j = ((d.d t).g f - (d.d f).b t).toNat + i := ⟨j - ((d.d t).g f - (d.d f).b t).toNat, by omega⟩
  have e1 : ns.drop (((d.d t).g f - (d.d f).b t).toNat + i) = x :: p0.reverse := by
    have := congrArg List.reverse h1
    simpa using this
  rw [← hsay, List.map_map, ← List.map_drop, ← List.take_append_drop i (ns.drop ((d.d t).g f - (d.d f).b t).toNat), List.drop_drop, e1, List.map_append, List.map_cons]
  refine lastP_some h3 fun s hs => ?_
  obtain ⟨y, hy, rfl⟩ := List.mem_map.1 hs
  exact h2 y (List.mem_reverse.1 hy)

set_option maxRecDepth 100000 in
set_option maxHeartbeats 4000000 in
theorem lastWords_any (d : WoD) (p : WoP) (f t : Nat) (k pg : Int) (o : Bool) (w : World) (hR : WoR w d p) (hok : WOk d) (hf : f < d.nn) (ht : t < d.nn) :
    Calls Tryz.prog 60 #[.agg (wcells d p), .int .i64 (f : Int), .int .i64 (t : Int), .agg #[.int .i64 k, .int .i64 pg, .bool o, .slice none 0 0]] w (LwP (lastP (likeB k pg o) (comD d f t)) w) := by
  refine (callsIn_wide (n := 6)).1 ?_
  obtain ⟨sb1, sb2, sb3, sb4⟩ := sB_parts (hok.o f hf t ht)
  obtain ⟨gb1, gb2⟩ := hok.g t ht f hf
  have bA := bel_alloc (bel_alloc (bel_alloc (Below.refl w.heap.size w) (.cells (wcells d p) 32)) (.cells #[.int .i64 k, .int .i64 pg, .bool o, .slice none 0 0] 55)) (.cells #[.slice none 0 0] 39)
  have HR : Hid (WoR w d p) := hR
  have HOK : Hid (WOk d) := hok
  clear hR hok
  refine callsIn_of_wp_marks Tryz.func60 rfl trivial ?_ rfl
  simp only [Tryz.ntmps60, List.size_toArray, List.length_cons, List.length_nil, Nat.reduceAdd, Nat.reduceSub, Array.replicate_succ, Array.replicate_zero, List.push_toArray, List.append_toArray, List.nil_append, List.cons_append]
  gi_wp2
  refine ⟨trivial, ?_⟩
  have XR := (Box.new ((w.alloc (.cells (wcells d p) 32)).alloc (.cells #[.int .i64 k, .int .i64 pg, .bool o, .slice none 0 0] 55)) #[.slice none 0 0] 39)
  have XK := (Box.new (w.alloc (.cells (wcells d p) 32)) #[.int .i64 k, .int .i64 pg, .bool o, .slice none 0 0] 55).below (bel_alloc (Below.refl _ _) (.cells #[.slice none 0 0] 39))
  simp only [World.size_alloc] at XR XK
  refine (callsIn_wide.2 (newestFirst_any d p f t w _ HR.out bA HOK.out hf ht)).mono ?_
  rintro e w1 ⟨q1, q2, ns, Bl, Bg, rfl, hM, hsay, hXl, hXg, ⟨hl, hg⟩, b1⟩
  replace XR := XR.below b1
  replace XK := XK.below b1
  have B1 := bel_trans bA b1
  clear bA b1
  simp only [World.size_alloc] at hl hg
  have hnl : ns.length = ((d.d f).y t).length := by rw [← hsay]; simp
  gi_wp2
  have hs1 := B1.size
  have hlt1 := XR.lt
  refine wpIn_rangeFunc_ownH (F := Fence.wide) rfl (by decide) (gf := 52) (lb := #[.pointer (some ⟨Bl, 0, none⟩), .pointer (some ⟨Bg, 0, none⟩)]) rfl trivial (enters_of Tryz.func52 (by kernel_rfl) rfl)
    (nf_stops Fence.wide (6 - 1) trivial rfl (by decide) Bl Bg ((d.d f).b t) ((d.d t).g f) q1 q2 w ns hM sb1 ⟨gb1, gb2⟩ (by omega) w1 hXl hXg B1) kpn_t (kpn_b hs1) (Below.refl _ _) (fun _ => rfl)
    (LwI k pg o w)
    (LwX k pg o w)
    (fun s A B row hs hg hr => ⟨⟨hs.1.1, box_grown hs.1.2.1 hg (fun r e => (hr r e).2), box_grown hs.1.2.2 hg (fun r e => (hr r e).2)⟩, ownFrom_below (β := List (MS w)) (Nat.le_refl _) hs1 s A B row hs.2 hg hr⟩)
    (fun c s A B row hs hg hr => ⟨⟨hs.1.1, by obtain ⟨p0, x, h1, h2, h3, h4⟩ := hs.1.2; exact ⟨p0, x, h1, h2, h3, box_grown h4 hg (fun r e => (hr r e).2)⟩⟩, ownFrom_below (β := List (MS w)) (Nat.le_refl _) hs1 s A B row hs.2 hg hr⟩)
    ⟨⟨by simp, XR, XK⟩, B1⟩
    (fun x a' W => ∃ Bx, w.heap.size + 1 + 1 < Bx ∧ Box W Bx #[.int .i64 x.1.k, .int .i64 x.1.p, .bool x.1.o, .slice x.1.a x.1.xs.length x.1.c] 55 ∧ a' = { tmps := #[Value.agg (wcells d p), Value.int IntKind.i64 f, Value.int IntKind.i64 t, Value.agg #[Value.int IntKind.i64 k, Value.int IntKind.i64 pg, Value.bool o, Value.slice none 0 0], Value.pointer (some { block := w.heap.size, off := 0 }), undef, undef, Value.pointer (some { block := w.heap.size + 1, off := 0 }), Value.pointer (some { block := w.heap.size + 1 + 1, off := 0 }), Value.pointer (some { block := Bx, off := 0 }), Value.agg #[Value.int IntKind.i64 d.size, Value.slice p.n.fst d.nn p.n.snd, Value.slice p.k.fst d.nk p.k.snd], Value.int IntKind.i64 f, Value.int IntKind.i64 t, Value.func (Fn.func 52) #[] #[Value.pointer (some { block := Bl, off := 0 }), Value.pointer (some { block := Bg, off := 0 })], x.1.val, undef, undef, undef, undef, undef, undef, undef, undef, undef, undef, undef, undef, undef, undef, undef, undef, undef, undef, undef, undef, undef], defers := [] })
    (fun x a' _ X Y row hs hg hr => by obtain ⟨Bx, h1, h2, h3⟩ := hs; exact ⟨Bx, h1, box_grown h2 hg (fun r e => (hr r e).2), h3⟩)
    ?assign ?body ?done ?stop
  case assign =>
    rintro l pre x W K ⟨⟨hno, xr, xk⟩, hB⟩ hK
    gi_wp2
    have ba := bel_alloc (Below.refl W.heap.size W) (.cells #[.int .i64 x.1.k, .int .i64 x.1.p, .bool x.1.o, .slice x.1.a x.1.xs.length x.1.c] 55)
    exact hK _ _ ((KeepsOthers.alloc _ _).from _) ⟨(Below.refl _ W).alloc hB.size _, fun cs t h => h.below ba, fun cs t h => h.below ba⟩ ⟨⟨hno, xr.below ba, xk.below ba⟩, hB.alloc hB.size _⟩ ⟨W.heap.size, xr.lt, Box.new W _ 55, rfl⟩
  case body =>
    rintro l pre x a' W hlw ⟨r, hr⟩ ⟨⟨hno, xr, xk⟩, hB⟩ ⟨Bx, hBx, bX, rfl⟩ hlt
    obtain ⟨⟨mk, mp, mo, ma, mc, mxs⟩, hrow, hmok⟩ := x
    dsimp only [M.val] at bX ⊢
    obtain ⟨k0, k1, k2, k3, kz⟩ := xk.at4
    obtain ⟨y0, y1, y2, y3, yz⟩ := bX.at4
    have r0 := box_cell1 xr
    have fz := xr.frozen 0
    have HI : Hid (∀ x ∈ pre, likeB k pg o x.1.say = false) := hno
    have HXR : Hid (Box W (w.heap.size + 1 + 1) #[.slice none 0 0] 39) := xr
    have HXK : Hid (Box W (w.heap.size + 1) #[.int .i64 k, .int .i64 pg, .bool o, .slice none 0 0] 55) := xk
    have HB : Hid (Below w.heap.size w W) := hB
    clear hno xr xk hB bX hr hlt
    by_cases e1 : mk = k
    · obtain rfl : k = mk := e1.symm
      by_cases e2 : mp = pg
      · obtain rfl : pg = mp := e2.symm
        by_cases e3 : mo = o
        · obtain rfl : o = mo := e3.symm
          have HR2 : Hid (KeepsFrom w1.heap.size W (W.setCell ⟨w.heap.size + 1 + 1, 0, none⟩ (.slice ma mxs.length mc)) ∧ Box (W.setCell ⟨w.heap.size + 1 + 1, 0, none⟩ (.slice ma mxs.length mc)) (w.heap.size + 1 + 1) #[.slice ma mxs.length mc] 39 ∧ Below w.heap.size w (W.setCell ⟨w.heap.size + 1 + 1, 0, none⟩ (.slice ma mxs.length mc))) :=
            ⟨(KeepsOthers.setCell _ _ _).from _, box_set1 HXR.out _, HB.out.setCell (p := ⟨w.heap.size + 1 + 1, 0, none⟩) (by simp; omega) _⟩
          cases o
          all_goals
            gi_wp2
            exact ⟨HR2.out.1, ⟨rfl, pre, ⟨⟨k, pg, _, ma, mc, mxs⟩, hrow, hmok⟩, rfl, HI.out, by simp [likeB, M.say], HR2.out.2.1⟩, HR2.out.2.2⟩
        · have HF : Hid (∀ x ∈ pre ++ [⟨⟨k, pg, mo, ma, mc, mxs⟩, hrow, hmok⟩], likeB k pg o x.1.say = false) := fun x hx => by
            rcases List.mem_append.1 hx with hx | hx
            · exact HI.out x hx
            · simp at hx; subst hx; exact like_no (.inr (.inr e3))
          cases o <;> cases mo
          all_goals first | exact absurd rfl e3 | skip
          all_goals
            clear e3
            gi_wp2
            exact ⟨KeepsFrom.refl _ _, KpN.refl _ _ _ _, ⟨HF.out, HXR.out, HXK.out⟩, HB.out⟩
      · have HF : Hid (∀ x ∈ pre ++ [⟨⟨k, mp, mo, ma, mc, mxs⟩, hrow, hmok⟩], likeB k pg o x.1.say = false) := fun x hx => by
          rcases List.mem_append.1 hx with hx | hx
          · exact HI.out x hx
          · simp at hx; subst hx; exact like_no (.inr (.inl e2))
        have n2 : (mp == pg) = false := by simpa using e2
        clear e2
        gi_wp2
        exact ⟨KeepsFrom.refl _ _, KpN.refl _ _ _ _, ⟨HF.out, HXR.out, HXK.out⟩, HB.out⟩
    · have HF : Hid (∀ x ∈ pre ++ [⟨⟨mk, mp, mo, ma, mc, mxs⟩, hrow, hmok⟩], likeB k pg o x.1.say = false) := fun x hx => by
        rcases List.mem_append.1 hx with hx | hx
        · exact HI.out x hx
        · simp at hx; subst hx; exact like_no (.inl e1)
      have n1 : (mk == k) = false := by simpa using e1
      clear e1
      gi_wp2
      exact ⟨KeepsFrom.refl _ _, KpN.refl _ _ _ _, ⟨HF.out, HXR.out, HXK.out⟩, HB.out⟩
  case done =>
    rintro D ys W hD rfl ⟨⟨hno, xr, xk⟩, hB⟩ hK
    have hcr := box_cell1 xr
    have fz := xr.frozen 0
    have HY : Hid (lastP (likeB k pg o) (comD d f t) = []) := lw_none hsay hno
    clear hno hsay
    gi_wp2
    have hK' := (KeepsOthers.setCell W ⟨w.heap.size + 1 + 1, 0, none⟩ (.slice none 0 0)).same D _ hK rfl
    refine ⟨by simp, .inl ⟨_, _, rfl, run_takeDeferred hK', ?_⟩⟩
    have hc5 := box_cell1 (box_putObj (.deferred none) (box_set1 xr (.slice none 0 0)) hK' rfl)
    refine ⟨.slice none 0 0, ?_, ?_⟩
    · simp [results, Tryz.f60, go_sem, hc5]
    · rw [HY.out]
      exact ⟨none, 0, rfl, Row.nil _ _ _, (hB.setCell (p := ⟨w.heap.size + 1 + 1, 0, none⟩) (by simp; omega) _).trans (belowK_b (w := w) (Nat.le_refl _) _ D _ _ (by omega) hK' rfl rfl)⟩
  case stop =>
    rintro D c pre W hD ⟨j, hj1, hj2, rfl⟩ ⟨⟨rfl, p0, x, h1, h2, h3, xr⟩, hB⟩ hK
    have hcr := box_cell1 xr
    have HY : Hid (lastP (likeB k pg o) (comD d f t) = x.1.xs) := lw_some hsay hj1 h1 h2 h3
    clear hsay h1 h2 h3
    gi_wp2
    refine ⟨by simp, .inl ⟨_, _, rfl, run_takeDeferred hK, ?_⟩⟩
    have hc5 := box_cell1 (box_putObj (.deferred none) xr hK rfl)
    refine ⟨.slice x.1.a x.1.xs.length x.1.c, ?_, ?_⟩
    · simp [results, Tryz.f60, go_sem, hc5]
    · rw [HY.out]
      exact ⟨x.1.a, x.1.c, rfl, x.2.1, hB.trans (belowK_b (w := w) (Nat.le_refl _) W D _ _ (by omega) hK rfl rfl)⟩
end Go.Proofs.YtiaiomjoapbalaaGreat
