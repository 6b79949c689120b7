/- The iterator newestFirst: what it hands back, and what it yields. -/
import Derived.RangeFuncNested
import Derived.RangeFuncBound
import Derived.RangeFuncCalls
import Derived.RangeFuncLeaves
import Derived.Shelf.Abstract
import Derived.Deep.RegionHeld3
import Derived.Shelf.RegionOpen
import Derived.WalkKit
import Derived.OwnWalkIn
import Derived.TacticsInMore
import Derived.LoopNIn
import Derived.LoopIn
import Derived.Test.YtpfppeifppdmbaaGreatTrC
namespace Go.Proofs.YtpfppeifppdmbaaGreat
open Go.RowKit Go.Shelf
set_option linter.unusedVariables false

attribute [local go_sem] Oper.semAt_some

/-- A message whose words lie in w0. -/
abbrev MS (w0 : World) := { m : M // Row .i64 w0 m.a m.xs ∧ okS m.say = true }
abbrev M.val (m : M) : Value := .agg #[.int .i64 m.k, .int .i64 m.p, .bool m.o, .slice m.a m.xs.length m.c]

/-- What a round keeps: all below n, and the two boxes that the iterator reads. -/
def KpN (n Bl Bg : Nat) (W W' : World) : Prop := Below n W W' ∧ (∀ cs t, Box W Bl cs t → Box W' Bl cs t) ∧ (∀ cs t, Box W Bg cs t → Box W' Bg cs t)
theorem kpn_t {n Bl Bg : Nat} {A B C : World} (h : KpN n Bl Bg A B) (k : KpN n Bl Bg B C) : KpN n Bl Bg A C :=
  ⟨h.1.trans k.1, fun cs t x => k.2.1 cs t (h.2.1 cs t x), fun cs t x => k.2.2 cs t (h.2.2 cs t x)⟩
theorem box_putObj {W : World} {b l : Nat} {cs : Array Value} {t : TypeId} {o : Obj} (o' : Obj) (h : Box W b cs t) (hl : W.heap[l]? = some o) (ho : o.isCells = false) : Box (W.putObj l o') b cs t := by
  have hne : b ≠ l := fun e => by
    subst e
    rw [show W.heap[b]? = _ from h] at hl
    cases hl
    cases ho
  exact (World.putObj_heap_other hne).trans h
theorem kpn_b {n Bl Bg : Nat} {w : World} (hn : n ≤ w.heap.size) (W : World) (l : Nat) (o o' : Obj) (hl : w.heap.size ≤ l) (h : W.heap[l]? = some o) (ho : o.isCells = false) (hw : o.isWalk = false) : KpN n Bl Bg W (W.putObj l o') :=
  ⟨belowK_b hn W l o o' hl h ho hw, fun cs t x => box_putObj o' x h ho, fun cs t x => box_putObj o' x h ho⟩
theorem KpN.refl (n Bl Bg : Nat) (W : World) : KpN n Bl Bg W W := ⟨Below.refl _ _, fun _ _ h => h, fun _ _ h => h⟩

theorem drop_rev {α : Type} {l : List α} {k : Nat} {x : α} (h : l[k]? = some x) : (l.drop (k + 1)).reverse ++ [x] = (l.drop k).reverse := by
  obtain ⟨hk, rfl⟩ := List.getElem?_eq_some_iff.1 h
  rw [List.drop_eq_getElem_cons hk, List.reverse_cons]

set_option maxRecDepth 100000 in
set_option maxHeartbeats 4000000 in
theorem nf1_in (F : Fence) (n : Nat) (hF : F.fn 111) (hro : F.round = none) (hn : 1 ≤ n) (l Bl Bg : Nat) (base got : Int) (q1 : Option Addr) (q2 : Nat) (w0 : World) (ms : List (MS w0)) (hM : MRow w0 q1 (ms.map Subtype.val))
    (hb : 0 ≤ base ∧ base ≤ 100000) (hg : 0 ≤ got ∧ got ≤ 100000) (hl30 : ms.length ≤ 30) (J Jx : List (MS w0) → World → Prop)
    (hY : ∀ pre x W, J pre W → pre.length < ms.length → YieldAt F (n - 1) Tryz.prog l #[M.val x.1] W fun e W' =>
      (e = .returned (.bool true) ∧ J (pre ++ [x]) W' ∧ KpN w0.heap.size Bl Bg W W') ∨ (e = .returned (.bool false) ∧ Jx (pre ++ [x]) W'))
    (W : World) (hBl : Box W Bl #[.int .i64 base, .slice q1 ms.length q2] 115) (hBg : Box W Bg #[.int .i64 got] 3) (hB : Below w0.heap.size w0 W) (h0 : J [] W) :
    CallsIn F n Tryz.prog 111 #[.func (.yield l) #[] #[], .pointer (some ⟨Bl, 0, none⟩), .pointer (some ⟨Bg, 0, none⟩)] W fun e W' => (∃ v, e = .returned v) ∧
      ((∃ ys, ys = (ms.drop (got - base).toNat).reverse ∧ J ys W') ∨ (∃ pre, (∃ k, (got - base).toNat ≤ k ∧ k < ms.length ∧ pre = (ms.drop k).reverse) ∧ Jx pre W')) := by
  obtain ⟨N, hN⟩ : ∃ N, ms.length = N := ⟨_, rfl⟩
  obtain ⟨s, hs⟩ : ∃ s, (got - base).toNat = s := ⟨_, rfl⟩
  rw [hN] at hl30 hBl
  have HM : Hid (MRow w0 q1 (ms.map Subtype.val)) := hM
  have HBl : Hid (Box W Bl #[.int .i64 base, .slice q1 N q2] 115) := hBl
  have HBg : Hid (Box W Bg #[.int .i64 got] 3) := hBg
  have HN : Hid (ms.length = N) := hN
  have HS : Hid ((got - base).toNat = s) := hs
  obtain ⟨l0, l1, lz⟩ := hBl.at2
  rw [hN, hs]
  rw [hN] at hY
  obtain ⟨hb0, hb1⟩ := hb
  obtain ⟨hg0, hg1⟩ := hg
  clear hM hBl hBg hN hs
  refine callsIn_of_wp Tryz.func111 rfl hF ?_ hro
  simp only [Tryz.ntmps111, List.size_toArray, List.length_cons, List.length_nil, Nat.reduceAdd, Nat.reduceSub, Array.replicate_succ, Array.replicate_zero, List.push_toArray, List.append_toArray, List.nil_append, List.cons_append]
  gi_wp2
  gi_loopw [4] (fun i wr => ∃ k : Nat, k ≤ N ∧ i = .int .i64 ((k : Int) - 1) ∧ J (ms.drop (max s k)).reverse wr ∧ Below w0.heap.size w0 wr ∧ Box wr Bl #[.int .i64 base, .slice q1 N q2] 115 ∧ Box wr Bg #[.int .i64 got] 3) (fun i _ => (intOf i + 1).toNat)
  case atStart => exact ⟨N, Nat.le_refl _, by first | rfl | go_num, by rw [List.drop_of_length_le (by rw [HN.out]; omega)]; exact h0, hB, HBl.out, HBg.out⟩
  case round =>
    obtain ⟨k, hk, rfl, hJ, hBr, hXl, hXg⟩ := hrel
    obtain ⟨l0, l1, lz⟩ := hXl.at2
    have g0 : wr.cell? ⟨Bg, 0, none⟩ = some (.int .i64 got) := by rw [hXg.cell]; rfl
    have gz := hXg.lt
    cases k with
    | zero =>
      have HJ : Hid (J (ms.drop s).reverse wr) := by have := hJ; rwa [Nat.max_eq_left (Nat.zero_le s)] at this
      clear hJ
      gi_wp2
      go_end0
      exact ⟨⟨_, rfl⟩, .inl ⟨_, rfl, HJ.out⟩⟩
    | succ k =>
      rw [show ((k + 1 : Nat) : Int) - 1 = (k : Int) by omega]
      by_cases hsk : s ≤ k
      · have hge : got ≤ base + k := by have := HS.out; omega
        obtain ⟨m, hmk⟩ : ∃ m, ms[k]? = some m := ⟨_, List.getElem?_eq_getElem (by rw [HN.out]; omega)⟩
        have HJ : J (ms.drop (k + 1)).reverse wr := by have := hJ; rwa [Nat.max_eq_right (by omega)] at this
        have HP : Hid ((ms.drop (k + 1)).reverse ++ [m] = (ms.drop k).reverse) := drop_rev hmk
        obtain ⟨⟨b, off, ea, m0, m1, m2, m3⟩, hrow⟩ := (HM.out.below hBr).2 k m.1 (by rw [List.getElem?_map, hmk]; rfl)
        subst ea
        obtain ⟨fn, tmps, assign, body, hy, hR⟩ := hY _ m wr HJ (by rw [List.length_reverse, List.length_drop, HN.out]; omega)
        dsimp only [M.val] at hy
        have HXl : Hid (Box wr Bl #[.int .i64 base, .slice (some ⟨b, off, none⟩) N q2] 115) := hXl
        have HXg : Hid (Box wr Bg #[.int .i64 got] 3) := hXg
        have HBr : Hid (Below w0.heap.size w0 wr) := hBr
        have hkN : (k : Int) < (N : Int) := by omega
        clear hJ HJ hXl hXg hBr hrow hmk hY
        gi_wp2
        refine hR.mono ?_
        rintro e W3 (⟨rfl, hJ3, hk3⟩ | ⟨rfl, hJx3⟩)
        · rw [HP.out] at hJ3
          clear hR hy
          gi_wp2
          go_roundw
          case rel => exact ⟨k, by omega, by first | rfl | go_num, by rw [Nat.max_eq_right hsk]; exact hJ3, HBr.out.trans hk3.1, hk3.2.1 _ _ HXl.out, hk3.2.2 _ _ HXg.out⟩
          case measure => simp [intOf]
        · rw [HP.out] at hJx3
          clear hR hy
          gi_wp2
          refine bodyPost_ret (results_none rfl _ _ _) rfl ?_
          exact ⟨⟨_, rfl⟩, .inr ⟨_, ⟨k, hsk, by omega, rfl⟩, hJx3⟩⟩
      · have hlt : base + k < got := by have := HS.out; omega
        have HJ : Hid (J (ms.drop s).reverse wr) := by have := hJ; rwa [Nat.max_eq_left (by omega)] at this
        clear hJ
        gi_wp2
        go_end0
        exact ⟨⟨_, rfl⟩, .inl ⟨_, rfl, HJ.out⟩⟩

/-- What newestFirst's value yields: what is coming, the newest first; or a part, where a round has said 'no more'. -/
theorem nf_stops (F : Fence) (n : Nat) (hF : F.fn 111) (hro : F.round = none) (hn : 1 ≤ n) (Bl Bg : Nat) (base got : Int) (q1 : Option Addr) (q2 : Nat) (w0 : World) (ms : List (MS w0)) (hM : MRow w0 q1 (ms.map Subtype.val))
    (hb : 0 ≤ base ∧ base ≤ 100000) (hg : 0 ≤ got ∧ got ≤ 100000) (hl30 : ms.length ≤ 30) (w : World) (hBl : Box w Bl #[.int .i64 base, .slice q1 ms.length q2] 115) (hBg : Box w Bg #[.int .i64 got] 3) (hB : Below w0.heap.size w0 w) :
    SeqStopsK F n Tryz.prog 111 #[.pointer (some ⟨Bl, 0, none⟩), .pointer (some ⟨Bg, 0, none⟩)] (fun x : MS w0 => #[M.val x.1]) (KpN w0.heap.size Bl Bg)
      (fun ys => ys = (ms.drop (got - base).toNat).reverse) (fun pre => ∃ k, (got - base).toNat ≤ k ∧ k < ms.length ∧ pre = (ms.drop k).reverse) ms.length w := fun l J Jx W hW _ _ hY h0 =>
  nf1_in F n hF hro hn l Bl Bg base got q1 q2 w0 ms hM hb hg hl30 J Jx hY W (hBl.below hW) (hBg.below hW) (hB.trans (hW.mono hB.size)) h0

theorem row_subtype {w : World} {q1 : Option Addr} {ms : List M} (hM : MRow w q1 ms) (h : ∀ s ∈ ms.map M.say, okS s = true) : ∃ ns : List (MS w), ns.map Subtype.val = ms := by
  refine ⟨ms.attach.map (fun m => ⟨m.1, ?_⟩), ?_⟩
  · obtain ⟨i, hi⟩ := List.mem_iff_getElem?.1 m.2
    exact ⟨(hM.2 i m.1 hi).2, h _ (List.mem_map_of_mem m.2)⟩
  · rw [List.map_map]
    exact List.attach_map_subtype_val ms

def NfP (d : WoD) (f t : Nat) (w0 w : World) (e : Ending) (w' : World) : Prop := ∃ (q1 : Option Addr) (q2 : Nat) (ns : List (MS w0)) (Bl Bg : Nat), e = .returned (.func (.func 111) #[] #[.pointer (some ⟨Bl, 0, none⟩), .pointer (some ⟨Bg, 0, none⟩)]) ∧
  MRow w0 q1 (ns.map Subtype.val) ∧ (ns.map Subtype.val).map M.say = (d.d f).y t ∧ Box w' Bl #[.int .i64 ((d.d f).b t), .slice q1 ns.length q2] 115 ∧ Box w' Bg #[.int .i64 ((d.d t).g f)] 3 ∧ (w.heap.size ≤ Bl ∧ w.heap.size ≤ Bg) ∧ Below w.heap.size w w'

theorem nf_two {w W : World} (h : Below w.heap.size w W) (cs cs2 : Array Value) (t t2 : TypeId) : Box ((W.alloc (.cells cs t)).alloc (.cells cs2 t2)).drew W.heap.size cs t ∧ Box ((W.alloc (.cells cs t)).alloc (.cells cs2 t2)).drew (W.heap.size + 1) cs2 t2 ∧ (w.heap.size ≤ W.heap.size ∧ w.heap.size ≤ W.heap.size + 1) ∧ Below w.heap.size w ((W.alloc (.cells cs t)).alloc (.cells cs2 t2)).drew := by
  obtain ⟨a, b⟩ := Box.two W cs cs2 t t2
  have hd : Below ((W.alloc (.cells cs t)).alloc (.cells cs2 t2)).heap.size ((W.alloc (.cells cs t)).alloc (.cells cs2 t2)) ((W.alloc (.cells cs t)).alloc (.cells cs2 t2)).drew := below_drewN (Below.refl _ _) 1
  have hs := h.size
  exact ⟨a.below hd, b.below hd, ⟨hs, by omega⟩, bel_trans (bel_alloc (bel_alloc h _) _) hd⟩
theorem nf_out {d : WoD} {f t : Nat} {w0 w W' : World} {q1 : Option Addr} {q2 n : Nat} {ns : List (MS w0)} {Bl Bg : Nat} {base got : Int} {y : List Say} (HE : (d.d f).b t = base ∧ (d.d t).g f = got ∧ (d.d f).y t = y) (HN : ns.length = n)
    (HM : MRow w0 q1 (ns.map Subtype.val) ∧ (ns.map Subtype.val).map M.say = y) (hl : Box W' Bl #[.int .i64 base, .slice q1 n q2] 115) (hg : Box W' Bg #[.int .i64 got] 3) (h : w.heap.size ≤ Bl ∧ w.heap.size ≤ Bg) (hB : Below w.heap.size w W') :
    NfP d f t w0 w (.returned (.func (.func 111) #[] #[.pointer (some ⟨Bl, 0, none⟩), .pointer (some ⟨Bg, 0, none⟩)])) W' :=
  ⟨q1, q2, ns, Bl, Bg, rfl, HM.1, HM.2.trans HE.2.2.symm, by rw [HE.1, HN]; exact hl, by rw [HE.2.1]; exact hg, h, hB⟩

set_option maxRecDepth 100000 in
set_option maxHeartbeats 4000000 in
theorem newestFirst_any (d : WoD) (p : WoP) (f t : Nat) (w0 w : World) (hR0 : WoR w0 d p) (hB0 : Below w0.heap.size w0 w) (hok : WOk d) (hf : f < d.nn) (ht : t < d.nn) :
    Calls Tryz.prog 95 #[.agg (wcells d p), .int .i64 (f : Int), .int .i64 (t : Int)] w (NfP d f t w0 w) := by
  have hR := hR0.below hB0
  obtain ⟨size, nn, D, nk, K⟩ := d
  obtain ⟨⟨pn, cn⟩, np, ⟨pk, ck⟩, kp⟩ := p
  have hn4 := hok.n.2.2
  obtain ⟨cf1, cf2, cf3, cf4⟩ := hok.c f hf
  obtain ⟨ct1, ct2, ct3, ct4⟩ := hok.c t ht
  obtain ⟨sb1, sb2, sb3, sb4⟩ := sB_parts (hok.o f hf t ht)
  obtain ⟨base, hbase⟩ : ∃ x, (D f).b t = x := ⟨_, rfl⟩
  obtain ⟨got, hgot⟩ : ∃ x, (D t).g f = x := ⟨_, rfl⟩
  obtain ⟨y, hy⟩ : ∃ x, (D f).y t = x := ⟨_, rfl⟩
  have HE : Hid ((D f).b t = base ∧ (D t).g f = got ∧ (D f).y t = y) := ⟨hbase, hgot, hy⟩
  simp only [hbase, hy] at sb1 sb2 sb3 sb4 hf ht hn4 cf1 cf2 cf3 cf4 ct1 ct2 ct3 ct4
  have bA := bel_alloc (Below.refl w.heap.size w) (.cells #[.int .i64 size, .slice pn nn cn, .slice pk nk ck] 32)
  have X := Box.new w #[.int .i64 size, .slice pn nn cn, .slice pk nk ck] 32
  have hR1 : NsR _ pn nn D np := hR.n.below bA
  obtain ⟨bn, on1, rfl, y0, y1, y2, y3, y4⟩ := hR1.at hf
  obtain ⟨bn2, on2, ea, z0, z1, z2, z3, z4⟩ := hR1.at ht
  simp only [Option.some.injEq, Addr.mk.injEq, and_true] at ea
  obtain ⟨e1, e2⟩ := ea
  subst e1 e2
  have hrf := hR1.2.2 f hf
  have hrt := hR1.2.2 t ht
  obtain ⟨bo, oo, eo, o0, o1⟩ := hrf.o.at (i := t) (by omega)
  obtain ⟨bi, oi, ei, i1⟩ := hrt.i.at (i := f) (by omega)
  have hsm := (hR0.n.2.2 f hf).o.2.2 t (by show t < (D f).no; omega)
  rw [eo, cf3] at y3
  rw [ei, ct4] at z4
  rw [hbase] at o0
  rw [hgot] at i1
  rw [hy] at o1 hsm
  obtain ⟨⟨q1, q2⟩, cq⟩ : ∃ q, (np f).op t = q := ⟨_, rfl⟩
  obtain ⟨ms, hmse⟩ : ∃ m, (np f).ms t = m := ⟨_, rfl⟩
  rw [cq] at o1 hsm
  simp only at o1 hsm
  rw [hmse] at hsm
  obtain ⟨hms, hsay⟩ := hsm
  obtain ⟨ns, hns⟩ := row_subtype hms (by rw [hsay]; exact sb4)
  have HL : Hid (ns.length = y.length) := by show _ = _; rw [← hsay, ← hns]; simp
  subst hns
  have HM : Hid (MRow w0 q1 (ns.map Subtype.val) ∧ (ns.map Subtype.val).map M.say = y) := ⟨hms, hsay⟩
  rw [← HL.out] at o1
  obtain ⟨n, hn⟩ : ∃ n, ns.length = n := ⟨_, rfl⟩
  have HN : Hid (ns.length = n) := hn
  rw [hn] at o1
  have hbn := lt_of_cell y0
  have hbo := lt_of_cell o0
  have hbi := lt_of_cell i1
  obtain ⟨x0, x1, x2, xz⟩ := X.at3
  obtain ⟨W1, hW1⟩ : ∃ W1, w.alloc (.cells #[.int .i64 size, .slice (some ⟨bn, on1, none⟩) nn cn, .slice pk nk ck] 32) = W1 := ⟨_, rfl⟩
  rw [hW1] at bA X y0 y1 y2 y3 y4 z0 z1 z2 z3 z4 o0 o1 i1 hbn hbo hbi x0 x1 x2 xz
  have HBA : Hid (Below w.heap.size w W1) := bA
  have hfi : (f : Int) < (nn : Int) := by omega
  have hti : (t : Int) < (nn : Int) := by omega
  have v1 := World.new_ne W1 _ x1
  have v2 := World.new_ne W1 _ y3
  have v3 := World.new_ne W1 _ z4
  have v4 := World.new_ne W1 _ o0
  have v5 := World.new_ne W1 _ o1
  have v6 := World.new_ne W1 _ i1
  clear bA X hR1 hrf hrt eo ei hms hsay sb4 y0 y1 y2 y4 z0 z1 z2 z3 hbase hgot hy cq hmse hn hok hR hR0 hB0 cf1 cf2 cf3 cf4 ct1 ct2 ct3 ct4 sb1 sb2 sb3 x0 x2
  go_enter Tryz.func95, Tryz.ntmps95
  go_wp2_with fail
  go_region_held3 (fun w' => w'.cell? ⟨w.heap.size, 1, none⟩ = some (.slice (some ⟨bn, on1, none⟩) nn cn) ∧ w'.cell? ⟨bn, on1 + f * 5 + 3, none⟩ = some (.slice (some ⟨bo, oo, none⟩) nn (np f).o.2) ∧ w'.cell? ⟨bn, on1 + t * 5 + 4, none⟩ = some (.slice (some ⟨bi, oi, none⟩) nn (np t).i.2) ∧ w'.cell? ⟨bo, oo + t * 2, none⟩ = some (.int .i64 base) ∧ w'.cell? ⟨bo, oo + t * 2 + 1, none⟩ = some (.slice q1 n q2) ∧ w'.cell? ⟨bi, oi + f, none⟩ = some (.int .i64 got))
    (go_keep) (fail)
  · have HT : Hid _ := nf_two HBA.out #[.int .i64 base, .slice q1 n q2] #[.int .i64 got] 115 3
    clear v1 v2 v3 v4 v5 v6 x1 y3 z4 o0 o1 i1
    go_wp2
    go_ret
    exact nf_out HE.out HN.out HM.out HT.out.1 HT.out.2.1 HT.out.2.2.1 HT.out.2.2.2
  · have HT : Hid _ := nf_two HBA.out #[.int .i64 got] #[.int .i64 base, .slice q1 n q2] 3 115
    clear v1 v2 v3 v4 v5 v6 x1 y3 z4 o0 o1 i1
    go_wp2
    go_ret
    exact nf_out HE.out HN.out HM.out HT.out.2.1 HT.out.1 ⟨HT.out.2.2.1.2, HT.out.2.2.1.1⟩ HT.out.2.2.2
end Go.Proofs.YtpfppeifppdmbaaGreat
