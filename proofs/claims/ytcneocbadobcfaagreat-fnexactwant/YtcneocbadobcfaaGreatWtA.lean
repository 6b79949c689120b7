/- What impl's doneAt does with Want's deed. -/
import Derived.Test.YtcneocbadobcfaaGreatWtY
import Derived.Defers
namespace Go.Proofs.YtcneocbadobcfaaGreat
open Go.RowKit
set_option linter.unusedVariables false

set_option maxRecDepth 100000 in
set_option maxHeartbeats 2000000 in
theorem close_no (u : FrameMode) (bs bt bn ba m : Nat) (c0 c1 c3 c4 c5 t : Value) (w : World) (XS : Box w bs #[.pointer (some ⟨m, 0, none⟩)] 65) (XM : Box w m #[c0, c1, .bool false, c3, c4, c5] 123) (XT : Box w bt #[t] 4) :
    CallsD Tryz.prog 77 #[.pointer (some ⟨bs, 0, none⟩), .pointer (some ⟨bt, 0, none⟩), .pointer (some ⟨bn, 0, none⟩), .pointer (some ⟨ba, 0, none⟩)] u w fun e u' w' => u' = u ∧ (e = .returned (.tuple #[]) ∧ w' = w.setCell ⟨bt, 0, none⟩ (.bool true)) := by
  have s0 : w.cell? ⟨bs, 0, none⟩ = some (.pointer (some ⟨m, 0, none⟩)) := XS.cell 0
  have m2 : w.cell? ⟨m, 2, none⟩ = some (.bool false) := XM.cell 2
  have t0 : w.cell? ⟨bt, 0, none⟩ = some t := XT.cell 0
  have tf := XT.frozen 0
  have z0 := XS.lt
  have z1 := XM.lt
  have z2 := XT.lt
  go_enter_d Tryz.func77, Tryz.ntmps77
  go_wp2
  go_end0
  exact ⟨rfl, rfl⟩

set_option maxRecDepth 100000 in
set_option maxHeartbeats 2000000 in
theorem close_yes (u : FrameMode) (bs bt bn ba m : Nat) (c0 c1 c3 c4 c5 t : Value) (d : ND) (p : NP) (a0 a1 a2 a3 a4 : Value) (w : World) (XS : Box w bs #[.pointer (some ⟨m, 0, none⟩)] 65) (XM : Box w m #[c0, c1, .bool true, c3, c4, c5] 123) (XT : Box w bt #[t] 4) (XN : Box w bn (ncells d p) 34) (XA : Box w ba #[a0, a1, a2, a3, a4] 34)
    (hR : NR w d p) (hd : Nsm d) (h1 : bn ≠ bt) (h2 : ba ≠ bt) (HR : ∀ w', Only w w' (fun b => b = bt) → NR w' d p) :
    CallsD Tryz.prog 77 #[.pointer (some ⟨bs, 0, none⟩), .pointer (some ⟨bt, 0, none⟩), .pointer (some ⟨bn, 0, none⟩), .pointer (some ⟨ba, 0, none⟩)] u w fun e u' w' => u' = u ∧ (e = .returned (.tuple #[]) ∧ ∃ p', Box w' ba (ncells d p') 34 ∧ Box w' bt #[.bool false] 4 ∧ NOw w' d p' ∧ (∀ b, NBs d p' b → w.heap.size ≤ b) ∧ Only w w' (fun b => b = bt ∨ b = ba)) := by
  have s0 : w.cell? ⟨bs, 0, none⟩ = some (.pointer (some ⟨m, 0, none⟩)) := XS.cell 0
  have m2 : w.cell? ⟨m, 2, none⟩ = some (.bool true) := XM.cell 2
  have t0 : w.cell? ⟨bt, 0, none⟩ = some t := XT.cell 0
  have tf := XT.frozen 0
  have z0 := XS.lt
  have z1 := XM.lt
  have z2 := XT.lt
  have on : Only w (w.setCell ⟨bt, 0, none⟩ (.bool false)) (fun b => b = bt) := (Only.refl w (fun b => b = bt)).setCell ⟨bt, 0, none⟩ _ rfl
  have XT1 : Box (w.setCell ⟨bt, 0, none⟩ (.bool false)) bt #[.bool false] 4 := heap_setCell_same _ _ 0 _ _ _ XT
  have XN1 := XN.only on h1
  have XA1 := XA.only on h2
  have hR1 := HR _ on
  obtain ⟨n0, n1, n2, n3, n4, nz⟩ := XN1.at5
  have HA : Hid (ba < w.heap.size) := XA.lt
  have HON : Hid (Only w (w.setCell ⟨bt, 0, none⟩ (.bool false)) (fun b => b = bt)) := on
  clear on XN XA XN1
  go_enter_d Tryz.func77, Tryz.ntmps77
  go_wp2_with fail
  refine (copyNode_any d p _ hd hR1).mono ?_
  rintro e w1 ⟨q, rfl, N1, L1, b1⟩
  replace XA1 := XA1.below b1
  replace XT1 := XT1.below b1
  obtain ⟨y0, y1, y2, y3, y4, yz⟩ := XA1.at5
  have f0 := XA1.frozen 0
  have f1 := XA1.frozen 1
  have f2 := XA1.frozen 2
  have f3 := XA1.frozen 3
  have f4 := XA1.frozen 4
  have hsz : (w.setCell ⟨bt, 0, none⟩ (.bool false)).heap.size = w.heap.size := by simp
  have R : Hid (∃ p', Box (((((w1.setCell ⟨ba, 0, none⟩ (.int .i64 d.id)).setCell ⟨ba, 1, none⟩ (.slice q.f.1 d.nf q.f.2)).setCell ⟨ba, 2, none⟩ (.slice q.h.1 d.nh q.h.2)).setCell ⟨ba, 3, none⟩ (.slice q.o.1 d.no q.o.2)).setCell ⟨ba, 4, none⟩ (.slice q.i.1 d.ni q.i.2)) ba (ncells d p') 34 ∧ Box (((((w1.setCell ⟨ba, 0, none⟩ (.int .i64 d.id)).setCell ⟨ba, 1, none⟩ (.slice q.f.1 d.nf q.f.2)).setCell ⟨ba, 2, none⟩ (.slice q.h.1 d.nh q.h.2)).setCell ⟨ba, 3, none⟩ (.slice q.o.1 d.no q.o.2)).setCell ⟨ba, 4, none⟩ (.slice q.i.1 d.ni q.i.2)) bt #[.bool false] 4 ∧ NOw (((((w1.setCell ⟨ba, 0, none⟩ (.int .i64 d.id)).setCell ⟨ba, 1, none⟩ (.slice q.f.1 d.nf q.f.2)).setCell ⟨ba, 2, none⟩ (.slice q.h.1 d.nh q.h.2)).setCell ⟨ba, 3, none⟩ (.slice q.o.1 d.no q.o.2)).setCell ⟨ba, 4, none⟩ (.slice q.i.1 d.ni q.i.2)) d p' ∧ (∀ b, NBs d p' b → w.heap.size ≤ b) ∧ Only w (((((w1.setCell ⟨ba, 0, none⟩ (.int .i64 d.id)).setCell ⟨ba, 1, none⟩ (.slice q.f.1 d.nf q.f.2)).setCell ⟨ba, 2, none⟩ (.slice q.h.1 d.nh q.h.2)).setCell ⟨ba, 3, none⟩ (.slice q.o.1 d.no q.o.2)).setCell ⟨ba, 4, none⟩ (.slice q.i.1 d.ni q.i.2)) (fun b => b = bt ∨ b = ba)) := by
    rw [hsz] at L1
    have on2 : Only w1 (((((w1.setCell ⟨ba, 0, none⟩ (.int .i64 d.id)).setCell ⟨ba, 1, none⟩ (.slice q.f.1 d.nf q.f.2)).setCell ⟨ba, 2, none⟩ (.slice q.h.1 d.nh q.h.2)).setCell ⟨ba, 3, none⟩ (.slice q.o.1 d.no q.o.2)).setCell ⟨ba, 4, none⟩ (.slice q.i.1 d.ni q.i.2)) (fun b => b = ba) := (((((Only.refl w1 (fun b => b = ba)).setCell ⟨ba, 0, none⟩ _ rfl).setCell ⟨ba, 1, none⟩ _ rfl).setCell ⟨ba, 2, none⟩ _ rfl).setCell ⟨ba, 3, none⟩ _ rfl).setCell ⟨ba, 4, none⟩ _ rfl
    exact ⟨q, lit_box5 XA1, XT1.only on2 (fun e => h2 e.symm), N1.sm (on2.sm (fun b hb e => by have := L1 b hb; have := HA.out; omega)), L1, ((HON.out.below b1).more (fun b hb => .inl hb)).trans (on2.more (fun b hb => .inr hb))⟩
  clear XA1 XT1 N1 L1 b1 hR1 HR hR XS XM XT
  go_wp2
  go_end0
  exact ⟨rfl, R.out⟩

/-- What Want answers where it asks. -/
structure DoneP (pg : Nat) (own : Bool) (d : ND) (w : World) (e : Ending) (w' : World) : Prop where
  out : ∃ p', e = .returned (.tuple #[.agg (ncells (if askQ d pg own then askD d pg own else d) p'), .bool (askQ d pg own)]) ∧ NOw w' (if askQ d pg own then askD d pg own else d) p' ∧ (∀ b, NBs (if askQ d pg own then askD d pg own else d) p' b → w.heap.size ≤ b) ∧ Below w.heap.size w w'

set_option maxRecDepth 100000 in
set_option maxHeartbeats 2000000 in
theorem doneAt_any (pg : Nat) (own : Bool) (bp bo : Nat) (d : ND) (p : NP) (w : World) (hs : Nsm d) (hR : NR w d p) (hpg : pg ≤ 5) (hnf : d.nf = 6) (hno : 1 ≤ d.no ∧ d.no ≤ 4) (XP : Box w bp #[.int .i64 pg] 3) (XO : Box w bo #[.bool own] 4) :
    Calls Tryz.prog 28 #[.agg (ncells d p), .func (.func 29) #[] #[.pointer (some ⟨bp, 0, none⟩), .pointer (some ⟨bo, 0, none⟩)]] w fun e w' => DoneP pg own d w e w' := by
  have hmf : ∀ (fn : Fn) (first cap : Array Value) (w : World), (Instr.makeFunc fn first cap).run Tryz.prog w = .ok (.func fn first cap) w := fun _ _ _ _ => rfl
  have B := bel_alloc (bel_alloc (bel_alloc (Below.refl w.heap.size w) (.cells (ncells d p) 34)) (.cells #[.int .i64 0, .slice none 0 0, .slice none 0 0, .slice none 0 0, .slice none 0 0] 34)) (.cells #[.bool false] 4)
  obtain ⟨XN, XA, XT⟩ := Box.tri w (ncells d p) #[.int .i64 0, .slice none 0 0, .slice none 0 0, .slice none 0 0, .slice none 0 0] #[.bool false] 34 34 4
  have HR : Hid (NR w d p) := hR
  have hR0 := hR.below B
  have HC : Hid (d.nf = 6 ∧ 1 ≤ d.no ∧ d.no ≤ 4) := ⟨hnf, hno⟩
  clear hR hnf hno
  go_enter_defers Tryz.func28, Tryz.ntmps28
  go_wp2_with fail
  refine (stationOf_any d p _ hs hR0).mono ?_
  rintro e w1 ⟨q, m, rfl, XM, N1, L1, hm, b1⟩
  replace XN := XN.below b1
  replace XA := XA.below b1
  replace XT := XT.below b1
  replace B := bel_trans B b1
  have hz1 : w.heap.size + 3 ≤ m := by simp at hm; omega
  have hm1 := XM.lt
  clear hR0
  have bS := bel_alloc (Below.refl w1.heap.size w1) (.cells #[.pointer (some ⟨m, 0, none⟩)] 65)
  have XS := Box.new w1 #[.pointer (some ⟨m, 0, none⟩)] 65
  have HLq : Hid (∀ b, NBs d q b → w.heap.size + 3 ≤ b ∧ b < m) := fun b hb => by have := L1 b hb; simp at this; omega
  have XP1 := (XP.below B).below bS
  have XO1 := (XO.below B).below bS
  go_wp2_with fail
  refine (deed_any m pg own bp bo d q false _ hs (XM.below bS) (N1.below bS) (fun b hb e => by have := HLq.out b hb; omega) hpg HC.out.1 HC.out.2 XP1 XO1).mono ?_
  rintro e w2 ⟨rfl, A⟩
  obtain ⟨XM2, on2, HN2'⟩ := A
  have HN2 : Hid _ := HN2'
  have hS2 : ∀ b, (b = m ∨ blk q.f = some b ∨ blk q.o = some b) → w.heap.size + 3 ≤ b ∧ b < w1.heap.size := fun b hb => by
    rcases hb with hb | hb | hb
    · omega
    · have := HLq.out b (.inl (.inl hb)); omega
    · have := HLq.out b (.inr (.inr (.inl (.inl hb)))); omega
  have XN2 := (XN.below bS).only on2 (fun hb => by have := hS2 _ hb; omega)
  have XA2 := (XA.below bS).only on2 (fun hb => by have := hS2 _ hb; omega)
  have XT2 := (XT.below bS).only on2 (fun hb => by have := hS2 _ hb; omega)
  have XS2 := XS.only on2 (fun hb => by have := hS2 _ hb; omega)
  have B2 : Below w.heap.size w w2 := (bel_trans B bS).trans ⟨on2.os, on2.tape, on2.output, on2.size, fun i hi => on2.block i (by have := (bel_trans B bS).size; omega) (fun hb => by have := hS2 i hb; omega)⟩
  have hz2 : w1.heap.size < w2.heap.size := XS2.lt
  clear XN XA XT XS XM N1 L1 B bS XP1 XO1 HN2' on2 hS2 XP XO b1 hm
  have s0 : w2.cell? ⟨w1.heap.size, 0, none⟩ = some (.pointer (some ⟨m, 0, none⟩)) := XS2.cell 0
  go_wp2_with fail
  refine (node_any m d q _ w2 XM2).mono ?_
  rintro e w3 ⟨rfl, b3⟩
  replace XN2 := XN2.below b3
  replace XA2 := XA2.below b3
  replace XT2 := XT2.below b3
  replace XS2 := XS2.below b3
  replace XM2 := XM2.below b3
  have B3 := bel_trans B2 b3
  have hz3 := b3.size
  obtain ⟨y0, y1, y2, y3, y4, yz⟩ := XA2.at5
  have f0 := XA2.frozen 0
  have f1 := XA2.frozen 1
  have f2 := XA2.frozen 2
  have f3 := XA2.frozen 3
  have f4 := XA2.frozen 4
  have t0 : w3.cell? ⟨w.heap.size + 1 + 1, 0, none⟩ = some (.bool false) := XT2.cell 0
  have tf := XT2.frozen 0
  have tz := XT2.lt
  have on4 : Only w3 ((((((w3.setCell ⟨w.heap.size + 1, 0, none⟩ (.int .i64 d.id)).setCell ⟨w.heap.size + 1, 1, none⟩ (.slice q.f.1 d.nf q.f.2)).setCell ⟨w.heap.size + 1, 2, none⟩ (.slice q.h.1 d.nh q.h.2)).setCell ⟨w.heap.size + 1, 3, none⟩ (.slice q.o.1 d.no q.o.2)).setCell ⟨w.heap.size + 1, 4, none⟩ (.slice q.i.1 d.ni q.i.2)).setCell ⟨w.heap.size + 1 + 1, 0, none⟩ (.bool true)) (fun b => b = w.heap.size + 1 ∨ b = w.heap.size + 1 + 1) := ((((((Only.refl w3 (fun b => b = w.heap.size + 1 ∨ b = w.heap.size + 1 + 1)).setCell ⟨w.heap.size + 1, 0, none⟩ _ (.inl rfl)).setCell ⟨w.heap.size + 1, 1, none⟩ _ (.inl rfl)).setCell ⟨w.heap.size + 1, 2, none⟩ _ (.inl rfl)).setCell ⟨w.heap.size + 1, 3, none⟩ _ (.inl rfl)).setCell ⟨w.heap.size + 1, 4, none⟩ _ (.inl rfl)).setCell ⟨w.heap.size + 1 + 1, 0, none⟩ _ (.inr rfl)
  have XA4 : Box ((((((w3.setCell ⟨w.heap.size + 1, 0, none⟩ (.int .i64 d.id)).setCell ⟨w.heap.size + 1, 1, none⟩ (.slice q.f.1 d.nf q.f.2)).setCell ⟨w.heap.size + 1, 2, none⟩ (.slice q.h.1 d.nh q.h.2)).setCell ⟨w.heap.size + 1, 3, none⟩ (.slice q.o.1 d.no q.o.2)).setCell ⟨w.heap.size + 1, 4, none⟩ (.slice q.i.1 d.ni q.i.2)).setCell ⟨w.heap.size + 1 + 1, 0, none⟩ (.bool true)) (w.heap.size + 1) (ncells d q) 34 := (lit_box5 XA2).far _ _ (by simp)
  have XT4 : Box ((((((w3.setCell ⟨w.heap.size + 1, 0, none⟩ (.int .i64 d.id)).setCell ⟨w.heap.size + 1, 1, none⟩ (.slice q.f.1 d.nf q.f.2)).setCell ⟨w.heap.size + 1, 2, none⟩ (.slice q.h.1 d.nh q.h.2)).setCell ⟨w.heap.size + 1, 3, none⟩ (.slice q.o.1 d.no q.o.2)).setCell ⟨w.heap.size + 1, 4, none⟩ (.slice q.i.1 d.ni q.i.2)).setCell ⟨w.heap.size + 1 + 1, 0, none⟩ (.bool true)) (w.heap.size + 1 + 1) #[.bool true] 4 := heap_setCell_same _ _ 0 _ _ _ (((((XT2.far ⟨w.heap.size + 1, 0, none⟩ _ (by simp)).far ⟨w.heap.size + 1, 1, none⟩ _ (by simp)).far ⟨w.heap.size + 1, 2, none⟩ _ (by simp)).far ⟨w.heap.size + 1, 3, none⟩ _ (by simp)).far ⟨w.heap.size + 1, 4, none⟩ _ (by simp))
  have XN4 := XN2.only on4 (fun hb => by omega)
  have XS4 := XS2.only on4 (fun hb => by omega)
  have XM4 := XM2.only on4 (fun hb => by omega)
  have HB4 : Hid (Below w.heap.size w ((((((w3.setCell ⟨w.heap.size + 1, 0, none⟩ (.int .i64 d.id)).setCell ⟨w.heap.size + 1, 1, none⟩ (.slice q.f.1 d.nf q.f.2)).setCell ⟨w.heap.size + 1, 2, none⟩ (.slice q.h.1 d.nh q.h.2)).setCell ⟨w.heap.size + 1, 3, none⟩ (.slice q.o.1 d.no q.o.2)).setCell ⟨w.heap.size + 1, 4, none⟩ (.slice q.i.1 d.ni q.i.2)).setCell ⟨w.heap.size + 1 + 1, 0, none⟩ (.bool true))) := B3.trans ⟨on4.os, on4.tape, on4.output, on4.size, fun i hi => on4.block i (by have := B3.size; omega) (fun hb => by omega)⟩
  have HK4 : Hid (∀ {P : Nat → Prop}, (∀ b, P b → w.heap.size + 3 ≤ b) → Sm P w2 ((((((w3.setCell ⟨w.heap.size + 1, 0, none⟩ (.int .i64 d.id)).setCell ⟨w.heap.size + 1, 1, none⟩ (.slice q.f.1 d.nf q.f.2)).setCell ⟨w.heap.size + 1, 2, none⟩ (.slice q.h.1 d.nh q.h.2)).setCell ⟨w.heap.size + 1, 3, none⟩ (.slice q.o.1 d.no q.o.2)).setCell ⟨w.heap.size + 1, 4, none⟩ (.slice q.i.1 d.ni q.i.2)).setCell ⟨w.heap.size + 1 + 1, 0, none⟩ (.bool true))) := fun hP => Sm.trans (sm_bel b3) (on4.sm (fun b hb hs => by have := hP b hb; omega))
  have HZ4 : Hid (w2.heap.size ≤ ((((((w3.setCell ⟨w.heap.size + 1, 0, none⟩ (.int .i64 d.id)).setCell ⟨w.heap.size + 1, 1, none⟩ (.slice q.f.1 d.nf q.f.2)).setCell ⟨w.heap.size + 1, 2, none⟩ (.slice q.h.1 d.nh q.h.2)).setCell ⟨w.heap.size + 1, 3, none⟩ (.slice q.o.1 d.no q.o.2)).setCell ⟨w.heap.size + 1, 4, none⟩ (.slice q.i.1 d.ni q.i.2)).setCell ⟨w.heap.size + 1 + 1, 0, none⟩ (.bool true)).heap.size) := Nat.le_trans hz3 on4.size
  have HX : Hid (_ ∧ _ ∧ _ ∧ _ ∧ _) := ⟨XA4, XT4, XN4, XS4, XM4⟩
  clear XN2 XA2 XT2 XS2 XM2 B2 B3 b3 s0 on4 XA4 XT4 XN4 XS4 XM4
  go_wp2_with fail
  obtain ⟨XA4, XT4, XN4, XS4, XM4⟩ := HX.out
  clear HX
  obtain ⟨V, hV⟩ : ∃ V, ((((((w3.setCell ⟨w.heap.size + 1, 0, none⟩ (.int .i64 d.id)).setCell ⟨w.heap.size + 1, 1, none⟩ (.slice q.f.1 d.nf q.f.2)).setCell ⟨w.heap.size + 1, 2, none⟩ (.slice q.h.1 d.nh q.h.2)).setCell ⟨w.heap.size + 1, 3, none⟩ (.slice q.o.1 d.no q.o.2)).setCell ⟨w.heap.size + 1, 4, none⟩ (.slice q.i.1 d.ni q.i.2)).setCell ⟨w.heap.size + 1 + 1, 0, none⟩ (.bool true)) = V := ⟨_, rfl⟩
  rw [hV] at XA4 XT4 XN4 XS4 XM4 HB4 HK4 HZ4 ⊢
  clear hV y0 y1 y2 y3 y4 yz f0 f1 f2 f3 f4 t0 tf tz
  refine leaves_cons (f := 77) (args := #[.pointer (some ⟨w1.heap.size, 0, none⟩), .pointer (some ⟨w.heap.size + 1 + 1, 0, none⟩), .pointer (some ⟨w.heap.size, 0, none⟩), .pointer (some ⟨w.heap.size + 1, 0, none⟩)]) (by simp) (by simp [go_sem]) ?_
  cases hq : askQ d pg own
  · rw [hq] at XM4
    refine (close_yes .returning _ _ _ _ m _ _ _ _ _ _ d p _ _ _ _ _ V XS4 XM4 XT4 XN4 XA4 (HR.out.below HB4.out) hs (by omega) (by omega) (fun w' on => HR.out.below (HB4.out.trans ⟨on.os, on.tape, on.output, on.size, fun i hi => on.block i (by have := HB4.out.size; omega) (fun hb => by omega)⟩))).mono ?_
    rintro e u' w5 ⟨rfl, rfl, p5, XA5, XT5, N5, L5, on5⟩
    obtain ⟨a0, a1, a2, a3, a4, az⟩ := XA5.at5
    have tt : w5.cell? ⟨w.heap.size + 1 + 1, 0, none⟩ = some (.bool false) := XT5.cell 0
    have tz := XT5.lt
    have HF : Hid (DoneP pg own d w (.returned (.tuple #[.agg #[.int .i64 d.id, .slice p5.f.1 d.nf p5.f.2, .slice p5.h.1 d.nh p5.h.2, .slice p5.o.1 d.no p5.o.2, .slice p5.i.1 d.ni p5.i.2], .bool false])) w5) := by
      refine ⟨p5, ?_, ?_, ?_, ?_⟩
      · rw [hq]; rfl
      · rw [hq]; exact N5
      · rw [hq]; exact fun b hb => by have := L5 b hb; have := HB4.out.size; omega
      · exact HB4.out.trans ⟨on5.os, on5.tape, on5.output, on5.size, fun i hi => on5.block i (by have := HB4.out.size; omega) (fun hb => by omega)⟩
    clear XA5 XT5 N5 L5 on5 XA4 XT4 XN4 XS4 XM4
    simp [Leaves, settle, results, Tryz.results28, go_sem, a0, a1, a2, a3, a4, tt]
    exact HF.out
  · rw [hq] at XM4
    refine (close_no .returning _ _ _ _ m _ _ _ _ _ _ V XS4 XM4 XT4).mono ?_
    rintro e u' w5 ⟨rfl, rfl, rfl⟩
    have on5 : Only V (V.setCell ⟨w.heap.size + 1 + 1, 0, none⟩ (.bool true)) (fun b => b = w.heap.size + 1 + 1) := (Only.refl V (fun b => b = w.heap.size + 1 + 1)).setCell ⟨w.heap.size + 1 + 1, 0, none⟩ _ rfl
    have XA5 := XA4.only on5 (fun e => by omega)
    have XT5 : Box (V.setCell ⟨w.heap.size + 1 + 1, 0, none⟩ (.bool true)) (w.heap.size + 1 + 1) #[.bool true] 4 := heap_setCell_same _ _ 0 _ _ _ XT4
    obtain ⟨op, ms, N2, L2⟩ := HN2.out hq
    have L2' : ∀ b, NBs (askD d pg own) { q with op := op, ms := ms } b → w.heap.size + 3 ≤ b := fun b hb => by
      rcases L2 b hb with h | h
      · exact (HLq.out b h).1
      · simp at h
        omega
    have N4 := N2.sm (HK4.out L2')
    have N5 := N4.sm (on5.sm (fun b hb e => by have := L2' b hb; omega))
    have HF : Hid (DoneP pg own d w (.returned (.tuple #[.agg #[.int .i64 d.id, .slice q.f.1 d.nf q.f.2, .slice q.h.1 d.nh q.h.2, .slice q.o.1 d.no q.o.2, .slice q.i.1 d.ni q.i.2], .bool true])) (V.setCell ⟨w.heap.size + 1 + 1, 0, none⟩ (.bool true))) := by
      refine ⟨{ q with op := op, ms := ms }, ?_, ?_, ?_, ?_⟩
      · rw [hq]; rfl
      · rw [hq]; exact N5
      · rw [hq]; exact fun b hb => by have := L2' b hb; omega
      · exact HB4.out.trans ⟨on5.os, on5.tape, on5.output, on5.size, fun i hi => on5.block i (by have := HB4.out.size; omega) (fun hb => by omega)⟩
    obtain ⟨a0, a1, a2, a3, a4, az⟩ := XA5.at5
    have tt : (V.setCell ⟨w.heap.size + 1 + 1, 0, none⟩ (.bool true)).cell? ⟨w.heap.size + 1 + 1, 0, none⟩ = some (.bool true) := XT5.cell 0
    obtain ⟨U, hU⟩ : ∃ U, V.setCell ⟨w.heap.size + 1 + 1, 0, none⟩ (.bool true) = U := ⟨_, rfl⟩
    rw [hU] at a0 a1 a2 a3 a4 az tt HF ⊢
    clear hU XA5 XT5 N5 N4 N2 L2 L2' on5 XA4 XT4 XN4 XS4 XM4
    simp [Leaves, settle, results, Tryz.results28, go_sem, a0, a1, a2, a3, a4, tt]
    exact HF.out
end Go.Proofs.YtcneocbadobcfaaGreat
