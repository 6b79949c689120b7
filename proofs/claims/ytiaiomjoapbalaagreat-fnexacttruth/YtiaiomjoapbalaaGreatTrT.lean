/- TrC and TrT: see the heads of the parts. -/
import Derived.Test.YtiaiomjoapbalaaGreatTrA
import Derived.Test.YtiaiomjoapbalaaGreatSpecQ2
import Derived.Test.YtiaiomjoapbalaaGreatAppR
import Derived.Test.YtiaiomjoapbalaaGreatTrL
/- What the specification's l7Coming does. -/
namespace Go.Proofs.YtiaiomjoapbalaaGreat
open Go.RowKit
set_option linter.unusedVariables false

theorem com_in {b g : Int} {y : List Say} {k : Nat} {s : Say} (hs : y[k]? = some s) (h : g ≤ b + k) : comY b g (y.take (k + 1)) = comY b g (y.take k) ++ [s] := by
  obtain ⟨hk, rfl⟩ := List.getElem?_eq_some_iff.1 hs
  unfold comY
  rw [List.take_succ_eq_append_getElem hk, List.drop_append_of_le_length (by rw [List.length_take]; omega)]
theorem com_out {b g : Int} {y : List Say} {k : Nat} (h : b + k < g) : comY b g (y.take (k + 1)) = comY b g (y.take k) := by
  unfold comY
  rw [List.drop_of_length_le (by rw [List.length_take]; omega), List.drop_of_length_le (by rw [List.length_take]; omega)]
theorem com_all {b g : Int} {y : List Say} {k : Nat} (h : y.length ≤ k) : comY b g (y.take k) = comY b g y := by rw [List.take_of_length_le h]
theorem com_mem {b g : Int} {y : List Say} {s : Say} (h : s ∈ comY b g y) : s ∈ y := List.mem_of_mem_drop h
theorem com_len (b g : Int) (y : List Say) : (comY b g y).length ≤ y.length := by unfold comY; rw [List.length_drop]; omega

/-- One more message behind those that are coming. -/
theorem com_step {w0 wr w1 w4 : World} {lo : Nat} {a' a2 : Option Addr} {c' c2 g3 cap3 : Nat} {ds : List M} {k p : Int} {o : Bool} {xs : List Int}
    (hr : wr.ownsRow lo 55 4 (.slice a' ds.length c') ds.length (flat ds)) (hL : Lists wr lo ds) (hlo : lo ≤ wr.heap.size)
    (b2 : Below wr.heap.size wr w1) (o2 : w1.ownsRow wr.heap.size 3 1 (.slice a2 xs.length c2) xs.length (xs.map (Value.int .i64)))
    (g : (w1.alloc (.cells #[.int .i64 k, .int .i64 p, .bool o, .slice a2 xs.length c2] 55)).grownBy w4 (Value.slice a' ds.length c').ownBlock)
    (o3 : w4.ownsRow lo 55 4 (.slice (some ⟨g3, 0, none⟩) (ds.length + 1) cap3) (ds.length + 1) (flat ds ++ [.int .i64 k, .int .i64 p, .bool o, .slice a2 xs.length c2])) :
    w4.ownsRow lo 55 4 (.slice (some ⟨g3, 0, none⟩) (ds ++ [(⟨k, p, o, a2, c2, xs⟩ : M)]).length cap3) (ds ++ [(⟨k, p, o, a2, c2, xs⟩ : M)]).length (flat (ds ++ [(⟨k, p, o, a2, c2, xs⟩ : M)])) ∧ Lists w4 lo (ds ++ [(⟨k, p, o, a2, c2, xs⟩ : M)]) := by
  have by1 := bel_alloc (Below.refl w1.heap.size w1) (.cells #[.int .i64 k, .int .i64 p, .bool o, .slice a2 xs.length c2] 55)
  have hr' := owns_below hr (bel_trans b2 by1)
  have hL1 : Lists w1 lo (ds ++ [(⟨k, p, o, a2, c2, xs⟩ : M)]) := (hL.below b2).snoc (owns_base o2 hlo) (fun x hx j hj hk' => by
    have h1 := hL.lt hx hj
    have h2 := o2.lt j hk'
    omega)
  have hL2 := hL1.below by1
  refine ⟨?_, ⟨fun x hx => owns_ne (hL2.1 x hx) g (fun j hj he => owns_types hr' (hL2.1 x hx) (by decide) he hj), hL2.2⟩⟩
  rw [flat_append, List.length_append]
  simpa [flat, M.cells] using o3

set_option maxRecDepth 100000 in
set_option maxHeartbeats 4000000 in
theorem l7Coming_any (d : WoD) (p : WoP) (f t : Nat) (w : World) (hR : WoR w d p) (hok : WOk d) (hf : f < d.nn) (ht : t < d.nn) :
    Calls Tryz.prog 23 #[.agg (wcells d p), .int .i64 (f : Int), .int .i64 (t : Int)] w fun e w' => ∃ (a' : Option Addr) (c' : Nat) (ds : List M), e = .returned (.slice a' ds.length c') ∧ ds.map M.say = comD d f t ∧ Deep w' w.heap.size a' c' ds ∧ Below w.heap.size w w' := by
  obtain ⟨i0, hi, hz0, hz1, hz2⟩ := info_parts info_msg
  obtain ⟨size, nn, D, nk, K⟩ := d
  obtain ⟨⟨pn, cn⟩, np, ⟨pk, ck⟩, kp⟩ := p
  have hn4 := hok.n.2.2
  obtain ⟨cf1, cf2, cf3, cf4⟩ := hok.c f hf
  obtain ⟨ct1, ct2, ct3, ct4⟩ := hok.c t ht
  obtain ⟨sb1, sb2, sb3, sb4⟩ := sB_parts (hok.o f hf t ht)
  obtain ⟨gb1, gb2⟩ := hok.g t ht f hf
  obtain ⟨base, hbase⟩ : ∃ x, (D f).b t = x := ⟨_, rfl⟩
  obtain ⟨got, hgot⟩ : ∃ x, (D t).g f = x := ⟨_, rfl⟩
  obtain ⟨y, hy⟩ : ∃ x, (D f).y t = x := ⟨_, rfl⟩
  have HE : Hid (comD ⟨size, nn, D, nk, K⟩ f t = comY base got y) := by show _ = _; unfold comD; simp only [hbase, hgot, hy]
  simp only [hbase, hgot, hy] at sb1 sb2 sb3 sb4 gb1 gb2 hf ht hn4 cf1 cf2 cf3 cf4 ct1 ct2 ct3 ct4
  have bA := bel_alloc (bel_alloc (Below.refl w.heap.size w) (.cells #[.int .i64 size, .slice pn nn cn, .slice pk nk ck] 32)) (.cells #[] 55)
  have X := (Box.new w #[.int .i64 size, .slice pn nn cn, .slice pk nk ck] 32).below (bel_alloc (Below.refl _ _) (.cells #[] 55))
  have oE := own_litE (w.alloc (.cells #[.int .i64 size, .slice pn nn cn, .slice pk nk ck] 32)) 55 4 (w.heap.size + 1) (by simp)
  rw [show (w.alloc (.cells #[.int .i64 size, .slice pn nn cn, .slice pk nk ck] 32)).heap.size = w.heap.size + 1 by simp] at oE
  have hR1 : NsR _ pn nn D np := hR.n.below bA
  obtain ⟨bn, on1, rfl, y0, y1, y2, y3, y4⟩ := hR1.at hf
  obtain ⟨bn2, on2, ea, z0, z1, z2, z3, z4⟩ := hR1.at ht
  simp only [Option.some.injEq, Addr.mk.injEq, and_true] at ea
  obtain ⟨e1, e2⟩ := ea
  subst e1 e2
  have hrf := hR1.2.2 f hf
  have hrt := hR1.2.2 t ht
  obtain ⟨bo, oo, eo, o0, o1⟩ := hrf.o.at (i := t) (by omega)
  obtain ⟨bi, oi, ei, i1⟩ := hrt.i.at (i := f) (by omega)
  have hsm := (hR.n.2.2 f hf).o.2.2 t (by show t < (D f).no; omega)
  rw [eo, cf3] at y3
  rw [ei, ct4] at z4
  rw [hbase] at o0
  rw [hgot] at i1
  rw [hy] at o1 hsm
  obtain ⟨⟨q1, q2⟩, cq⟩ : ∃ q, (np f).op t = q := ⟨_, rfl⟩
  obtain ⟨ms, hmse⟩ : ∃ m, (np f).ms t = m := ⟨_, rfl⟩
  rw [cq] at o1 hsm
  simp only at o1 hsm
  rw [hmse] at hsm
  obtain ⟨hms, hsay⟩ := hsm
  obtain ⟨n, hn⟩ : ∃ n, y.length = n := ⟨_, rfl⟩
  have HN : Hid (y.length = n) := hn
  rw [hn] at o1 sb2 sb3
  have hbn := lt_of_cell y0
  have hbo := lt_of_cell o0
  have hbi := lt_of_cell i1
  have HM : Hid (MRow w q1 ms) := hms
  have HS : Hid (ms.map M.say = y) := hsay
  have H4 : Hid (∀ s ∈ y, okS s = true) := sb4
  obtain ⟨x0, x1, x2, xz⟩ := X.at3
  obtain ⟨W1, hW1⟩ : ∃ W1, (w.alloc (.cells #[.int .i64 size, .slice (some ⟨bn, on1, none⟩) nn cn, .slice pk nk ck] 32)).alloc (.cells #[] 55) = W1 := ⟨_, rfl⟩
  have HS1 : Hid (W1.heap.size = w.heap.size + 2) := by show _ = _; rw [← hW1]; simp
  rw [hW1] at bA X oE y0 y1 y2 y3 y4 z0 z1 z2 z3 z4 o0 o1 i1 hbn hbo hbi x0 x1 x2 xz
  have HOE : Hid (W1.ownsRow (w.heap.size + 1) 55 4 (.slice (some ⟨w.heap.size + 1, 0, none⟩) 0 0) 0 []) := oE
  have HBA : Hid (Below w.heap.size w W1) := bA
  clear bA X oE hR1 hrf hrt eo ei hms hsay sb4 y0 y1 y2 y4 z0 z1 z2 z3 hbase hgot hy cq hmse hn hok hR cf1 cf2 cf3 cf4 ct1 ct2 ct3 ct4
  go_enter Tryz.func23, Tryz.ntmps23
  go_wp2_with fail
  have bS := bel_alloc (Below.refl W1.heap.size W1) (.cells #[.int .i64 base, .slice q1 n q2] 87)
  have XS := Box.new W1 #[.int .i64 base, .slice q1 n q2] 87
  have HO2 : Hid ((W1.alloc (.cells #[.int .i64 base, .slice q1 n q2] 87)).ownsRow (w.heap.size + 1) 55 4 (.slice (some ⟨w.heap.size + 1, 0, none⟩) 0 0) 0 []) := owns_below HOE.out bS
  have HB2 : Hid (Below w.heap.size w (W1.alloc (.cells #[.int .i64 base, .slice q1 n q2] 87))) := bel_trans HBA.out bS
  have HX2 : Hid (Box (W1.alloc (.cells #[.int .i64 base, .slice q1 n q2] 87)) W1.heap.size #[.int .i64 base, .slice q1 n q2] 87) := XS
  obtain ⟨W2, hW2⟩ : ∃ W2, W1.alloc (.cells #[.int .i64 base, .slice q1 n q2] 87) = W2 := ⟨_, rfl⟩
  rw [hW2] at HO2 HB2 HX2
  obtain ⟨hb0, hb1⟩ := sb1
  clear bS XS HOE HBA x0 x1 x2 xz i1 o1 o0 z4 y3 hbi hbo hbn
  go_loopw [7, 10] (fun o i wr => ∃ (k : Nat) (ds : List M) (a' : Option Addr) (c' : Nat), k ≤ n ∧ i = .int .i64 k ∧ o = .slice a' ds.length c' ∧ ds.map M.say = comY base got (y.take k) ∧ wr.ownsRow (w.heap.size + 1) 55 4 (.slice a' ds.length c') ds.length (flat ds) ∧ Lists wr (w.heap.size + 1) ds ∧ Box wr W1.heap.size #[.int .i64 base, .slice q1 n q2] 87 ∧ Below w.heap.size w wr) (fun _ i _ => n - (intOf i).toNat)
  case atStart => exact ⟨0, [], _, _, Nat.zero_le _, rfl, rfl, by simp [comY], by rw [hW2]; exact HO2.out, Lists.nil _ _, by rw [hW2]; exact HX2.out, by rw [hW2]; exact HB2.out⟩
  case round =>
    obtain ⟨k, ds, a', c', hk, rfl, rfl, hds, hr, hL, hX, hB⟩ := hrel
    have hM := HM.out.below hB
    clear HO2 HB2 HX2 hW2
    have HD : Hid (ds.map M.say = comY base got (y.take k)) := hds
    have hdl : ds.length ≤ 30 := by
      have h1 := congrArg List.length hds
      have h2 := com_len base got (y.take k)
      rw [List.length_map] at h1
      rw [List.length_take] at h2
      omega
    clear hds
    obtain ⟨s0, s1, sz⟩ := hX.at2
    by_cases hkn : k < n
    · have hi' : (k : Int) < (n : Int) := by omega
      have hml : ms.length = n := by have h1 := congrArg List.length HS.out; rw [List.length_map] at h1; have := HN.out; omega
      obtain ⟨⟨mk, mp, mo, ma, mc, mxs⟩, hmk⟩ : ∃ m, ms[k]? = some m := ⟨_, List.getElem?_eq_getElem (by omega)⟩
      have hyk : y[k]? = some (mk, mp, mo, mxs) := by rw [← HS.out, List.getElem?_map, hmk]; rfl
      have hxl : mxs.length ≤ 4 := (okS_len (H4.out _ (List.mem_of_getElem? hyk))).1
      have HYK : Hid (y[k]? = some (mk, mp, mo, mxs)) := hyk
      obtain ⟨⟨b, off, ea, m0, m1, m2, m3⟩, hrow⟩ := hM.2 k _ hmk
      simp only at ea m0 m1 m2 m3 hrow
      subst ea
      clear hmk hyk hml
      by_cases hg : got ≤ base + k
      · have HG : Hid (got ≤ base + k) := hg
        have HR : Hid (wr.ownsRow (w.heap.size + 1) 55 4 (.slice a' ds.length c') ds.length (flat ds)) := hr
        have HLs : Hid (Lists wr (w.heap.size + 1) ds) := hL
        have HXs : Hid (Box wr W1.heap.size #[.int .i64 base, .slice (some ⟨b, off, none⟩) n q2] 87) := hX
        have HBr : Hid (Below w.heap.size w wr) := hB
        have HLo : Hid (w.heap.size + 1 ≤ wr.heap.size) := by have := HS1.out; show _ ≤ _; omega
        obtain ⟨n', hn'⟩ : ∃ n', ds.length = n' := ⟨_, rfl⟩
        have HDL : Hid (ds.length = n') := hn'
        rw [hn']
        rw [hn'] at hdl
        clear hr hL hM hX hB hn'
        go_wp2_with fail
        refine (l1Msg_any mk mp mo ma mc mxs _ (by omega) hrow).mono ?_
        rintro e w1 ⟨v, rfl, o2, b2⟩
        obtain ⟨a2, c2, rfl⟩ := owns_slice o2
        have by1 := bel_alloc (Below.refl w1.heap.size w1) (.cells #[.int .i64 mk, .int .i64 mp, .bool mo, .slice a2 mxs.length c2] 55)
        have hr2 := owns_below (owns_below HR.out b2) by1
        rw [HDL.out] at hr2
        have HO2 : Hid (w1.ownsRow wr.heap.size 3 1 (.slice a2 mxs.length c2) mxs.length (mxs.map (Value.int .i64))) := o2
        have HB2 : Hid (Below wr.heap.size wr w1) := b2
        have hlo2 : w.heap.size + 1 ≤ w1.heap.size := Nat.le_trans HLo.out b2.size
        clear o2 b2 hrow m0 m1 m2 m3 s0 s1 sz
        go_wp2_with (at_builtin; refine wpList_append_lies _ rfl (.tmp 44) (.tmp 51) 27 rfl (w.heap.size + 1) 55 i0 (.agg #[.int .i64 0, .int .i64 0, .bool false, .slice none 0 0]) 4 48 Tryz.underlying27 hi hz0 hz1 hz2 rfl (by decide) (.slice a' n' c') n' (flat ds) (by rfl) hr2 ⟨w1.heap.size, 0, none⟩ 1 1 [.int .i64 mk, .int .i64 mp, .bool mo, .slice a2 mxs.length c2] (by rfl) (by rfl) (new_one _ _ _ _ _) (four_one _ _ _ _ _ _) (by decide) (by unfold maxLen; omega) (by omega) (by simp; omega) _ rfl ?_)
        intro g3 cap3 w4 o3 g4 at4 lt4
        have hds' : ds.length = n' := HDL.out
        subst hds'
        have ST : Hid _ := com_step (w0 := w) HR.out HLs.out HLo.out HB2.out HO2.out g4 o3
        have on4 : Only _ w4 (fun x => (Value.slice a' ds.length c').ownBlock = some x) := (Only.refl _ _).grown g4 (fun j hj => hj)
        have bb := bel_trans HB2.out by1
        have HX4 : Hid (Box w4 W1.heap.size #[.int .i64 base, .slice (some ⟨b, off, none⟩) n q2] 87) := (HXs.out.below bb).only on4 (fun e => lit_ne (HXs.out.below bb) hr2 (by decide) e)
        have HB4 : Hid (Below w.heap.size w w4) := (bel_trans HBr.out bb).grown g4 (bel_trans HBr.out bb).size (fun j hj => by have := (hr2.lt j hj).1; omega)
        have HQ4 : Hid (ds.map M.say ++ [(mk, mp, mo, mxs)] = comY base got (y.take (k + 1))) := by show _ = _; rw [com_in HYK.out HG.out, HD.out]
        clear hr2 o3 g4 at4 by1 on4 bb
        go_wp2
        go_roundw
        case rel => exact ⟨k + 1, ds ++ [⟨mk, mp, mo, a2, c2, mxs⟩], some ⟨g3, 0, none⟩, cap3, by omega, by go_num, by rw [List.length_append]; rfl, by rw [List.map_append]; exact HQ4.out, ST.out.1, ST.out.2, HX4.out, HB4.out⟩
        case measure => simp [intOf]; omega
      · have hg' : base + k < got := by omega
        have HX : Hid (ds.map M.say = comY base got (y.take (k + 1))) := by show _ = _; rw [com_out hg']; exact HD.out
        clear m0 m1 m2 m3 hrow
        go_wp2
        go_roundw
        case rel => exact ⟨k + 1, ds, a', c', by omega, by go_num, rfl, HX.out, hr, hL, hX, hB⟩
        case measure => simp [intOf]; omega
    · have : k = n := by omega
      subst this
      have HF : Hid (ds.map M.say = comY base got y) := by show _ = _; rw [← com_all (b := base) (g := got) (y := y) (k := k) (by have := HN.out; omega)]; exact HD.out
      have HDp : Hid (Deep wr w.heap.size a' c' ds) := ⟨owns_base hr (by omega), hL.base (by omega)⟩
      clear hr hL hM hX
      go_wp2
      go_ret
      exact ⟨a', c', ds, rfl, by rw [HE.out]; exact HF.out, HDp.out, hB⟩
end Go.Proofs.YtiaiomjoapbalaaGreat

/- What the specification's l7Truth does. -/
namespace Go.Proofs.YtiaiomjoapbalaaGreat
open Go.RowKit
set_option linter.unusedVariables false

/-- A call that answers a row of words. -/
def IntsP (L : List Int) (w : World) (e : Ending) (w' : World) : Prop := ∃ (a : Option Addr) (c : Nat), e = .returned (.slice a L.length c) ∧ w'.ownsRow w.heap.size 3 1 (.slice a L.length c) L.length (L.map (Value.int .i64)) ∧ Below w.heap.size w w'

theorem ints_p {L L' : List Int} (h : L = L') {w w' : World} {e : Ending} (hp : IntsP L' w e w') : IntsP L w e w' := by rw [h]; exact hp
theorem ints_of {L : List Int} {n : Nat} (hl : L.length = n) {w w' : World} {a : Option Addr} {c : Nat} (o : w'.ownsRow w.heap.size 3 1 (.slice a n c) n (L.map (Value.int .i64))) (b : Below w.heap.size w w') : IntsP L w (.returned (.slice a n c)) w' := by subst hl; exact ⟨a, c, rfl, o, b⟩
theorem com_ok {d : WoD} (h : WOk d) {f t : Nat} (hf : f < d.nn) (ht : t < d.nn) : ∀ s ∈ comD d f t, okS s = true := fun s hs => (sB_parts (h.o f hf t ht)).2.2.2 s (com_mem hs)
theorem says_len {ds : List M} {y : List Say} (h : ds.map M.say = y) (hy : ∀ s ∈ y, okS s = true) : ∀ m ∈ ds, m.xs.length ≤ 1048577 := fun m hm => by
  have h1 : m.say ∈ y := by rw [← h]; exact List.mem_map_of_mem hm
  have := (okS_len (hy _ h1)).1
  simp only [M.say] at this
  omega
theorem say_num {d : WoD} (h : WOk d) {f t : Nat} (hf : f < d.nn) (ht : t < d.nn) {ds : List M} (hd : ds.map M.say = comD d f t) : ds.length ≤ 30 := by
  have h1 := congrArg List.length hd
  rw [List.length_map] at h1
  have h2 := com_len ((d.d f).b t) ((d.d t).g f) ((d.d f).y t)
  have h3 := (sB_parts (h.o f hf t ht)).2.1
  unfold comD at h1
  omega

set_option maxRecDepth 100000 in
set_option maxHeartbeats 4000000 in
theorem l7Truth_any (d : WoD) (p : WoP) (pg : Nat) (w : World) (hR : WoR w d p) (hok : WOk d) (hp : pg < 6) :
    Calls Tryz.prog 36 #[.agg (wcells d p), .int .i64 (pg : Int)] w (IntsP (truthL d pg) w) := by
  obtain ⟨i1, hi1, hz10, hz11, hz12⟩ := info_parts info_i64
  obtain ⟨size, nn, D, nk, K⟩ := d
  obtain ⟨⟨pn, cn⟩, np, ⟨pk, ck⟩, kp⟩ := p
  have hsz : size = (nn : Int) := hok.n.1
  have hn1 : 1 ≤ nn := hok.n.2.1
  have hn4 : nn ≤ 4 := hok.n.2.2
  subst hsz
  obtain ⟨hm, ehm⟩ : ∃ x, pg % nn = x := ⟨_, rfl⟩
  have hhm : hm < nn := by rw [← ehm]; exact Nat.mod_lt _ hn1
  have hrem : (pg : Int) % (nn : Int) = (hm : Int) := by rw [← ehm]; rfl
  have hrem2 : (pg : Int).tmod (nn : Int) = (hm : Int) := by rw [← ehm]; rfl
  obtain ⟨ch1, ch2, ch3, ch4⟩ := hok.c hm hhm
  have hho := hoB_parts (hok.h hm hhm pg hp)
  have hne : ¬ ((nn : Int) = 0) := by omega
  have HOK : Hid (WOk ⟨nn, nn, D, nk, K⟩) := hok
  have HR : Hid (WoR w ⟨nn, nn, D, nk, K⟩ ⟨(pn, cn), np, (pk, ck), kp⟩) := hR
  have B := bel_alloc (Below.refl w.heap.size w) (.cells #[.int .i64 (nn : Int), .slice pn nn cn, .slice pk nk ck] 32)
  have X := Box.new w #[.int .i64 (nn : Int), .slice pn nn cn, .slice pk nk ck] 32
  have hN : NsR _ pn nn D np := hR.n.below B
  obtain ⟨bn, on1, ea, y0, y1, y2, y3, y4⟩ := hN.at hhm
  subst ea
  have hrh := (hN.2.2 hm hhm).h
  obtain ⟨bh, oh, eh, c0, c1, c2, c3, c4, c5, c6, c7⟩ := hrh.at (i := pg) (by simp only at ch2; omega)
  simp only at ch2 hho
  rw [eh, ch2] at y2
  obtain ⟨W1, hW1⟩ : ∃ W1, w.alloc (.cells #[.int .i64 (nn : Int), .slice (some ⟨bn, on1, none⟩) nn cn, .slice pk nk ck] 32) = W1 := ⟨_, rfl⟩
  rw [hW1] at B X hN y0 y1 y2 y3 y4 c0 c1 c2 c3 c4 c5 c6 c7 hrh
  obtain ⟨⟨hxs, how, hbs, hbz, hwh, hwo, hak, hws⟩, ehd⟩ : ∃ x, (D hm).h pg = x := ⟨_, rfl⟩
  obtain ⟨⟨hpl, hpr, hpq⟩, ehp⟩ : ∃ x, (np hm).hp pg = x := ⟨_, rfl⟩
  have hlr := (hrh.2.2 pg (by omega)).1
  rw [ehd] at c0 c1 c2 c3 c4 c5 c6 c7 hho hlr
  rw [ehp] at c0 c2 c7 hlr
  simp only at c0 c1 c2 c3 c4 c5 c6 c7 hho hlr
  obtain ⟨hx1, hx2, hx3⟩ := hho
  rw [hx1] at c0
  have HX1 : Hid (hxs.length = 4) := hx1
  have HLR : Hid (Row .i64 W1 hpl.1 hxs) := hlr
  have hp6 : (pg : Int) < 6 := by omega
  have hm4 : (hm : Int) < (nn : Int) := by omega
  obtain ⟨x0, x1, x2, xz⟩ := X.at3
  have zb := lt_of_cell y0
  have zh := lt_of_cell c0
  have HX : Hid (Box W1 w.heap.size #[.int .i64 (nn : Int), .slice (some ⟨bn, on1, none⟩) nn cn, .slice pk nk ck] 32) := X
  have HB : Hid (Below w.heap.size w W1) := B
  have HNs : Hid (NsR W1 (some ⟨bn, on1, none⟩) nn D np) := hN
  have bH := bel_alloc (Below.refl W1.heap.size W1) (.cells #[.slice hpl.1 4 hpl.2, .int .i64 how, .slice hpr.1 hbs.length hpr.2, .bool hbz, .int .i64 hwh, .bool hwo, .int .i64 hak, .slice hpq.1 hws.length hpq.2] 106)
  have XH := Box.new W1 #[.slice hpl.1 4 hpl.2, .int .i64 how, .slice hpr.1 hbs.length hpr.2, .bool hbz, .int .i64 hwh, .bool hwo, .int .i64 hak, .slice hpq.1 hws.length hpq.2] 106
  clear y0 y1 y3 y4 hrh eh ch1 ch2 ch3 ch4 hR hok hlr hx1 ehp B X hN
  by_cases hneg : how < 0
  · have HT : Hid (truthL ⟨nn, nn, D, nk, K⟩ pg = hxs) := by
      show _ = _
      unfold truthL
      simp only [ehm, ehd, hneg, if_true]
    have hv := ((row_v HLR.out (by rw [HX1.out]; omega)).below bH).below (bel_alloc (Below.refl _ _) (.cells #[] 3))
    have oE := own_litE (W1.alloc (.cells #[.slice hpl.1 4 hpl.2, .int .i64 how, .slice hpr.1 hbs.length hpr.2, .bool hbz, .int .i64 hwh, .bool hwo, .int .i64 hak, .slice hpq.1 hws.length hpq.2] 106)) 3 1 (W1.heap.size + 1) (by simp)
    rw [show (W1.alloc (.cells #[.slice hpl.1 4 hpl.2, .int .i64 how, .slice hpr.1 hbs.length hpr.2, .bool hbz, .int .i64 hwh, .bool hwo, .int .i64 hak, .slice hpq.1 hws.length hpq.2] 106)).heap.size = W1.heap.size + 1 by simp] at oE
    have B2 := bel_trans (bel_trans HB.out bH) (bel_alloc (Below.refl _ _) (.cells #[] 3))
    clear XH bH ehd ehm
    go_enter Tryz.func36, Tryz.ntmps36
    go_wp2_with (at_builtin; refine wpList_append_rowYtiaiomjoapbalaaGreat rfl (.tmp 25) (.tmp 27) 39 rfl (W1.heap.size + 1) 3 i1 (.int .i64 0) 1 8 Tryz.underlying39 hi1 hz10 hz11 hz12 rfl (by decide) (.slice (some ⟨W1.heap.size + 1, 0, none⟩) 0 0) 0 [] (by rfl) oE hpl.1 4 hpl.2 (hxs.map (Value.int .i64)) (by rfl) (by rw [List.length_map, HX1.out]) hv.2 (by intro u hu; obtain ⟨x, _, rfl⟩ := List.mem_map.1 hu; rfl) (by unfold maxLen; omega) (by omega) (by simp) ?_)
    intro v1 w5 o5 g5
    have B5 : Hid (Below w.heap.size w w5) := B2.grown g5 B2.size (fun j hj => by simp [Value.ownBlock] at hj; omega)
    try simp only [Nat.zero_add, List.nil_append] at o5
    obtain ⟨a5, c5, rfl⟩ := owns_slice o5
    have O5 : Hid (w5.ownsRow w.heap.size 3 1 (.slice a5 4 c5) 4 (hxs.map (Value.int .i64))) := owns_base o5 (by omega)
    clear o5 g5 oE hv B2
    go_wp2
    go_ret
    exact ints_p HT.out (ints_of HX1.out O5.out B5.out)
  · obtain ⟨o, rfl⟩ : ∃ o : Nat, how = (o : Int) := ⟨how.toNat, by omega⟩
    have ho : o < nn := by omega
    have hoi : (o : Int) < (nn : Int) := by omega
    have hop : ¬ ((o : Int) < 0) := by omega
    obtain ⟨bn2, on2, ea2, y0, y1, y2', y3, y4⟩ := HNs.out.at ho
    simp only [Option.some.injEq, Addr.mk.injEq, and_true] at ea2
    obtain ⟨e1, e2⟩ := ea2
    subst e1 e2
    have hc := HOK.out.c o ho
    have hfo := frB_parts (HOK.out.f o ho pg hp)
    simp only at hc hfo
    have hrf := (HNs.out.2.2 o ho).f
    obtain ⟨bf, of, ef, f0, f1, f2⟩ := hrf.at (i := pg) (by omega)
    rw [ef, hc.1] at y1
    obtain ⟨⟨fs, fxs, fq⟩, efd⟩ : ∃ x, (D o).f pg = x := ⟨_, rfl⟩
    obtain ⟨fpl, efp⟩ : ∃ x, (np o).fp pg = x := ⟨_, rfl⟩
    have hflr := hrf.2.2 pg (by omega)
    rw [efd] at f0 f1 f2 hfo hflr
    rw [efp] at f1 hflr
    simp only at f0 f1 f2 hfo hflr
    have HFR : Hid (Row .i64 W1 fpl.1 fxs) := hflr
    have zf := lt_of_cell f0
    clear hrf ef hc hflr y0 y2' y3 y4 efp
    by_cases hs2 : fs = 2
    · subst hs2
      have hl4 : fxs.length = 4 := by rcases hfo with h | h; exact absurd h.1 (by decide); exact h.2
      rw [hl4] at f1
      have HL4 : Hid (fxs.length = 4) := hl4
      have HT : Hid (truthL ⟨nn, nn, D, nk, K⟩ pg = fxs) := by
        show _ = _
        unfold truthL
        simp only [ehm, ehd, hop, if_false, Int.toNat_natCast, efd, if_true]
      have bF := bel_alloc bH (.cells #[.int .i64 2, .slice fpl.1 4 fpl.2, .bool fq] 108)
      have hv := ((row_v HFR.out (by rw [HL4.out]; omega)).below bF).below (bel_alloc (Below.refl _ _) (.cells #[] 3))
      have B2 := bel_trans (bel_trans HB.out bF) (bel_alloc (Below.refl _ _) (.cells #[] 3))
      have oE := own_litE ((W1.alloc (.cells #[.slice hpl.1 4 hpl.2, .int .i64 (o : Int), .slice hpr.1 hbs.length hpr.2, .bool hbz, .int .i64 hwh, .bool hwo, .int .i64 hak, .slice hpq.1 hws.length hpq.2] 106)).alloc (.cells #[.int .i64 2, .slice fpl.1 4 fpl.2, .bool fq] 108)) 3 1 (W1.heap.size + 1 + 1) (by simp)
      rw [show ((W1.alloc (.cells #[.slice hpl.1 4 hpl.2, .int .i64 (o : Int), .slice hpr.1 hbs.length hpr.2, .bool hbz, .int .i64 hwh, .bool hwo, .int .i64 hak, .slice hpq.1 hws.length hpq.2] 106)).alloc (.cells #[.int .i64 2, .slice fpl.1 4 fpl.2, .bool fq] 108)).heap.size = W1.heap.size + 1 + 1 by simp] at oE
      clear XH bH ehd ehm hfo hl4 efd bF
      go_enter Tryz.func36, Tryz.ntmps36
      go_wp2_with (at_builtin; refine wpList_append_rowYtiaiomjoapbalaaGreat rfl (.tmp 42) (.tmp 44) 39 rfl (W1.heap.size + 1 + 1) 3 i1 (.int .i64 0) 1 8 Tryz.underlying39 hi1 hz10 hz11 hz12 rfl (by decide) (.slice (some ⟨W1.heap.size + 1 + 1, 0, none⟩) 0 0) 0 [] (by rfl) oE fpl.1 4 fpl.2 (fxs.map (Value.int .i64)) (by rfl) (by rw [List.length_map, HL4.out]) hv.2 (by intro u hu; obtain ⟨x, _, rfl⟩ := List.mem_map.1 hu; rfl) (by unfold maxLen; omega) (by omega) (by simp) ?_)
      intro v1 w5 o5 g5
      have B5 : Hid (Below w.heap.size w w5) := B2.grown g5 B2.size (fun j hj => by simp [Value.ownBlock] at hj; omega)
      try simp only [Nat.zero_add, List.nil_append] at o5
      obtain ⟨a5, c5, rfl⟩ := owns_slice o5
      have O5 : Hid (w5.ownsRow w.heap.size 3 1 (.slice a5 4 c5) 4 (fxs.map (Value.int .i64))) := owns_base o5 (by omega)
      clear o5 g5 oE hv B2
      go_wp2
      go_ret
      exact ints_p HT.out (ints_of HL4.out O5.out B5.out)
    · have hs2' : (fs == 2) = false := by simpa using hs2
      have bF := bel_alloc bH (.cells #[.int .i64 fs, .slice fpl.1 fxs.length fpl.2, .bool fq] 108)
      have HL : Hid (fxs.length ≤ 4) := by rcases hfo with h | h <;> (show _ ≤ _; omega)
      have HBF : Hid (Below w.heap.size w _) := bel_trans HB.out bF
      have HXW : Hid (Box _ w.heap.size #[.int .i64 (nn : Int), .slice (some ⟨bn, on1, none⟩) nn cn, .slice pk nk ck] 32) := HX.out.below bF
      have HXH : Hid (Box _ W1.heap.size #[.slice hpl.1 4 hpl.2, .int .i64 (o : Int), .slice hpr.1 hbs.length hpr.2, .bool hbz, .int .i64 hwh, .bool hwo, .int .i64 hak, .slice hpq.1 hws.length hpq.2] 106) := XH.below (bel_alloc (Below.refl _ _) (.cells #[.int .i64 fs, .slice fpl.1 fxs.length fpl.2, .bool fq] 108))
      obtain ⟨L3, e3⟩ : ∃ x, lastY 3 pg (comD ⟨nn, nn, D, nk, K⟩ hm o) = x := ⟨_, rfl⟩
      obtain ⟨L7, e7⟩ : ∃ x, lastY 7 pg (comD ⟨nn, nn, D, nk, K⟩ o hm) = x := ⟨_, rfl⟩
      have HE3 : Hid (lastY 3 pg (comD ⟨nn, nn, D, nk, K⟩ hm o) = L3) := e3
      have HE7 : Hid (lastY 7 pg (comD ⟨nn, nn, D, nk, K⟩ o hm) = L7) := e7
      have HT : Hid (truthL ⟨nn, nn, D, nk, K⟩ pg = if L3.length = 0 then L7 else L3) := by
        show _ = _
        unfold truthL
        simp only [ehm, ehd, hop, if_false, Int.toNat_natCast, efd, hs2, e3, e7]
      have h34 : L3.length ≤ 4 := by rw [← e3]; exact lastY_len 3 pg (com_ok HOK.out hhm ho)
      clear XH bH ehd ehm hfo efd bF e3 e7
      go_enter Tryz.func36, Tryz.ntmps36
      go_wp2_with fail
      refine (l7Coming_any ⟨nn, nn, D, nk, K⟩ ⟨(some ⟨bn, on1, none⟩, cn), np, (pk, ck), kp⟩ hm o _ (HR.out.below HBF.out) HOK.out hhm ho).mono ?_
      rintro e w4 ⟨a4, k4, ds, rfl, hds, hdeep, b4⟩
      have HDL : Hid (lastY 3 pg (ds.map M.say) = L3) := by show _ = _; rw [hds]; exact HE3.out
      have hmr := hdeep.mrow (by have := say_num HOK.out hhm ho hds; omega) (says_len hds (com_ok HOK.out hhm ho))
      have HSL : Hid (∀ m ∈ ds, m.xs.length ≤ 1048577) := says_len hds (com_ok HOK.out hhm ho)
      replace HXW : Hid (Box w4 w.heap.size #[.int .i64 (nn : Int), .slice (some ⟨bn, on1, none⟩) nn cn, .slice pk nk ck] 32) := HXW.out.below b4
      replace HXH : Hid (Box w4 W1.heap.size #[.slice hpl.1 4 hpl.2, .int .i64 (o : Int), .slice hpr.1 hbs.length hpr.2, .bool hbz, .int .i64 hwh, .bool hwo, .int .i64 hak, .slice hpq.1 hws.length hpq.2] 106) := HXH.out.below b4
      replace HBF : Hid (Below w.heap.size w w4) := bel_trans HBF.out b4
      clear hds hdeep b4 x0 x1 x2 xz y1 y2 c0 c1 c2 c3 c4 c5 c6 c7 f0 f1 f2 zb zh zf
      go_wp2_with fail
      refine (l7Last_any 3 pg a4 k4 ds _ hmr HSL.out).mono ?_
      rintro e w5 ⟨a5, k5, rfl, o5, b5⟩
      rw [HDL.out] at o5 ⊢
      replace HXW : Hid (Box w5 w.heap.size #[.int .i64 (nn : Int), .slice (some ⟨bn, on1, none⟩) nn cn, .slice pk nk ck] 32) := HXW.out.below b5
      replace HXH : Hid (Box w5 W1.heap.size #[.slice hpl.1 4 hpl.2, .int .i64 (o : Int), .slice hpr.1 hbs.length hpr.2, .bool hbz, .int .i64 hwh, .bool hwo, .int .i64 hak, .slice hpq.1 hws.length hpq.2] 106) := HXH.out.below b5
      have HO5 : Hid (w5.ownsRow w.heap.size 3 1 (.slice a5 L3.length k5) L3.length (L3.map (Value.int .i64))) := owns_base o5 HBF.out.size
      replace HBF : Hid (Below w.heap.size w w5) := bel_trans HBF.out b5
      obtain ⟨n3, en3⟩ : ∃ x, L3.length = x := ⟨_, rfl⟩
      have HN3 : Hid (L3.length = n3) := en3
      rw [en3] at h34 ⊢
      clear hmr o5 b5 en3
      by_cases hz : n3 = 0
      · subst hz
        obtain ⟨x0, x1, x2, xz⟩ := HXW.out.at3
        obtain ⟨g0, g1, g2, g3, g4, g5, g6, g7, gz⟩ := at8 HXH.out
        go_wp2_with fail
        refine (l7Coming_any ⟨nn, nn, D, nk, K⟩ ⟨(some ⟨bn, on1, none⟩, cn), np, (pk, ck), kp⟩ o hm _ (HR.out.below HBF.out) HOK.out ho hhm).mono ?_
        rintro e w6 ⟨a6, k6, es, rfl, hes, hdeep, b6⟩
        have HDL7 : Hid (lastY 7 pg (es.map M.say) = L7) := by show _ = _; rw [hes]; exact HE7.out
        have hmr := hdeep.mrow (by have := say_num HOK.out ho hhm hes; omega) (says_len hes (com_ok HOK.out ho hhm))
        have HSL7 : Hid (∀ m ∈ es, m.xs.length ≤ 1048577) := says_len hes (com_ok HOK.out ho hhm)
        replace HBF : Hid (Below w.heap.size w w6) := bel_trans HBF.out b6
        clear hes hdeep b6 x0 x1 x2 xz g0 g1 g2 g3 g4 g5 g6 g7 gz
        go_wp2_with fail
        refine (l7Last_any 7 pg a6 k6 es _ hmr HSL7.out).mono ?_
        rintro e w7 ⟨a7, k7, rfl, o7, b7⟩
        rw [HDL7.out] at o7 ⊢
        have HO7 : Hid (w7.ownsRow w.heap.size 3 1 (.slice a7 L7.length k7) L7.length (L7.map (Value.int .i64))) := owns_base o7 HBF.out.size
        replace HBF : Hid (Below w.heap.size w w7) := bel_trans HBF.out b7
        clear o7 b7 hmr
        go_wp2
        go_ret
        exact ints_p (HT.out.trans (by rw [HN3.out]; rfl)) (ints_of rfl HO7.out HBF.out)
      · have hz' : (0 : Int) < (n3 : Int) := by omega
        go_wp2
        go_ret
        exact ints_p (HT.out.trans (by rw [HN3.out, if_neg hz])) (ints_of HN3.out (by have := HO5.out; rw [HN3.out] at this; exact this) HBF.out)
end Go.Proofs.YtiaiomjoapbalaaGreat
