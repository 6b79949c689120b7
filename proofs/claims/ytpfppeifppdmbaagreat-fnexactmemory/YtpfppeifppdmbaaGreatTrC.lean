/- What the specification's l7Coming does. -/
import Derived.Test.YtpfppeifppdmbaaGreatPgI
import Derived.Test.YtpfppeifppdmbaaGreatSpecQ2
import Derived.Test.YtpfppeifppdmbaaGreatAppR
namespace Go.Proofs.YtpfppeifppdmbaaGreat
open Go.RowKit
set_option linter.unusedVariables false

theorem com_in {b g : Int} {y : List Say} {k : Nat} {s : Say} (hs : y[k]? = some s) (h : g ≤ b + k) : comY b g (y.take (k + 1)) = comY b g (y.take k) ++ [s] := by
  obtain ⟨hk, rfl⟩ := List.getElem?_eq_some_iff.1 hs
  unfold comY
  rw [List.take_succ_eq_append_getElem hk, List.drop_append_of_le_length (by rw [List.length_take]; omega)]
theorem com_out {b g : Int} {y : List Say} {k : Nat} (h : b + k < g) : comY b g (y.take (k + 1)) = comY b g (y.take k) := by
  unfold comY
  rw [List.drop_of_length_le (by rw [List.length_take]; omega), List.drop_of_length_le (by rw [List.length_take]; omega)]
theorem com_all {b g : Int} {y : List Say} {k : Nat} (h : y.length ≤ k) : comY b g (y.take k) = comY b g y := by rw [List.take_of_length_le h]
theorem com_mem {b g : Int} {y : List Say} {s : Say} (h : s ∈ comY b g y) : s ∈ y := List.mem_of_mem_drop h
theorem com_len (b g : Int) (y : List Say) : (comY b g y).length ≤ y.length := by unfold comY; rw [List.length_drop]; omega

/-- One more message behind those that are coming. -/
theorem com_step {w0 wr w1 w4 : World} {lo : Nat} {a' a2 : Option Addr} {c' c2 g3 cap3 : Nat} {ds : List M} {k p : Int} {o : Bool} {xs : List Int}
    (hr : wr.ownsRow lo 69 4 (.slice a' ds.length c') ds.length (flat ds)) (hL : Lists wr lo ds) (hlo : lo ≤ wr.heap.size)
    (b2 : Below wr.heap.size wr w1) (o2 : w1.ownsRow wr.heap.size 3 1 (.slice a2 xs.length c2) xs.length (xs.map (Value.int .i64)))
    (g : (w1.alloc (.cells #[.int .i64 k, .int .i64 p, .bool o, .slice a2 xs.length c2] 69)).grownBy w4 (Value.slice a' ds.length c').ownBlock)
    (o3 : w4.ownsRow lo 69 4 (.slice (some ⟨g3, 0, none⟩) (ds.length + 1) cap3) (ds.length + 1) (flat ds ++ [.int .i64 k, .int .i64 p, .bool o, .slice a2 xs.length c2])) :
    w4.ownsRow lo 69 4 (.slice (some ⟨g3, 0, none⟩) (ds ++ [(⟨k, p, o, a2, c2, xs⟩ : M)]).length cap3) (ds ++ [(⟨k, p, o, a2, c2, xs⟩ : M)]).length (flat (ds ++ [(⟨k, p, o, a2, c2, xs⟩ : M)])) ∧ Lists w4 lo (ds ++ [(⟨k, p, o, a2, c2, xs⟩ : M)]) := by
  have by1 := bel_alloc (Below.refl w1.heap.size w1) (.cells #[.int .i64 k, .int .i64 p, .bool o, .slice a2 xs.length c2] 69)
  have hr' := owns_below hr (bel_trans b2 by1)
  have hL1 : Lists w1 lo (ds ++ [(⟨k, p, o, a2, c2, xs⟩ : M)]) := (hL.below b2).snoc (owns_base o2 hlo) (fun x hx j hj hk' => by
    have h1 := hL.lt hx hj
    have h2 := o2.lt j hk'
    omega)
  have hL2 := hL1.below by1
  refine ⟨?_, ⟨fun x hx => owns_ne (hL2.1 x hx) g (fun j hj he => owns_types hr' (hL2.1 x hx) (by decide) he hj), hL2.2⟩⟩
  rw [flat_append, List.length_append]
  simpa [flat, M.cells] using o3

set_option maxRecDepth 100000 in
set_option maxHeartbeats 4000000 in
theorem l7Coming_any (d : WoD) (p : WoP) (f t : Nat) (w : World) (hR : WoR w d p) (hok : WOk d) (hf : f < d.nn) (ht : t < d.nn) :
    Calls Tryz.prog 48 #[.agg (wcells d p), .int .i64 (f : Int), .int .i64 (t : Int)] w fun e w' => ∃ (a' : Option Addr) (c' : Nat) (ds : List M), e = .returned (.slice a' ds.length c') ∧ ds.map M.say = comD d f t ∧ Deep w' w.heap.size a' c' ds ∧ Below w.heap.size w w' := by
  obtain ⟨i0, hi, hz0, hz1, hz2⟩ := info_parts info_msg
  obtain ⟨size, nn, D, nk, K⟩ := d
  obtain ⟨⟨pn, cn⟩, np, ⟨pk, ck⟩, kp⟩ := p
  have hn4 := hok.n.2.2
  obtain ⟨cf1, cf2, cf3, cf4⟩ := hok.c f hf
  obtain ⟨ct1, ct2, ct3, ct4⟩ := hok.c t ht
  obtain ⟨sb1, sb2, sb3, sb4⟩ := sB_parts (hok.o f hf t ht)
  obtain ⟨gb1, gb2⟩ := hok.g t ht f hf
  obtain ⟨base, hbase⟩ : ∃ x, (D f).b t = x := ⟨_, rfl⟩
  obtain ⟨got, hgot⟩ : ∃ x, (D t).g f = x := ⟨_, rfl⟩
  obtain ⟨y, hy⟩ : ∃ x, (D f).y t = x := ⟨_, rfl⟩
  have HE : Hid (comD ⟨size, nn, D, nk, K⟩ f t = comY base got y) := by show _ = _; unfold comD; simp only [hbase, hgot, hy]
  simp only [hbase, hgot, hy] at sb1 sb2 sb3 sb4 gb1 gb2 hf ht hn4 cf1 cf2 cf3 cf4 ct1 ct2 ct3 ct4
  have bA := bel_alloc (bel_alloc (Below.refl w.heap.size w) (.cells #[.int .i64 size, .slice pn nn cn, .slice pk nk ck] 32)) (.cells #[] 69)
  have X := (Box.new w #[.int .i64 size, .slice pn nn cn, .slice pk nk ck] 32).below (bel_alloc (Below.refl _ _) (.cells #[] 69))
  have oE := own_litE (w.alloc (.cells #[.int .i64 size, .slice pn nn cn, .slice pk nk ck] 32)) 69 4 (w.heap.size + 1) (by simp)
  rw [show (w.alloc (.cells #[.int .i64 size, .slice pn nn cn, .slice pk nk ck] 32)).heap.size = w.heap.size + 1 by simp] at oE
  have hR1 : NsR _ pn nn D np := hR.n.below bA
  obtain ⟨bn, on1, rfl, y0, y1, y2, y3, y4⟩ := hR1.at hf
  obtain ⟨bn2, on2, ea, z0, z1, z2, z3, z4⟩ := hR1.at ht
  simp only [Option.some.injEq, Addr.mk.injEq, and_true] at ea
  obtain ⟨e1, e2⟩ := ea
  subst e1 e2
  have hrf := hR1.2.2 f hf
  have hrt := hR1.2.2 t ht
  obtain ⟨bo, oo, eo, o0, o1⟩ := hrf.o.at (i := t) (by omega)
  obtain ⟨bi, oi, ei, i1⟩ := hrt.i.at (i := f) (by omega)
  have hsm := (hR.n.2.2 f hf).o.2.2 t (by show t < (D f).no; omega)
  rw [eo, cf3] at y3
  rw [ei, ct4] at z4
  rw [hbase] at o0
  rw [hgot] at i1
  rw [hy] at o1 hsm
  obtain ⟨⟨q1, q2⟩, cq⟩ : ∃ q, (np f).op t = q := ⟨_, rfl⟩
  obtain ⟨ms, hmse⟩ : ∃ m, (np f).ms t = m := ⟨_, rfl⟩
  rw [cq] at o1 hsm
  simp only at o1 hsm
  rw [hmse] at hsm
  obtain ⟨hms, hsay⟩ := hsm
  obtain ⟨n, hn⟩ : ∃ n, y.length = n := ⟨_, rfl⟩
  have HN : Hid (y.length = n) := hn
  rw [hn] at o1 sb2 sb3
  have hbn := lt_of_cell y0
  have hbo := lt_of_cell o0
  have hbi := lt_of_cell i1
  have HM : Hid (MRow w q1 ms) := hms
  have HS : Hid (ms.map M.say = y) := hsay
  have H4 : Hid (∀ s ∈ y, okS s = true) := sb4
  obtain ⟨x0, x1, x2, xz⟩ := X.at3
  obtain ⟨W1, hW1⟩ : ∃ W1, (w.alloc (.cells #[.int .i64 size, .slice (some ⟨bn, on1, none⟩) nn cn, .slice pk nk ck] 32)).alloc (.cells #[] 69) = W1 := ⟨_, rfl⟩
  have HS1 : Hid (W1.heap.size = w.heap.size + 2) := by show _ = _; rw [← hW1]; simp
  rw [hW1] at bA X oE y0 y1 y2 y3 y4 z0 z1 z2 z3 z4 o0 o1 i1 hbn hbo hbi x0 x1 x2 xz
  have HOE : Hid (W1.ownsRow (w.heap.size + 1) 69 4 (.slice (some ⟨w.heap.size + 1, 0, none⟩) 0 0) 0 []) := oE
  have HBA : Hid (Below w.heap.size w W1) := bA
  clear bA X oE hR1 hrf hrt eo ei hms hsay sb4 y0 y1 y2 y4 z0 z1 z2 z3 hbase hgot hy cq hmse hn hok hR cf1 cf2 cf3 cf4 ct1 ct2 ct3 ct4
  go_enter Tryz.func48, Tryz.ntmps48
  go_wp2_with fail
  have bS := bel_alloc (Below.refl W1.heap.size W1) (.cells #[.int .i64 base, .slice q1 n q2] 115)
  have XS := Box.new W1 #[.int .i64 base, .slice q1 n q2] 115
  have HO2 : Hid ((W1.alloc (.cells #[.int .i64 base, .slice q1 n q2] 115)).ownsRow (w.heap.size + 1) 69 4 (.slice (some ⟨w.heap.size + 1, 0, none⟩) 0 0) 0 []) := owns_below HOE.out bS
  have HB2 : Hid (Below w.heap.size w (W1.alloc (.cells #[.int .i64 base, .slice q1 n q2] 115))) := bel_trans HBA.out bS
  have HX2 : Hid (Box (W1.alloc (.cells #[.int .i64 base, .slice q1 n q2] 115)) W1.heap.size #[.int .i64 base, .slice q1 n q2] 115) := XS
  obtain ⟨W2, hW2⟩ : ∃ W2, W1.alloc (.cells #[.int .i64 base, .slice q1 n q2] 115) = W2 := ⟨_, rfl⟩
  rw [hW2] at HO2 HB2 HX2
  obtain ⟨hb0, hb1⟩ := sb1
  clear bS XS HOE HBA x0 x1 x2 xz i1 o1 o0 z4 y3 hbi hbo hbn
  go_loopw [7, 10] (fun o i wr => ∃ (k : Nat) (ds : List M) (a' : Option Addr) (c' : Nat), k ≤ n ∧ i = .int .i64 k ∧ o = .slice a' ds.length c' ∧ ds.map M.say = comY base got (y.take k) ∧ wr.ownsRow (w.heap.size + 1) 69 4 (.slice a' ds.length c') ds.length (flat ds) ∧ Lists wr (w.heap.size + 1) ds ∧ Box wr W1.heap.size #[.int .i64 base, .slice q1 n q2] 115 ∧ Below w.heap.size w wr) (fun _ i _ => n - (intOf i).toNat)
  case atStart => exact ⟨0, [], _, _, Nat.zero_le _, rfl, rfl, by simp [comY], by rw [hW2]; exact HO2.out, Lists.nil _ _, by rw [hW2]; exact HX2.out, by rw [hW2]; exact HB2.out⟩
  case round =>
    obtain ⟨k, ds, a', c', hk, rfl, rfl, hds, hr, hL, hX, hB⟩ := hrel
    have hM := HM.out.below hB
    clear HO2 HB2 HX2 hW2
    have HD : Hid (ds.map M.say = comY base got (y.take k)) := hds
    have hdl : ds.length ≤ 30 := by
      have h1 := congrArg List.length hds
      have h2 := com_len base got (y.take k)
      rw [List.length_map] at h1
      rw [List.length_take] at h2
      omega
    clear hds
    obtain ⟨s0, s1, sz⟩ := hX.at2
    by_cases hkn : k < n
    · have hi' : (k : Int) < (n : Int) := by omega
      have hml : ms.length = n := by have h1 := congrArg List.length HS.out; rw [List.length_map] at h1; have := HN.out; omega
      obtain ⟨⟨mk, mp, mo, ma, mc, mxs⟩, hmk⟩ : ∃ m, ms[k]? = some m := ⟨_, List.getElem?_eq_getElem (by omega)⟩
      have hyk : y[k]? = some (mk, mp, mo, mxs) := by rw [← HS.out, List.getElem?_map, hmk]; rfl
      have hxl : mxs.length ≤ 4 := (okS_len (H4.out _ (List.mem_of_getElem? hyk))).1
      have HYK : Hid (y[k]? = some (mk, mp, mo, mxs)) := hyk
      obtain ⟨⟨b, off, ea, m0, m1, m2, m3⟩, hrow⟩ := hM.2 k _ hmk
      simp only at ea m0 m1 m2 m3 hrow
      subst ea
      clear hmk hyk hml
      by_cases hg : got ≤ base + k
      · have HG : Hid (got ≤ base + k) := hg
        have HR : Hid (wr.ownsRow (w.heap.size + 1) 69 4 (.slice a' ds.length c') ds.length (flat ds)) := hr
        have HLs : Hid (Lists wr (w.heap.size + 1) ds) := hL
        have HXs : Hid (Box wr W1.heap.size #[.int .i64 base, .slice (some ⟨b, off, none⟩) n q2] 115) := hX
        have HBr : Hid (Below w.heap.size w wr) := hB
        have HLo : Hid (w.heap.size + 1 ≤ wr.heap.size) := by have := HS1.out; show _ ≤ _; omega
        obtain ⟨n', hn'⟩ : ∃ n', ds.length = n' := ⟨_, rfl⟩
        have HDL : Hid (ds.length = n') := hn'
        rw [hn']
        rw [hn'] at hdl
        clear hr hL hM hX hB hn'
        go_wp2_with fail
        refine (l1Msg_any mk mp mo ma mc mxs _ (by omega) hrow).mono ?_
        rintro e w1 ⟨v, rfl, o2, b2⟩
        obtain ⟨a2, c2, rfl⟩ := owns_slice o2
        have by1 := bel_alloc (Below.refl w1.heap.size w1) (.cells #[.int .i64 mk, .int .i64 mp, .bool mo, .slice a2 mxs.length c2] 69)
        have hr2 := owns_below (owns_below HR.out b2) by1
        rw [HDL.out] at hr2
        have HO2 : Hid (w1.ownsRow wr.heap.size 3 1 (.slice a2 mxs.length c2) mxs.length (mxs.map (Value.int .i64))) := o2
        have HB2 : Hid (Below wr.heap.size wr w1) := b2
        have hlo2 : w.heap.size + 1 ≤ w1.heap.size := Nat.le_trans HLo.out b2.size
        clear o2 b2 hrow m0 m1 m2 m3 s0 s1 sz
        go_wp2_with (at_builtin; refine wpList_append_lies _ rfl (.tmp 44) (.tmp 51) 97 rfl (w.heap.size + 1) 69 i0 (.agg #[.int .i64 0, .int .i64 0, .bool false, .slice none 0 0]) 4 48 Tryz.underlying97 hi hz0 hz1 hz2 rfl (by decide) (.slice a' n' c') n' (flat ds) (by rfl) hr2 ⟨w1.heap.size, 0, none⟩ 1 1 [.int .i64 mk, .int .i64 mp, .bool mo, .slice a2 mxs.length c2] (by rfl) (by rfl) (new_one _ _ _ _ _) (four_one _ _ _ _ _ _) (by decide) (by unfold maxLen; omega) (by omega) (by simp; omega) _ rfl ?_)
        intro g3 cap3 w4 o3 g4 at4 lt4
        have hds' : ds.length = n' := HDL.out
        subst hds'
        have ST : Hid _ := com_step (w0 := w) HR.out HLs.out HLo.out HB2.out HO2.out g4 o3
        have on4 : Only _ w4 (fun x => (Value.slice a' ds.length c').ownBlock = some x) := (Only.refl _ _).grown g4 (fun j hj => hj)
        have bb := bel_trans HB2.out by1
        have HX4 : Hid (Box w4 W1.heap.size #[.int .i64 base, .slice (some ⟨b, off, none⟩) n q2] 115) := (HXs.out.below bb).only on4 (fun e => lit_ne (HXs.out.below bb) hr2 (by decide) e)
        have HB4 : Hid (Below w.heap.size w w4) := (bel_trans HBr.out bb).grown g4 (bel_trans HBr.out bb).size (fun j hj => by have := (hr2.lt j hj).1; omega)
        have HQ4 : Hid (ds.map M.say ++ [(mk, mp, mo, mxs)] = comY base got (y.take (k + 1))) := by show _ = _; rw [com_in HYK.out HG.out, HD.out]
        clear hr2 o3 g4 at4 by1 on4 bb
        go_wp2
        go_roundw
        case rel => exact ⟨k + 1, ds ++ [⟨mk, mp, mo, a2, c2, mxs⟩], some ⟨g3, 0, none⟩, cap3, by omega, by go_num, by rw [List.length_append]; rfl, by rw [List.map_append]; exact HQ4.out, ST.out.1, ST.out.2, HX4.out, HB4.out⟩
        case measure => simp [intOf]; omega
      · have hg' : base + k < got := by omega
        have HX : Hid (ds.map M.say = comY base got (y.take (k + 1))) := by show _ = _; rw [com_out hg']; exact HD.out
        clear m0 m1 m2 m3 hrow
        go_wp2
        go_roundw
        case rel => exact ⟨k + 1, ds, a', c', by omega, by go_num, rfl, HX.out, hr, hL, hX, hB⟩
        case measure => simp [intOf]; omega
    · have : k = n := by omega
      subst this
      have HF : Hid (ds.map M.say = comY base got y) := by show _ = _; rw [← com_all (b := base) (g := got) (y := y) (k := k) (by have := HN.out; omega)]; exact HD.out
      have HDp : Hid (Deep wr w.heap.size a' c' ds) := ⟨owns_base hr (by omega), hL.base (by omega)⟩
      clear hr hL hM hX
      go_wp2
      go_ret
      exact ⟨a', c', ds, rfl, by rw [HE.out]; exact HF.out, HDp.out, hB⟩
end Go.Proofs.YtpfppeifppdmbaaGreat
