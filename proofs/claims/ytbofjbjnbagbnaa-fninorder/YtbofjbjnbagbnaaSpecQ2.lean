/- What the specification's l2Sender does. -/
import Derived.Test.YtbofjbjnbagbnaaSpecQ
import Derived.Deep.AppendLies
import Derived.Deep.RegionWith
import Derived.Deep.RegionLaw
import Derived.BigRegion
namespace Go.Proofs.Ytbofjbjnbagbnaa
open Go.RowKit
set_option linter.unusedVariables false

theorem new_one (W : World) (k p : Int) (o : Bool) (v : Value) : ∀ j u, [Value.int .i64 k, .int .i64 p, .bool o, v][j]? = some u → (W.alloc (.cells #[.int .i64 k, .int .i64 p, .bool o, v] 33)).cell? ((⟨W.heap.size, 0, none⟩ : Addr).add j) = some u := fun j u hu => by
  have h := Box.new W #[.int .i64 k, .int .i64 p, .bool o, v] 33
  rw [addr_add, Nat.zero_add, h.cell]
  simpa using hu

theorem four_one (k p : Int) (o : Bool) (a : Option Addr) (n c : Nat) : ∀ u ∈ [Value.int .i64 k, .int .i64 p, .bool o, .slice a n c], u.oneCell' = true := fun u hu => by
  simp at hu
  rcases hu with rfl | rfl | rfl | rfl <;> rfl

theorem not_low {w : World} {lo e size n : Nat} {v : Value} {xs : List Value} (h : w.ownsRow lo e size v n xs) {m : Nat} (hm : m < lo) : ∀ j, v.ownBlock = some j → j ≠ m := fun j hj he => by have := (h.lt j hj).1; omega

/-- One more message behind an owned row that stands in a box: what the loop carries. -/
theorem l2_step {w wr w1 w4 : World} {B : Int} {a a' a2 : Option Addr} {ca c' c2 k g3 cap3 : Nat} {n : Nat} {ds ms : List M} {m : M}
    (hr : wr.ownsRow (w.heap.size + 3) 33 4 (.slice a' k c') k (flat ds)) (hL : Lists wr (w.heap.size + 3) ds)
    (XS : Box wr w.heap.size #[.int .i64 B, .slice a n ca] 26) (XR : Box wr (w.heap.size + 1) #[.int .i64 0, .slice none 0 0] 26) (XO : Box wr (w.heap.size + 1 + 1) #[.int .i64 B, .slice a' k c'] 26) (hB : Below w.heap.size w wr)
    (hds : ds.map M.say = (ms.take k).map M.say) (hm : ms[k]? = some m)
    (b2 : Below wr.heap.size wr w1) (o2 : w1.ownsRow wr.heap.size 3 1 (.slice a2 m.xs.length c2) m.xs.length (m.xs.map (Value.int .i64)))
    (g : (w1.alloc (.cells #[.int .i64 m.k, .int .i64 m.p, .bool m.o, .slice a2 m.xs.length c2] 33)).grownBy w4 (Value.slice a' k c').ownBlock)
    (o3 : w4.ownsRow (w.heap.size + 3) 33 4 (.slice (some ⟨g3, 0, none⟩) (k + 1) cap3) (k + 1) (flat ds ++ [.int .i64 m.k, .int .i64 m.p, .bool m.o, .slice a2 m.xs.length c2])) :
    ∃ ds' : List M, ds'.map M.say = (ms.take (k + 1)).map M.say ∧ (w4.setCell ⟨w.heap.size + 1 + 1, 1, none⟩ (.slice (some ⟨g3, 0, none⟩) (k + 1) cap3)).ownsRow (w.heap.size + 3) 33 4 (.slice (some ⟨g3, 0, none⟩) (k + 1) cap3) (k + 1) (flat ds') ∧ Lists (w4.setCell ⟨w.heap.size + 1 + 1, 1, none⟩ (.slice (some ⟨g3, 0, none⟩) (k + 1) cap3)) (w.heap.size + 3) ds' ∧
      Box (w4.setCell ⟨w.heap.size + 1 + 1, 1, none⟩ (.slice (some ⟨g3, 0, none⟩) (k + 1) cap3)) w.heap.size #[.int .i64 B, .slice a n ca] 26 ∧ Box (w4.setCell ⟨w.heap.size + 1 + 1, 1, none⟩ (.slice (some ⟨g3, 0, none⟩) (k + 1) cap3)) (w.heap.size + 1) #[.int .i64 0, .slice none 0 0] 26 ∧ Box (w4.setCell ⟨w.heap.size + 1 + 1, 1, none⟩ (.slice (some ⟨g3, 0, none⟩) (k + 1) cap3)) (w.heap.size + 1 + 1) #[.int .i64 B, .slice (some ⟨g3, 0, none⟩) (k + 1) cap3] 26 ∧ Below w.heap.size w (w4.setCell ⟨w.heap.size + 1 + 1, 1, none⟩ (.slice (some ⟨g3, 0, none⟩) (k + 1) cap3)) := by
  have hs := XO.lt
  have bx := bel_alloc b2 (.cells #[.int .i64 m.k, .int .i64 m.p, .bool m.o, .slice a2 m.xs.length c2] 33)
  have by1 := bel_alloc (Below.refl w1.heap.size w1) (.cells #[.int .i64 m.k, .int .i64 m.p, .bool m.o, .slice a2 m.xs.length c2] 33)
  have hr' := owns_below hr bx
  have hL1 : Lists w1 (w.heap.size + 3) (ds ++ [⟨m.k, m.p, m.o, a2, c2, m.xs⟩]) := (hL.below b2).snoc (owns_base o2 (by omega)) (fun x hx j hj hk' => by
    have h1 := hL.lt hx hj
    have h2 := o2.lt j hk'
    omega)
  have hL2 := hL1.below by1
  have hL4 : Lists w4 (w.heap.size + 3) (ds ++ [⟨m.k, m.p, m.o, a2, c2, m.xs⟩]) := ⟨fun x hx => owns_ne (hL2.1 x hx) g (fun j hj he => owns_types hr' (hL2.1 x hx) (by decide) he hj), hL2.2⟩
  refine ⟨ds ++ [⟨m.k, m.p, m.o, a2, c2, m.xs⟩], ?_, ?_, hL4.far _ _ (fun x hx j hj => by have := (hL4.lt hx hj).1; simp; omega), ?_, ?_, ?_, ?_⟩
  · have e : ms.take (k + 1) = ms.take k ++ [m] := by
      obtain ⟨hk', rfl⟩ := List.getElem?_eq_some_iff.1 hm
      rw [List.take_succ_eq_append_getElem hk']
    rw [e, List.map_append, List.map_append, hds]
    rfl
  · refine owns_setCell ?_ (fun j hj => by have := (o3.lt j hj).1; simp; omega) _
    rw [flat_append]
    simpa [flat, M.cells] using o3
  · exact ((XS.below bx).kept g (not_low hr' (by omega))).far _ _ (by simp; omega)
  · exact ((XR.below bx).kept g (not_low hr' (by omega))).far _ _ (by simp)
  · exact heap_setCell_same _ _ 1 _ _ _ ((XO.below bx).kept g (not_low hr' (by omega)))
  · have b4 : Below w.heap.size w w4 := (bel_trans hB bx).grown g (bel_trans hB bx).size (fun j hj => by have := (hr'.lt j hj).1; omega)
    exact bel_setCell b4 _ _ (by simp; omega)

set_option maxRecDepth 100000 in
set_option maxHeartbeats 2000000 in
theorem l2Sender_any (B : Int) (a : Option Addr) (ca : Nat) (ms : List M) (w : World) (ha : MRow w a ms) (hxs : ∀ m ∈ ms, m.xs.length ≤ 1048577) :
    Calls Try.prog 13 #[.agg #[.int .i64 B, .slice a ms.length ca]] w fun e w' => ∃ (a' : Option Addr) (c' : Nat) (ds : List M), e = .returned (.agg #[.int .i64 B, .slice a' ms.length c']) ∧ ds.map M.say = ms.map M.say ∧ Deep w' w.heap.size a' c' ds ∧ Below w.heap.size w w' := by
  obtain ⟨i0, hi, hz0, hz1, hz2⟩ := info_parts info_msg
  obtain ⟨n, hn⟩ : ∃ n, ms.length = n := ⟨_, rfl⟩
  have HN : Hid (ms.length = n) := hn
  have hsm : n ≤ 1048577 := by have := ha.1; omega
  rw [hn]
  clear hn
  have hb3 := bel_alloc (bel_alloc (bel_alloc (Below.refl w.heap.size w) (.cells #[.int .i64 B, .slice a n ca] 26)) (.cells #[.int .i64 0, .slice none 0 0] 26)) (.cells #[.int .i64 B, .slice none 0 0] 26)
  obtain ⟨X0, X1, X2⟩ := Box.three w #[.int .i64 B, .slice a n ca] #[.int .i64 0, .slice none 0 0] #[.int .i64 B, .slice none 0 0] 26 26 26
  go_enter Try.func13, Try.ntmps13
  go_wp2
  go_loopw [4] (fun i wr => ∃ k : Nat, k ≤ n ∧ i = .int .i64 k ∧ ∃ (ds : List M) (a' : Option Addr) (c' : Nat), ds.map M.say = (ms.take k).map M.say ∧ wr.ownsRow (w.heap.size + 3) 33 4 (.slice a' k c') k (flat ds) ∧ Lists wr (w.heap.size + 3) ds ∧ Box wr w.heap.size #[.int .i64 B, .slice a n ca] 26 ∧ Box wr (w.heap.size + 1) #[.int .i64 0, .slice none 0 0] 26 ∧ Box wr (w.heap.size + 1 + 1) #[.int .i64 B, .slice a' k c'] 26 ∧ Below w.heap.size w wr) (fun i _ => n - (intOf i).toNat)
  case atStart => exact ⟨0, Nat.zero_le _, rfl, [], none, 0, by simp, World.ownsRow_nil _ _ _ _, Lists.nil _ _, X0, X1, X2, hb3⟩
  case round =>
    obtain ⟨k, hk, rfl, ds, a', c', hds, hr, hL, hS, hR, hO, hbr⟩ := hrel
    clear X0 X1 X2 hb3
    obtain ⟨s0, s1, sz⟩ := hS.at2
    obtain ⟨p0, p1, pz⟩ := hO.at2
    by_cases hkn : k < n
    · have hi' : (k : Int) < (n : Int) := by omega
      obtain ⟨m, hmk⟩ : ∃ m, ms[k]? = some m := ⟨_, List.getElem?_eq_getElem (by have := HN.out; omega)⟩
      have HM : Hid (ms[k]? = some m) := hmk
      have hlen : m.xs.length ≤ 1048577 := hxs m (List.mem_of_getElem? hmk)
      obtain ⟨⟨b, off, rfl, y0, y1, y2, y3⟩, hrow⟩ := (ha.below hbr).2 k m hmk
      clear hmk
      go_wp2_with fail
      go_region_law (first | (refine step_append_lies _ (by rfl) _ _ _ (by rfl) (w.heap.size + 3) 33 i0 (.agg #[.int .i64 0, .int .i64 0, .bool false, .slice none 0 0]) 4 48 Try.underlying24 hi hz0 hz1 hz2 rfl (by omega) (.slice a' k c') k (flat ds) (by rfl) (owns_below hr bx2) ⟨w2.heap.size, 0, none⟩ 1 1 [.int .i64 m.k, .int .i64 m.p, .bool m.o, .slice a2 m.xs.length c2] (by rfl) (by rfl) (new_one _ _ _ _ _) (four_one _ _ _ _ _ _) (by omega) (by unfold maxLen; omega) (by omega) hbs.out _ rfl ?_; intro g3 cap3 w4 o3 hgrow hat hlt4; obtain ⟨q0, q1, qz⟩ := ((hO.below bx2).kept hgrow (not_low (owns_below hr bx2) (by omega))).at2; have qf := ((hO.below bx2).kept hgrow (not_low (owns_below hr bx2) (by omega))).frozen 1) | (go_simp; go_at_call 16; refine (l1Msg_any m.k m.p m.o m.a m.c m.xs _ hlen ?_).mono ?_; exact hrow; rintro e w2 ⟨v2, rfl, o2, b2⟩; obtain ⟨a2, c2, rfl⟩ := owns_slice o2; have b2 := bel_undrew b2; have bx2 := bel_alloc b2 (.cells #[.int .i64 m.k, .int .i64 m.p, .bool m.o, .slice a2 m.xs.length c2] 33); obtain ⟨z0, z1, zz⟩ := (hO.below b2).at2; have hbs : Hid (w.heap.size + 3 ≤ (w2.alloc (.cells #[.int .i64 m.k, .int .i64 m.p, .bool m.o, .slice a2 m.xs.length c2] 33)).heap.size) := (show _ ≤ _ from (by have h1 := b2.size; have h2 := hO.lt; simp; omega))))
      all_goals
        obtain ⟨ds', r1, r2, r3, r4, r5, r6, r7⟩ := l2_step hr hL hS hR hO hbr hds HM.out b2 o2 hgrow o3
        clear hr hL hS hR hO hbr hds b2 o2 hgrow o3 bx2 hbs hat hlt4 q0 q1 qz qf z0 z1 zz s0 s1 sz p0 p1 pz y0 y1 y2 y3 hrow
        go_wp2
        go_roundw
        case rel => exact ⟨k + 1, by omega, by go_num, ds', _, _, r1, r2, r3, r4, r5, r6, r7⟩
        case measure => simp [intOf]; omega
    · have : k = n := by omega
      subst this
      rw [List.take_of_length_le (by have := HN.out; omega)] at hds
      have hlk : ds.length = k := by have h := congrArg List.length hds; simp at h; have := HN.out; omega
      obtain ⟨y0, y1, zy⟩ := hR.at2
      have g0 := hR.frozen 0
      have g1 := hR.frozen 1
      have HD : Hid (Deep wr (w.heap.size + 3) a' c' ds) := ⟨by rw [hlk]; exact hr, hL⟩
      clear hS hR hO hL hr
      go_wp2
      refine bodyPost_ret (v := .agg #[.int .i64 B, .slice a' k c']) (by simp [results, Try.results13, go_sem, y0, y1]) rfl ⟨a', c', ds, rfl, hds, ?_, ?_⟩
      · exact ((HD.out.far ⟨w.heap.size + 1, 0, none⟩ _ (by simp)).far ⟨w.heap.size + 1, 1, none⟩ _ (by simp)).base (by omega)
      · exact bel_setCell (bel_setCell hbr _ _ (by simp)) _ _ (by simp)
end Go.Proofs.Ytbofjbjnbagbnaa
