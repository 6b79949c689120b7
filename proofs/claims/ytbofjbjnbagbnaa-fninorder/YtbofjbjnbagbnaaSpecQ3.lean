/- What the specification's Queue answers. -/
import Derived.Test.YtbofjbjnbagbnaaSpecQ2
namespace Go.Proofs.Ytbofjbjnbagbnaa
open Go.RowKit
set_option linter.unusedVariables false

theorem queueB (B : Int) (ms : List M) (m : M) : senderB B (ms ++ [m]) = (senderB B ms && (okS m.say && (!decide ((ms.length : Int) = 30) && !decide (B + ms.length = 100000)))) := by
  unfold senderB
  rw [List.all_append, Bool.eq_iff_iff]
  simp only [Bool.and_eq_true, decide_eq_true_eq, Bool.not_eq_true', decide_eq_false_iff_not, List.length_append, List.length_cons, List.length_nil, List.all_cons, List.all_nil, Bool.and_true]
  constructor
  · rintro ⟨h1, h2, h3, h4, h5⟩
    exact ⟨⟨h1, by omega, by omega, h4⟩, h5, by omega, by omega⟩
  · rintro ⟨⟨h1, h2, h3, h4⟩, h5, h6, h7⟩
    exact ⟨h1, by omega, by omega, h4, h5⟩

theorem QPost.off {B : Int} {ms : List M} {m : M} {w w' : World} {a' : Option Addr} {c' k : Nat} {ds : List M} (h : senderB B (ms ++ [m]) = false) (hk : ds.length = k) (hs : ds.map M.say = ms.map M.say) (hD : Deep w' w.heap.size a' c' ds) (hb : Below w.heap.size w w') : QPost B ms m w (.returned (.tuple #[.agg #[.int .i64 B, .slice a' k c'], .bool false])) w' :=
  ⟨a', c', ds, by rw [h, hk], by rw [h]; exact hs, hD, hb⟩
theorem QPost.on {B : Int} {ms : List M} {m : M} {w w' : World} {a' : Option Addr} {c' k : Nat} {ds : List M} (h : senderB B (ms ++ [m]) = true) (hk : ds.length = k) (hs : ds.map M.say = (ms ++ [m]).map M.say) (hD : Deep w' w.heap.size a' c' ds) (hb : Below w.heap.size w w') : QPost B ms m w (.returned (.tuple #[.agg #[.int .i64 B, .slice a' k c'], .bool true])) w' :=
  ⟨a', c', ds, by rw [h, hk], by rw [h]; exact hs, hD, hb⟩

/-- One more message behind an owned row that stands in a box of a later block. -/
theorem q_step {w wr w1 w4 : World} {O : Nat} {B : Int} {a' a2 : Option Addr} {c' c2 k g3 cap3 : Nat} {ds : List M} {m : M}
    (hD : Deep wr (w.heap.size + 3) a' c' ds) (hk : ds.length = k) (hlO : ∀ j, (Value.slice a' ds.length c').ownBlock = some j → j < O) (hlX : ∀ x ∈ ds, ∀ j, x.v.ownBlock = some j → j < O) (hO3 : w.heap.size + 3 ≤ O)
    (XO : Box wr O #[.int .i64 B, .slice a' k c'] 26) (XR : Box wr (w.heap.size + 1 + 1) #[.int .i64 0, .slice none 0 0] 26) (hB : Below w.heap.size w wr)
    (b2 : Below wr.heap.size wr w1) (o2 : w1.ownsRow wr.heap.size 3 1 (.slice a2 m.xs.length c2) m.xs.length (m.xs.map (Value.int .i64)))
    (g : (w1.alloc (.cells #[.int .i64 m.k, .int .i64 m.p, .bool m.o, .slice a2 m.xs.length c2] 33)).grownBy w4 (Value.slice a' k c').ownBlock)
    (hat : (Value.slice a' k c').ownBlock = some g3 ∨ g3 = (w1.alloc (.cells #[.int .i64 m.k, .int .i64 m.p, .bool m.o, .slice a2 m.xs.length c2] 33)).heap.size)
    (o3 : w4.ownsRow (w.heap.size + 3) 33 4 (.slice (some ⟨g3, 0, none⟩) (k + 1) cap3) (k + 1) (flat ds ++ [.int .i64 m.k, .int .i64 m.p, .bool m.o, .slice a2 m.xs.length c2])) :
    Deep (w4.setCell ⟨O, 1, none⟩ (.slice (some ⟨g3, 0, none⟩) (k + 1) cap3)) (w.heap.size + 3) (some ⟨g3, 0, none⟩) cap3 (ds ++ [⟨m.k, m.p, m.o, a2, c2, m.xs⟩]) ∧
      Box (w4.setCell ⟨O, 1, none⟩ (.slice (some ⟨g3, 0, none⟩) (k + 1) cap3)) O #[.int .i64 B, .slice (some ⟨g3, 0, none⟩) (k + 1) cap3] 26 ∧ Box (w4.setCell ⟨O, 1, none⟩ (.slice (some ⟨g3, 0, none⟩) (k + 1) cap3)) (w.heap.size + 1 + 1) #[.int .i64 0, .slice none 0 0] 26 ∧ Below w.heap.size w (w4.setCell ⟨O, 1, none⟩ (.slice (some ⟨g3, 0, none⟩) (k + 1) cap3)) := by
  subst hk
  have hs := XO.lt
  have hs1 := b2.size
  have bx := bel_alloc b2 (.cells #[.int .i64 m.k, .int .i64 m.p, .bool m.o, .slice a2 m.xs.length c2] 33)
  have by1 := bel_alloc (Below.refl w1.heap.size w1) (.cells #[.int .i64 m.k, .int .i64 m.p, .bool m.o, .slice a2 m.xs.length c2] 33)
  have hr' := owns_below hD.row bx
  have hL1 : Lists w1 (w.heap.size + 3) (ds ++ [⟨m.k, m.p, m.o, a2, c2, m.xs⟩]) := (hD.lists.below b2).snoc (owns_base o2 (by omega)) (fun x hx j hj hk' => by
    have h1 := hD.lists.lt hx hj
    have h2 := o2.lt j hk'
    omega)
  have hL2 := hL1.below by1
  have hL4 : Lists w4 (w.heap.size + 3) (ds ++ [⟨m.k, m.p, m.o, a2, c2, m.xs⟩]) := ⟨fun x hx => owns_ne (hL2.1 x hx) g (fun j hj he => owns_types hr' (hL2.1 x hx) (by decide) he hj), hL2.2⟩
  have hg3 : O ≠ g3 := by
    rcases hat with h | h
    · have := hlO _ h; omega
    · simp at h; omega
  have hnO : ∀ j, (Value.slice a' ds.length c').ownBlock = some j → j ≠ O := fun j hj he => by have := hlO j hj; omega
  refine ⟨⟨?_, hL4.far _ _ (fun x hx j hj => ?_)⟩, heap_setCell_same _ _ 1 _ _ _ ((XO.below bx).kept g hnO), ((XR.below bx).kept g (not_low hr' (by omega))).far _ _ (by simp; omega), ?_⟩
  · have hl : (ds ++ [(⟨m.k, m.p, m.o, a2, c2, m.xs⟩ : M)]).length = ds.length + 1 := by simp
    rw [hl]
    refine owns_setCell ?_ (fun j hj => by simp [Value.ownBlock] at hj; subst hj; exact hg3) _
    rw [flat_append]
    simpa [flat, M.cells] using o3
  · rcases List.mem_append.1 hx with hx' | hx'
    · have := hlX x hx' j hj
      simp
      omega
    · simp at hx'
      subst hx'
      have := (o2.lt j hj).1
      simp
      omega
  · have b4 : Below w.heap.size w w4 := (bel_trans hB bx).grown g (bel_trans hB bx).size (fun j hj => by have := (hr'.lt j hj).1; omega)
    exact bel_setCell b4 _ _ (by simp; omega)

set_option maxRecDepth 100000 in
set_option maxHeartbeats 2000000 in
theorem specQueue_any (B : Int) (a : Option Addr) (c : Nat) (ms : List M) (m : M) (w : World) (ha : MRow w a ms) (hl : ms.length ≤ 1048576) (hxs : ∀ x ∈ ms, x.xs.length ≤ 1048577) (hmx : m.xs.length ≤ 1048577) (hrm : Row .i64 w m.a m.xs) :
    Calls Try.prog 7 #[.agg #[.int .i64 B, .slice a ms.length c], .agg #[.int .i64 m.k, .int .i64 m.p, .bool m.o, .slice m.a m.xs.length m.c]] w fun e w' => QPost B ms m w e w' := by
  have hb3 := bel_alloc (bel_alloc (bel_alloc (Below.refl w.heap.size w) (.cells #[.int .i64 B, .slice a ms.length c] 26)) (.cells #[.int .i64 m.k, .int .i64 m.p, .bool m.o, .slice m.a m.xs.length m.c] 33)) (.cells #[.int .i64 0, .slice none 0 0] 26)
  obtain ⟨X0, X1, X2⟩ := Box.three w #[.int .i64 B, .slice a ms.length c] #[.int .i64 m.k, .int .i64 m.p, .bool m.o, .slice m.a m.xs.length m.c] #[.int .i64 0, .slice none 0 0] 26 33 26
  have haW := ha.below hb3
  have hrW := hrm.below hb3
  obtain ⟨x0, x1, zx⟩ := X0.at2
  go_enter Try.func7, Try.ntmps7
  go_wp2_with fail
  refine (l2Sender_any B a c ms _ haW hxs).mono ?_
  rintro e w1 ⟨a1, c1, d1, rfl, s1, D1, b1⟩
  have X0 := X0.below b1
  have X1 := X1.below b1
  have X2 := X2.below b1
  have haN := haW.below b1
  have hrN := hrW.below b1
  have B1 := bel_trans hb3 b1
  have z1 : w.heap.size + 3 ≤ w1.heap.size := by have := b1.size; simp at this; omega
  have D1 : Deep w1 (w.heap.size + 3) a1 c1 d1 := D1.base (by simp)
  have hl1 : d1.length = ms.length := by have h := congrArg List.length s1; simpa using h
  clear b1 hb3 haW hrW x0 x1 zx
  obtain ⟨x0, x1, zx⟩ := X0.at2
  go_wp2_with fail
  have bx := bel_alloc (Below.refl w1.heap.size w1) (.cells #[.int .i64 B, .slice a1 ms.length c1] 26)
  have XO := Box.new w1 #[.int .i64 B, .slice a1 ms.length c1] 26
  have LO : Hid (∀ j, (Value.slice a1 d1.length c1).ownBlock = some j → j < w1.heap.size) := fun j hj => (D1.row.lt j hj).2
  have LX : Hid (∀ x ∈ d1, ∀ j, x.v.ownBlock = some j → j < w1.heap.size) := fun x hx j hj => (D1.lists.lt hx hj).2
  have X0 := X0.below bx
  have X1 := X1.below bx
  have X2 := X2.below bx
  have haN := haN.below bx
  have hrN := hrN.below bx
  have D1 := D1.below bx
  have B1 := bel_trans B1 bx
  clear bx x0 x1 zx
  refine (specSender_any B a c ms _ haN).mono ?_
  rintro e w2 ⟨rfl, b2⟩
  have X0 := X0.below b2
  have X1 := X1.below b2
  have X2 := X2.below b2
  have XO := XO.below b2
  have hrN := hrN.below b2
  have HD := D1.below b2
  have B1 := bel_trans B1 b2
  clear b2 D1 haN
  by_cases hs : senderB B ms = true
  case neg =>
    have HS : Hid (senderB B ms = false) := by show _ = _; simpa using hs
    have HQ : Hid (senderB B (ms ++ [m]) = false) := by show _ = _; rw [queueB, HS.out]; rfl
    rw [HS.out]
    clear hs
    obtain ⟨o0, o1, oz⟩ := XO.at2
    obtain ⟨r0, r1, rz⟩ := X2.at2
    have f0 := X2.frozen 0
    have f1 := X2.frozen 1
    clear X0 X1 X2 XO hrN
    · skip
      go_wp2
      refine bodyPost_ret (v := .tuple #[.agg #[.int .i64 B, .slice a1 ms.length c1], .bool false]) (by simp [results, Try.results7, go_sem, r0, r1]) rfl (QPost.off HQ.out hl1 s1 ?_ ?_)
      · exact ((HD.far ⟨w.heap.size + 1 + 1, 0, none⟩ _ (by simp)).far ⟨w.heap.size + 1 + 1, 1, none⟩ _ (by simp)).base (by omega)
      · exact bel_setCell (bel_setCell B1 _ _ (by simp; omega)) _ _ (by simp; omega)
  have HS : Hid (senderB B ms = true) := hs
  rw [HS.out]
  obtain ⟨hB0, hB1, hB2⟩ : 0 ≤ B ∧ B ≤ 100000 ∧ (ms.length : Int) ≤ 30 := by
    unfold senderB at hs
    simp only [Bool.and_eq_true, decide_eq_true_eq] at hs
    omega
  clear hs
  obtain ⟨y0, y1, y2, y3, zy⟩ := X1.at4
  go_wp2_with fail
  refine (specMsgOk_any m.k m.p m.o m.a m.c m.xs _ hrN).mono ?_
  rintro e w3 ⟨rfl, b3⟩
  have X0 := X0.below b3
  have X1 := X1.below b3
  have X2 := X2.below b3
  have XO := XO.below b3
  have hrN := hrN.below b3
  have HD := HD.below b3
  have B1 := bel_trans B1 b3
  clear b3 y0 y1 y2 y3 zy
  obtain ⟨x0, x1, zx⟩ := X0.at2
  obtain ⟨o0, o1, oz⟩ := XO.at2
  obtain ⟨r0, r1, rz⟩ := X2.at2
  have f0 := X2.frozen 0
  have f1 := X2.frozen 1
  by_cases hm : msgOkB m.k m.p m.o m.xs = true
  case neg =>
    have HMO : Hid (msgOkB m.k m.p m.o m.xs = false) := by show _ = _; simpa using hm
    have HQ : Hid (senderB B (ms ++ [m]) = false) := by show _ = _; rw [queueB, HS.out, show okS m.say = false from HMO.out]; rfl
    rw [HMO.out]
    clear hm X0 X1 X2 XO hrN
    · skip
      go_wp2
      refine bodyPost_ret (v := .tuple #[.agg #[.int .i64 B, .slice a1 ms.length c1], .bool false]) (by simp [results, Try.results7, go_sem, r0, r1]) rfl (QPost.off HQ.out hl1 s1 ?_ ?_)
      · exact ((HD.far ⟨w.heap.size + 1 + 1, 0, none⟩ _ (by simp)).far ⟨w.heap.size + 1 + 1, 1, none⟩ _ (by simp)).base (by omega)
      · exact bel_setCell (bel_setCell B1 _ _ (by simp; omega)) _ _ (by simp; omega)
  have HMO : Hid (msgOkB m.k m.p m.o m.xs = true) := hm
  rw [HMO.out]
  clear hm
  by_cases h30 : (ms.length : Int) = 30
  case pos =>
    have HQ : Hid (senderB B (ms ++ [m]) = false) := by show _ = _; rw [queueB, HS.out, show okS m.say = true from HMO.out, decide_eq_true h30]; rfl
    clear X0 X1 X2 XO hrN
    · skip
      go_wp2
      refine bodyPost_ret (v := .tuple #[.agg #[.int .i64 B, .slice a1 ms.length c1], .bool false]) (by simp [results, Try.results7, go_sem, r0, r1]) rfl (QPost.off HQ.out hl1 s1 ?_ ?_)
      · exact ((HD.far ⟨w.heap.size + 1 + 1, 0, none⟩ _ (by simp)).far ⟨w.heap.size + 1 + 1, 1, none⟩ _ (by simp)).base (by omega)
      · exact bel_setCell (bel_setCell B1 _ _ (by simp; omega)) _ _ (by simp; omega)
  by_cases h5 : B + (ms.length : Int) = 100000
  case pos =>
    have HQ : Hid (senderB B (ms ++ [m]) = false) := by show _ = _; rw [queueB, HS.out, show okS m.say = true from HMO.out, decide_eq_true h5]; simp
    clear X0 X1 X2 XO hrN
    · skip
      go_wp2
      refine bodyPost_ret (v := .tuple #[.agg #[.int .i64 B, .slice a1 ms.length c1], .bool false]) (by simp [results, Try.results7, go_sem, r0, r1]) rfl (QPost.off HQ.out hl1 s1 ?_ ?_)
      · exact ((HD.far ⟨w.heap.size + 1 + 1, 0, none⟩ _ (by simp)).far ⟨w.heap.size + 1 + 1, 1, none⟩ _ (by simp)).base (by omega)
      · exact bel_setCell (bel_setCell B1 _ _ (by simp; omega)) _ _ (by simp; omega)
  have HQ : Hid (senderB B (ms ++ [m]) = true) := by show _ = _; rw [queueB, HS.out, show okS m.say = true from HMO.out, decide_eq_false h30, decide_eq_false h5]; rfl
  have e30 : ((ms.length : Int) == 30) = false := by simp; omega
  have e5 : (B + (ms.length : Int) == 100000) = false := by simp; omega
  obtain ⟨i0, hi, hz0, hz1, hz2⟩ := info_parts info_msg
  have hr : w3.ownsRow (w.heap.size + 3) 33 4 (.slice a1 ms.length c1) ms.length (flat d1) := by have h := HD.row; rw [hl1] at h; exact h
  obtain ⟨y0, y1, y2, y3, zy⟩ := X1.at4
  have hLO : ∀ j, (Value.slice a1 ms.length c1).ownBlock = some j → j ≠ w1.heap.size := fun j hj he => by have h := LO.out j (by rw [hl1]; exact hj); omega
  have HLO : Hid (∀ j, (Value.slice a1 ms.length c1).ownBlock = some j → j ≠ w1.heap.size) := hLO
  clear hLO h30 h5
  go_wp2_with fail
  go_region_law (first | (refine step_append_lies _ (by rfl) _ _ _ (by rfl) (w.heap.size + 3) 33 i0 (.agg #[.int .i64 0, .int .i64 0, .bool false, .slice none 0 0]) 4 48 Try.underlying24 hi hz0 hz1 hz2 rfl (by omega) (.slice a1 ms.length c1) ms.length (flat d1) (by rfl) (owns_below hr bx2) ⟨w5.heap.size, 0, none⟩ 1 1 [.int .i64 m.k, .int .i64 m.p, .bool m.o, .slice a2 m.xs.length c2] (by rfl) (by rfl) (new_one _ _ _ _ _) (four_one _ _ _ _ _ _) (by omega) (by unfold maxLen; omega) (by omega) hbs.out _ rfl ?_; intro g3 cap3 w4 o3 hgrow hat hlt4; obtain ⟨q0, q1, qz⟩ := ((XO.below bx2).kept hgrow HLO.out).at2; have qf := ((XO.below bx2).kept hgrow HLO.out).frozen 1) | (go_simp; go_at_call 16; refine (l1Msg_any m.k m.p m.o m.a m.c m.xs _ hmx ?_).mono ?_; exact hrN; rintro e w5 ⟨v2, rfl, o2, b2⟩; obtain ⟨a2, c2, rfl⟩ := owns_slice o2; have b2 := bel_undrew b2; have bx2 := bel_alloc b2 (.cells #[.int .i64 m.k, .int .i64 m.p, .bool m.o, .slice a2 m.xs.length c2] 33); obtain ⟨z0, z1', zz⟩ := (XO.below b2).at2; have hbs : Hid (w.heap.size + 3 ≤ (w5.alloc (.cells #[.int .i64 m.k, .int .i64 m.p, .bool m.o, .slice a2 m.xs.length c2] 33)).heap.size) := (show _ ≤ _ from (by have h1 := b2.size; have h2 := XO.lt; simp; omega))))
  all_goals
    obtain ⟨r1', r2', r3', r4'⟩ := q_step HD hl1 LO.out LX.out z1 XO X2 B1 b2 o2 hgrow hat o3
    clear hr X0 X1 X2 XO hrN HD B1 b2 o2 hgrow o3 bx2 hbs hat hlt4 q0 q1 qz qf z0 z1' zz x0 x1 zx o0 o1 oz r0 r1 rz f0 f1 y0 y1 y2 y3 zy
    obtain ⟨o0, o1, oz⟩ := r2'.at2
    obtain ⟨r0, r1, rz⟩ := r3'.at2
    have f0 := r3'.frozen 0
    have f1 := r3'.frozen 1
    clear r2' r3'
    go_wp2
    refine bodyPost_ret (v := .tuple #[.agg #[.int .i64 B, .slice (some ⟨g3, 0, none⟩) (ms.length + 1) cap3], .bool true]) (by simp [results, Try.results7, go_sem, r0, r1]) rfl (QPost.on (ds := d1 ++ [⟨m.k, m.p, m.o, a2, c2, m.xs⟩]) HQ.out (by simp [hl1]) (by rw [List.map_append, List.map_append, s1]; rfl) ?_ ?_)
    · exact ((r1'.far ⟨w.heap.size + 1 + 1, 0, none⟩ _ (by simp)).far ⟨w.heap.size + 1 + 1, 1, none⟩ _ (by simp)).base (by omega)
    · exact bel_setCell (bel_setCell r4' _ _ (by simp; omega)) _ _ (by simp; omega)
end Go.Proofs.Ytbofjbjnbagbnaa
