/- NfL and NfT and NfV: see the heads of the parts. -/
import Derived.Test.YtpfppeifppdmbaaGreatNfI
import Derived.Test.YtpfppeifppdmbaaGreatMem1
import Derived.Test.YtpfppeifppdmbaaGreatCopy
import Derived.Test.YtpfppeifppdmbaaGreatWoI
import Derived.Test.YtpfppeifppdmbaaGreatPgI
/- What impl.lastWords hands back: the words of the last message that is coming and is like that one; they lie where they lay. -/
namespace Go.Proofs.YtpfppeifppdmbaaGreat
open Go.RowKit Go.Shelf
set_option linter.unusedVariables false

attribute [local go_sem] Oper.semAt_some

/-- The words of the last one that fits. -/
def lastP (P : Say → Bool) (l : List Say) : List Int := l.foldl (fun acc s => if P s then s.2.2.2 else acc) []
theorem lastY_eq (kind page : Int) (l : List Say) : lastY kind page l = lastP (isL kind page) l := rfl
theorem lastP_congr {P Q : Say → Bool} {l : List Say} (h : ∀ s ∈ l, P s = Q s) : lastP P l = lastP Q l := by
  have key : ∀ (l : List Say) (acc : List Int), (∀ s ∈ l, P s = Q s) → l.foldl (fun acc s => if P s then s.2.2.2 else acc) acc = l.foldl (fun acc s => if Q s then s.2.2.2 else acc) acc := by
    intro l
    induction l with
    | nil => intro acc _; rfl
    | cons s l ih =>
      intro acc hs
      rw [List.foldl_cons, List.foldl_cons, hs s (List.mem_cons_self ..)]
      exact ih _ (fun x hx => hs x (List.mem_cons_of_mem _ hx))
  exact key l [] h
theorem lastP_none {P : Say → Bool} {l : List Say} (h : ∀ s ∈ l, P s = false) : lastP P l = [] := by
  have key : ∀ (l : List Say) (acc : List Int), (∀ s ∈ l, P s = false) → l.foldl (fun acc s => if P s then s.2.2.2 else acc) acc = acc := by
    intro l
    induction l with
    | nil => intro acc _; rfl
    | cons s l ih =>
      intro acc hs
      rw [List.foldl_cons, hs s (List.mem_cons_self ..)]
      exact ih _ (fun x hx => hs x (List.mem_cons_of_mem _ hx))
  exact key l [] h
theorem lastP_some {P : Say → Bool} {A B : List Say} {s : Say} (hs : P s = true) (h : ∀ x ∈ B, P x = false) : lastP P (A ++ s :: B) = s.2.2.2 := by
  unfold lastP
  rw [List.foldl_append, List.foldl_cons, hs]
  have key : ∀ (l : List Say) (acc : List Int), (∀ s ∈ l, P s = false) → l.foldl (fun acc s => if P s then s.2.2.2 else acc) acc = acc := by
    intro l
    induction l with
    | nil => intro acc _; rfl
    | cons s l ih =>
      intro acc hs
      rw [List.foldl_cons, hs s (List.mem_cons_self ..)]
      exact ih _ (fun x hx => hs x (List.mem_cons_of_mem _ hx))
  exact key B _ h
/-- It is like that one. -/
def likeB (k p : Int) (o : Bool) (s : Say) : Bool := s.1 == k && (s.2.1 == p && s.2.2.1 == o)

theorem box_grown {A B : World} {row : Option Nat} {m : Nat} {cs : Array Value} {t : TypeId} (h : Box A m cs t) (hg : A.grownBy B row) (hr : ∀ r, row = some r → ∃ o : Obj, A.heap[r]? = some o ∧ o.isCells = false) : Box B m cs t :=
  h.kept hg (fun j e => by
    obtain ⟨ob, ho, hc⟩ := hr j e
    intro ej
    subst ej
    rw [show A.heap[j]? = _ from h] at ho
    cases ho
    cases hc)
theorem box_cell1 {W : World} {m : Nat} {c0 : Value} {t : TypeId} (h : Box W m #[c0] t) : W.cell? ⟨m, 0, none⟩ = some c0 := by rw [h.cell]; rfl
theorem box_set1 {W : World} {m : Nat} {c0 : Value} {t : TypeId} (h : Box W m #[c0] t) (v : Value) : Box (W.setCell ⟨m, 0, none⟩ v) m #[v] t := Boxed.set (v := c0) v h
theorem like_no {k pg : Int} {o : Bool} {s : Say} (h : s.1 ≠ k ∨ s.2.1 ≠ pg ∨ s.2.2.1 ≠ o) : likeB k pg o s = false := by
  unfold likeB
  rcases h with h | h | h
  · have : (s.1 == k) = false := by simpa using h
    rw [this]; rfl
  · have : (s.2.1 == pg) = false := by simpa using h
    rw [this]; simp
  · have : (s.2.2.1 == o) = false := by simpa using h
    rw [this]; simp

/-- A slice of words that lie in w. -/
def LwP (y : List Int) (w : World) (e : Ending) (w' : World) : Prop := ∃ (a : Option Addr) (c : Nat), e = .returned (.slice a y.length c) ∧ Row .i64 w a y ∧ Below w.heap.size w w'

def LwI (k pg : Int) (o : Bool) (w : World) (pre : List (MS w)) (W : World) : Prop := ((∀ x ∈ pre, likeB k pg o x.1.say = false) ∧ Box W (w.heap.size + 1 + 1) #[.slice none 0 0] 27 ∧ Box W (w.heap.size + 1) #[.int .i64 k, .int .i64 pg, .bool o, .slice none 0 0] 69) ∧ Below w.heap.size w W
def LwX (k pg : Int) (o : Bool) (w : World) (c : Code) (pre : List (MS w)) (W : World) : Prop := (c = .ret ∧ ∃ (pre0 : List (MS w)) (x : MS w), pre = pre0 ++ [x] ∧ (∀ y ∈ pre0, likeB k pg o y.1.say = false) ∧ likeB k pg o x.1.say = true ∧ Box W (w.heap.size + 1 + 1) #[.slice x.1.a x.1.xs.length x.1.c] 27) ∧ Below w.heap.size w W
theorem lw_none {d : WoD} {f t : Nat} {w : World} {ns : List (MS w)} {P : Say → Bool} (hsay : (ns.map Subtype.val).map M.say = (d.d f).y t) (h : ∀ x ∈ (ns.drop ((d.d t).g f - (d.d f).b t).toNat).reverse, P x.1.say = false) : lastP P (comD d f t) = [] := by
  refine lastP_none fun s hs => ?_
  unfold comD comY at hs
  rw [← hsay, List.map_map, ← List.map_drop] at hs
  obtain ⟨x, hx, rfl⟩ := List.mem_map.1 hs
  exact h x (List.mem_reverse.2 hx)
theorem lw_some {d : WoD} {f t : Nat} {w : World} {ns : List (MS w)} {P : Say → Bool} {j : Nat} {p0 : List (MS w)} {x : MS w} (hsay : (ns.map Subtype.val).map M.say = (d.d f).y t) (hj : ((d.d t).g f - (d.d f).b t).toNat ≤ j) (h1 : (ns.drop j).reverse = p0 ++ [x])
    (h2 : ∀ y ∈ p0, P y.1.say = false) (h3 : P x.1.say = true) : lastP P (comD d f t) = x.1.xs := by
  unfold comD comY
  obtain ⟨i, rfl⟩ : ∃ i, j = ((d.d t).g f - (d.d f).b t).toNat + i := ⟨j - ((d.d t).g f - (d.d f).b t).toNat, by omega⟩
  have e1 : ns.drop (((d.d t).g f - (d.d f).b t).toNat + i) = x :: p0.reverse := by
    have := congrArg List.reverse h1
    simpa using this
  rw [← hsay, List.map_map, ← List.map_drop, ← List.take_append_drop i (ns.drop ((d.d t).g f - (d.d f).b t).toNat), List.drop_drop, e1, List.map_append, List.map_cons]
  refine lastP_some h3 fun s hs => ?_
  obtain ⟨y, hy, rfl⟩ := List.mem_map.1 hs
  exact h2 y (List.mem_reverse.1 hy)

set_option maxRecDepth 100000 in
set_option maxHeartbeats 4000000 in
theorem lastWords_any (d : WoD) (p : WoP) (f t : Nat) (k pg : Int) (o : Bool) (w : World) (hR : WoR w d p) (hok : WOk d) (hf : f < d.nn) (ht : t < d.nn) :
    Calls Tryz.prog 59 #[.agg (wcells d p), .int .i64 (f : Int), .int .i64 (t : Int), .agg #[.int .i64 k, .int .i64 pg, .bool o, .slice none 0 0]] w (LwP (lastP (likeB k pg o) (comD d f t)) w) := by
  refine (callsIn_wide (n := 6)).1 ?_
  obtain ⟨sb1, sb2, sb3, sb4⟩ := sB_parts (hok.o f hf t ht)
  obtain ⟨gb1, gb2⟩ := hok.g t ht f hf
  have bA := bel_alloc (bel_alloc (bel_alloc (Below.refl w.heap.size w) (.cells (wcells d p) 32)) (.cells #[.int .i64 k, .int .i64 pg, .bool o, .slice none 0 0] 69)) (.cells #[.slice none 0 0] 27)
  have HR : Hid (WoR w d p) := hR
  have HOK : Hid (WOk d) := hok
  clear hR hok
  refine callsIn_of_wp_marks Tryz.func59 rfl trivial ?_ rfl
  simp only [Tryz.ntmps59, List.size_toArray, List.length_cons, List.length_nil, Nat.reduceAdd, Nat.reduceSub, Array.replicate_succ, Array.replicate_zero, List.push_toArray, List.append_toArray, List.nil_append, List.cons_append]
  gi_wp2
  refine ⟨trivial, ?_⟩
  have XR := (Box.new ((w.alloc (.cells (wcells d p) 32)).alloc (.cells #[.int .i64 k, .int .i64 pg, .bool o, .slice none 0 0] 69)) #[.slice none 0 0] 27)
  have XK := (Box.new (w.alloc (.cells (wcells d p) 32)) #[.int .i64 k, .int .i64 pg, .bool o, .slice none 0 0] 69).below (bel_alloc (Below.refl _ _) (.cells #[.slice none 0 0] 27))
  simp only [World.size_alloc] at XR XK
  refine (callsIn_wide.2 (newestFirst_any d p f t w _ HR.out bA HOK.out hf ht)).mono ?_
  rintro e w1 ⟨q1, q2, ns, Bl, Bg, rfl, hM, hsay, hXl, hXg, ⟨hl, hg⟩, b1⟩
  replace XR := XR.below b1
  replace XK := XK.below b1
  have B1 := bel_trans bA b1
  clear bA b1
  simp only [World.size_alloc] at hl hg
  have hnl : ns.length = ((d.d f).y t).length := by rw [← hsay]; simp
  gi_wp2
  have hs1 := B1.size
  have hlt1 := XR.lt
  refine wpIn_rangeFunc_ownH (F := Fence.wide) rfl (by decide) (gf := 111) (lb := #[.pointer (some ⟨Bl, 0, none⟩), .pointer (some ⟨Bg, 0, none⟩)]) rfl trivial (enters_of Tryz.func111 (by kernel_rfl) rfl)
    (nf_stops Fence.wide (6 - 1) trivial rfl (by decide) Bl Bg ((d.d f).b t) ((d.d t).g f) q1 q2 w ns hM sb1 ⟨gb1, gb2⟩ (by omega) w1 hXl hXg B1) kpn_t (kpn_b hs1) (Below.refl _ _) (fun _ => rfl)
    (LwI k pg o w)
    (LwX k pg o w)
    (fun s A B row hs hg hr => ⟨⟨hs.1.1, box_grown hs.1.2.1 hg (fun r e => (hr r e).2), box_grown hs.1.2.2 hg (fun r e => (hr r e).2)⟩, ownFrom_below (β := List (MS w)) (Nat.le_refl _) hs1 s A B row hs.2 hg hr⟩)
    (fun c s A B row hs hg hr => ⟨⟨hs.1.1, by obtain ⟨p0, x, h1, h2, h3, h4⟩ := hs.1.2; exact ⟨p0, x, h1, h2, h3, box_grown h4 hg (fun r e => (hr r e).2)⟩⟩, ownFrom_below (β := List (MS w)) (Nat.le_refl _) hs1 s A B row hs.2 hg hr⟩)
    ⟨⟨by simp, XR, XK⟩, B1⟩
    (fun x a' W => ∃ Bx, w.heap.size + 1 + 1 < Bx ∧ Box W Bx #[.int .i64 x.1.k, .int .i64 x.1.p, .bool x.1.o, .slice x.1.a x.1.xs.length x.1.c] 69 ∧ a' = { tmps := #[Value.agg (wcells d p), Value.int IntKind.i64 f, Value.int IntKind.i64 t, Value.agg #[Value.int IntKind.i64 k, Value.int IntKind.i64 pg, Value.bool o, Value.slice none 0 0], Value.pointer (some { block := w.heap.size, off := 0 }), undef, undef, Value.pointer (some { block := w.heap.size + 1, off := 0 }), Value.pointer (some { block := w.heap.size + 1 + 1, off := 0 }), Value.pointer (some { block := Bx, off := 0 }), Value.agg #[Value.int IntKind.i64 d.size, Value.slice p.n.fst d.nn p.n.snd, Value.slice p.k.fst d.nk p.k.snd], Value.int IntKind.i64 f, Value.int IntKind.i64 t, Value.func (Fn.func 111) #[] #[Value.pointer (some { block := Bl, off := 0 }), Value.pointer (some { block := Bg, off := 0 })], x.1.val, undef, undef, undef, undef, undef, undef, undef, undef, undef, undef, undef, undef, undef, undef, undef, undef, undef, undef, undef, undef, undef], defers := [] })
    (fun x a' _ X Y row hs hg hr => by obtain ⟨Bx, h1, h2, h3⟩ := hs; exact ⟨Bx, h1, box_grown h2 hg (fun r e => (hr r e).2), h3⟩)
    ?assign ?body ?done ?stop
  case assign =>
    rintro l pre x W K ⟨⟨hno, xr, xk⟩, hB⟩ hK
    gi_wp2
    have ba := bel_alloc (Below.refl W.heap.size W) (.cells #[.int .i64 x.1.k, .int .i64 x.1.p, .bool x.1.o, .slice x.1.a x.1.xs.length x.1.c] 69)
    exact hK _ _ ((KeepsOthers.alloc _ _).from _) ⟨(Below.refl _ W).alloc hB.size _, fun cs t h => h.below ba, fun cs t h => h.below ba⟩ ⟨⟨hno, xr.below ba, xk.below ba⟩, hB.alloc hB.size _⟩ ⟨W.heap.size, xr.lt, Box.new W _ 69, rfl⟩
  case body =>
    rintro l pre x a' W hlw ⟨r, hr⟩ ⟨⟨hno, xr, xk⟩, hB⟩ ⟨Bx, hBx, bX, rfl⟩ hlt
    obtain ⟨⟨mk, mp, mo, ma, mc, mxs⟩, hrow, hmok⟩ := x
    dsimp only [M.val] at bX ⊢
    obtain ⟨k0, k1, k2, k3, kz⟩ := xk.at4
    obtain ⟨y0, y1, y2, y3, yz⟩ := bX.at4
    have r0 := box_cell1 xr
    have fz := xr.frozen 0
    have HI : Hid (∀ x ∈ pre, likeB k pg o x.1.say = false) := hno
    have HXR : Hid (Box W (w.heap.size + 1 + 1) #[.slice none 0 0] 27) := xr
    have HXK : Hid (Box W (w.heap.size + 1) #[.int .i64 k, .int .i64 pg, .bool o, .slice none 0 0] 69) := xk
    have HB : Hid (Below w.heap.size w W) := hB
    clear hno xr xk hB bX hr hlt
    by_cases e1 : mk = k
    · obtain rfl : k = mk := e1.symm
      by_cases e2 : mp = pg
      · obtain rfl : pg = mp := e2.symm
        by_cases e3 : mo = o
        · obtain rfl : o = mo := e3.symm
          have HR2 : Hid (KeepsFrom w1.heap.size W (W.setCell ⟨w.heap.size + 1 + 1, 0, none⟩ (.slice ma mxs.length mc)) ∧ Box (W.setCell ⟨w.heap.size + 1 + 1, 0, none⟩ (.slice ma mxs.length mc)) (w.heap.size + 1 + 1) #[.slice ma mxs.length mc] 27 ∧ Below w.heap.size w (W.setCell ⟨w.heap.size + 1 + 1, 0, none⟩ (.slice ma mxs.length mc))) :=
            ⟨(KeepsOthers.setCell _ _ _).from _, box_set1 HXR.out _, HB.out.setCell (p := ⟨w.heap.size + 1 + 1, 0, none⟩) (by simp; omega) _⟩
          cases o
          all_goals
            gi_wp2
            exact ⟨HR2.out.1, ⟨rfl, pre, ⟨⟨k, pg, _, ma, mc, mxs⟩, hrow, hmok⟩, rfl, HI.out, by simp [likeB, M.say], HR2.out.2.1⟩, HR2.out.2.2⟩
        · have HF : Hid (∀ x ∈ pre ++ [⟨⟨k, pg, mo, ma, mc, mxs⟩, hrow, hmok⟩], likeB k pg o x.1.say = false) := fun x hx => by
            rcases List.mem_append.1 hx with hx | hx
            · exact HI.out x hx
            · simp at hx; subst hx; exact like_no (.inr (.inr e3))
          cases o <;> cases mo
          all_goals first | exact absurd rfl e3 | skip
          all_goals
            clear e3
            gi_wp2
            exact ⟨KeepsFrom.refl _ _, KpN.refl _ _ _ _, ⟨HF.out, HXR.out, HXK.out⟩, HB.out⟩
      · have HF : Hid (∀ x ∈ pre ++ [⟨⟨k, mp, mo, ma, mc, mxs⟩, hrow, hmok⟩], likeB k pg o x.1.say = false) := fun x hx => by
          rcases List.mem_append.1 hx with hx | hx
          · exact HI.out x hx
          · simp at hx; subst hx; exact like_no (.inr (.inl e2))
        have n2 : (mp == pg) = false := by simpa using e2
        clear e2
        gi_wp2
        exact ⟨KeepsFrom.refl _ _, KpN.refl _ _ _ _, ⟨HF.out, HXR.out, HXK.out⟩, HB.out⟩
    · have HF : Hid (∀ x ∈ pre ++ [⟨⟨mk, mp, mo, ma, mc, mxs⟩, hrow, hmok⟩], likeB k pg o x.1.say = false) := fun x hx => by
        rcases List.mem_append.1 hx with hx | hx
        · exact HI.out x hx
        · simp at hx; subst hx; exact like_no (.inl e1)
      have n1 : (mk == k) = false := by simpa using e1
      clear e1
      gi_wp2
      exact ⟨KeepsFrom.refl _ _, KpN.refl _ _ _ _, ⟨HF.out, HXR.out, HXK.out⟩, HB.out⟩
  case done =>
    rintro D ys W hD rfl ⟨⟨hno, xr, xk⟩, hB⟩ hK
    have hcr := box_cell1 xr
    have fz := xr.frozen 0
    have HY : Hid (lastP (likeB k pg o) (comD d f t) = []) := lw_none hsay hno
    clear hno hsay
    gi_wp2
    have hK' := (KeepsOthers.setCell W ⟨w.heap.size + 1 + 1, 0, none⟩ (.slice none 0 0)).same D _ hK rfl
    refine ⟨by simp, .inl ⟨_, _, rfl, run_takeDeferred hK', ?_⟩⟩
    have hc5 := box_cell1 (box_putObj (.deferred none) (box_set1 xr (.slice none 0 0)) hK' rfl)
    refine ⟨.slice none 0 0, ?_, ?_⟩
    · simp [results, Tryz.f59, go_sem, hc5]
    · rw [HY.out]
      exact ⟨none, 0, rfl, Row.nil _ _ _, (hB.setCell (p := ⟨w.heap.size + 1 + 1, 0, none⟩) (by simp; omega) _).trans (belowK_b (w := w) (Nat.le_refl _) _ D _ _ (by omega) hK' rfl rfl)⟩
  case stop =>
    rintro D c pre W hD ⟨j, hj1, hj2, rfl⟩ ⟨⟨rfl, p0, x, h1, h2, h3, xr⟩, hB⟩ hK
    have hcr := box_cell1 xr
    have HY : Hid (lastP (likeB k pg o) (comD d f t) = x.1.xs) := lw_some hsay hj1 h1 h2 h3
    clear hsay h1 h2 h3
    gi_wp2
    refine ⟨by simp, .inl ⟨_, _, rfl, run_takeDeferred hK, ?_⟩⟩
    have hc5 := box_cell1 (box_putObj (.deferred none) xr hK rfl)
    refine ⟨.slice x.1.a x.1.xs.length x.1.c, ?_, ?_⟩
    · simp [results, Tryz.f59, go_sem, hc5]
    · rw [HY.out]
      exact ⟨x.1.a, x.1.c, rfl, x.2.1, hB.trans (belowK_b (w := w) (Nat.le_refl _) W D _ _ (by omega) hK rfl rfl)⟩
end Go.Proofs.YtpfppeifppdmbaaGreat

/- What impl.trueWords and impl.Truth answer. -/
namespace Go.Proofs.YtpfppeifppdmbaaGreat
open Go.RowKit
set_option linter.unusedVariables false

/-- A slice of words that lie in the world behind. -/
def TwP (y : List Int) (w : World) (e : Ending) (w' : World) : Prop := ∃ (a : Option Addr) (c : Nat), e = .returned (.slice a y.length c) ∧ Row .i64 w' a y ∧ Below w.heap.size w w'
theorem tw_p {L L' : List Int} (h : L = L') {w w' : World} {e : Ending} (hp : TwP L' w e w') : TwP L w e w' := by rw [h]; exact hp
theorem tw_of {L : List Int} {n : Nat} (hl : L.length = n) {w w' : World} {a : Option Addr} {c : Nat} (o : Row .i64 w' a L) (b : Below w.heap.size w w') : TwP L w (.returned (.slice a n c)) w' := by subst hl; exact ⟨a, c, rfl, o, b⟩
theorem okS_back {s : Say} (h : okS s = true) (h7 : s.1 = 7) : s.2.2.1 = false := by
  unfold okS msgOkB at h
  rw [h7] at h
  simp only [Bool.and_eq_true] at h
  cases ho : s.2.2.1
  · rfl
  · simp [ho] at h
theorem like_3 (pg : Int) (l : List Say) : lastP (likeB 3 pg true) l = lastY 3 pg l := by
  rw [lastY_eq]
  refine lastP_congr fun s _ => ?_
  simp [likeB, isL]
theorem like_7 (pg : Int) {l : List Say} (h : ∀ s ∈ l, okS s = true) : lastP (likeB 7 pg false) l = lastY 7 pg l := by
  rw [lastY_eq]
  refine lastP_congr fun s hs => ?_
  unfold likeB isL
  by_cases e : s.1 = 7
  · rw [okS_back (h s hs) e]
    simp
  · have e2 : (s.1 == 7) = false := by simpa using e
    rw [e2]
    rfl

set_option maxRecDepth 100000 in
set_option maxHeartbeats 4000000 in
theorem trueWords_any (d : WoD) (p : WoP) (pg : Nat) (w : World) (hR : WoR w d p) (hok : WOk d) (hp : pg < 6) :
    Calls Tryz.prog 33 #[.agg (wcells d p), .int .i64 (pg : Int)] w (TwP (truthL d pg) w) := by
  obtain ⟨size, nn, D, nk, K⟩ := d
  obtain ⟨⟨pn, cn⟩, np, ⟨pk, ck⟩, kp⟩ := p
  have hsz : size = (nn : Int) := hok.n.1
  have hn1 : 1 ≤ nn := hok.n.2.1
  have hn4 : nn ≤ 4 := hok.n.2.2
  subst hsz
  obtain ⟨hm, ehm⟩ : ∃ x, pg % nn = x := ⟨_, rfl⟩
  have hhm : hm < nn := by rw [← ehm]; exact Nat.mod_lt _ hn1
  have hrem : (pg : Int) % (nn : Int) = (hm : Int) := by rw [← ehm]; rfl
  have hrem2 : (pg : Int).tmod (nn : Int) = (hm : Int) := by rw [← ehm]; rfl
  obtain ⟨ch1, ch2, ch3, ch4⟩ := hok.c hm hhm
  have hho := hoB_parts (hok.h hm hhm pg hp)
  have hne : ¬ ((nn : Int) = 0) := by omega
  have HOK : Hid (WOk ⟨nn, nn, D, nk, K⟩) := hok
  have HR : Hid (WoR w ⟨nn, nn, D, nk, K⟩ ⟨(pn, cn), np, (pk, ck), kp⟩) := hR
  have B := bel_alloc (Below.refl w.heap.size w) (.cells #[.int .i64 (nn : Int), .slice pn nn cn, .slice pk nk ck] 32)
  have X := Box.new w #[.int .i64 (nn : Int), .slice pn nn cn, .slice pk nk ck] 32
  have hN : NsR _ pn nn D np := hR.n.below B
  obtain ⟨bn, on1, ea, y0, y1, y2, y3, y4⟩ := hN.at hhm
  subst ea
  have hrh := (hN.2.2 hm hhm).h
  obtain ⟨bh, oh, eh, c0, c1, c2, c3, c4, c5, c6, c7⟩ := hrh.at (i := pg) (by simp only at ch2; omega)
  simp only at ch2 hho
  rw [eh, ch2] at y2
  obtain ⟨W1, hW1⟩ : ∃ W1, w.alloc (.cells #[.int .i64 (nn : Int), .slice (some ⟨bn, on1, none⟩) nn cn, .slice pk nk ck] 32) = W1 := ⟨_, rfl⟩
  rw [hW1] at B X hN y0 y1 y2 y3 y4 c0 c1 c2 c3 c4 c5 c6 c7 hrh
  obtain ⟨⟨hxs, how, hbs, hbz, hwh, hwo, hak, hws⟩, ehd⟩ : ∃ x, (D hm).h pg = x := ⟨_, rfl⟩
  obtain ⟨⟨hpl, hpr, hpq⟩, ehp⟩ : ∃ x, (np hm).hp pg = x := ⟨_, rfl⟩
  have hlr := (hrh.2.2 pg (by omega)).1
  rw [ehd] at c0 c1 c2 c3 c4 c5 c6 c7 hho hlr
  rw [ehp] at c0 c2 c7 hlr
  simp only at c0 c1 c2 c3 c4 c5 c6 c7 hho hlr
  obtain ⟨hx1, hx2, hx3⟩ := hho
  rw [hx1] at c0
  have HX1 : Hid (hxs.length = 4) := hx1
  have HLR : Hid (Row .i64 W1 hpl.1 hxs) := hlr
  have hp6 : (pg : Int) < 6 := by omega
  have hm4 : (hm : Int) < (nn : Int) := by omega
  obtain ⟨x0, x1, x2, xz⟩ := X.at3
  have zb := lt_of_cell y0
  have zh := lt_of_cell c0
  have HX : Hid (Box W1 w.heap.size #[.int .i64 (nn : Int), .slice (some ⟨bn, on1, none⟩) nn cn, .slice pk nk ck] 32) := X
  have HB : Hid (Below w.heap.size w W1) := B
  have HNs : Hid (NsR W1 (some ⟨bn, on1, none⟩) nn D np) := hN
  have bH := bel_alloc (Below.refl W1.heap.size W1) (.cells #[.slice hpl.1 4 hpl.2, .int .i64 how, .slice hpr.1 hbs.length hpr.2, .bool hbz, .int .i64 hwh, .bool hwo, .int .i64 hak, .slice hpq.1 hws.length hpq.2] 93)
  have XH := Box.new W1 #[.slice hpl.1 4 hpl.2, .int .i64 how, .slice hpr.1 hbs.length hpr.2, .bool hbz, .int .i64 hwh, .bool hwo, .int .i64 hak, .slice hpq.1 hws.length hpq.2] 93
  clear y0 y1 y3 y4 hrh eh ch1 ch2 ch3 ch4 hR hok hlr hx1 ehp B X hN
  by_cases hneg : how < 0
  · obtain rfl : how = -1 := by omega
    have HT : Hid (truthL ⟨nn, nn, D, nk, K⟩ pg = hxs) := by
      show _ = _
      unfold truthL
      simp only [ehm, ehd, hneg, if_true]
    have HF : Hid (Below w.heap.size w _ ∧ Row .i64 _ hpl.1 hxs) := ⟨bel_trans HB.out bH, HLR.out.below bH⟩
    clear XH bH ehd ehm hneg
    go_enter Tryz.func33, Tryz.ntmps33
    go_wp2
    go_ret
    exact tw_p HT.out (tw_of HX1.out HF.out.2 HF.out.1)
  · obtain ⟨o, rfl⟩ : ∃ o : Nat, how = (o : Int) := ⟨how.toNat, by omega⟩
    have ho : o < nn := by omega
    have hoi : (o : Int) < (nn : Int) := by omega
    have hop : ¬ ((o : Int) < 0) := by omega
    have hop1 : ((o : Int) == -1) = false := by simp
    obtain ⟨bn2, on2, ea2, y0, y1, y2', y3, y4⟩ := HNs.out.at ho
    simp only [Option.some.injEq, Addr.mk.injEq, and_true] at ea2
    obtain ⟨e1, e2⟩ := ea2
    subst e1 e2
    have hc := HOK.out.c o ho
    have hfo := frB_parts (HOK.out.f o ho pg hp)
    simp only at hc hfo
    have hrf := (HNs.out.2.2 o ho).f
    obtain ⟨bf, of, ef, f0, f1, f2⟩ := hrf.at (i := pg) (by omega)
    rw [ef, hc.1] at y1
    obtain ⟨⟨fs, fxs, fq⟩, efd⟩ : ∃ x, (D o).f pg = x := ⟨_, rfl⟩
    obtain ⟨fpl, efp⟩ : ∃ x, (np o).fp pg = x := ⟨_, rfl⟩
    have hflr := hrf.2.2 pg (by omega)
    rw [efd] at f0 f1 f2 hfo hflr
    rw [efp] at f1 hflr
    simp only at f0 f1 f2 hfo hflr
    have HFR : Hid (Row .i64 W1 fpl.1 fxs) := hflr
    have zf := lt_of_cell f0
    clear hrf ef hc hflr y0 y2' y3 y4 efp
    by_cases hs2 : fs = 2
    · subst hs2
      have hl4 : fxs.length = 4 := by rcases hfo with h | h; exact absurd h.1 (by decide); exact h.2
      rw [hl4] at f1
      have HL4 : Hid (fxs.length = 4) := hl4
      have HT : Hid (truthL ⟨nn, nn, D, nk, K⟩ pg = fxs) := by
        show _ = _
        unfold truthL
        simp only [ehm, ehd, hop, if_false, Int.toNat_natCast, efd, if_true]
      have bF := bel_alloc bH (.cells #[.int .i64 2, .slice fpl.1 4 fpl.2, .bool fq] 95)
      have HF : Hid (Below w.heap.size w _ ∧ Row .i64 _ fpl.1 fxs) := ⟨bel_trans HB.out bF, HFR.out.below bF⟩
      clear XH bH ehd ehm hfo hl4 efd bF hop
      go_enter Tryz.func33, Tryz.ntmps33
      go_wp2
      go_ret
      exact tw_p HT.out (tw_of HL4.out HF.out.2 HF.out.1)
    · have hs2' : (fs == 2) = false := by simpa using hs2
      have bF := bel_alloc bH (.cells #[.int .i64 fs, .slice fpl.1 fxs.length fpl.2, .bool fq] 95)
      have HL : Hid (fxs.length ≤ 4) := by rcases hfo with h | h <;> (show _ ≤ _; omega)
      have HBF : Hid (Below w.heap.size w _) := bel_trans HB.out bF
      have HXW : Hid (Box _ w.heap.size #[.int .i64 (nn : Int), .slice (some ⟨bn, on1, none⟩) nn cn, .slice pk nk ck] 32) := HX.out.below bF
      have HXH : Hid (Box _ W1.heap.size #[.slice hpl.1 4 hpl.2, .int .i64 (o : Int), .slice hpr.1 hbs.length hpr.2, .bool hbz, .int .i64 hwh, .bool hwo, .int .i64 hak, .slice hpq.1 hws.length hpq.2] 93) := XH.below (bel_alloc (Below.refl _ _) (.cells #[.int .i64 fs, .slice fpl.1 fxs.length fpl.2, .bool fq] 95))
      obtain ⟨L3, e3⟩ : ∃ x, lastY 3 pg (comD ⟨nn, nn, D, nk, K⟩ hm o) = x := ⟨_, rfl⟩
      obtain ⟨L7, e7⟩ : ∃ x, lastY 7 pg (comD ⟨nn, nn, D, nk, K⟩ o hm) = x := ⟨_, rfl⟩
      have HE3 : Hid (lastY 3 pg (comD ⟨nn, nn, D, nk, K⟩ hm o) = L3) := e3
      have HE7 : Hid (lastY 7 pg (comD ⟨nn, nn, D, nk, K⟩ o hm) = L7) := e7
      have HT : Hid (truthL ⟨nn, nn, D, nk, K⟩ pg = if L3.length = 0 then L7 else L3) := by
        show _ = _
        unfold truthL
        simp only [ehm, ehd, hop, if_false, Int.toNat_natCast, efd, hs2, e3, e7]
      have h34 : L3.length ≤ 4 := by rw [← e3]; exact lastY_len 3 pg (com_ok HOK.out hhm ho)
      clear XH bH ehd ehm hfo efd bF e3 e7 hop
      go_enter Tryz.func33, Tryz.ntmps33
      go_wp2_with fail
      refine (lastWords_any ⟨nn, nn, D, nk, K⟩ ⟨(some ⟨bn, on1, none⟩, cn), np, (pk, ck), kp⟩ hm o 3 pg true _ (HR.out.below HBF.out) HOK.out hhm ho).mono ?_
      rintro e w4 ⟨a4, k4, rfl, r4, b4⟩
      rw [like_3, HE3.out] at r4 ⊢
      have HR4 : Hid (Row .i64 w4 a4 L3) := r4.below b4
      replace HXW : Hid (Box w4 w.heap.size #[.int .i64 (nn : Int), .slice (some ⟨bn, on1, none⟩) nn cn, .slice pk nk ck] 32) := HXW.out.below b4
      replace HXH : Hid (Box w4 W1.heap.size #[.slice hpl.1 4 hpl.2, .int .i64 (o : Int), .slice hpr.1 hbs.length hpr.2, .bool hbz, .int .i64 hwh, .bool hwo, .int .i64 hak, .slice hpq.1 hws.length hpq.2] 93) := HXH.out.below b4
      replace HBF : Hid (Below w.heap.size w w4) := bel_trans HBF.out b4
      obtain ⟨n3, en3⟩ : ∃ x, L3.length = x := ⟨_, rfl⟩
      have HN3 : Hid (L3.length = n3) := en3
      rw [en3] at h34 ⊢
      clear r4 b4 en3 x0 x1 x2 xz y1 y2 c0 c1 c2 c3 c4 c5 c6 c7 f0 f1 f2 zb zh zf
      by_cases hz : n3 = 0
      · subst hz
        obtain ⟨x0, x1, x2, xz⟩ := HXW.out.at3
        obtain ⟨g0, g1, g2, g3, g4, g5, g6, g7, gz⟩ := at8 HXH.out
        go_wp2_with fail
        refine (lastWords_any ⟨nn, nn, D, nk, K⟩ ⟨(some ⟨bn, on1, none⟩, cn), np, (pk, ck), kp⟩ o hm 7 pg false _ (HR.out.below HBF.out) HOK.out ho hhm).mono ?_
        rintro e w6 ⟨a6, k6, rfl, r6, b6⟩
        rw [like_7 pg (com_ok HOK.out ho hhm), HE7.out] at r6 ⊢
        have HR6 : Hid (Row .i64 w6 a6 L7) := r6.below b6
        replace HBF : Hid (Below w.heap.size w w6) := bel_trans HBF.out b6
        clear r6 b6 x0 x1 x2 xz g0 g1 g2 g3 g4 g5 g6 g7 gz
        go_wp2
        go_ret
        exact tw_p (HT.out.trans (by rw [HN3.out]; rfl)) (tw_of rfl HR6.out HBF.out)
      · have hz' : (0 : Int) < (n3 : Int) := by omega
        go_wp2
        go_ret
        exact tw_p (HT.out.trans (by rw [HN3.out, if_neg hz])) (tw_of HN3.out HR4.out HBF.out)
end Go.Proofs.YtpfppeifppdmbaaGreat

/- What impl.Truth answers. -/
namespace Go.Proofs.YtpfppeifppdmbaaGreat
open Go.RowKit
set_option linter.unusedVariables false

theorem truth_le4 {d : WoD} (hok : WOk d) {pg : Nat} (hp : pg < 6) : (truthL d pg).length ≤ 4 := by
  have hn := hok.n.2.1
  have hm : pg % d.nn < d.nn := Nat.mod_lt _ hn
  have hh := hoB_parts (hok.h _ hm pg hp)
  unfold truthL
  split
  · omega
  · rename_i h0
    have ho : ((d.d (pg % d.nn)).h pg).ow.toNat < d.nn := by omega
    split
    · rcases frB_parts (hok.f _ ho pg hp) with h | h <;> omega
    · split
      · exact lastY_len _ _ (com_ok hok ho hm)
      · exact lastY_len _ _ (com_ok hok hm ho)

set_option maxRecDepth 100000 in
set_option maxHeartbeats 4000000 in
theorem implTruth_any (d : WoD) (p : WoP) (page : Int) (w : World) (hbs : ∀ i, i < d.nn → ∀ j, j < (d.d i).nh → ((d.d i).h j).bs.length ≤ 1048577) (hR : WoR w d p) :
    Calls Tryz.prog 18 #[.agg (wcells d p), .int .i64 page] w (IntsP (truW d page) w) := by
  have B := bel_alloc (Below.refl w.heap.size w) (.cells (wcells d p) 32)
  have X := Box.new w (wcells d p) 32
  have HR : Hid (WoR w d p) := hR
  have hR1 := hR.below B
  clear hR
  cases hw : worldB d
  · have HW : Hid (worldB d = false) := hw
    have HC : Hid (truW d page = []) := truW_no (by rw [hw]; rfl)
    clear hw
    go_enter Tryz.func18, Tryz.ntmps18
    go_wp2_with fail
    refine (implWorldOk_any d p _ hbs hR1).mono ?_
    rintro e w1 ⟨rfl, b1⟩
    rw [HW.out]
    have HF : Hid (Below w.heap.size w w1) := bel_trans B b1
    clear b1 hR1 B X
    go_wp2
    go_ret
    exact ints_none HC.out (World.ownsRow_nil _ _ _ _) HF.out
  · have HW : Hid (worldB d = true) := hw
    cases hp : inB page 0 5
    · have HP : Hid (inB page 0 5 = false) := hp
      have HC : Hid (truW d page = []) := truW_no (by rw [hw, hp]; rfl)
      clear hw hp
      go_enter Tryz.func18, Tryz.ntmps18
      go_wp2_with fail
      refine (implWorldOk_any d p _ hbs hR1).mono ?_
      rintro e w1 ⟨rfl, b1⟩
      rw [HW.out]
      have HF : Hid (Below w.heap.size w w1) := bel_trans B b1
      clear b1 hR1 B X
      go_wp2_with fail
      refine (isPage_v page _).mono ?_
      rintro e w2 ⟨rfl, h⟩
      replace h := h.symm
      subst h
      rw [HP.out]
      go_wp2
      go_ret
      exact ints_none HC.out (World.ownsRow_nil _ _ _ _) HF.out
    · obtain ⟨h0, h5⟩ : 0 ≤ page ∧ page ≤ 5 := by simpa [inB] using hp
      obtain ⟨pg, rfl⟩ : ∃ pg : Nat, page = (pg : Int) := ⟨page.toNat, by omega⟩
      have HP : Hid (inB (pg : Int) 0 5 = true) := hp
      have HC : Hid (truW d (pg : Int) = truthL d pg) := truW_yes (by rw [hw, hp]; rfl)
      have HOK : Hid (WOk d) := WOk.of hw
      have HL : Hid ((truthL d pg).length ≤ 4) := truth_le4 (WOk.of hw) (by omega)
      obtain ⟨L, eL⟩ : ∃ L, truthL d pg = L := ⟨_, rfl⟩
      have HE : Hid (truthL d pg = L) := eL
      clear hw hp eL
      go_enter Tryz.func18, Tryz.ntmps18
      go_wp2_with fail
      refine (implWorldOk_any d p _ hbs hR1).mono ?_
      rintro e w1 ⟨rfl, b1⟩
      rw [HW.out]
      replace X := X.below b1
      replace B := bel_trans B b1
      clear b1 hR1
      go_wp2_with fail
      refine (isPage_v (pg : Int) _).mono ?_
      rintro e w2 ⟨rfl, h⟩
      replace h := h.symm
      subst h
      rw [HP.out]
      obtain ⟨x0, x1, x2, xz⟩ := X.at3
      go_wp2_with fail
      refine (trueWords_any d p pg _ (HR.out.below B) HOK.out (by omega)).mono ?_
      rintro e w3 ⟨a3, k3, rfl, r3, b3⟩
      rw [HE.out] at r3 ⊢
      have HB3 : Hid (Below w.heap.size w w3) := bel_trans B b3
      clear x0 x1 x2 xz b3 B X
      go_wp2_with fail
      refine (copyInts_any a3 k3 L _ (by have := HL.out; rw [HE.out] at this; omega) r3).mono ?_
      rintro e w4 ⟨v, rfl, o4, b4⟩
      obtain ⟨a4, k4, rfl⟩ := owns_slice o4
      have HF : Hid (IntsP L w (.returned (.slice a4 L.length k4)) w4) := ⟨a4, k4, rfl, owns_base o4 HB3.out.size, bel_trans HB3.out b4⟩
      clear o4 b4 r3
      go_wp2
      go_ret
      exact ints_p (HC.out.trans HE.out) HF.out
end Go.Proofs.YtpfppeifppdmbaaGreat
