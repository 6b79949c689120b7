/- spec's NodeNew, walked (written by mkns.py). -/
import Derived.Test.YtfeabhknkoifeaaNdL2
import Derived.Test.YtfeabhknkoifeaaNdI
import Derived.Deep.AppendLies
namespace Go.Proofs.Ytfeabhknkoifeaa
open Go.RowKit
set_option linter.unusedVariables false

theorem HApart.snoc {j B : Nat} {p : Nat → HP} {nl nr : Pl} (ap : HApart j p) (old : ∀ x, x < j → (∀ t, blk (p x).l = some t → t < B) ∧ ∀ t, blk (p x).r = some t → t < B) (new1 : ∀ t, blk nl = some t → B ≤ t) (new2 : ∀ t, blk nr = some t → B ≤ t) :
    HApart (j + 1) (fun i => if i = j then ⟨nl, nr, (none, 0)⟩ else p i) := by
  intro i k hi hk hik
  by_cases e1 : i = j
  · by_cases e2 : k = j
    · omega
    · simp only [if_pos e1, if_neg e2]
      refine ⟨fun t h1 h2 => ?_, fun t h1 h2 => ?_⟩
      · have := new1 t h1; have := (old k (by omega)).1 t h2; omega
      · have := new2 t h1; have := (old k (by omega)).2 t h2; omega
  · by_cases e2 : k = j
    · simp only [if_neg e1, if_pos e2]
      refine ⟨fun t h1 h2 => ?_, fun t h1 h2 => ?_⟩
      · have := new1 t h2; have := (old i (by omega)).1 t h1; omega
      · have := new2 t h2; have := (old i (by omega)).2 t h1; omega
    · simp only [if_neg e1, if_neg e2]
      exact ap i k (by omega) (by omega) hik

/-- One more home is appended. -/
theorem HO.snoc {wr w2 w5 : World} {lo c j g cap : Nat} {a al ar : Option Addr} {cl cr : Nat} {D : HD} {p : Nat → HP} (h : HO wr lo a c j (fun _ => D) p) (ap : HApart j p) (hq : ∀ i, i < j → (p i).q = (none, 0)) (hw : D.ws = []) (hlo : lo ≤ wr.heap.size) (b : Below wr.heap.size wr w2)
    (ol : w2.ownsRow wr.heap.size 3 1 (.slice al D.xs.length cl) D.xs.length (D.xs.map (Value.int .i64))) (or' : w2.ownsRow wr.heap.size 4 1 (.slice ar D.bs.length cr) D.bs.length (bv D.bs))
    (o5 : w5.ownsRow lo 46 8 (.slice (some ⟨g, 0, none⟩) (j + 1) cap) (j + 1) (chunks j (fun i => hcells D (p i)) ++ hcells D ⟨(al, cl), (ar, cr), (none, 0)⟩)) (g5 : w2.grownBy w5 (Value.slice a j c).ownBlock) :
    HO w5 lo (some ⟨g, 0, none⟩) cap (j + 1) (fun _ => D) (fun i => if i = j then ⟨(al, cl), (ar, cr), (none, 0)⟩ else p i) ∧ HApart (j + 1) (fun i => if i = j then ⟨(al, cl), (ar, cr), (none, 0)⟩ else p i) ∧ ∀ i, i < j + 1 → ((fun i => if i = j then ⟨(al, cl), (ar, cr), (none, 0)⟩ else p i : Nat → HP) i).q = (none, 0) := by
  have hr := owns_below h.row b
  refine ⟨⟨?_, fun i hi => ?_, fun i hi => ?_⟩, ap.snoc (B := wr.heap.size) (fun x hx => ⟨fun t ht => ((h.l x hx).lt t (own_blk ht)).2, fun t ht => ((h.r x hx).lt t (own_blk ht)).2⟩) (fun t ht => (ol.lt t (own_blk ht)).1) (fun t ht => (or'.lt t (own_blk ht)).1), fun i hi => ?_⟩
  · rw [chunks_succ]
    simp only [if_pos]
    rw [chunks_congr (n := j) (f := fun i => hcells D (if i = j then ⟨(al, cl), (ar, cr), (none, 0)⟩ else p i)) (g := fun i => hcells D (p i)) (fun i hi => by rw [if_neg (by omega)])]
    exact o5
  · by_cases e : i = j
    · simp only [if_pos e]
      exact owns_other (owns_base ol hlo) g5 hr (by decide)
    · simp only [if_neg e]
      exact owns_other (owns_below (h.l i (by omega)) b) g5 hr (by decide)
  · by_cases e : i = j
    · simp only [if_pos e]
      exact owns_other (owns_base or' hlo) g5 hr (by decide)
    · simp only [if_neg e]
      exact owns_other (owns_below (h.r i (by omega)) b) g5 hr (by decide)
  · by_cases e : i = j
    · simp [e]
    · simp only [if_neg e]
      exact hq i (by omega)
theorem HO.far {w : World} {lo : Nat} {a : Option Addr} {c n m : Nat} {d : Nat → HD} {p : Nat → HP} (h : HO w lo a c n d p) {cs : Array Value} (X : Box w m cs 52) (k : Nat) (u : Value) : HO (w.setCell ⟨m, k, none⟩ u) lo a c n d p :=
  ⟨owns_setCell h.row (fun j hj e => lit_ne X h.row (by decide) (by rw [hj, ← e])) u, fun i hi => owns_setCell (h.l i hi) (fun j hj e => lit_ne X (h.l i hi) (by decide) (by rw [hj, ← e])) u, fun i hi => owns_setCell (h.r i hi) (fun j hj e => lit_ne X (h.r i hi) (by decide) (by rw [hj, ← e])) u⟩
theorem own_far {w : World} {lo e s n m : Nat} {v : Value} {xs : List Value} (h : w.ownsRow lo e s v n xs) {cs : Array Value} (X : Box w m cs 52) (he : e ≠ 52) (k : Nat) (u : Value) : (w.setCell ⟨m, k, none⟩ u).ownsRow lo e s v n xs :=
  owns_setCell h (fun j hj e => lit_ne X h he (by rw [hj, ← e])) u
theorem box_other {w w' : World} {m lo e s n : Nat} {v : Value} {xs : List Value} {cs : Array Value} (X : Box w m cs 52) (h : w.ownsRow lo e s v n xs) (g : w.grownBy w' v.ownBlock) (he : e ≠ 52) : Box w' m cs 52 :=
  X.kept g (fun j hj e => lit_ne X h he (by rw [hj, e]))
theorem hcells_one (D : HD) (p : HP) : ∀ u ∈ hcells D p, u.oneCell' = true := by
  intro u hu
  simp [hcells] at hu
  rcases hu with rfl | rfl | rfl | rfl | rfl | rfl | rfl | rfl <;> rfl
theorem new_cells {w : World} {c0 c1 c2 c3 c4 c5 c6 c7 : Value} {t : TypeId} : ∀ (j : Nat) (u : Value), [c0, c1, c2, c3, c4, c5, c6, c7][j]? = some u → (w.alloc (.cells #[c0, c1, c2, c3, c4, c5, c6, c7] t)).cell? ((⟨w.heap.size, 0, none⟩ : Addr).add j) = some u := by
  intro j u hu
  have h := (Box.new w #[c0, c1, c2, c3, c4, c5, c6, c7] t).cell j
  have e : ((⟨w.heap.size, 0, none⟩ : Addr).add j) = ⟨w.heap.size, j, none⟩ := by
    by_cases hj : j = 0
    · subst hj; simp [Addr.add]
    · simp [Addr.add, hj]
  rw [e, h]
  simpa using hu
theorem info_home3 : ∃ i, Try.prog.info? 46 = some i ∧ i.zero = some (.agg #[.slice none 0 0, .int .i64 0, .slice none 0 0, .bool false, .int .i64 0, .bool false, .int .i64 0, .slice none 0 0]) ∧ i.size = 8 ∧ i.bytes = 112 := by
  obtain ⟨i, hi, hzz⟩ := Option.map_eq_some_iff.1 info_home2
  simp only [Prod.mk.injEq] at hzz
  exact ⟨i, hi, hzz⟩

def specAppOps : Array Oper := #[{ dst := some 30, op := Op.fieldAddr 52 (Operand.tmp 6) 2, type := 0, pos := "l05_node.go:28", after := #[], guard := none }, { dst := some 31, op := Op.load 48 (Operand.tmp 30), type := 48, pos := "l05_node.go:28", after := #[{ on := 0, ground := Ground.data }], guard := none }, { dst := some 32, op := Op.move (Operand.tmp 1), type := 3, pos := "l05_node.go:28", after := #[], guard := none }, { dst := some 33, op := Op.call { callee := Callee.value (Operand.func 42), args := #[Operand.tmp 32], argTypes := #[3] }, type := 46, pos := "l05_node.go:28", after := #[{ on := 2, ground := Ground.data }], guard := none }, { dst := some 34, op := Op.buildSlice 48 1 #[(0, Operand.tmp 33)], type := 48, pos := "l05_node.go:28", after := #[{ on := 3, ground := Ground.data }], guard := none }, { dst := some 35, op := Op.call { callee := Callee.builtin Builtin.append, args := #[Operand.tmp 31, Operand.tmp 34], argTypes := #[48, 48] }, type := 48, pos := "l05_node.go:28", after := #[{ on := 1, ground := Ground.data }, { on := 4, ground := Ground.data }, { on := 3, ground := Ground.chain }], guard := none }, { dst := some 36, op := Op.fieldAddr 52 (Operand.tmp 6) 2, type := 0, pos := "l05_node.go:28", after := #[{ on := 0, ground := Ground.phase }, { on := 1, ground := Ground.phase }, { on := 2, ground := Ground.phase }, { on := 3, ground := Ground.phase }, { on := 4, ground := Ground.phase }, { on := 5, ground := Ground.phase }], guard := none }, { dst := none, op := Op.store 48 (Operand.tmp 36) (Operand.tmp 35), type := 0, pos := "l05_node.go:28", after := #[{ on := 6, ground := Ground.data }, { on := 5, ground := Ground.data }, { on := 5, ground := Ground.chain }, { on := 0, ground := Ground.phase }, { on := 1, ground := Ground.phase }, { on := 2, ground := Ground.phase }, { on := 3, ground := Ground.phase }, { on := 4, ground := Ground.phase }, { on := 5, ground := Ground.phase }], guard := none }]
/-- One more home lies behind the others. -/
structure SN (w0 w : World) (id : Int) (n j m gf go gi : Nat) (a : Option Addr) (c : Nat) (p : Nat → HP) : Prop where
  h : HO w w0.heap.size a c j (fun _ => newHD n) p
  ap : HApart j p
  q : ∀ i, i < j → (p i).q = (none, 0)
  X : Box w m #[.int .i64 id, .slice (some ⟨gf, 0, none⟩) 6 6, .slice a j c, .slice (some ⟨go, 0, none⟩) n n, .slice (some ⟨gi, 0, none⟩) n n] 52
  X0 : Box w w0.heap.size #[.int .i64 0, .slice none 0 0, .slice none 0 0, .slice none 0 0, .slice none 0 0] 52
  f : w.ownsRow w0.heap.size 101 3 (.slice (some ⟨gf, 0, none⟩) 6 6) 6 (chunks 6 (fun _ => f0 0 false))
  o : w.ownsRow w0.heap.size 106 2 (.slice (some ⟨go, 0, none⟩) n n) n (chunks n (fun _ => s0 0))
  i : w.ownsRow w0.heap.size 109 1 (.slice (some ⟨gi, 0, none⟩) n n) n (chunks n (fun _ => gcells 0))
  b : Below w0.heap.size w0 w
  m : w0.heap.size < m

theorem SN.next {w0 wr w2 w5 : World} {id : Int} {n j m gf go gi : Nat} {a : Option Addr} {c : Nat} {p : Nat → HP} (h : SN w0 wr id n j m gf go gi a c p) {al ar : Option Addr} {cl cr g cap : Nat} (b : Below wr.heap.size wr w2)
    (ol : w2.ownsRow wr.heap.size 3 1 (.slice al (newHD n).xs.length cl) (newHD n).xs.length ((newHD n).xs.map (Value.int .i64))) (or' : w2.ownsRow wr.heap.size 4 1 (.slice ar (newHD n).bs.length cr) (newHD n).bs.length (bv (newHD n).bs))
    (o5 : w5.ownsRow w0.heap.size 46 8 (.slice (some ⟨g, 0, none⟩) (j + 1) cap) (j + 1) (chunks j (fun i => hcells (newHD n) (p i)) ++ [.slice al 4 cl, .int .i64 (-1), .slice ar n cr, .bool false, .int .i64 0, .bool false, .int .i64 0, .slice none 0 0])) (gr : w2.grownBy w5 (Value.slice a j c).ownBlock) :
    SN w0 (w5.setCell ⟨m, 2, none⟩ (.slice (some ⟨g, 0, none⟩) (j + 1) cap)) id n (j + 1) m gf go gi (some ⟨g, 0, none⟩) cap (fun i => if i = j then ⟨(al, cl), (ar, cr), (none, 0)⟩ else p i) := by
  have hr := owns_below h.h.row b
  have o5' : w5.ownsRow w0.heap.size 46 8 (.slice (some ⟨g, 0, none⟩) (j + 1) cap) (j + 1) (chunks j (fun i => hcells (newHD n) (p i)) ++ hcells (newHD n) ⟨(al, cl), (ar, cr), (none, 0)⟩) := by
    have e : hcells (newHD n) ⟨(al, cl), (ar, cr), (none, 0)⟩ = [.slice al 4 cl, .int .i64 (-1), .slice ar n cr, .bool false, .int .i64 0, .bool false, .int .i64 0, .slice none 0 0] := by simp [hcells, newHD]
    rw [e]
    exact o5
  obtain ⟨k1, k2, k3⟩ := h.h.snoc h.ap h.q rfl h.b.size b ol or' o5' gr
  have X5 := box_other (h.X.below b) hr gr (by decide)
  have X05 := box_other (h.X0.below b) hr gr (by decide)
  have X6 : Box (w5.setCell ⟨m, 2, none⟩ (.slice (some ⟨g, 0, none⟩) (j + 1) cap)) m #[.int .i64 id, .slice (some ⟨gf, 0, none⟩) 6 6, .slice (some ⟨g, 0, none⟩) (j + 1) cap, .slice (some ⟨go, 0, none⟩) n n, .slice (some ⟨gi, 0, none⟩) n n] 52 := heap_setCell_same _ _ 2 _ _ _ X5
  have B5 : Below w0.heap.size w0 w5 := (bel_trans h.b b).grown gr (bel_trans h.b b).size (fun j hj => (hr.lt j hj).1)
  exact ⟨k1.far X5 2 _, k2, k3, X6, X05.far _ _ (by have := h.m; simp; omega), own_far (owns_other (owns_below h.f b) gr hr (by decide)) X5 (by decide) 2 _, own_far (owns_other (owns_below h.o b) gr hr (by decide)) X5 (by decide) 2 _, own_far (owns_other (owns_below h.i b) gr hr (by decide)) X5 (by decide) 2 _, bel_setCell B5 _ _ (by have := h.m; simp; omega), h.m⟩

set_option maxRecDepth 100000 in
set_option maxHeartbeats 8000000 in
theorem specApp (Q : Exit → Act → World → Prop) (hq0 : ∀ (c : _) (a : Act) (k : Tmp) (v : Value) (w : World), Q (.panic c) (a.put (some k) v) w → Q (.panic c) a w) (id : Int) (n j m gf go gi : Nat) (h1 : 1 ≤ n) (h4 : n ≤ 4) (hj : j < 6) (HI : Hid (inB n 1 4 = true)) (a : Option Addr) (c : Nat) (p : Nat → HP) (u0 u2 u3 u4 u5 u7 u8 u9 u10 u11 u12 u13 u14 u15 u16 u17 u18 u19 u20 u21 u22 u23 u24 u25 u26 u27 u28 u29 u30 u31 u32 u33 u34 u35 u36 u37 : Value) (w0 wr : World) (hS : SN w0 wr id n j m gf go gi a c p)
    (hQ : ∀ (v30 v31 v32 v33 v34 v35 v36 : Value) (g cap : Nat) (p2 : Nat → HP) (w6 : World), SN w0 w6 id n (j + 1) m gf go gi (some ⟨g, 0, none⟩) cap p2 → Q .normal ⟨#[u0, (Value.int .i64 n), u2, u3, u4, u5, (Value.pointer (some ⟨m, 0, none⟩)), u7, u8, u9, u10, u11, u12, u13, u14, u15, u16, u17, u18, u19, u20, u21, u22, u23, u24, u25, u26, u27, u28, u29, v30, v31, v32, v33, v34, v35, v36, u37], []⟩ w6) :
    (Code.region 7 specAppOps true).wp Try.prog Q ⟨#[u0, (Value.int .i64 n), u2, u3, u4, u5, (Value.pointer (some ⟨m, 0, none⟩)), u7, u8, u9, u10, u11, u12, u13, u14, u15, u16, u17, u18, u19, u20, u21, u22, u23, u24, u25, u26, u27, u28, u29, u30, u31, u32, u33, u34, u35, u36, u37], []⟩ wr := by
  have HQ : Hid _ := hQ
  have HP : Hid _ := hq0
  have HS : Hid (SN w0 wr id n j m gf go gi a c p) := hS
  clear hQ hq0 hS
  obtain ⟨ih, ih0, ih1, ih2, ih3⟩ := info_home3
  have IH : Hid (Try.prog.info? 46 = some ih ∧ ih.zero = some (.agg #[.slice none 0 0, .int .i64 0, .slice none 0 0, .bool false, .int .i64 0, .bool false, .int .i64 0, .slice none 0 0]) ∧ ih.size = 8 ∧ ih.bytes = 112) := ⟨ih0, ih1, ih2, ih3⟩
  clear ih0 ih1 ih2 ih3
  have T134 : Hid (∀ (al ar : Option Addr) (cl cr : Nat) (w1 : World), w1.ownsRow wr.heap.size 3 1 (.slice al (newHD n).xs.length cl) (newHD n).xs.length ((newHD n).xs.map (Value.int .i64)) → w1.ownsRow wr.heap.size 4 1 (.slice ar (newHD n).bs.length cr) (newHD n).bs.length (bv (newHD n).bs) → Below wr.heap.size wr w1 → wpAnyH Try.prog .any specAppOps Q (fun _ => True) 3 #[true, true, true, true, true, false, false, false] ⟨#[u0, (Value.int .i64 n), u2, u3, u4, u5, (Value.pointer (some ⟨m, 0, none⟩)), u7, u8, u9, u10, u11, u12, u13, u14, u15, u16, u17, u18, u19, u20, u21, u22, u23, u24, u25, u26, u27, u28, u29, (Value.pointer (some ⟨m, 2, none⟩)), (Value.slice a j c), (Value.int .i64 n), (Value.agg #[.slice al 4 cl, .int .i64 (-1), .slice ar n cr, .bool false, .int .i64 0, .bool false, .int .i64 0, .slice none 0 0]), (Value.slice (some ⟨w1.heap.size, 0, none⟩) 1 1), u35, u36, u37], []⟩ (w1.alloc (.cells #[.slice al 4 cl, .int .i64 (-1), .slice ar n cr, .bool false, .int .i64 0, .bool false, .int .i64 0, .slice none 0 0] 46))) := by
    intro al ar cl cr w1 o1 r1 b1
    have b2 := bel_alloc (Below.refl w1.heap.size w1) (.cells #[.slice al 4 cl, .int .i64 (-1), .slice ar n cr, .bool false, .int .i64 0, .bool false, .int .i64 0, .slice none 0 0] 46)
    have b12 := bel_trans b1 b2
    have HNEW := new_cells (w := w1) (c0 := .slice al 4 cl) (c1 := .int .i64 (-1)) (c2 := .slice ar n cr) (c3 := .bool false) (c4 := .int .i64 0) (c5 := .bool false) (c6 := .int .i64 0) (c7 := .slice none 0 0) (t := 46)
    refine wpAnyH_ready (rs := [5]) (by kernel_rfl) (by simp) ?_
    refine AllReadyH.cons (o := { dst := some 35, op := Op.call { callee := Callee.builtin Builtin.append, args := #[Operand.tmp 31, Operand.tmp 34], argTypes := #[48, 48] }, type := 48, pos := "l05_node.go:28", after := #[{ on := 1, ground := Ground.data }, { on := 4, ground := Ground.data }, { on := 3, ground := Ground.chain }], guard := none }) rfl (fun K2 hK2 => ?_) AllReadyH.nil
    refine step_append_lies _ (by rfl) _ _ _ (by rfl) w0.heap.size 46 ih (.agg #[.slice none 0 0, .int .i64 0, .slice none 0 0, .bool false, .int .i64 0, .bool false, .int .i64 0, .slice none 0 0]) 8 112 Try.underlying48 IH.out.1 IH.out.2.1 IH.out.2.2.1 IH.out.2.2.2 rfl (by decide) (.slice a j c) j (chunks j fun i => hcells (newHD n) (p i)) (by rfl) (owns_below HS.out.h.row b12) ⟨w1.heap.size, 0, none⟩ 1 1 [.slice al 4 cl, .int .i64 (-1), .slice ar n cr, .bool false, .int .i64 0, .bool false, .int .i64 0, .slice none 0 0] (by rfl) (by rfl) HNEW (by intro u hu; simp at hu; rcases hu with rfl | rfl | rfl | rfl | rfl | rfl | rfl | rfl <;> rfl) (by decide) (by unfold maxLen; omega) (by omega) (bel_trans HS.out.b b12).size _ rfl ?_
    intro g cap w5 o5 gr5 at5 lt5
    have N5 : Hid _ := HS.out.next b12 (owns_below o1 b2) (owns_below r1 b2) o5 gr5
    have X5 := box_other (HS.out.X.below b12) (owns_below HS.out.h.row b12) gr5 (by decide)
    have cx := X5.cell 2
    have fx := X5.frozen 2
    have zx := X5.lt
    refine hK2.out _ _ True.intro (fun _ => ?_)
    try simp only [Act.put, List.setIfInBounds_toArray, List.set_cons_zero, List.set_cons_succ]
    clear hK2 K2 HNEW
    refine wpAnyH_take (i := 6) (oi := { dst := some 36, op := Op.fieldAddr 52 (Operand.tmp 6) 2, type := 0, pos := "l05_node.go:28", after := #[{ on := 0, ground := Ground.phase }, { on := 1, ground := Ground.phase }, { on := 2, ground := Ground.phase }, { on := 3, ground := Ground.phase }, { on := 4, ground := Ground.phase }, { on := 5, ground := Ground.phase }], guard := none }) (v := .pointer (some ⟨m, 2, none⟩)) rfl (by kernel_rfl) (by kernel_rfl) (by kernel_rfl) (fun _ _ _ h => HP.out _ _ _ _ _ h) (Or.inl ⟨by rfl, ?_⟩) True.intro ?_
    · intro w hSw
      go_simp
      try (with_reducible rfl)
    simp only [Act.put, List.setIfInBounds_toArray, List.set_cons_zero, List.set_cons_succ]
    refine wpAnyH_ready (rs := [7]) (by kernel_rfl) (by simp) ?_
    refine AllReadyH.cons (o := { dst := none, op := Op.store 48 (Operand.tmp 36) (Operand.tmp 35), type := 0, pos := "l05_node.go:28", after := #[{ on := 6, ground := Ground.data }, { on := 5, ground := Ground.data }, { on := 5, ground := Ground.chain }, { on := 0, ground := Ground.phase }, { on := 1, ground := Ground.phase }, { on := 2, ground := Ground.phase }, { on := 3, ground := Ground.phase }, { on := 4, ground := Ground.phase }, { on := 5, ground := Ground.phase }], guard := none }) rfl (fun K2 hK2 => ?_) AllReadyH.nil
    go_simp
    refine hK2.out _ _ True.intro (fun _ => ?_)
    try simp only [List.setIfInBounds_toArray, List.set_cons_zero, List.set_cons_succ]
    refine wpAnyH_done (by kernel_rfl) ?_ _
    exact HQ.out _ _ _ _ _ _ _ g cap _ _ N5.out
  have x2 := HS.out.X.cell 2
  have zx := HS.out.X.lt
  refine wp_region_held_drew (S := fun _ => True) (by kernel_rfl) True.intro (fun _ => ?_)
  have hrep : Array.replicate (Array.size specAppOps) false = #[false, false, false, false, false, false, false, false] := rfl
  rw [hrep]
  show wpAnyH _ _ _ _ _ 8 _ _ _
  refine wpAnyH_take (i := 0) (oi := { dst := some 30, op := Op.fieldAddr 52 (Operand.tmp 6) 2, type := 0, pos := "l05_node.go:28", after := #[], guard := none }) (v := .pointer (some ⟨m, 2, none⟩)) rfl (by kernel_rfl) (by kernel_rfl) (by kernel_rfl) (fun _ _ _ h => HP.out _ _ _ _ _ h) (Or.inl ⟨by rfl, ?_⟩) True.intro ?_
  · intro w hSw
    go_simp
    try (with_reducible rfl)
  simp only [Act.put, List.setIfInBounds_toArray, List.set_cons_zero, List.set_cons_succ]
  refine wpAnyH_take (i := 2) (oi := { dst := some 32, op := Op.move (Operand.tmp 1), type := 3, pos := "l05_node.go:28", after := #[], guard := none }) (v := .int .i64 n) rfl (by kernel_rfl) (by kernel_rfl) (by kernel_rfl) (fun _ _ _ h => HP.out _ _ _ _ _ h) (Or.inl ⟨by rfl, ?_⟩) True.intro ?_
  · intro w hSw
    go_simp
    try (with_reducible rfl)
  simp only [Act.put, List.setIfInBounds_toArray, List.set_cons_zero, List.set_cons_succ]
  refine wpAnyH_ready (rs := [1, 3]) (by kernel_rfl) (by simp) ?_
  refine AllReadyH.cons (o := { dst := some 31, op := Op.load 48 (Operand.tmp 30), type := 48, pos := "l05_node.go:28", after := #[{ on := 0, ground := Ground.data }], guard := none }) rfl (fun K2 hK2 => ?_) (AllReadyH.cons (o := { dst := some 33, op := Op.call { callee := Callee.value (Operand.func 42), args := #[Operand.tmp 32], argTypes := #[3] }, type := 46, pos := "l05_node.go:28", after := #[{ on := 2, ground := Ground.data }], guard := none }) rfl (fun K2 hK2 => ?_) AllReadyH.nil)
  · skip
    go_simp
    refine hK2.out _ _ True.intro (fun _ => ?_)
    try simp only [List.setIfInBounds_toArray, List.set_cons_zero, List.set_cons_succ]
    clear hK2 K2
    refine wpAnyH_ready (rs := [3]) (by kernel_rfl) (by simp) ?_
    refine AllReadyH.cons (o := { dst := some 33, op := Op.call { callee := Callee.value (Operand.func 42), args := #[Operand.tmp 32], argTypes := #[3] }, type := 46, pos := "l05_node.go:28", after := #[{ on := 2, ground := Ground.data }], guard := none }) rfl (fun K2 hK2 => ?_) AllReadyH.nil
    go_simp
    refine (specHomeNew_any n _).mono ?_
    intro e w1 hp
    obtain ⟨al, cl, ar, cr, rfl, o1, r1, b1⟩ := newP_new HI.out hp
    clear hp
    replace b1 := bel_undrew b1
    have c2 := (HS.out.X.below b1).cell 2
    have z2 := (HS.out.X.below b1).lt
    go_wp2_with fail
    refine hK2.out _ _ True.intro (fun _ => ?_)
    try simp only [List.setIfInBounds_toArray, List.set_cons_zero, List.set_cons_succ]
    clear hK2 K2
    refine wpAnyH_ready (rs := [4]) (by kernel_rfl) (by simp) ?_
    refine AllReadyH.cons (o := { dst := some 34, op := Op.buildSlice 48 1 #[(0, Operand.tmp 33)], type := 48, pos := "l05_node.go:28", after := #[{ on := 3, ground := Ground.data }], guard := none }) rfl (fun K2 hK2 => ?_) AllReadyH.nil
    go_simp
    refine hK2.out _ _ True.intro (fun _ => ?_)
    try simp only [List.setIfInBounds_toArray, List.set_cons_zero, List.set_cons_succ]
    clear hK2 K2
    exact T134.out al ar cl cr w1 o1 r1 b1
  · skip
    go_simp
    refine (specHomeNew_any n _).mono ?_
    intro e w1 hp
    obtain ⟨al, cl, ar, cr, rfl, o1, r1, b1⟩ := newP_new HI.out hp
    clear hp
    replace b1 := bel_undrew b1
    have c2 := (HS.out.X.below b1).cell 2
    have z2 := (HS.out.X.below b1).lt
    go_wp2_with fail
    refine hK2.out _ _ True.intro (fun _ => ?_)
    try simp only [List.setIfInBounds_toArray, List.set_cons_zero, List.set_cons_succ]
    clear hK2 K2
    refine wpAnyH_ready (rs := [1, 4]) (by kernel_rfl) (by simp) ?_
    refine AllReadyH.cons (o := { dst := some 31, op := Op.load 48 (Operand.tmp 30), type := 48, pos := "l05_node.go:28", after := #[{ on := 0, ground := Ground.data }], guard := none }) rfl (fun K2 hK2 => ?_) (AllReadyH.cons (o := { dst := some 34, op := Op.buildSlice 48 1 #[(0, Operand.tmp 33)], type := 48, pos := "l05_node.go:28", after := #[{ on := 3, ground := Ground.data }], guard := none }) rfl (fun K2 hK2 => ?_) AllReadyH.nil)
    · skip
      go_simp
      refine hK2.out _ _ True.intro (fun _ => ?_)
      try simp only [List.setIfInBounds_toArray, List.set_cons_zero, List.set_cons_succ]
      clear hK2 K2
      refine wpAnyH_ready (rs := [4]) (by kernel_rfl) (by simp) ?_
      refine AllReadyH.cons (o := { dst := some 34, op := Op.buildSlice 48 1 #[(0, Operand.tmp 33)], type := 48, pos := "l05_node.go:28", after := #[{ on := 3, ground := Ground.data }], guard := none }) rfl (fun K2 hK2 => ?_) AllReadyH.nil
      go_simp
      refine hK2.out _ _ True.intro (fun _ => ?_)
      try simp only [List.setIfInBounds_toArray, List.set_cons_zero, List.set_cons_succ]
      clear hK2 K2
      exact T134.out al ar cl cr w1 o1 r1 b1
    · skip
      go_simp
      refine hK2.out _ _ True.intro (fun _ => ?_)
      try simp only [List.setIfInBounds_toArray, List.set_cons_zero, List.set_cons_succ]
      clear hK2 K2
      refine wpAnyH_ready (rs := [1]) (by kernel_rfl) (by simp) ?_
      refine AllReadyH.cons (o := { dst := some 31, op := Op.load 48 (Operand.tmp 30), type := 48, pos := "l05_node.go:28", after := #[{ on := 0, ground := Ground.data }], guard := none }) rfl (fun K2 hK2 => ?_) AllReadyH.nil
      go_simp
      refine hK2.out _ _ True.intro (fun _ => ?_)
      try simp only [List.setIfInBounds_toArray, List.set_cons_zero, List.set_cons_succ]
      clear hK2 K2
      exact T134.out al ar cl cr w1 o1 r1 b1

set_option maxRecDepth 100000 in
set_option maxHeartbeats 8000000 in
theorem specNodeNew_any (id nodes : Int) (w : World) : Calls Try.prog 25 #[.int .i64 id, .int .i64 nodes] w (NNewP id nodes w) := by
  cases hb : nodeB id nodes
  · have HB : Hid (nodeB id nodes = false) := hb
    have hE : bel_alloc (Below.refl w.heap.size w) (.cells #[.int .i64 0, .slice none 0 0, .slice none 0 0, .slice none 0 0, .slice none 0 0] 52) = bel_alloc (Below.refl w.heap.size w) (.cells #[.int .i64 0, .slice none 0 0, .slice none 0 0, .slice none 0 0, .slice none 0 0] 52) := rfl
    clear hE
    cases hn : inB nodes 1 4
    · have HN : Hid (inB nodes 1 4 = false) := hn
      clear hb hn
      go_enter Try.func25, Try.ntmps25
      go_wp2_with fail
      refine (specIn_b nodes 1 4 _).mono ?_
      rintro e w1 ⟨rfl, h⟩
      subst h
      rw [HN.out]
      go_wp2
      refine bodyPost_ret (v := .tuple #[.agg #[.int .i64 0, .slice none 0 0, .slice none 0 0, .slice none 0 0, .slice none 0 0], .bool false]) (by simp [results, Try.results25, go_sem]) rfl (nnew_bad HB.out ?_)
      exact bel_alloc (Below.refl _ _) _
    · have HN : Hid (inB nodes 1 4 = true) := hn
      have h14 : 1 ≤ nodes ∧ nodes ≤ 4 := by simpa [inB] using hn
      have HI : Hid (inB id 0 (nodes - 1) = false) := by show _ = _; have h := hb; unfold nodeB at h; rw [hn] at h; simpa using h
      clear hb hn
      go_enter Try.func25, Try.ntmps25
      go_wp2_with fail
      refine (specIn_b nodes 1 4 _).mono ?_
      rintro e w1 ⟨rfl, h⟩
      subst h
      rw [HN.out]
      go_wp2_with fail
      refine (specIn_b id 0 (nodes - 1) _).mono ?_
      rintro e w1 ⟨rfl, h⟩
      subst h
      rw [HI.out]
      go_wp2
      refine bodyPost_ret (v := .tuple #[.agg #[.int .i64 0, .slice none 0 0, .slice none 0 0, .slice none 0 0, .slice none 0 0], .bool false]) (by simp [results, Try.results25, go_sem]) rfl (nnew_bad HB.out ?_)
      exact bel_alloc (Below.refl _ _) _
  · obtain ⟨n, hn, h1, h4⟩ : ∃ n : Nat, nodes = (n : Int) ∧ 1 ≤ n ∧ n ≤ 4 := by
      have : (1 ≤ nodes ∧ nodes ≤ 4) := by have h := hb; simp [nodeB, inB] at h; omega
      exact ⟨nodes.toNat, by omega, by omega, by omega⟩
    subst hn
    have HB : Hid (nodeB id n = true) := hb
    have HI : Hid (inB n 1 4 = true) := by show _ = _; simp [inB]; omega
    have HJ : Hid (inB id 0 ((n : Int) - 1) = true) := by show _ = _; have h := hb; unfold nodeB at h; rw [HI.out] at h; simpa using h
    clear hb
    obtain ⟨zf, hzf⟩ : ∃ z, madeCells (Value.agg #[.int .i64 0, .slice none 0 0, .bool false]).cells (6 * 3) = z := ⟨_, rfl⟩
    obtain ⟨zo, hzo⟩ : ∃ z, madeCells (Value.agg #[.int .i64 0, .slice none 0 0]).cells (n * 2) = z := ⟨_, rfl⟩
    obtain ⟨zi, hzi⟩ : ∃ z, madeCells (Value.agg #[.int .i64 0]).cells (n * 1) = z := ⟨_, rfl⟩
    have mf := make_all 47 101 _ 3 40 Try.underlying47 info_frame2 6 (by decide) (by decide)
    have mo := make_all 49 106 _ 2 32 Try.underlying49 info_sender2 n (by omega) (by omega)
    have mi := make_all 50 109 _ 1 8 Try.underlying50 info_receiver2 n (by omega) (by omega)
    rw [hzf] at mf
    rw [hzo] at mo
    rw [hzi] at mi
    have MF : Hid (∀ W : World, (Instr.makeSlice 47 (.int .i64 6) (.int .i64 6)).run Try.prog W = .ok (.slice (some ⟨W.heap.size, 0, none⟩) 6 6) (W.alloc (.cells zf 101))) := mf
    have MO : Hid _ := mo
    have MI : Hid _ := mi
    have HZ : Hid (zf.size = 6 * 3 ∧ zo.size = n * 2 ∧ zi.size = n * 1) := ⟨by rw [← hzf]; exact size_madeCells _ _, by rw [← hzo]; exact size_madeCells _ _, by rw [← hzi]; exact size_madeCells _ _⟩
    have HC : Hid (zf.toList = chunks 6 (fun _ => f0 0 false) ∧ zo.toList = chunks n (fun _ => s0 0) ∧ zi.toList = chunks n (fun _ => gcells 0)) :=
      ⟨by rw [← hzf]; exact made_chunks _ 3 6 rfl (by decide), by rw [← hzo]; exact made_chunks _ 2 n rfl (by decide), by rw [← hzi]; exact made_chunks _ 1 n rfl (by decide)⟩
    clear mf mo mi hzf hzo hzi
    have bA := bel_alloc (Below.refl w.heap.size w) (.cells #[.int .i64 0, .slice none 0 0, .slice none 0 0, .slice none 0 0, .slice none 0 0] 52)
    have X0 := Box.new w #[.int .i64 0, .slice none 0 0, .slice none 0 0, .slice none 0 0, .slice none 0 0] 52
    go_enter Try.func25, Try.ntmps25
    go_wp2_with fail
    refine (specIn_b n 1 4 _).mono ?_
    rintro e w1 ⟨rfl, h⟩
    subst h
    rw [HI.out]
    go_wp2_with fail
    refine (specIn_b id 0 (n - 1) _).mono ?_
    rintro e w1 ⟨rfl, h⟩
    subst h
    rw [HJ.out]
    go_upto_region 3 with fail
    refine specLit _ (fun _ _ _ _ _ h => h) id n h1 h4 _ _ _ _ _ _ _ _ _ _ _ _ _ _ _ _ _ _ _ _ _ _ _ _ _ _ _ _ _ _ _ _ _ _ _ _ _ zf zi zo MF.out HZ.out.1 MO.out HZ.out.2.1 MI.out HZ.out.2.2 ?_
    intro m gf go gi wx hm X of oo oi bx
    rw [HC.out.1] at of
    rw [HC.out.2.1] at oo
    rw [HC.out.2.2] at oi
    have B := bel_trans bA bx
    replace X0 := X0.below bx
    have hmw : w.heap.size < m := by simp at hm; omega
    replace of := owns_base of (b' := w.heap.size) (by simp)
    replace oo := owns_base oo (b' := w.heap.size) (by simp)
    replace oi := owns_base oi (b' := w.heap.size) (by simp)
    clear bx bA hm
    go_wp2
    go_loopw [7] (fun i wr => ∃ j : Nat, j ≤ 6 ∧ i = .int .i64 j ∧ ∃ a c p, SN w wr id n j m gf go gi a c p) (fun i _ => 6 - (intOf i).toNat)
    case atStart => exact ⟨0, by decide, rfl, none, 0, fun _ => ⟨(none, 0), (none, 0), (none, 0)⟩, ⟨⟨World.ownsRow_nil _ _ _ _, fun i hi => absurd hi (Nat.not_lt_zero i), fun i hi => absurd hi (Nat.not_lt_zero i)⟩, fun i k hi => absurd hi (Nat.not_lt_zero i), fun i hi => absurd hi (Nat.not_lt_zero i), X, X0, of, oo, oi, B, hmw⟩⟩
    case round =>
      obtain ⟨j, hj, rfl, a, c, p, hN⟩ := hrel
      clear X X0 of oo oi B
      by_cases hlt : j < 6
      · have hi : (j : Int) < 6 := by omega
        go_upto_region 7 with fail
        refine specApp _ (fun _ _ _ _ _ h => h) id n j m gf go gi h1 h4 hlt HI a c p _ _ _ _ _ _ _ _ _ _ _ _ _ _ _ _ _ _ _ _ _ _ _ _ _ _ _ _ _ _ _ _ _ _ _ _ w wr hN ?_
        intro v30 v31 v32 v33 v34 v35 v36 g cap p2 w6 h6
        have H6 : Hid _ := h6
        clear h6 hN
        go_wp2
        go_roundw
        case rel => exact ⟨j + 1, by omega, by go_num, _, _, _, H6.out⟩
        case measure => simp [intOf]; omega
      · have : j = 6 := by omega
        subst this
        obtain ⟨hO, hap, hq, hX, hX0, hof, hoo, hoi, hB, hmm⟩ := hN
        have HQ : Hid (∀ i, i < 6 → (p i).q = (none, 0)) := hq
        have HA : Hid (HApart 6 p) := hap
        clear hq hap
        obtain ⟨x0, x1, x2, x3, x4, zx⟩ := hX.at5
        obtain ⟨y0, y1, y2, y3, y4, zy⟩ := hX0.at5
        have hmw2 : m ≠ w.heap.size := by omega
        have y5 := hX0.frozen 0
        have y6 := hX0.frozen 1
        have y7 := hX0.frozen 2
        have y8 := hX0.frozen 3
        have y9 := hX0.frozen 4
        have HN : Hid (NO wr w.heap.size (newND id n) ⟨(some ⟨gf, 0, none⟩, 6), fun _ => (none, 0), (a, c), p, (some ⟨go, 0, none⟩, n), fun _ => (none, 0), fun _ => [], (some ⟨gi, 0, none⟩, n)⟩ 4 n) :=
          ⟨hof, fun i hi => ⟨rfl, rfl⟩, hO, HA.out, fun i hi => ⟨rfl, by simp [newND, newHD], rfl, HQ.out i hi⟩, hoo, fun i hi => ⟨rfl, rfl, rfl⟩, hoi, by show (6:Nat) ≤ 100 ∧ (6:Nat) ≤ 100 ∧ n ≤ 100 ∧ n ≤ 100 ∧ (4:Nat) ≤ 5 ∧ n ≤ 5; omega⟩
        have nn : Hid (∀ t, NB (newND id n) ⟨(some ⟨gf, 0, none⟩, 6), fun _ => (none, 0), (a, c), p, (some ⟨go, 0, none⟩, n), fun _ => (none, 0), fun _ => [], (some ⟨gi, 0, none⟩, n)⟩ t → w.heap.size ≠ t) := fun t ht e => by
          subst e
          rcases ht with h1 | h1 | ⟨i, hi, h1 | h1⟩ | h1 | h1
          · exact lit_ne hX0 hof (by decide) (own_blk h1)
          · exact lit_ne hX0 hO.row (by decide) (own_blk h1)
          · exact lit_ne hX0 (hO.l i hi) (by decide) (own_blk h1)
          · exact lit_ne hX0 (hO.r i hi) (by decide) (own_blk h1)
          · exact lit_ne hX0 hoo (by decide) (own_blk h1)
          · exact lit_ne hX0 hoi (by decide) (own_blk h1)
        clear hO hof hoo hoi
        go_wp2
        refine bodyPost_ret (v := .tuple #[.agg #[.int .i64 id, .slice (some ⟨gf, 0, none⟩) 6 6, .slice a 6 c, .slice (some ⟨go, 0, none⟩) n n, .slice (some ⟨gi, 0, none⟩) n n], .bool true]) (by simp [results, Try.results25, go_sem, y0, y1, y2, y3, y4]) rfl (nnew_ok HB.out (HN.out.set5 nn.out) ?_)
        exact lit_bel5 hB (Nat.le_refl _)
end Go.Proofs.Ytfeabhknkoifeaa
