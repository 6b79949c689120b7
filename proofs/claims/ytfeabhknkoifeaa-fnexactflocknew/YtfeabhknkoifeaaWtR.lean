/- NdT and NdT2 and NdT3 and NdZ and WtR: see the heads of the parts. -/
import Derived.Test.YtfeabhknkoifeaaNdN
import Derived.Test.YtfeabhknkoifeaaBk0
import Derived.Test.YtfeabhknkoifeaaOpenH
/- What the law's toFrameS, toHomeS, toSenderS, toReceiverS and toNode do, as a reader is told of it. -/
namespace Go.Proofs.Ytfeabhknkoifeaa
open Go.RowKit
set_option linter.unusedVariables false

theorem store8 {w : World} {lo e n g c k : Nat} {f : Nat → List Value} (h : w.ownsRow lo e 8 (.slice (some ⟨g, 0, none⟩) n c) n (chunks n f)) (hf : ∀ i, i < n → (f i).length = 8) (hk : k < n) (c0 c1 c2 c3 c4 c5 c6 c7 : Value) :
    (W8 w g (k * 8) c0 c1 c2 c3 c4 c5 c6 c7).ownsRow lo e 8 (.slice (some ⟨g, 0, none⟩) n c) n (chunks n fun i => if i = k then [c0, c1, c2, c3, c4, c5, c6, c7] else f i) := by
  have k0 := owns_stored h hf hk (j := 0) (by decide) c0
  have k1 := owns_stored k0 (set_len hf _ _ _) hk (j := 1) (by decide) c1
  have k2 := owns_stored k1 (set_len (set_len hf _ _ _) _ _ _) hk (j := 2) (by decide) c2
  have k3 := owns_stored k2 (set_len (set_len (set_len hf _ _ _) _ _ _) _ _ _) hk (j := 3) (by decide) c3
  have k4 := owns_stored k3 (set_len (set_len (set_len (set_len hf _ _ _) _ _ _) _ _ _) _ _ _) hk (j := 4) (by decide) c4
  have k5 := owns_stored k4 (set_len (set_len (set_len (set_len (set_len hf _ _ _) _ _ _) _ _ _) _ _ _) _ _ _) hk (j := 5) (by decide) c5
  have k6 := owns_stored k5 (set_len (set_len (set_len (set_len (set_len (set_len hf _ _ _) _ _ _) _ _ _) _ _ _) _ _ _) _ _ _) hk (j := 6) (by decide) c6
  have k7 := owns_stored k6 (set_len (set_len (set_len (set_len (set_len (set_len (set_len hf _ _ _) _ _ _) _ _ _) _ _ _) _ _ _) _ _ _) _ _ _) hk (j := 7) (by decide) c7
  refine owns_congr k7 (fun i hi => ?_)
  have hl := hf i hi
  by_cases e : i = k
  · simp only [if_pos e]
    match hq : f i, hl with
    | [x0, x1, x2, x3, x4, x5, x6, x7], _ => rfl
  · simp only [if_neg e]

/-- A row of frames that is laid as far as place k, each with its words. -/
structure FT (w : World) (lo g n k : Nat) (d : Nat → FD) (p : Nat → Pl) : Prop where
  row : w.ownsRow lo 101 3 (.slice (some ⟨g, 0, none⟩) n n) n (chunks n fun i => if i < k then fcells (d i) (p i) else f0 0 false)
  l : ∀ i, i < k → w.ownsRow lo 3 1 (.slice (p i).1 (d i).xs.length (p i).2) (d i).xs.length ((d i).xs.map (Value.int .i64))
theorem FT.step {w w2 : World} {lo g n k : Nat} {d : Nat → FD} {p : Nat → Pl} (h : FT w lo g n k d p) (hk : k < n) (b : Below w.heap.size w w2) (hlo : lo ≤ w.heap.size) {a2 : Option Addr} {c2 : Nat} (o2 : w2.ownsRow w.heap.size 3 1 (.slice a2 (d k).xs.length c2) (d k).xs.length ((d k).xs.map (Value.int .i64))) :
    FT (((w2.setCell ⟨g, k * 3, none⟩ (.int .i64 (d k).s)).setCell ⟨g, k * 3 + 1, none⟩ (.slice a2 (d k).xs.length c2)).setCell ⟨g, k * 3 + 2, none⟩ (.bool (d k).q)) lo g n (k + 1) d (fun i => if i = k then (a2, c2) else p i) := by
  have hr := owns_below h.row b
  have hf : ∀ i, i < n → ((fun i => if i < k then fcells (d i) (p i) else f0 0 false) i).length = 3 := fun i _ => by dsimp only; split <;> rfl
  have hs := store3 hr hf hk (.int .i64 (d k).s) (.slice a2 (d k).xs.length c2) (.bool (d k).q)
  have far : ∀ {e n2 lo2 : Nat} {v : Value} {xs : List Value}, w2.ownsRow lo2 e 1 v n2 xs → e ≠ 101 → (((w2.setCell ⟨g, k * 3, none⟩ (.int .i64 (d k).s)).setCell ⟨g, k * 3 + 1, none⟩ (.slice a2 (d k).xs.length c2)).setCell ⟨g, k * 3 + 2, none⟩ (.bool (d k).q)).ownsRow lo2 e 1 v n2 xs := fun ho he => by
    have ne := far_ne hr ho he.symm
    exact owns_setCell (owns_setCell (owns_setCell ho ne _) ne _) ne _
  refine ⟨owns_congr hs (far_step (fun i hi => by rw [if_neg (by omega)]) (by simp [fcells])), fun i hi => ?_⟩
  by_cases e : i = k
  · subst e
    simp only [if_pos]
    exact far (owns_base o2 hlo) (by decide)
  · simp only [if_neg e]
    exact far (owns_below (h.l i (by omega)) b) (by decide)
theorem FT.fr {w : World} {lo g n : Nat} {d : Nat → FD} {p : Nat → Pl} (h : FT w lo g n n d p) (hn : n ≤ 1048576) (hx : ∀ i, i < n → (d i).xs.length ≤ 1048576) : FR w (some ⟨g, 0, none⟩) n d p := by
  refine ⟨by omega, ?_, fun i hi => owns_row' (h.l i hi) (by have := hx i hi; omega)⟩
  have h1 := owns_congr (g := fun i => fcells (d i) (p i)) h.row (fun i hi => by rw [if_pos hi])
  exact owns_vrow' h1 (by rw [chunks_length (s := 3) n (fun i _ => rfl)]; omega)

theorem FT.ab {w w' : World} {lo g n k : Nat} {d : Nat → FD} {p : Nat → Pl} (h : FT w lo g n k d p) (b : Ab lo w w') : FT w' lo g n k d p := ⟨owns_ab h.row b, fun i hi => owns_ab (h.l i hi) b⟩

end Go.Proofs.Ytfeabhknkoifeaa

/- What the law's toHomeS, toSenderS, toReceiverS and toNode do, as a reader is told of it. -/
namespace Go.Proofs.Ytfeabhknkoifeaa
open Go.RowKit
set_option linter.unusedVariables false

/-- A row of homes that is laid as far as place k, each with its rows. -/
structure HT (w : World) (lo g n k : Nat) (d : Nat → HD) (p : Nat → HP) : Prop where
  row : w.ownsRow lo 46 8 (.slice (some ⟨g, 0, none⟩) n n) n (chunks n fun i => if i < k then hcells (d i) (p i) else [.slice none 0 0, .int .i64 0, .slice none 0 0, .bool false, .int .i64 0, .bool false, .int .i64 0, .slice none 0 0])
  l : ∀ i, i < k → w.ownsRow lo 3 1 (.slice (p i).l.1 (d i).xs.length (p i).l.2) (d i).xs.length ((d i).xs.map (Value.int .i64))
  r : ∀ i, i < k → w.ownsRow lo 4 1 (.slice (p i).r.1 (d i).bs.length (p i).r.2) (d i).bs.length (bv (d i).bs)
  q : ∀ i, i < k → w.ownsRow lo 43 2 (.slice (p i).q.1 (d i).ws.length (p i).q.2) (d i).ws.length (wv (d i).ws)
theorem HT.step {w w2 : World} {lo g n k : Nat} {d : Nat → HD} {p : Nat → HP} (h : HT w lo g n k d p) (hk : k < n) (b : Below w.heap.size w w2) (hlo : lo ≤ w.heap.size) {al ar aq : Option Addr} {cl cr cq : Nat} (o2 : w2.ownsRow w.heap.size 3 1 (.slice al (d k).xs.length cl) (d k).xs.length ((d k).xs.map (Value.int .i64)))
    (r2 : w2.ownsRow w.heap.size 4 1 (.slice ar (d k).bs.length cr) (d k).bs.length (bv (d k).bs)) (q2 : w2.ownsRow w.heap.size 43 2 (.slice aq (d k).ws.length cq) (d k).ws.length (wv (d k).ws)) :
    HT (W8 w2 g (k * 8) (.slice al (d k).xs.length cl) (.int .i64 (d k).ow) (.slice ar (d k).bs.length cr) (.bool (d k).bz) (.int .i64 (d k).wh) (.bool (d k).wo) (.int .i64 (d k).ak) (.slice aq (d k).ws.length cq)) lo g n (k + 1) d (fun i => if i = k then ⟨(al, cl), (ar, cr), (aq, cq)⟩ else p i) := by
  have hr := owns_below h.row b
  have hf : ∀ i, i < n → ((fun i => if i < k then hcells (d i) (p i) else [.slice none 0 0, .int .i64 0, .slice none 0 0, .bool false, .int .i64 0, .bool false, .int .i64 0, .slice none 0 0]) i).length = 8 := fun i _ => by dsimp only; split <;> rfl
  have hs := store8 hr hf hk (.slice al (d k).xs.length cl) (.int .i64 (d k).ow) (.slice ar (d k).bs.length cr) (.bool (d k).bz) (.int .i64 (d k).wh) (.bool (d k).wo) (.int .i64 (d k).ak) (.slice aq (d k).ws.length cq)
  refine ⟨owns_congr hs (far_step (fun i hi => by rw [if_neg (by omega)]) (by simp [hcells])), fun i hi => ?_, fun i hi => ?_, fun i hi => ?_⟩
  · by_cases e : i = k
    · subst e
      simp only [if_pos]
      exact w8_owns (owns_base o2 hlo) (far_ne hr o2 (by decide)) _ _ _ _ _ _ _ _
    · simp only [if_neg e]
      have h0 := owns_below (h.l i (by omega)) b
      exact w8_owns h0 (far_ne hr h0 (by decide)) _ _ _ _ _ _ _ _
  · by_cases e : i = k
    · subst e
      simp only [if_pos]
      exact w8_owns (owns_base r2 hlo) (far_ne hr r2 (by decide)) _ _ _ _ _ _ _ _
    · simp only [if_neg e]
      have h0 := owns_below (h.r i (by omega)) b
      exact w8_owns h0 (far_ne hr h0 (by decide)) _ _ _ _ _ _ _ _
  · by_cases e : i = k
    · subst e
      simp only [if_pos]
      exact w8_owns (owns_base q2 hlo) (far_ne hr q2 (by decide)) _ _ _ _ _ _ _ _
    · simp only [if_neg e]
      have h0 := owns_below (h.q i (by omega)) b
      exact w8_owns h0 (far_ne hr h0 (by decide)) _ _ _ _ _ _ _ _
theorem HT.hr {w : World} {lo g n : Nat} {d : Nat → HD} {p : Nat → HP} (h : HT w lo g n n d p) (hn : n ≤ 1048576) (hx : ∀ i, i < n → (d i).xs.length ≤ 1048576 ∧ (d i).bs.length ≤ 1048576 ∧ (d i).ws.length ≤ 1048576) : HR2 w (some ⟨g, 0, none⟩) n d p := by
  refine ⟨by omega, ?_, fun i hi => ⟨owns_row' (h.l i hi) (by have := hx i hi; omega), owns_vrow' (h.r i hi) (by rw [bv_length]; have := hx i hi; omega), owns_vrow' (h.q i hi) (by rw [wv_length]; have := hx i hi; omega)⟩⟩
  have h1 := owns_congr (g := fun i => hcells (d i) (p i)) h.row (fun i hi => by rw [if_pos hi])
  exact owns_vrow' h1 (by rw [chunks_length (s := 8) n (fun i _ => rfl)]; omega)

theorem HT.ab {w w' : World} {lo g n k : Nat} {d : Nat → HD} {p : Nat → HP} (h : HT w lo g n k d p) (b : Ab lo w w') : HT w' lo g n k d p := ⟨owns_ab h.row b, fun i hi => owns_ab (h.l i hi) b, fun i hi => owns_ab (h.r i hi) b, fun i hi => owns_ab (h.q i hi) b⟩


/-- A row of senders that is laid as far as place k, each with what it queues. -/
structure ST (w : World) (lo g n k : Nat) (b : Nat → Int) (y : Nat → List Say) (p : Nat → Pl) (ms : Nat → List M) : Prop where
  row : w.ownsRow lo 106 2 (.slice (some ⟨g, 0, none⟩) n n) n (chunks n fun i => if i < k then scells (b i) (p i) (y i).length else s0 0)
  l : ∀ i, i < k → Deep w lo (p i).1 (p i).2 (ms i)
  e : ∀ i, i < k → (ms i).map M.say = y i
theorem Deep.set {w : World} {lo : Nat} {a : Option Addr} {c : Nat} {ms : List M} (h : Deep w lo a c ms) {g t : Nat} {u : Value} {lo2 n2 c2 : Nat} {xs : List Value} (o : w.ownsRow lo2 106 2 (.slice (some ⟨g, 0, none⟩) n2 c2) n2 xs) : Deep (w.setCell ⟨g, t, none⟩ u) lo a c ms :=
  ⟨owns_setCell h.row (far_ne o h.row (by decide)) u, h.lists.far _ _ (fun m hm j hj => far_ne o (h.lists.1 m hm) (by decide) j hj)⟩
theorem ST.step {w w2 : World} {lo g n k : Nat} {b : Nat → Int} {y : Nat → List Say} {p : Nat → Pl} {ms : Nat → List M} (h : ST w lo g n k b y p ms) (hk : k < n) (bb : Below w.heap.size w w2) (hlo : lo ≤ w.heap.size) {a2 : Option Addr} {c2 : Nat} {ds : List M} (o2 : Deep w2 w.heap.size a2 c2 ds) (he : ds.map M.say = y k) :
    ST ((w2.setCell ⟨g, k * 2, none⟩ (.int .i64 (b k))).setCell ⟨g, k * 2 + 1, none⟩ (.slice a2 (y k).length c2)) lo g n (k + 1) b y (fun i => if i = k then (a2, c2) else p i) (fun i => if i = k then ds else ms i) := by
  have hr := owns_below h.row bb
  have hf : ∀ i, i < n → ((fun i => if i < k then scells (b i) (p i) (y i).length else s0 0) i).length = 2 := fun i _ => by dsimp only; split <;> rfl
  have hs := store2 hr hf hk (.int .i64 (b k)) (.slice a2 (y k).length c2)
  have hs1 := (hr.stored (k * 2) (.int .i64 (b k))).1
  refine ⟨owns_congr hs (far_step (fun i hi => by rw [if_neg (by omega)]) (by simp [scells])), fun i hi => ?_, fun i hi => ?_⟩
  · by_cases e : i = k
    · subst e
      simp only [if_pos]
      have h0 : Deep w2 lo a2 c2 ds := ⟨owns_base o2.row hlo, o2.lists.base hlo⟩
      exact Deep.set (Deep.set h0 hr) hs1
    · simp only [if_neg e]
      exact Deep.set (Deep.set ((h.l i (by omega)).below bb) hr) hs1
  · by_cases e : i = k
    · subst e
      simp only [if_pos]
      exact he
    · simp only [if_neg e]
      exact h.e i (by omega)
theorem ST.sr {w : World} {lo g n : Nat} {b : Nat → Int} {y : Nat → List Say} {p : Nat → Pl} {ms : Nat → List M} (h : ST w lo g n n b y p ms) (hn : n ≤ 1048576) (hx : ∀ i, i < n → (y i).length ≤ 1048576 ∧ ∀ s ∈ y i, s.2.2.2.length ≤ 1048576) : SR w (some ⟨g, 0, none⟩) n b y p ms := by
  refine ⟨by omega, ?_, fun i hi => ⟨(h.l i hi).mrow ?_ ?_, h.e i hi⟩⟩
  · have h1 := owns_congr (g := fun i => scells (b i) (p i) (y i).length) h.row (fun i hi => by rw [if_pos hi])
    exact owns_vrow' h1 (by rw [chunks_length (s := 2) n (fun i _ => rfl)]; omega)
  · have h1 := congrArg List.length (h.e i hi)
    have := hx i hi
    simp at h1
    omega
  · intro m hm
    have h1 : m.say ∈ y i := by rw [← h.e i hi]; exact List.mem_map_of_mem hm
    have := (hx i hi).2 _ h1
    simp [M.say] at this
    omega

theorem ST.ab {w w' : World} {lo g n k : Nat} {b : Nat → Int} {y : Nat → List Say} {p : Nat → Pl} {ms : Nat → List M} (h : ST w lo g n k b y p ms) (bb : Ab lo w w') : ST w' lo g n k b y p ms := ⟨owns_ab h.row bb, fun i hi => ⟨owns_ab (h.l i hi).row bb, fun m hm => owns_ab ((h.l i hi).lists.1 m hm) bb, (h.l i hi).lists.2⟩, h.e⟩

end Go.Proofs.Ytfeabhknkoifeaa

/- What the law's toReceiverS and toNode do, as a reader is told of it. -/
namespace Go.Proofs.Ytfeabhknkoifeaa
open Go.RowKit
set_option linter.unusedVariables false



/-- How great a node may be. -/
structure Nsm (d : ND) : Prop where
  f : d.nf ≤ 1048576 ∧ ∀ i, i < d.nf → (d.f i).xs.length ≤ 1048576
  h : d.nh ≤ 1048576 ∧ ∀ i, i < d.nh → (d.h i).xs.length ≤ 1048576 ∧ (d.h i).bs.length ≤ 1048576 ∧ (d.h i).ws.length ≤ 1048576
  o : d.no ≤ 1048576 ∧ ∀ i, i < d.no → (d.y i).length ≤ 1048576 ∧ ∀ s ∈ d.y i, s.2.2.2.length ≤ 1048576
  i : d.ni ≤ 1048576

end Go.Proofs.Ytfeabhknkoifeaa

/- How great a node is: what the law's szFrameS, szHomeS, szSenderS, szReceiverS and szNode tell of one that came in (written by mknz.py). -/
namespace Go.Proofs.Ytfeabhknkoifeaa
open Go.RowKit
set_option linter.unusedVariables false

def HC2 (w : World) (a : Option Addr) (n : Nat) (d : Nat → HD) (p : Nat → HP) : Prop := n ≤ maxLen ∧ VCame w a (chunks n fun i => hcells (d i) (p i)) ∧
  ∀ i, i < n → Came .i64 w (p i).l.1 (p i).l.2 (d i).xs ∧ VCame w (p i).r.1 (bv (d i).bs) ∧ VCame w (p i).q.1 (wv (d i).ws) ∧ (d i).bs.length ≤ maxLen ∧ (d i).ws.length ≤ maxLen
def SC (w : World) (a : Option Addr) (n : Nat) (b : Nat → Int) (y : Nat → List Say) (p : Nat → Pl) (ms : Nat → List M) : Prop := n ≤ maxLen ∧ VCame w a (chunks n fun i => scells (b i) (p i) (y i).length) ∧
  ∀ i, i < n → MCame w (p i).1 (p i).2 (ms i) ∧ (ms i).map M.say = y i
def GC (w : World) (a : Option Addr) (n : Nat) (g : Nat → Int) : Prop := n ≤ maxLen ∧ VCame w a (chunks n fun i => gcells (g i))
theorem HC2.below {w w' : World} {a : Option Addr} {n : Nat} {d : Nat → HD} {p : Nat → HP} (h : HC2 w a n d p) (hb : Below w.heap.size w w') : HC2 w' a n d p :=
  ⟨h.1, h.2.1.below hb, fun i hi => ⟨(h.2.2 i hi).1.below hb, (h.2.2 i hi).2.1.below hb, (h.2.2 i hi).2.2.1.below hb, (h.2.2 i hi).2.2.2⟩⟩
theorem SC.below {w w' : World} {a : Option Addr} {n : Nat} {b : Nat → Int} {y : Nat → List Say} {p : Nat → Pl} {ms : Nat → List M} (h : SC w a n b y p ms) (hb : Below w.heap.size w w') : SC w' a n b y p ms :=
  ⟨h.1, h.2.1.below hb, fun i hi => ⟨(h.2.2 i hi).1.below hb, (h.2.2 i hi).2⟩⟩
theorem GC.below {w w' : World} {a : Option Addr} {n : Nat} {g : Nat → Int} (h : GC w a n g) (hb : Below w.heap.size w w') : GC w' a n g := ⟨h.1, h.2.below hb⟩
theorem HC2.hr {w : World} {a : Option Addr} {n : Nat} {d : Nat → HD} {p : Nat → HP} (h : HC2 w a n d p) (hn : n ≤ 1048576) (hx : ∀ i, i < n → (d i).xs.length ≤ 1048576 ∧ (d i).bs.length ≤ 1048576 ∧ (d i).ws.length ≤ 1048576) : HR2 w a n d p :=
  ⟨by omega, h.2.1.vrow (by rw [chunks_length (s := 8) n (fun i _ => rfl)]; omega), fun i hi => ⟨(h.2.2 i hi).1.row (by have := hx i hi; omega), (h.2.2 i hi).2.1.vrow (by rw [bv_length]; have := hx i hi; omega), (h.2.2 i hi).2.2.1.vrow (by rw [wv_length]; have := hx i hi; omega)⟩⟩
theorem SC.sr {w : World} {a : Option Addr} {n : Nat} {b : Nat → Int} {y : Nat → List Say} {p : Nat → Pl} {ms : Nat → List M} (h : SC w a n b y p ms) (hn : n ≤ 1048576) (hx : ∀ i, i < n → (y i).length ≤ 1048576 ∧ ∀ s ∈ y i, s.2.2.2.length ≤ 1048576) : SR w a n b y p ms := by
  refine ⟨by omega, h.2.1.vrow (by rw [chunks_length (s := 2) n (fun i _ => rfl)]; omega), fun i hi => ⟨(h.2.2 i hi).1.mrow ?_ ?_, (h.2.2 i hi).2⟩⟩
  · have h1 := congrArg List.length (h.2.2 i hi).2
    have := hx i hi
    simp at h1
    omega
  · intro m hm
    have h1 : m.say ∈ y i := by rw [← (h.2.2 i hi).2]; exact List.mem_map_of_mem hm
    have := (hx i hi).2 _ h1
    simpa [M.say] using this
theorem GC.gr {w : World} {a : Option Addr} {n : Nat} {g : Nat → Int} (h : GC w a n g) (hn : n ≤ 1048576) : GR w a n g := ⟨by omega, h.2.vrow (by rw [chunks_length (s := 1) n (fun i _ => rfl)]; omega)⟩







theorem sz_say {ms : List M} {y : List Say} (he : ms.map M.say = y) (h : ms.length ≤ 1048576 ∧ ∀ m ∈ ms, m.xs.length ≤ 1048576) : y.length ≤ 1048576 ∧ ∀ s ∈ y, s.2.2.2.length ≤ 1048576 := by
  subst he
  refine ⟨by simpa using h.1, fun s hs => ?_⟩
  obtain ⟨m, hm, rfl⟩ := List.mem_map.1 hs
  exact h.2 m hm



/-- A node that came in. -/
structure NC (w : World) (d : ND) (p : NP) : Prop where
  f : FC w p.f.1 d.nf d.f p.fp
  h : HC2 w p.h.1 d.nh d.h p.hp
  o : SC w p.o.1 d.no d.b d.y p.op p.ms
  i : GC w p.i.1 d.ni d.g
theorem NC.below {w w' : World} {d : ND} {p : NP} (h : NC w d p) (b : Below w.heap.size w w') : NC w' d p := ⟨h.f.below b, h.h.below b, h.o.below b, h.i.below b⟩
theorem NC.nr {w : World} {d : ND} {p : NP} (h : NC w d p) (s : Nsm d) : NR w d p := ⟨h.f.fr s.f.1 s.f.2, h.h.hr s.h.1 s.h.2, h.o.sr s.o.1 s.o.2, h.i.gr s.i⟩

end Go.Proofs.Ytfeabhknkoifeaa

/- Owned rows whose elements own memory besides, by the blocks of each. -/
namespace Go.Proofs.Ytfeabhknkoifeaa
open Go.RowKit
set_option linter.unusedVariables false

def EH (d : HD) (p : HP) (w : World) : Prop := w.ownsRow 0 3 1 (.slice p.l.1 d.xs.length p.l.2) d.xs.length (d.xs.map (Value.int .i64)) ∧ w.ownsRow 0 4 1 (.slice p.r.1 d.bs.length p.r.2) d.bs.length (bv d.bs) ∧ w.ownsRow 0 43 2 (.slice p.q.1 d.ws.length p.q.2) d.ws.length (wv d.ws)
def QH (p : HP) (b : Nat) : Prop := blk p.l = some b ∨ blk p.r = some b ∨ blk p.q = some b
def ES (p : Pl) (ms : List M) (w : World) : Prop := Deep w 0 p.1 p.2 ms
def QS (p : Pl) (ms : List M) (b : Nat) : Prop := blk p = some b ∨ ∃ m ∈ ms, m.v.ownBlock = some b

theorem fix_h (d : HD) (p : HP) : Fix (QH p) (EH d p) := fun w w' k h => ⟨owns_sm h.1 k (fun j hj => .inl (blk_eq hj)), owns_sm h.2.1 k (fun j hj => .inr (.inl (blk_eq hj))), owns_sm h.2.2 k (fun j hj => .inr (.inr (blk_eq hj)))⟩
theorem fix_s (p : Pl) (ms : List M) : Fix (QS p ms) (ES p ms) := fun w w' k h => ⟨owns_sm h.row k (fun j hj => .inl (blk_eq hj)), fun m hm => owns_sm (h.lists.1 m hm) k (fun j hj => .inr ⟨m, hm, hj⟩), h.lists.2⟩

def HOw (w : World) (a : Option Addr) (c n : Nat) (d : Nat → HD) (p : Nat → HP) : Prop := Rw w 46 8 a c n n (fun i => hcells (d i) (p i)) (fun i => QH (p i)) (fun i => EH (d i) (p i))
def SO (w : World) (a : Option Addr) (c n : Nat) (b : Nat → Int) (p : Nat → Pl) (ms : Nat → List M) : Prop := Rw w 106 2 a c n n (fun i => scells (b i) (p i) (ms i).length) (fun i => QS (p i) (ms i)) (fun i => ES (p i) (ms i))
def GO (w : World) (a : Option Addr) (c n : Nat) (g : Nat → Int) : Prop := w.ownsRow 0 109 1 (.slice a n c) n (chunks n fun i => gcells (g i))

theorem HOw.hr {w : World} {a : Option Addr} {c n : Nat} {d : Nat → HD} {p : Nat → HP} (h : HOw w a c n d p) (hn : n ≤ 1048576) (hx : ∀ i, i < n → (d i).xs.length ≤ 1048576 ∧ (d i).bs.length ≤ 1048576 ∧ (d i).ws.length ≤ 1048576) : HR2 w a n d p :=
  ⟨by omega, owns_vrow' h.row (by rw [chunks_length (s := 8) n (fun i _ => rfl)]; omega), fun i hi => ⟨owns_row' (h.el i hi).1 (by have := hx i hi; omega), owns_vrow' (h.el i hi).2.1 (by have := hx i hi; rw [bv_length]; omega), owns_vrow' (h.el i hi).2.2 (by have := hx i hi; rw [wv_length]; omega)⟩⟩
theorem GO.gr {w : World} {a : Option Addr} {c n : Nat} {g : Nat → Int} (h : GO w a c n g) (hn : n ≤ 1048576) : GR w a n g := ⟨by omega, owns_vrow' h (by rw [chunks_length (s := 1) n (fun i _ => rfl)]; omega)⟩
theorem SO.sr {w : World} {a : Option Addr} {c n : Nat} {b : Nat → Int} {y : Nat → List Say} {p : Nat → Pl} {ms : Nat → List M} (h : SO w a c n b p ms) (hn : n ≤ 1048576) (he : ∀ i, i < n → (ms i).map M.say = y i) (hx : ∀ i, i < n → (ms i).length ≤ 1048577 ∧ ∀ m ∈ ms i, m.xs.length ≤ 1048577) : SR w a n b y p ms := by
  have hl : ∀ i, i < n → (ms i).length = (y i).length := fun i hi => by rw [← he i hi, List.length_map]
  refine ⟨by omega, ?_, fun i hi => ⟨(h.el i hi).mrow (hx i hi).1 (hx i hi).2, he i hi⟩⟩
  have h1 := owns_congr (g := fun i => scells (b i) (p i) (y i).length) h.row (fun i hi => by rw [hl i hi])
  exact owns_vrow' h1 (by rw [chunks_length (s := 2) n (fun i _ => rfl)]; omega)

/-- A node that is owned with all that it says; no two of its rows share memory. -/
structure NOw (w : World) (d : ND) (p : NP) : Prop where
  f : FO w p.f.1 p.f.2 d.nf d.f p.fp
  h : HOw w p.h.1 p.h.2 d.nh d.h p.hp
  o : SO w p.o.1 p.o.2 d.no d.b p.op p.ms
  i : GO w p.i.1 p.i.2 d.ni d.g
  e : ∀ i, i < d.no → (p.ms i).map M.say = d.y i
  fh : ∀ b, RS p.f.1 p.f.2 d.nf (fun i => QF (p.fp i)) b → ¬ RS p.h.1 p.h.2 d.nh (fun i => QH (p.hp i)) b
  fo : ∀ b, RS p.f.1 p.f.2 d.nf (fun i => QF (p.fp i)) b → ¬ RS p.o.1 p.o.2 d.no (fun i => QS (p.op i) (p.ms i)) b
  fi : ∀ b, RS p.f.1 p.f.2 d.nf (fun i => QF (p.fp i)) b → blk p.i ≠ some b
  ho : ∀ b, RS p.h.1 p.h.2 d.nh (fun i => QH (p.hp i)) b → ¬ RS p.o.1 p.o.2 d.no (fun i => QS (p.op i) (p.ms i)) b
  hi : ∀ b, RS p.h.1 p.h.2 d.nh (fun i => QH (p.hp i)) b → blk p.i ≠ some b
  oi : ∀ b, RS p.o.1 p.o.2 d.no (fun i => QS (p.op i) (p.ms i)) b → blk p.i ≠ some b
/-- All blocks of a node. -/
def NBs (d : ND) (p : NP) (b : Nat) : Prop := RS p.f.1 p.f.2 d.nf (fun i => QF (p.fp i)) b ∨ RS p.h.1 p.h.2 d.nh (fun i => QH (p.hp i)) b ∨ RS p.o.1 p.o.2 d.no (fun i => QS (p.op i) (p.ms i)) b ∨ blk p.i = some b
theorem GO.sm {w w' : World} {a : Option Addr} {c n : Nat} {g : Nat → Int} {P : Nat → Prop} (h : GO w a c n g) (k : Sm P w w') (hp : ∀ b, blk (a, c) = some b → P b) : GO w' a c n g := owns_sm h k (fun j hj => hp j (blk_eq hj))
theorem NOw.sm {w w' : World} {d : ND} {p : NP} (h : NOw w d p) (k : Sm (NBs d p) w w') : NOw w' d p :=
  ⟨h.f.sm (k.mono (fun b hb => .inl hb)), h.h.sm (k.mono (fun b hb => .inr (.inl hb))), h.o.sm (k.mono (fun b hb => .inr (.inr (.inl hb)))), h.i.sm k (fun b hb => .inr (.inr (.inr hb))), h.e, h.fh, h.fo, h.fi, h.ho, h.hi, h.oi⟩
theorem NOw.below {w w' : World} {d : ND} {p : NP} (h : NOw w d p) (b : Below w.heap.size w w') : NOw w' d p := h.sm (sm_bel b)
theorem GO.lt {w : World} {a : Option Addr} {c n : Nat} {g : Nat → Int} (h : GO w a c n g) {b : Nat} (hb : blk (a, c) = some b) : b < w.heap.size := by
  cases a with
  | none => simp [blk] at hb
  | some x => exact (World.ownsRow.lt h b (by simpa [Value.ownBlock, blk] using hb)).2
theorem NOw.lt {w : World} {d : ND} {p : NP} (h : NOw w d p) {b : Nat} (hb : NBs d p b) : b < w.heap.size := by
  rcases hb with hb | hb | hb | hb
  · exact Rw.slt h.f hb
  · exact Rw.slt h.h hb
  · exact Rw.slt h.o hb
  · exact GO.lt h.i hb
theorem NOw.nr {w : World} {d : ND} {p : NP} (h : NOw w d p) (s : Nsm d) : NR w d p := by
  refine ⟨h.f.fr s.f.1 s.f.2, h.h.hr s.h.1 s.h.2, h.o.sr s.o.1 h.e (fun i hi => ?_), h.i.gr s.i⟩
  have h1 := s.o.2 i hi
  have h2 := h.e i hi
  refine ⟨?_, fun m hm => ?_⟩
  · have := congrArg List.length h2
    rw [List.length_map] at this
    omega
  · have h3 : m.say ∈ d.y i := by rw [← h2]; exact List.mem_map_of_mem hm
    have := h1.2 _ h3
    simp only [M.say] at this
    omega
end Go.Proofs.Ytfeabhknkoifeaa
