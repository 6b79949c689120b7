/- What the law's toHomeS, toSenderS, toReceiverS and toNode do, as a reader is told of it. -/
import Derived.Test.YtnhbilhkmbkibaaNdT
namespace Go.Proofs.Ytnhbilhkmbkibaa
open Go.RowKit
set_option linter.unusedVariables false

/-- A row of homes that is laid as far as place k, each with its rows. -/
structure HT (w : World) (lo g n k : Nat) (d : Nat → HD) (p : Nat → HP) : Prop where
  row : w.ownsRow lo 50 8 (.slice (some ⟨g, 0, none⟩) n n) n (chunks n fun i => if i < k then hcells (d i) (p i) else [.slice none 0 0, .int .i64 0, .slice none 0 0, .bool false, .int .i64 0, .bool false, .int .i64 0, .slice none 0 0])
  l : ∀ i, i < k → w.ownsRow lo 3 1 (.slice (p i).l.1 (d i).xs.length (p i).l.2) (d i).xs.length ((d i).xs.map (Value.int .i64))
  r : ∀ i, i < k → w.ownsRow lo 4 1 (.slice (p i).r.1 (d i).bs.length (p i).r.2) (d i).bs.length (bv (d i).bs)
  q : ∀ i, i < k → w.ownsRow lo 47 2 (.slice (p i).q.1 (d i).ws.length (p i).q.2) (d i).ws.length (wv (d i).ws)
theorem HT.step {w w2 : World} {lo g n k : Nat} {d : Nat → HD} {p : Nat → HP} (h : HT w lo g n k d p) (hk : k < n) (b : Below w.heap.size w w2) (hlo : lo ≤ w.heap.size) {al ar aq : Option Addr} {cl cr cq : Nat} (o2 : w2.ownsRow w.heap.size 3 1 (.slice al (d k).xs.length cl) (d k).xs.length ((d k).xs.map (Value.int .i64)))
    (r2 : w2.ownsRow w.heap.size 4 1 (.slice ar (d k).bs.length cr) (d k).bs.length (bv (d k).bs)) (q2 : w2.ownsRow w.heap.size 47 2 (.slice aq (d k).ws.length cq) (d k).ws.length (wv (d k).ws)) :
    HT (W8 w2 g (k * 8) (.slice al (d k).xs.length cl) (.int .i64 (d k).ow) (.slice ar (d k).bs.length cr) (.bool (d k).bz) (.int .i64 (d k).wh) (.bool (d k).wo) (.int .i64 (d k).ak) (.slice aq (d k).ws.length cq)) lo g n (k + 1) d (fun i => if i = k then ⟨(al, cl), (ar, cr), (aq, cq)⟩ else p i) := by
  have hr := owns_below h.row b
  have hf : ∀ i, i < n → ((fun i => if i < k then hcells (d i) (p i) else [.slice none 0 0, .int .i64 0, .slice none 0 0, .bool false, .int .i64 0, .bool false, .int .i64 0, .slice none 0 0]) i).length = 8 := fun i _ => by dsimp only; split <;> rfl
  have hs := store8 hr hf hk (.slice al (d k).xs.length cl) (.int .i64 (d k).ow) (.slice ar (d k).bs.length cr) (.bool (d k).bz) (.int .i64 (d k).wh) (.bool (d k).wo) (.int .i64 (d k).ak) (.slice aq (d k).ws.length cq)
  refine ⟨owns_congr hs (far_step (fun i hi => by rw [if_neg (by omega)]) (by simp [hcells])), fun i hi => ?_, fun i hi => ?_, fun i hi => ?_⟩
  · by_cases e : i = k
    · subst e
      simp only [if_pos]
      exact w8_owns (owns_base o2 hlo) (far_ne hr o2 (by decide)) _ _ _ _ _ _ _ _
    · simp only [if_neg e]
      have h0 := owns_below (h.l i (by omega)) b
      exact w8_owns h0 (far_ne hr h0 (by decide)) _ _ _ _ _ _ _ _
  · by_cases e : i = k
    · subst e
      simp only [if_pos]
      exact w8_owns (owns_base r2 hlo) (far_ne hr r2 (by decide)) _ _ _ _ _ _ _ _
    · simp only [if_neg e]
      have h0 := owns_below (h.r i (by omega)) b
      exact w8_owns h0 (far_ne hr h0 (by decide)) _ _ _ _ _ _ _ _
  · by_cases e : i = k
    · subst e
      simp only [if_pos]
      exact w8_owns (owns_base q2 hlo) (far_ne hr q2 (by decide)) _ _ _ _ _ _ _ _
    · simp only [if_neg e]
      have h0 := owns_below (h.q i (by omega)) b
      exact w8_owns h0 (far_ne hr h0 (by decide)) _ _ _ _ _ _ _ _
theorem HT.hr {w : World} {lo g n : Nat} {d : Nat → HD} {p : Nat → HP} (h : HT w lo g n n d p) (hn : n ≤ 1048576) (hx : ∀ i, i < n → (d i).xs.length ≤ 1048576 ∧ (d i).bs.length ≤ 1048576 ∧ (d i).ws.length ≤ 1048576) : HR2 w (some ⟨g, 0, none⟩) n d p := by
  refine ⟨by omega, ?_, fun i hi => ⟨owns_row' (h.l i hi) (by have := hx i hi; omega), owns_vrow' (h.r i hi) (by rw [bv_length]; have := hx i hi; omega), owns_vrow' (h.q i hi) (by rw [wv_length]; have := hx i hi; omega)⟩⟩
  have h1 := owns_congr (g := fun i => hcells (d i) (p i)) h.row (fun i hi => by rw [if_pos hi])
  exact owns_vrow' h1 (by rw [chunks_length (s := 8) n (fun i _ => rfl)]; omega)

theorem HT.ab {w w' : World} {lo g n k : Nat} {d : Nat → HD} {p : Nat → HP} (h : HT w lo g n k d p) (b : Ab lo w w') : HT w' lo g n k d p := ⟨owns_ab h.row b, fun i hi => owns_ab (h.l i hi) b, fun i hi => owns_ab (h.r i hi) b, fun i hi => owns_ab (h.q i hi) b⟩


/-- A row of senders that is laid as far as place k, each with what it queues. -/
structure ST (w : World) (lo g n k : Nat) (b : Nat → Int) (y : Nat → List Say) (p : Nat → Pl) (ms : Nat → List M) : Prop where
  row : w.ownsRow lo 75 2 (.slice (some ⟨g, 0, none⟩) n n) n (chunks n fun i => if i < k then scells (b i) (p i) (y i).length else s0 0)
  l : ∀ i, i < k → Deep w lo (p i).1 (p i).2 (ms i)
  e : ∀ i, i < k → (ms i).map M.say = y i
theorem Deep.set {w : World} {lo : Nat} {a : Option Addr} {c : Nat} {ms : List M} (h : Deep w lo a c ms) {g t : Nat} {u : Value} {lo2 n2 c2 : Nat} {xs : List Value} (o : w.ownsRow lo2 75 2 (.slice (some ⟨g, 0, none⟩) n2 c2) n2 xs) : Deep (w.setCell ⟨g, t, none⟩ u) lo a c ms :=
  ⟨owns_setCell h.row (far_ne o h.row (by decide)) u, h.lists.far _ _ (fun m hm j hj => far_ne o (h.lists.1 m hm) (by decide) j hj)⟩
theorem ST.step {w w2 : World} {lo g n k : Nat} {b : Nat → Int} {y : Nat → List Say} {p : Nat → Pl} {ms : Nat → List M} (h : ST w lo g n k b y p ms) (hk : k < n) (bb : Below w.heap.size w w2) (hlo : lo ≤ w.heap.size) {a2 : Option Addr} {c2 : Nat} {ds : List M} (o2 : Deep w2 w.heap.size a2 c2 ds) (he : ds.map M.say = y k) :
    ST ((w2.setCell ⟨g, k * 2, none⟩ (.int .i64 (b k))).setCell ⟨g, k * 2 + 1, none⟩ (.slice a2 (y k).length c2)) lo g n (k + 1) b y (fun i => if i = k then (a2, c2) else p i) (fun i => if i = k then ds else ms i) := by
  have hr := owns_below h.row bb
  have hf : ∀ i, i < n → ((fun i => if i < k then scells (b i) (p i) (y i).length else s0 0) i).length = 2 := fun i _ => by dsimp only; split <;> rfl
  have hs := store2 hr hf hk (.int .i64 (b k)) (.slice a2 (y k).length c2)
  have hs1 := (hr.stored (k * 2) (.int .i64 (b k))).1
  refine ⟨owns_congr hs (far_step (fun i hi => by rw [if_neg (by omega)]) (by simp [scells])), fun i hi => ?_, fun i hi => ?_⟩
  · by_cases e : i = k
    · subst e
      simp only [if_pos]
      have h0 : Deep w2 lo a2 c2 ds := ⟨owns_base o2.row hlo, o2.lists.base hlo⟩
      exact Deep.set (Deep.set h0 hr) hs1
    · simp only [if_neg e]
      exact Deep.set (Deep.set ((h.l i (by omega)).below bb) hr) hs1
  · by_cases e : i = k
    · subst e
      simp only [if_pos]
      exact he
    · simp only [if_neg e]
      exact h.e i (by omega)
theorem ST.sr {w : World} {lo g n : Nat} {b : Nat → Int} {y : Nat → List Say} {p : Nat → Pl} {ms : Nat → List M} (h : ST w lo g n n b y p ms) (hn : n ≤ 1048576) (hx : ∀ i, i < n → (y i).length ≤ 1048576 ∧ ∀ s ∈ y i, s.2.2.2.length ≤ 1048576) : SR w (some ⟨g, 0, none⟩) n b y p ms := by
  refine ⟨by omega, ?_, fun i hi => ⟨(h.l i hi).mrow ?_ ?_, h.e i hi⟩⟩
  · have h1 := owns_congr (g := fun i => scells (b i) (p i) (y i).length) h.row (fun i hi => by rw [if_pos hi])
    exact owns_vrow' h1 (by rw [chunks_length (s := 2) n (fun i _ => rfl)]; omega)
  · have h1 := congrArg List.length (h.e i hi)
    have := hx i hi
    simp at h1
    omega
  · intro m hm
    have h1 : m.say ∈ y i := by rw [← h.e i hi]; exact List.mem_map_of_mem hm
    have := (hx i hi).2 _ h1
    simp [M.say] at this
    omega

theorem ST.ab {w w' : World} {lo g n k : Nat} {b : Nat → Int} {y : Nat → List Say} {p : Nat → Pl} {ms : Nat → List M} (h : ST w lo g n k b y p ms) (bb : Ab lo w w') : ST w' lo g n k b y p ms := ⟨owns_ab h.row bb, fun i hi => ⟨owns_ab (h.l i hi).row bb, fun m hm => owns_ab ((h.l i hi).lists.1 m hm) bb, (h.l i hi).lists.2⟩, h.e⟩

end Go.Proofs.Ytnhbilhkmbkibaa
