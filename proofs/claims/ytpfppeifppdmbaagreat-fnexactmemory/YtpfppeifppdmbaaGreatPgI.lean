/- WtR and WtP and TrD and PgI: see the heads of the parts. -/
import Derived.Test.YtpfppeifppdmbaaGreatNdT3
import Derived.Test.YtpfppeifppdmbaaGreatWoS
/- Owned rows whose elements own memory besides, by the blocks of each. -/
namespace Go.Proofs.YtpfppeifppdmbaaGreat
open Go.RowKit
set_option linter.unusedVariables false

def EH (d : HD) (p : HP) (w : World) : Prop := w.ownsRow 0 3 1 (.slice p.l.1 d.xs.length p.l.2) d.xs.length (d.xs.map (Value.int .i64)) ∧ w.ownsRow 0 4 1 (.slice p.r.1 d.bs.length p.r.2) d.bs.length (bv d.bs) ∧ w.ownsRow 0 90 2 (.slice p.q.1 d.ws.length p.q.2) d.ws.length (wv d.ws)
def QH (p : HP) (b : Nat) : Prop := blk p.l = some b ∨ blk p.r = some b ∨ blk p.q = some b
def ES (p : Pl) (ms : List M) (w : World) : Prop := Deep w 0 p.1 p.2 ms
def QS (p : Pl) (ms : List M) (b : Nat) : Prop := blk p = some b ∨ ∃ m ∈ ms, m.v.ownBlock = some b

theorem fix_h (d : HD) (p : HP) : Fix (QH p) (EH d p) := fun w w' k h => ⟨owns_sm h.1 k (fun j hj => .inl (blk_eq hj)), owns_sm h.2.1 k (fun j hj => .inr (.inl (blk_eq hj))), owns_sm h.2.2 k (fun j hj => .inr (.inr (blk_eq hj)))⟩
theorem fix_s (p : Pl) (ms : List M) : Fix (QS p ms) (ES p ms) := fun w w' k h => ⟨owns_sm h.row k (fun j hj => .inl (blk_eq hj)), fun m hm => owns_sm (h.lists.1 m hm) k (fun j hj => .inr ⟨m, hm, hj⟩), h.lists.2⟩

def HOw (w : World) (a : Option Addr) (c n : Nat) (d : Nat → HD) (p : Nat → HP) : Prop := Rw w 93 8 a c n n (fun i => hcells (d i) (p i)) (fun i => QH (p i)) (fun i => EH (d i) (p i))
def SO (w : World) (a : Option Addr) (c n : Nat) (b : Nat → Int) (p : Nat → Pl) (ms : Nat → List M) : Prop := Rw w 115 2 a c n n (fun i => scells (b i) (p i) (ms i).length) (fun i => QS (p i) (ms i)) (fun i => ES (p i) (ms i))
def GO (w : World) (a : Option Addr) (c n : Nat) (g : Nat → Int) : Prop := w.ownsRow 0 118 1 (.slice a n c) n (chunks n fun i => gcells (g i))

theorem HOw.hr {w : World} {a : Option Addr} {c n : Nat} {d : Nat → HD} {p : Nat → HP} (h : HOw w a c n d p) (hn : n ≤ 1048576) (hx : ∀ i, i < n → (d i).xs.length ≤ 1048576 ∧ (d i).bs.length ≤ 1048576 ∧ (d i).ws.length ≤ 1048576) : HR2 w a n d p :=
  ⟨by omega, owns_vrow' h.row (by rw [chunks_length (s := 8) n (fun i _ => rfl)]; omega), fun i hi => ⟨owns_row' (h.el i hi).1 (by have := hx i hi; omega), owns_vrow' (h.el i hi).2.1 (by have := hx i hi; rw [bv_length]; omega), owns_vrow' (h.el i hi).2.2 (by have := hx i hi; rw [wv_length]; omega)⟩⟩
theorem GO.gr {w : World} {a : Option Addr} {c n : Nat} {g : Nat → Int} (h : GO w a c n g) (hn : n ≤ 1048576) : GR w a n g := ⟨by omega, owns_vrow' h (by rw [chunks_length (s := 1) n (fun i _ => rfl)]; omega)⟩
theorem SO.sr {w : World} {a : Option Addr} {c n : Nat} {b : Nat → Int} {y : Nat → List Say} {p : Nat → Pl} {ms : Nat → List M} (h : SO w a c n b p ms) (hn : n ≤ 1048576) (he : ∀ i, i < n → (ms i).map M.say = y i) (hx : ∀ i, i < n → (ms i).length ≤ 1048577 ∧ ∀ m ∈ ms i, m.xs.length ≤ 1048577) : SR w a n b y p ms := by
  have hl : ∀ i, i < n → (ms i).length = (y i).length := fun i hi => by rw [← he i hi, List.length_map]
  refine ⟨by omega, ?_, fun i hi => ⟨(h.el i hi).mrow (hx i hi).1 (hx i hi).2, he i hi⟩⟩
  have h1 := owns_congr (g := fun i => scells (b i) (p i) (y i).length) h.row (fun i hi => by rw [hl i hi])
  exact owns_vrow' h1 (by rw [chunks_length (s := 2) n (fun i _ => rfl)]; omega)

/-- A node that is owned with all that it says; no two of its rows share memory. -/
structure NOw (w : World) (d : ND) (p : NP) : Prop where
  f : FO w p.f.1 p.f.2 d.nf d.f p.fp
  h : HOw w p.h.1 p.h.2 d.nh d.h p.hp
  o : SO w p.o.1 p.o.2 d.no d.b p.op p.ms
  i : GO w p.i.1 p.i.2 d.ni d.g
  e : ∀ i, i < d.no → (p.ms i).map M.say = d.y i
  fh : ∀ b, RS p.f.1 p.f.2 d.nf (fun i => QF (p.fp i)) b → ¬ RS p.h.1 p.h.2 d.nh (fun i => QH (p.hp i)) b
  fo : ∀ b, RS p.f.1 p.f.2 d.nf (fun i => QF (p.fp i)) b → ¬ RS p.o.1 p.o.2 d.no (fun i => QS (p.op i) (p.ms i)) b
  fi : ∀ b, RS p.f.1 p.f.2 d.nf (fun i => QF (p.fp i)) b → blk p.i ≠ some b
  ho : ∀ b, RS p.h.1 p.h.2 d.nh (fun i => QH (p.hp i)) b → ¬ RS p.o.1 p.o.2 d.no (fun i => QS (p.op i) (p.ms i)) b
  hi : ∀ b, RS p.h.1 p.h.2 d.nh (fun i => QH (p.hp i)) b → blk p.i ≠ some b
  oi : ∀ b, RS p.o.1 p.o.2 d.no (fun i => QS (p.op i) (p.ms i)) b → blk p.i ≠ some b
/-- All blocks of a node. -/
def NBs (d : ND) (p : NP) (b : Nat) : Prop := RS p.f.1 p.f.2 d.nf (fun i => QF (p.fp i)) b ∨ RS p.h.1 p.h.2 d.nh (fun i => QH (p.hp i)) b ∨ RS p.o.1 p.o.2 d.no (fun i => QS (p.op i) (p.ms i)) b ∨ blk p.i = some b
theorem GO.sm {w w' : World} {a : Option Addr} {c n : Nat} {g : Nat → Int} {P : Nat → Prop} (h : GO w a c n g) (k : Sm P w w') (hp : ∀ b, blk (a, c) = some b → P b) : GO w' a c n g := owns_sm h k (fun j hj => hp j (blk_eq hj))
theorem NOw.sm {w w' : World} {d : ND} {p : NP} (h : NOw w d p) (k : Sm (NBs d p) w w') : NOw w' d p :=
  ⟨h.f.sm (k.mono (fun b hb => .inl hb)), h.h.sm (k.mono (fun b hb => .inr (.inl hb))), h.o.sm (k.mono (fun b hb => .inr (.inr (.inl hb)))), h.i.sm k (fun b hb => .inr (.inr (.inr hb))), h.e, h.fh, h.fo, h.fi, h.ho, h.hi, h.oi⟩
theorem NOw.below {w w' : World} {d : ND} {p : NP} (h : NOw w d p) (b : Below w.heap.size w w') : NOw w' d p := h.sm (sm_bel b)
theorem GO.lt {w : World} {a : Option Addr} {c n : Nat} {g : Nat → Int} (h : GO w a c n g) {b : Nat} (hb : blk (a, c) = some b) : b < w.heap.size := by
  cases a with
  | none => simp [blk] at hb
  | some x => exact (World.ownsRow.lt h b (by simpa [Value.ownBlock, blk] using hb)).2
theorem NOw.lt {w : World} {d : ND} {p : NP} (h : NOw w d p) {b : Nat} (hb : NBs d p b) : b < w.heap.size := by
  rcases hb with hb | hb | hb | hb
  · exact Rw.slt h.f hb
  · exact Rw.slt h.h hb
  · exact Rw.slt h.o hb
  · exact GO.lt h.i hb
theorem NOw.nr {w : World} {d : ND} {p : NP} (h : NOw w d p) (s : Nsm d) : NR w d p := by
  refine ⟨h.f.fr s.f.1 s.f.2, h.h.hr s.h.1 s.h.2, h.o.sr s.o.1 h.e (fun i hi => ?_), h.i.gr s.i⟩
  have h1 := s.o.2 i hi
  have h2 := h.e i hi
  refine ⟨?_, fun m hm => ?_⟩
  · have := congrArg List.length h2
    rw [List.length_map] at this
    omega
  · have h3 : m.say ∈ d.y i := by rw [← h2]; exact List.mem_map_of_mem hm
    have := h1.2 _ h3
    simp only [M.say] at this
    omega
end Go.Proofs.YtpfppeifppdmbaaGreat

/- An element is laid into a row: a frame, a home, a sender; what the law's toFrameS, toHomeS, toSenderS, toReceiverS lay. -/
namespace Go.Proofs.YtpfppeifppdmbaaGreat
open Go.RowKit
set_option linter.unusedVariables false

abbrev HTw (w : World) (lo : Nat) (a : Option Addr) (c n k : Nat) (d : Nat → HD) (p : Nat → HP) (z : Nat → List Value) : Prop := Tw w lo 93 8 a c n k (fun i => hcells (d i) (p i)) z (fun i => QH (p i)) (fun i => EH (d i) (p i))
abbrev STw (w : World) (lo : Nat) (a : Option Addr) (c n k : Nat) (b : Nat → Int) (p : Nat → Pl) (ms : Nat → List M) (z : Nat → List Value) : Prop := Tw w lo 115 2 a c n k (fun i => scells (b i) (p i) (ms i).length) z (fun i => QS (p i) (ms i)) (fun i => ES (p i) (ms i))


theorem home_put {w w2 : World} {lo g c n k : Nat} {d : Nat → HD} {p : Nat → HP} {z : Nat → List Value} (h : HTw w lo (some ⟨g, 0, none⟩) c n k d p z) (hz : ∀ i, i < n → (z i).length = 8) (hk : k < n) (b : Below w.heap.size w w2) (hlo : lo ≤ w.heap.size) {al ar aq : Option Addr} {cl cr cq : Nat} (o2 : w2.ownsRow w.heap.size 3 1 (.slice al (d k).xs.length cl) (d k).xs.length ((d k).xs.map (Value.int .i64)))
    (o3 : w2.ownsRow w.heap.size 4 1 (.slice ar (d k).bs.length cr) (d k).bs.length (bv (d k).bs)) (o4 : w2.ownsRow w.heap.size 90 2 (.slice aq (d k).ws.length cq) (d k).ws.length (wv (d k).ws)) :
    HTw ((((((((w2.setCell ⟨g, k * 8, none⟩ (.slice al (d k).xs.length cl)).setCell ⟨g, k * 8 + 1, none⟩ (.int .i64 (d k).ow)).setCell ⟨g, k * 8 + 2, none⟩ (.slice ar (d k).bs.length cr)).setCell ⟨g, k * 8 + 3, none⟩ (.bool (d k).bz)).setCell ⟨g, k * 8 + 4, none⟩ (.int .i64 (d k).wh)).setCell ⟨g, k * 8 + 5, none⟩ (.bool (d k).wo)).setCell ⟨g, k * 8 + 6, none⟩ (.int .i64 (d k).ak)).setCell ⟨g, k * 8 + 7, none⟩ (.slice aq (d k).ws.length cq)) lo (some ⟨g, 0, none⟩) c n (k + 1) d (fun i => if i = k then ⟨(al, cl), (ar, cr), (aq, cq)⟩ else p i) z := by
  have hr := owns_below h.r.row b
  have hf : ∀ i, i < n → ((fun i => if i < k then hcells (d i) (p i) else z i) i).length = 8 := fun i hi => by dsimp only; split; rfl; exact hz i hi
  have hs := store8 hr hf hk (.slice al (d k).xs.length cl) (.int .i64 (d k).ow) (.slice ar (d k).bs.length cr) (.bool (d k).bz) (.int .i64 (d k).wh) (.bool (d k).wo) (.int .i64 (d k).ak) (.slice aq (d k).ws.length cq)
  have on : Only w2 ((((((((w2.setCell ⟨g, k * 8, none⟩ (.slice al (d k).xs.length cl)).setCell ⟨g, k * 8 + 1, none⟩ (.int .i64 (d k).ow)).setCell ⟨g, k * 8 + 2, none⟩ (.slice ar (d k).bs.length cr)).setCell ⟨g, k * 8 + 3, none⟩ (.bool (d k).bz)).setCell ⟨g, k * 8 + 4, none⟩ (.int .i64 (d k).wh)).setCell ⟨g, k * 8 + 5, none⟩ (.bool (d k).wo)).setCell ⟨g, k * 8 + 6, none⟩ (.int .i64 (d k).ak)).setCell ⟨g, k * 8 + 7, none⟩ (.slice aq (d k).ws.length cq)) (fun b => b = g) :=
    ((((((((Only.refl w2 (fun b => b = g)).setCell ⟨g, k * 8, none⟩ _ rfl).setCell ⟨g, k * 8 + 1, none⟩ _ rfl).setCell ⟨g, k * 8 + 2, none⟩ _ rfl).setCell ⟨g, k * 8 + 3, none⟩ _ rfl).setCell ⟨g, k * 8 + 4, none⟩ _ rfl).setCell ⟨g, k * 8 + 5, none⟩ _ rfl).setCell ⟨g, k * 8 + 6, none⟩ _ rfl).setCell ⟨g, k * 8 + 7, none⟩ _ rfl
  refine (h.step b hlo on hs (E' := EH (d k) ⟨(al, cl), (ar, cr), (aq, cq)⟩) ⟨owns_base o2 (Nat.zero_le _), owns_base o3 (Nat.zero_le _), owns_base o4 (Nat.zero_le _)⟩ (fix_h _ _) (fun x hx => ?_)).congr (fun i hi => ?_) (fun i hi => ?_) (fun i hi => ?_)
  · rcases hx with hx | hx | hx
    · exact o2.lt x (blk_own hx)
    · exact o3.lt x (blk_own hx)
    · exact o4.lt x (blk_own hx)
  all_goals
    by_cases e : i = k
    · subst e; simp [hcells]
    · simp [e]

theorem sender_put {w w2 : World} {lo g c n k : Nat} {b : Nat → Int} {p : Nat → Pl} {ms : Nat → List M} {z : Nat → List Value} (h : STw w lo (some ⟨g, 0, none⟩) c n k b p ms z) (hz : ∀ i, i < n → (z i).length = 2) (hk : k < n) (bb : Below w.heap.size w w2) (hlo : lo ≤ w.heap.size) {a2 : Option Addr} {c2 l2 : Nat} {ds : List M} (o2 : Deep w2 w.heap.size a2 c2 ds) (hl : ds.length = l2) :
    STw ((w2.setCell ⟨g, k * 2, none⟩ (.int .i64 (b k))).setCell ⟨g, k * 2 + 1, none⟩ (.slice a2 l2 c2)) lo (some ⟨g, 0, none⟩) c n (k + 1) b (fun i => if i = k then (a2, c2) else p i) (fun i => if i = k then ds else ms i) z := by
  subst hl
  have hr := owns_below h.r.row bb
  have hf : ∀ i, i < n → ((fun i => if i < k then scells (b i) (p i) (ms i).length else z i) i).length = 2 := fun i hi => by dsimp only; split; rfl; exact hz i hi
  have hs := store2 hr hf hk (.int .i64 (b k)) (.slice a2 ds.length c2)
  have on : Only w2 ((w2.setCell ⟨g, k * 2, none⟩ (.int .i64 (b k))).setCell ⟨g, k * 2 + 1, none⟩ (.slice a2 ds.length c2)) (fun b => b = g) := ((Only.refl w2 (fun b => b = g)).setCell ⟨g, k * 2, none⟩ _ rfl).setCell ⟨g, k * 2 + 1, none⟩ _ rfl
  refine (h.step bb hlo on hs (E' := ES (a2, c2) ds) (Q' := QS (a2, c2) ds) ⟨owns_base o2.row (Nat.zero_le _), o2.lists.base (Nat.zero_le _)⟩ (fix_s _ _) (fun x hx => ?_)).congr (fun i hi => ?_) (fun i hi => ?_) (fun i hi => ?_)
  · rcases hx with hx | ⟨m, hm, hx⟩
    · exact o2.row.lt x (blk_own hx)
    · exact o2.lists.lt hm hx
  all_goals
    by_cases e : i = k
    · subst e; simp [scells]
    · simp [e]
end Go.Proofs.YtpfppeifppdmbaaGreat

/- What is coming and what is true, of what a world says; what a right world is. -/
namespace Go.Proofs.YtpfppeifppdmbaaGreat
open Go.RowKit
set_option linter.unusedVariables false

/-- What a right world is. -/
structure WOk (d : WoD) : Prop where
  n : d.size = (d.nn : Int) ∧ 1 ≤ d.nn ∧ d.nn ≤ 4
  k : d.nk ≤ 40
  c : ∀ i, i < d.nn → (d.d i).nf = 6 ∧ (d.d i).nh = 6 ∧ (d.d i).no = d.nn ∧ (d.d i).ni = d.nn
  f : ∀ i, i < d.nn → ∀ p, p < 6 → frB ((d.d i).f p) = true
  h : ∀ i, i < d.nn → ∀ p, p < 6 → hoB (d.nn : Int) ((d.d i).h p) = true
  o : ∀ i, i < d.nn → ∀ j, j < d.nn → sB ((d.d i).b j) ((d.d i).y j) = true
  g : ∀ i, i < d.nn → ∀ j, j < d.nn → 0 ≤ (d.d i).g j ∧ (d.d i).g j ≤ 100000
theorem nodeOk_parts {d : ND} {nodes : Int} (h : nodeOkB d nodes = true) : d.nf = 6 ∧ d.nh = 6 ∧ (d.no : Int) = nodes ∧ (d.ni : Int) = nodes ∧ allB d.nf (fun i => frB (d.f i)) = true ∧ allB d.nh (fun i => hoB nodes (d.h i)) = true ∧ allB d.no (fun i => sB (d.b i) (d.y i)) = true ∧ allB d.ni (fun i => inB (d.g i) 0 100000) = true := by
  unfold nodeOkB at h
  simp only [Bool.and_eq_true, decide_eq_true_eq] at h
  obtain ⟨_, h1, h2, h3, h4, h5, h6, h7, h8⟩ := h
  exact ⟨h1, h2, h3, h4, h5, h6, h7, h8⟩
theorem WOk.of {d : WoD} (h : worldB d = true) : WOk d := by
  unfold worldB at h
  simp only [Bool.and_eq_true, decide_eq_true_eq] at h
  obtain ⟨h1, h2, h3, h4, h5⟩ := h
  have hn : 1 ≤ d.nn ∧ d.nn ≤ 4 := by
    have : 1 ≤ d.size ∧ d.size ≤ 4 := by simpa [inB] using h1
    omega
  have hp : ∀ i, i < d.nn → _ := fun i hi => nodeOk_parts (d := d.d i) (nodes := d.size) (by
    have := allB_at h4 hi
    simp only [Bool.and_eq_true] at this
    exact this.1)
  refine ⟨⟨h2.symm, hn⟩, h3, fun i hi => ?_, fun i hi p hp' => ?_, fun i hi p hp' => ?_, fun i hi j hj => ?_, fun i hi j hj => ?_⟩
  · obtain ⟨a1, a2, a3, a4, _⟩ := hp i hi
    exact ⟨a1, a2, by omega, by omega⟩
  · obtain ⟨a1, a2, a3, a4, a5, _⟩ := hp i hi
    exact allB_at a5 (by omega)
  · obtain ⟨a1, a2, a3, a4, a5, a6, _⟩ := hp i hi
    have := allB_at a6 (i := p) (by omega)
    rw [← h2] at this
    exact this
  · obtain ⟨a1, a2, a3, a4, a5, a6, a7, _⟩ := hp i hi
    exact allB_at a7 (i := j) (by omega)
  · obtain ⟨a1, a2, a3, a4, a5, a6, a7, a8⟩ := hp i hi
    have := allB_at a8 (i := j) (by omega)
    simpa [inB] using this
theorem sB_parts {b : Int} {y : List Say} (h : sB b y = true) : (0 ≤ b ∧ b ≤ 100000) ∧ y.length ≤ 30 ∧ b + y.length ≤ 100000 ∧ ∀ s ∈ y, okS s = true := by
  unfold sB at h
  simp only [Bool.and_eq_true, decide_eq_true_eq, List.all_eq_true] at h
  exact ⟨h.1, h.2.1, h.2.2.1, h.2.2.2⟩
theorem okS_len {s : Say} (h : okS s = true) : s.2.2.2.length ≤ 4 ∧ (s.1 = 3 ∨ s.1 = 7 → s.2.2.2.length = 4) := by
  unfold okS msgOkB wordsB at h
  simp only [Bool.and_eq_true, beq_iff_eq] at h
  obtain ⟨_, _, h2⟩ := h
  split at h2
  · exact ⟨by omega, fun _ => by omega⟩
  · rename_i hk
    refine ⟨by omega, fun hs => ?_⟩
    simp only [Bool.or_eq_true, beq_iff_eq] at hk
    exact absurd hs hk
theorem hoB_parts {n : Int} {d : HD} (h : hoB n d = true) : d.xs.length = 4 ∧ -1 ≤ d.ow ∧ d.ow < n := by
  unfold hoB homeB wordsB inB at h
  simp only [Bool.and_eq_true, beq_iff_eq, decide_eq_true_eq] at h
  obtain ⟨_, ⟨_, h2⟩, ⟨h3, h4⟩, _⟩ := h
  exact ⟨by omega, h3, by omega⟩
theorem frB_parts {d : FD} (h : frB d = true) : (d.s = 0 ∧ d.xs.length = 0) ∨ (d.s ≠ 0 ∧ d.xs.length = 4) := by
  unfold frB frameOkB wordsB at h
  by_cases e : d.s = 0
  · rw [e] at h
    simp at h
    exact .inl ⟨e, by rw [h]; rfl⟩
  · have e2 : (d.s == 0) = false := by simpa using e
    rw [e2] at h
    simp only [Bool.and_eq_true, beq_iff_eq, Bool.false_eq_true, if_false] at h
    exact .inr ⟨e, by omega⟩

/-- What is coming. -/
def comY (base got : Int) (y : List Say) : List Say := y.drop (got - base).toNat
def comD (d : WoD) (f t : Nat) : List Say := comY ((d.d f).b t) ((d.d t).g f) ((d.d f).y t)
/-- The words of the last message of a kind of a page. -/
def isL (kind page : Int) (s : Say) : Bool := s.1 == kind && (s.2.1 == page && (s.2.2.1 || kind == 7))
def lastY (kind page : Int) (l : List Say) : List Int := l.foldl (fun acc s => if isL kind page s then s.2.2.2 else acc) []
theorem lastY_snoc (kind page : Int) (l : List Say) (s : Say) : lastY kind page (l ++ [s]) = if isL kind page s then s.2.2.2 else lastY kind page l := by simp [lastY]
theorem lastY_len (kind page : Int) {l : List Say} (h : ∀ s ∈ l, okS s = true) : (lastY kind page l).length ≤ 4 := by
  have key : ∀ (l : List Say) (acc : List Int), (∀ s ∈ l, okS s = true) → acc.length ≤ 4 → (l.foldl (fun acc s => if isL kind page s then s.2.2.2 else acc) acc).length ≤ 4 := by
    intro l
    induction l with
    | nil => intro acc _ ha; exact ha
    | cons s l ih =>
      intro acc hs ha
      rw [List.foldl_cons]
      refine ih _ (fun x hx => hs x (List.mem_cons_of_mem _ hx)) ?_
      split
      · exact (okS_len (hs s (List.mem_cons_self ..))).1
      · exact ha
  exact key l [] h (by simp)
/-- The words of a page. -/
def truthL (d : WoD) (page : Nat) : List Int :=
  if ((d.d (page % d.nn)).h page).ow < 0 then ((d.d (page % d.nn)).h page).xs
  else if ((d.d ((d.d (page % d.nn)).h page).ow.toNat).f page).s = 2 then ((d.d ((d.d (page % d.nn)).h page).ow.toNat).f page).xs
  else if (lastY 3 page (comD d (page % d.nn) ((d.d (page % d.nn)).h page).ow.toNat)).length = 0 then lastY 7 page (comD d ((d.d (page % d.nn)).h page).ow.toNat (page % d.nn))
  else lastY 3 page (comD d (page % d.nn) ((d.d (page % d.nn)).h page).ow.toNat)
def bit (b : Bool) : Nat := if b then 1 else 0
def haveN (d : WoD) (page k : Nat) : Nat := sumN (fun i => bit (((d.d i).f page).s != 0)) k
def writeN (d : WoD) (page k : Nat) : Nat := sumN (fun i => bit (((d.d i).f page).s == 2)) k
def aloneB (d : WoD) (page : Nat) : Bool := writeN d page d.nn == 0 || (writeN d page d.nn == 1 && haveN d page d.nn == 1)
def saneP (d : WoD) (page : Nat) : Bool := aloneB d page && (decide ((truthL d page).length = 4) && allB d.nn (fun i => ((d.d i).f page).s == 0 || decide (((d.d i).f page).xs = truthL d page)))
def sentB (d : WoD) (i k : Nat) : Bool := decide ((d.d i).g k ≤ (d.d k).b i + ((d.d k).y i).length)
def saneB (d : WoD) : Bool := allB 6 (fun p => saneP d p) && allB d.nn (fun i => allB d.nn (fun k => sentB d i k))
theorem bit_le (b : Bool) : bit b ≤ 1 := by unfold bit; split <;> omega
theorem haveN_le (d : WoD) (page k : Nat) : haveN d page k ≤ k ∧ writeN d page k ≤ k := by
  unfold haveN writeN
  refine ⟨?_, ?_⟩
  · have := sumN_le (c := fun i => bit (((d.d i).f page).s != 0)) (C := 1) (j := k) (fun i _ => bit_le _)
    omega
  · have := sumN_le (c := fun i => bit (((d.d i).f page).s == 2)) (C := 1) (j := k) (fun i _ => bit_le _)
    omega
end Go.Proofs.YtpfppeifppdmbaaGreat

/- What impl.isPage answers. -/
namespace Go.Proofs.YtpfppeifppdmbaaGreat
open Go.RowKit
set_option linter.unusedVariables false

set_option maxHeartbeats 400000 in
theorem isPage_v (x : Int) (w : World) :
    Calls Tryz.prog 31 #[.int .i64 x] w fun e w' => e = .returned (.bool (inB x 0 5)) ∧ w' = w := by
  by_cases h0 : 0 ≤ x
  · by_cases h1 : x ≤ 5
    · have hd : inB x 0 5 = true := by simp [inB, h0, h1]
      rw [hd]
      have h1' : x < 6 := by omega
      go_enter Tryz.func31, Tryz.ntmps31
      go_wp2
      go_ret
      exact ⟨rfl, rfl⟩
    · have hd : inB x 0 5 = false := by simp [inB, h1]
      rw [hd]
      have h1' : 6 ≤ x := by omega
      go_enter Tryz.func31, Tryz.ntmps31
      go_wp2
      go_ret
      exact ⟨ret_bool (by simp; omega), rfl⟩
  · have hd : inB x 0 5 = false := by simp [inB, h0]
    rw [hd]
    have h0' : x < 0 := by omega
    go_enter Tryz.func31, Tryz.ntmps31
    go_wp2
    go_ret
    exact ⟨rfl, rfl⟩

end Go.Proofs.YtpfppeifppdmbaaGreat
