/- Kp and KpT and Sp: see the heads of the parts. -/
import Derived.Test.YtliihkdocbpolaaHomT
import Derived.Test.YtliihkdocbpolaaInO
import Derived.Maps.OwnSet
import Derived.Maps.RangeWalk
import Derived.Deep.AppendLies
import Derived.Deep.RegionHeld3
import Derived.Deep.RegionLaw
import Derived.BigRegion
import Derived.Test.YtliihkdocbpolaaDeep
/- A home at work (impl's keeper): where it lies, and what stays while it works. -/
namespace Go.Proofs.Ytliihkdocbpolaa
open Go.RowKit
set_option linter.unusedVariables false

/-- What a home at work holds. -/
structure KS where
  pg : Int
  nd : Nat
  x0 : Int
  x1 : Int
  x2 : Int
  x3 : Int
  ow : Int
  rd : List Bool
  bz : Bool
  wh : Int
  wo : Bool
  ak : Int
  ws : List (Int × Bool)
  ts : List (Int × M)

/-- What is told, as cells. -/
def tcells (t : Int × M) : List Value := [.int .i64 t.1, .int .i64 t.2.k, .int .i64 t.2.p, .bool t.2.o, t.2.v]
def tflat (ts : List (Int × M)) : List Value := ts.flatMap tcells
theorem tflat_cons (m : Int × M) (ms : List (Int × M)) : tflat (m :: ms) = tcells m ++ tflat ms := rfl
theorem tflat_append (xs ys : List (Int × M)) : tflat (xs ++ ys) = tflat xs ++ tflat ys := by simp [tflat]
theorem tflat_length (ms : List (Int × M)) : (tflat ms).length = ms.length * 5 := by
  induction ms with
  | nil => rfl
  | cons m ms ih => rw [tflat_cons, List.length_append, ih]; simp [tcells]; omega
theorem tcells_one (t : Int × M) : ∀ u ∈ tcells t, u.oneCell' = true := fun v hv => by
  simp [tcells] at hv
  rcases hv with rfl | rfl | rfl | rfl | rfl <;> rfl

/-- Is node i a reader? -/
def rdB (rd : List Bool) (i : Int) : Bool := decide (0 ≤ i) && rd.getD i.toNat false

/-- Block mB is the set of those who read. -/
def SetAt (w : World) (mB : Nat) (rd : List Bool) (n : Nat) : Prop :=
  ∃ D : DataW Unit, w.ownsMap Try.prog 3 (unitElem (H := Unit)) mB n D ∧ ∀ i : Int, (Lit.int .i64 i).wf = true → Maps.has D (.int .i64 i) = rdB rd i

abbrev kcells (S : KS) (mB : Nat) (aw : Option Addr) (cw : Nat) (vt : Value) : Array Value :=
  #[.int .i64 S.pg, .int .i64 (S.nd : Int), .int .i64 S.x0, .int .i64 S.x1, .int .i64 S.x2, .int .i64 S.x3, .int .i64 S.ow, .map (some mB), .bool S.bz, .int .i64 S.wh, .bool S.wo, .int .i64 S.ak, .slice aw S.ws.length cw, vt]

/-- Those who wait, in a block of before or in a row of their kind. -/
def WRow (lo : Nat) (w : World) (a : Option Addr) (ws : List (Int × Bool)) : Prop :=
  VRow w a (wv ws) ∧ ∀ b off s, a = some ⟨b, off, s⟩ → b < lo ∨ ∃ cs fr, w.heap[b]? = some (.cells cs 27 fr)

/-- What stays while a home is at work: all of before, and every row and box of another kind than its own. -/
structure Same (lo : Nat) (w w' : World) : Prop where
  os : w'.os = w.os
  tape : w'.tape = w.tape
  output : w'.output = w.output
  size : w.heap.size ≤ w'.heap.size
  low : ∀ i : Nat, i < lo → i < w.heap.size → w'.heap[i]? = w.heap[i]?
  typ : ∀ (i : Nat) (cs : Array Value) (t : TypeId) (fr : Nat × Nat), w.heap[i]? = some (.cells cs t fr) → t ≠ 58 → t ≠ 36 → w'.heap[i]? = some (.cells cs t fr)

theorem Same.refl (lo : Nat) (w : World) : Same lo w w := ⟨rfl, rfl, rfl, Nat.le_refl _, fun _ _ _ => rfl, fun _ _ _ _ h _ _ => h⟩
theorem Same.trans {lo : Nat} {w w1 w2 : World} (h : Same lo w w1) (k : Same lo w1 w2) : Same lo w w2 :=
  ⟨k.os.trans h.os, k.tape.trans h.tape, k.output.trans h.output, Nat.le_trans h.size k.size, fun i hl hs => (k.low i hl (Nat.lt_of_lt_of_le hs h.size)).trans (h.low i hl hs), fun i cs t fr hi h1 h2 => k.typ i cs t fr (h.typ i cs t fr hi h1 h2) h1 h2⟩
theorem Same.of_below {lo : Nat} {w w' : World} (b : Below w.heap.size w w') : Same lo w w' :=
  ⟨b.os, b.tape, b.output, b.size, fun i _ hs => b.block i hs, fun i cs t fr hi _ _ => (b.block i (Array.getElem?_eq_some_iff.1 hi).1).trans hi⟩
theorem Same.below {lo : Nat} {w w' : World} (h : Same lo w w') (hl : lo ≤ w.heap.size) : Below lo w w' :=
  ⟨h.os, h.tape, h.output, by have := h.size; omega, fun i hi => h.low i hi (by omega)⟩

section
variable {lo : Nat} {w w' : World}
theorem Box.same {m : Nat} {cs : Array Value} {t : TypeId} (hX : Box w m cs t) (h : Same lo w w') (h1 : t ≠ 58) (h2 : t ≠ 36) : Box w' m cs t := h.typ _ _ _ _ hX h1 h2
theorem owns_same {base e size n : Nat} {v : Value} {xs : List Value} (o : w.ownsRow base e size v n xs) (h : Same lo w w') (h1 : e ≠ 58) (h2 : e ≠ 36) : w'.ownsRow base e size v n xs := by
  refine ⟨o.1, ?_⟩
  rcases o.2 with hn | ⟨g, cap, cur, rfl, hbg, hg, rest⟩
  · exact .inl hn
  · exact .inr ⟨g, cap, cur, rfl, hbg, h.typ _ _ _ _ hg h1 h2, rest⟩
theorem WRow.same {a : Option Addr} {ws : List (Int × Bool)} (r : WRow lo w a ws) (h : Same lo w w') : WRow lo w' a ws := by
  have key : ∀ b off s, a = some ⟨b, off, s⟩ → b < w.heap.size → w'.heap[b]? = w.heap[b]? := fun b off s ha hs => by
    rcases r.2 b off s ha with hb | ⟨cs, fr, hb⟩
    · exact h.low b hb hs
    · rw [h.typ _ _ _ _ hb (by decide) (by decide), hb]
  refine ⟨⟨r.1.1, fun i v hi => ?_⟩, fun b off s ha => ?_⟩
  · obtain ⟨b, off, rfl, hc⟩ := r.1.2 i v hi
    refine ⟨b, off, rfl, ?_⟩
    rw [World.cell?_of_block (key b off none rfl (lt_of_cell hc)), hc]
  · rcases r.2 b off s ha with hb | ⟨cs, fr, hb⟩
    · exact .inl hb
    · exact .inr ⟨cs, fr, h.typ _ _ _ _ hb (by decide) (by decide)⟩
end

/-- A home at work lies so. -/
structure KLies (lo : Nat) (w : World) (kB mB : Nat) (aw : Option Addr) (cw : Nat) (vt : Value) (S : KS) (n : Nat) : Prop where
  lk : lo ≤ kB
  lm : lo ≤ mB
  k : Box w kB (kcells S mB aw cw vt) 58
  r : SetAt w mB S.rd n
  q : WRow lo w aw S.ws
  t : w.ownsRow lo 36 5 vt S.ts.length (tflat S.ts)
  l : ∀ t ∈ S.ts, w.ownsRow lo 3 1 t.2.v t.2.xs.length (t.2.xs.map (Value.int .i64))

theorem SetAt.kept {w w' : World} {mB n : Nat} {rd : List Bool} (h : SetAt w mB rd n) {row : Option Nat} (g : w.grownBy w' row) (hne : some mB ≠ row) : SetAt w' mB rd n := by
  obtain ⟨D, o, hd⟩ := h
  exact ⟨D, o.kept g hne, hd⟩
theorem SetAt.lt {w : World} {mB n : Nat} {rd : List Bool} (h : SetAt w mB rd n) : mB < w.heap.size := by
  obtain ⟨D, o, hd⟩ := h
  exact o.lt
theorem SetAt.below {w w' : World} {mB n : Nat} {rd : List Bool} (h : SetAt w mB rd n) (b : Below w.heap.size w w') : SetAt w' mB rd n :=
  h.kept (row := none) ⟨b.os, b.tape, b.output, b.size, fun i hi _ => b.block i hi⟩ (by simp)
theorem KLies.below {lo : Nat} {w w' : World} {kB mB : Nat} {aw : Option Addr} {cw : Nat} {vt : Value} {S : KS} {n : Nat} (h : KLies lo w kB mB aw cw vt S n) (b : Below w.heap.size w w') : KLies lo w' kB mB aw cw vt S n :=
  ⟨h.lk, h.lm, h.k.below b, h.r.below b, h.q.same (Same.of_below b), owns_below h.t b, fun t ht => owns_below (h.l t ht) b⟩
end Go.Proofs.Ytliihkdocbpolaa

/- What impl's (keeper) tell does. -/
namespace Go.Proofs.Ytliihkdocbpolaa
open Go.RowKit
set_option linter.unusedVariables false

theorem info_told : (Try.prog.info? 36).map (fun i => (i.zero, i.size, i.bytes)) = some (some (.agg #[.int .i64 0, .int .i64 0, .int .i64 0, .bool false, .slice none 0 0]), 5, 56) := by kernel_rfl

/-- The told row grew, and the home's variable has it. -/
theorem KLies.told {lo : Nat} {w w' : World} {kB mB : Nat} {aw : Option Addr} {cw : Nat} {vt : Value} {S : KS} {n : Nat} (h : KLies lo w kB mB aw cw vt S n) {t : Int × M} {g cap : Nat}
    (o : w'.ownsRow lo 36 5 (.slice (some ⟨g, 0, none⟩) (S.ts.length + 1) cap) (S.ts.length + 1) (tflat S.ts ++ tcells t)) (gr : w.grownBy w' vt.ownBlock) (at' : vt.ownBlock = some g ∨ g = w.heap.size)
    (hl : w.ownsRow lo 3 1 t.2.v t.2.xs.length (t.2.xs.map (Value.int .i64))) :
    KLies lo (w'.setCell ⟨kB, 13, none⟩ (.slice (some ⟨g, 0, none⟩) (S.ts.length + 1) cap)) kB mB aw cw (.slice (some ⟨g, 0, none⟩) (S.ts.length + 1) cap) { S with ts := S.ts ++ [t] } n ∧
    Same lo w (w'.setCell ⟨kB, 13, none⟩ (.slice (some ⟨g, 0, none⟩) (S.ts.length + 1) cap)) := by
  have nk := box_ne h.k h.t (by decide)
  have hkB : Box w' kB (kcells S mB aw cw vt) 58 := h.k.kept gr (fun j hj e => nk (by rw [hj, e]))
  have nk' := box_ne hkB o (by decide)
  have hmB : SetAt w' mB S.rd n := h.r.kept gr (fun e => by
    obtain ⟨D, oD, _⟩ := h.r
    obtain ⟨es, cl, hb, _⟩ := oD
    rcases h.t.2 with ⟨hv, _⟩ | ⟨g', cap', cur', hv, _, hg', _⟩
    · rw [hv] at e; simp [Value.ownBlock] at e
    · rw [hv] at e
      simp [Value.ownBlock] at e
      subst e
      rw [hb] at hg'
      simp at hg')
  have hS : Same lo w (w'.setCell ⟨kB, 13, none⟩ (.slice (some ⟨g, 0, none⟩) (S.ts.length + 1) cap)) := by
    refine ⟨gr.os, gr.tape, gr.output, by simp; exact gr.size, fun i hi hs => ?_, fun i cs t fr hi h1 h2 => ?_⟩
    · have hne : i ≠ kB := by have := h.lk; omega
      rw [Below.heap_setCell _ _ _ _ hne]
      exact gr.block i hs (fun e => by have := (h.t.lt i e.symm).1; omega)
    · have hne : i ≠ kB := fun e => by
        subst e
        have := h.k
        unfold Box at this
        rw [this] at hi
        simp at hi
        exact h1 hi.2.1.symm
      rw [Below.heap_setCell _ _ _ _ hne]
      refine (gr.block i (Array.getElem?_eq_some_iff.1 hi).1 (fun e => ?_)).trans hi
      rcases h.t.2 with ⟨hv, _⟩ | ⟨g', cap', cur', hv, _, hg', _⟩
      · rw [hv] at e; simp [Value.ownBlock] at e
      · rw [hv] at e
        simp [Value.ownBlock] at e
        subst e
        rw [hg'] at hi
        simp at hi
        exact h2 hi.2.1.symm
  refine ⟨⟨h.lk, h.lm, heap_setCell_same _ _ 13 _ _ _ hkB, ?_, h.q.same hS, ?_, ?_⟩, hS⟩
  · obtain ⟨D, oD, hD⟩ := hmB
    exact ⟨D, oD.setCell (fun e => by
      obtain ⟨es, cl, hb, _⟩ := oD
      unfold Box at hkB
      rw [e] at hb
      simp only at hb
      rw [hkB] at hb
      simp at hb) _, hD⟩
  · have e : tflat (S.ts ++ [t]) = tflat S.ts ++ tcells t := by rw [tflat_append]; simp [tflat]
    show World.ownsRow _ lo _ 5 _ (S.ts ++ [t]).length (tflat (S.ts ++ [t]))
    rw [e, List.length_append]
    exact owns_setCell o (fun j hj e => nk' (by rw [hj, ← e])) _
  · intro t' ht'
    simp at ht'
    rcases ht' with ht' | rfl
    · exact owns_same (h.l t' ht') hS (by decide) (by decide)
    · exact owns_same hl hS (by decide) (by decide)

theorem told_at {lo : Nat} {w w' : World} {kB mB : Nat} {aw : Option Addr} {cw : Nat} {vt : Value} {S : KS} {n : Nat} (h : KLies lo w kB mB aw cw vt S n) (gr : w.drew.grownBy w' vt.ownBlock) : w'.cell? ⟨kB, 13, none⟩ = some vt ∧ w'.frozen? ⟨kB, 13, none⟩ = false := by
  have nk := box_ne h.k h.t (by decide)
  have hkB : Box w' kB (kcells S mB aw cw vt) 58 := (show Box w.drew kB _ _ from h.k).kept gr (fun j hj e => nk (by rw [hj, e]))
  exact ⟨hkB.cell 13, hkB.frozen 13⟩

set_option maxRecDepth 100000 in
set_option maxHeartbeats 2000000 in
theorem tell_any (lo : Nat) (w : World) (kB mB : Nat) (aw : Option Addr) (cw : Nat) (vt : Value) (S : KS) (n : Nat) (h : KLies lo w kB mB aw cw vt S n) (hlo : lo ≤ w.heap.size) (tt : Int) (m : M)
    (hm : w.ownsRow lo 3 1 m.v m.xs.length (m.xs.map (Value.int .i64))) (hts : S.ts.length ≤ 100000) :
    Calls Try.prog 42 #[.pointer (some ⟨kB, 0, none⟩), .int .i64 tt, .agg #[.int .i64 m.k, .int .i64 m.p, .bool m.o, .slice m.a m.xs.length m.c]] w fun e w' =>
      e = .returned (.tuple #[]) ∧ ∃ vt', KLies lo w' kB mB aw cw vt' { S with ts := S.ts ++ [(tt, { m with p := S.pg })] } n ∧ Same lo w w' := by
  obtain ⟨i0, hi0, hz0, hz1, hz2⟩ := info_parts info_told
  have b1 := bel_alloc (bel_alloc (Below.refl w.heap.size w) (.cells #[.int .i64 m.k, .int .i64 S.pg, .bool m.o, .slice m.a m.xs.length m.c] 34)) (.cells #[.int .i64 tt, .int .i64 m.k, .int .i64 S.pg, .bool m.o, .slice m.a m.xs.length m.c] 36)
  have XN := (Box.two w #[.int .i64 m.k, .int .i64 S.pg, .bool m.o, .slice m.a m.xs.length m.c] #[.int .i64 tt, .int .i64 m.k, .int .i64 S.pg, .bool m.o, .slice m.a m.xs.length m.c] 34 36).2
  have HL2 : Hid (KLies lo ((w.alloc (.cells #[.int .i64 m.k, .int .i64 S.pg, .bool m.o, .slice m.a m.xs.length m.c] 34)).alloc (.cells #[.int .i64 tt, .int .i64 m.k, .int .i64 S.pg, .bool m.o, .slice m.a m.xs.length m.c] 36)) kB mB aw cw vt S n) := h.below b1
  have HM2 : Hid (World.ownsRow ((w.alloc (.cells #[.int .i64 m.k, .int .i64 S.pg, .bool m.o, .slice m.a m.xs.length m.c] 34)).alloc (.cells #[.int .i64 tt, .int .i64 m.k, .int .i64 S.pg, .bool m.o, .slice m.a m.xs.length m.c] 36)) lo 3 1 m.v m.xs.length (m.xs.map (Value.int .i64))) := owns_below hm b1
  have HS2 : Hid (Same lo w ((w.alloc (.cells #[.int .i64 m.k, .int .i64 S.pg, .bool m.o, .slice m.a m.xs.length m.c] 34)).alloc (.cells #[.int .i64 tt, .int .i64 m.k, .int .i64 S.pg, .bool m.o, .slice m.a m.xs.length m.c] 36))) := Same.of_below b1
  have HNEW := World.news_of_block XN
  have hz : lo ≤ w.heap.size + 1 + 1 := by omega
  have k0 := h.k.cell 0
  have k13 := h.k.cell 13
  have kz := h.k.lt
  clear b1 XN h hm
  go_enter Try.func42, Try.ntmps42
  go_wp2
  go_region_law (first | (refine step_append_lies _ (by rfl) _ _ _ (by rfl) lo 36 i0 (.agg #[.int .i64 0, .int .i64 0, .int .i64 0, .bool false, .slice none 0 0]) 5 56 Try.underlying37 hi0 hz0 hz1 hz2 rfl (by omega) vt S.ts.length (tflat S.ts) (by rfl) ?_ ⟨w.heap.size + 1, 0, none⟩ 1 1 (tcells (tt, { m with p := S.pg })) (by rfl) (by rfl) ?_ (tcells_one _) (by omega) (by unfold maxLen; omega) (by omega) ?_ _ rfl ?_; exact HL2.out.t; exact HNEW; (simp; omega); intro g cap w5 o5 gr5 at5 lt5; obtain ⟨KK, SS⟩ := HL2.out.told (t := (tt, { m with p := S.pg })) o5 ⟨gr5.os, gr5.tape, gr5.output, gr5.size, gr5.block⟩ (by simpa using at5) HM2.out; obtain ⟨c13, f13⟩ := told_at HL2.out gr5) | fail)
  all_goals
    have HKK : Hid (_ ∧ _) := ⟨KK, HS2.out.trans SS⟩
    clear KK SS
    go_wp2
    refine ⟨rfl, .tuple #[], by simp [results, Try.results42, go_sem], rfl, _, HKK.out.1, HKK.out.2⟩
end Go.Proofs.Ytliihkdocbpolaa

/- The specification's home at work (l4Work): where it lies; what l4Tell does. What it tells is kept by its length alone. -/
namespace Go.Proofs.Ytliihkdocbpolaa
open Go.RowKit
set_option linter.unusedVariables false

/-- What it holds. -/
structure SS where
  xs : List Int
  ow : Int
  rd : List Bool
  bz : Bool
  wh : Int
  wo : Bool
  ak : Int
  ws : List (Int × Bool)
  pg : Int
  nt : Nat

abbrev spcells (S : SS) (vl vr vq vt : Value) : Array Value := #[vl, .int .i64 S.ow, vr, .bool S.bz, .int .i64 S.wh, .bool S.wo, .int .i64 S.ak, vq, .int .i64 S.pg, vt]

/-- It lies so: its rows are its own, each in a block from lo on. -/
structure SLies (lo : Nat) (w : World) (kB : Nat) (vl vr vq vt : Value) (S : SS) : Prop where
  lk : lo ≤ kB
  k : Box w kB (spcells S vl vr vq vt) 62
  l : w.ownsRow lo 3 1 vl S.xs.length (S.xs.map (Value.int .i64))
  r : w.ownsRow lo 4 1 vr S.rd.length (bv S.rd)
  q : w.ownsRow lo 27 2 vq S.ws.length (wv S.ws)
  t : ∃ cs, w.ownsRow lo 36 5 vt S.nt cs

theorem SLies.below {lo : Nat} {w w' : World} {kB : Nat} {vl vr vq vt : Value} {S : SS} (h : SLies lo w kB vl vr vq vt S) (b : Below w.heap.size w w') : SLies lo w' kB vl vr vq vt S := by
  obtain ⟨cs, ht⟩ := h.t
  exact ⟨h.lk, h.k.below b, owns_below h.l b, owns_below h.r b, owns_below h.q b, ⟨cs, owns_below ht b⟩⟩

/-- A cell of its own variable is written. -/
theorem SLies.set {lo : Nat} {w : World} {kB : Nat} {vl vr vq vt : Value} {S S' : SS} (h : SLies lo w kB vl vr vq vt S) (i : Nat) (u : Value) (hX : Box (w.setCell ⟨kB, i, none⟩ u) kB (spcells S' vl vr vq vt) 62)
    (e0 : S'.xs = S.xs) (e1 : S'.rd = S.rd) (e2 : S'.ws = S.ws) (e3 : S'.nt = S.nt) : SLies lo (w.setCell ⟨kB, i, none⟩ u) kB vl vr vq vt S' := by
  obtain ⟨cs, ht⟩ := h.t
  have n1 := box_ne h.k h.l (by decide)
  have n2 := box_ne h.k h.r (by decide)
  have n3 := box_ne h.k h.q (by decide)
  have n4 := box_ne h.k ht (by decide)
  refine ⟨h.lk, hX, ?_, ?_, ?_, ⟨cs, ?_⟩⟩
  · rw [e0]; exact owns_setCell h.l (fun j hj e => n1 (by rw [hj, ← e])) _
  · rw [e1]; exact owns_setCell h.r (fun j hj e => n2 (by rw [hj, ← e])) _
  · rw [e2]; exact owns_setCell h.q (fun j hj e => n3 (by rw [hj, ← e])) _
  · rw [e3]; exact owns_setCell ht (fun j hj e => n4 (by rw [hj, ← e])) _

theorem SLies.told {lo : Nat} {w w' : World} {kB : Nat} {vl vr vq vt : Value} {S : SS} (h : SLies lo w kB vl vr vq vt S) {cs ds ns : List Value} (hcs : w.ownsRow lo 36 5 vt S.nt cs) {g cap : Nat}
    (o : w'.ownsRow lo 36 5 (.slice (some ⟨g, 0, none⟩) (S.nt + 1) cap) (S.nt + 1) ds) (gr : w.grownBy w' vt.ownBlock) :
    SLies lo (w'.setCell ⟨kB, 9, none⟩ (.slice (some ⟨g, 0, none⟩) (S.nt + 1) cap)) kB vl vr vq (.slice (some ⟨g, 0, none⟩) (S.nt + 1) cap) { S with nt := S.nt + 1 } ∧
    w'.cell? ⟨kB, 9, none⟩ = some vt ∧ w'.frozen? ⟨kB, 9, none⟩ = false := by
  have nk := box_ne h.k hcs (by decide)
  have hkB : Box w' kB (spcells S vl vr vq vt) 62 := h.k.kept gr (fun j hj e => nk (by rw [hj, e]))
  have l' := owns_ne h.l gr (fun j hj => owns_types h.l hcs (by decide) hj)
  have r' := owns_ne h.r gr (fun j hj => owns_types h.r hcs (by decide) hj)
  have q' := owns_ne h.q gr (fun j hj => owns_types h.q hcs (by decide) hj)
  have n1 := box_ne hkB l' (by decide)
  have n2 := box_ne hkB r' (by decide)
  have n3 := box_ne hkB q' (by decide)
  have n4 := box_ne hkB o (by decide)
  exact ⟨⟨h.lk, heap_setCell_same _ _ 9 _ _ _ hkB, owns_setCell l' (fun j hj e => n1 (by rw [hj, ← e])) _, owns_setCell r' (fun j hj e => n2 (by rw [hj, ← e])) _, owns_setCell q' (fun j hj e => n3 (by rw [hj, ← e])) _, ⟨ds, owns_setCell o (fun j hj e => n4 (by rw [hj, ← e])) _⟩⟩, hkB.cell 9, hkB.frozen 9⟩

/-- What stays while it works: all of before, and every row and box of another kind than its own. -/
structure SameS (lo : Nat) (w w' : World) : Prop where
  os : w'.os = w.os
  tape : w'.tape = w.tape
  output : w'.output = w.output
  size : w.heap.size ≤ w'.heap.size
  low : ∀ i : Nat, i < lo → i < w.heap.size → w'.heap[i]? = w.heap[i]?
  typ : ∀ (i : Nat) (cs : Array Value) (t : TypeId) (fr : Nat × Nat), w.heap[i]? = some (.cells cs t fr) → t ≠ 62 → t ≠ 36 → t ≠ 4 → w'.heap[i]? = some (.cells cs t fr)

theorem SameS.refl (lo : Nat) (w : World) : SameS lo w w := ⟨rfl, rfl, rfl, Nat.le_refl _, fun _ _ _ => rfl, fun _ _ _ _ h _ _ _ => h⟩
theorem SameS.trans {lo : Nat} {w w1 w2 : World} (h : SameS lo w w1) (k : SameS lo w1 w2) : SameS lo w w2 :=
  ⟨k.os.trans h.os, k.tape.trans h.tape, k.output.trans h.output, Nat.le_trans h.size k.size, fun i hl hs => (k.low i hl (Nat.lt_of_lt_of_le hs h.size)).trans (h.low i hl hs), fun i cs t fr hi h1 h2 h3 => k.typ i cs t fr (h.typ i cs t fr hi h1 h2 h3) h1 h2 h3⟩
theorem SameS.of_below {lo : Nat} {w w' : World} (b : Below w.heap.size w w') : SameS lo w w' :=
  ⟨b.os, b.tape, b.output, b.size, fun i _ hs => b.block i hs, fun i cs t fr hi _ _ _ => (b.block i (Array.getElem?_eq_some_iff.1 hi).1).trans hi⟩
theorem SameS.below {lo : Nat} {w w' : World} (h : SameS lo w w') (hl : lo ≤ w.heap.size) : Below lo w w' :=
  ⟨h.os, h.tape, h.output, by have := h.size; omega, fun i hi => h.low i hi (by omega)⟩
theorem Box.sameS {lo : Nat} {w w' : World} {m : Nat} {cs : Array Value} {t : TypeId} (hX : Box w m cs t) (h : SameS lo w w') (h1 : t ≠ 62) (h2 : t ≠ 36) (h3 : t ≠ 4) : Box w' m cs t := h.typ _ _ _ _ hX h1 h2 h3
/-- One block of its own kinds is turned. -/
theorem SameS.grown {lo : Nat} {w w' : World} {row : Option Nat} (g : w.grownBy w' row) (hr : ∀ j, row = some j → lo ≤ j ∧ ∃ cs t fr, w.heap[j]? = some (.cells cs t fr) ∧ (t = 62 ∨ t = 36 ∨ t = 4)) : SameS lo w w' := by
  refine ⟨g.os, g.tape, g.output, g.size, fun i hl hs => g.block i hs (fun e => ?_), fun i cs t fr hi h1 h2 h3 => (g.block i (Array.getElem?_eq_some_iff.1 hi).1 (fun e => ?_)).trans hi⟩
  · have := (hr i e.symm).1
    omega
  · obtain ⟨_, cs', t', fr', h, hh⟩ := hr i e.symm
    rw [hi] at h
    simp at h
    obtain ⟨_, rfl, _⟩ := h
    rcases hh with e | e | e
    · exact h1 e
    · exact h2 e
    · exact h3 e
theorem SameS.setCell {lo : Nat} {w : World} {m : Nat} {cs : Array Value} {t : TypeId} {fr : Nat × Nat} (h : w.heap[m]? = some (.cells cs t fr)) (hl : lo ≤ m) (ht : t = 62 ∨ t = 36 ∨ t = 4) (i : Nat) (u : Value) : SameS lo w (w.setCell ⟨m, i, none⟩ u) := by
  refine SameS.grown (row := some m) ⟨rfl, rfl, rfl, by simp, fun j _ hj => Below.heap_setCell _ _ _ _ (fun e => hj (by simp [e]))⟩ (fun j hj => ?_)
  simp at hj
  subst hj
  exact ⟨hl, cs, t, fr, h, ht⟩
theorem owns_block {w : World} {base e size n : Nat} {v : Value} {xs : List Value} (o : w.ownsRow base e size v n xs) {j : Nat} (hj : v.ownBlock = some j) : base ≤ j ∧ ∃ cs fr, w.heap[j]? = some (.cells cs e fr) := by
  rcases o.2 with ⟨rfl, _⟩ | ⟨g, cap, cur, rfl, hb, hg, _⟩
  · simp [Value.ownBlock] at hj
  · simp [Value.ownBlock] at hj
    subst hj
    exact ⟨hb, _, _, hg⟩

set_option maxRecDepth 100000 in
set_option maxHeartbeats 2000000 in
theorem l4Tell_any (lo : Nat) (w : World) (kB : Nat) (vl vr vq vt : Value) (S : SS) (h : SLies lo w kB vl vr vq vt S) (hlo : lo ≤ w.heap.size) (tt mk mp : Int) (mo : Bool) (ma : Option Addr) (mn mc : Nat) (hts : S.nt ≤ 100000) :
    Calls Try.prog 38 #[.pointer (some ⟨kB, 0, none⟩), .int .i64 tt, .agg #[.int .i64 mk, .int .i64 mp, .bool mo, .slice ma mn mc]] w fun e w' =>
      e = .returned (.tuple #[]) ∧ ∃ vt', SLies lo w' kB vl vr vq vt' { S with nt := S.nt + 1 } ∧ SameS lo w w' := by
  obtain ⟨i0, hi0, hz0, hz1, hz2⟩ := info_parts info_told
  have b1 := bel_alloc (bel_alloc (Below.refl w.heap.size w) (.cells #[.int .i64 mk, .int .i64 S.pg, .bool mo, .slice ma mn mc] 34)) (.cells #[.int .i64 tt, .int .i64 mk, .int .i64 S.pg, .bool mo, .slice ma mn mc] 36)
  have XN := (Box.two w #[.int .i64 mk, .int .i64 S.pg, .bool mo, .slice ma mn mc] #[.int .i64 tt, .int .i64 mk, .int .i64 S.pg, .bool mo, .slice ma mn mc] 34 36).2
  have HNEW := World.news_of_block XN
  have L2 := h.below b1
  obtain ⟨cs, hcs⟩ := L2.t
  have HL2 : Hid (SLies lo _ kB vl vr vq vt S) := L2
  have HC2 : Hid (World.ownsRow _ lo 36 5 vt S.nt cs) := hcs
  have HB : Hid (SameS lo w ((w.alloc (.cells #[.int .i64 mk, .int .i64 S.pg, .bool mo, .slice ma mn mc] 34)).alloc (.cells #[.int .i64 tt, .int .i64 mk, .int .i64 S.pg, .bool mo, .slice ma mn mc] 36))) := SameS.of_below b1
  have hlk := h.lk
  have hz : lo ≤ w.heap.size + 1 + 1 := by omega
  have k8 := h.k.cell 8
  have k9 := h.k.cell 9
  have kz := h.k.lt
  clear b1 XN h L2 hcs
  go_enter Try.func38, Try.ntmps38
  go_wp2
  go_region_law (first | (refine step_append_lies _ (by rfl) _ _ _ (by rfl) lo 36 i0 (.agg #[.int .i64 0, .int .i64 0, .int .i64 0, .bool false, .slice none 0 0]) 5 56 Try.underlying37 hi0 hz0 hz1 hz2 rfl (by omega) vt S.nt cs (by rfl) ?_ ⟨w.heap.size + 1, 0, none⟩ 1 1 [.int .i64 tt, .int .i64 mk, .int .i64 S.pg, .bool mo, .slice ma mn mc] (by rfl) (by rfl) ?_ (fun u hu => by simp at hu; rcases hu with rfl | rfl | rfl | rfl | rfl <;> rfl) (by omega) (by unfold maxLen; omega) (by omega) ?_ _ rfl ?_; exact HC2.out; exact HNEW; (simp; omega); intro g cap w5 o5 gr5 at5 lt5; obtain ⟨KK, c9, f9⟩ := HL2.out.told (ns := []) HC2.out o5 ⟨gr5.os, gr5.tape, gr5.output, gr5.size, gr5.block⟩; have BB : SameS lo w w5 := HB.out.trans (SameS.grown (row := vt.ownBlock) ⟨gr5.os, gr5.tape, gr5.output, gr5.size, gr5.block⟩ (fun j hj => ⟨(owns_block HC2.out hj).1, (owns_block HC2.out hj).2.elim fun cs h => h.elim fun fr h => ⟨cs, _, fr, h, .inr (.inl rfl)⟩⟩)); have KB5 : Box w5 kB _ _ := HL2.out.k.kept (row := vt.ownBlock) ⟨gr5.os, gr5.tape, gr5.output, gr5.size, gr5.block⟩ (fun j hj e => (box_ne HL2.out.k HC2.out (by decide)) (by rw [hj, e]))) | fail)
  all_goals
    have HKK : Hid (_ ∧ _) := ⟨KK, BB.trans (SameS.setCell KB5 hlk (.inl rfl) 9 (.slice (some ⟨g, 0, none⟩) (S.nt + 1) cap))⟩
    clear KK BB KB5
    go_wp2
    refine ⟨rfl, .tuple #[], by simp [results, Try.results38, go_sem], rfl, _, HKK.out.1, HKK.out.2⟩
end Go.Proofs.Ytliihkdocbpolaa
