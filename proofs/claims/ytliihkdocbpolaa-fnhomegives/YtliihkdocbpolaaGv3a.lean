/- GvL and Gv3 and Gv3a: see the heads of the parts. -/
import Derived.Test.YtliihkdocbpolaaGvB
import Derived.Test.YtliihkdocbpolaaGvS
import Derived.Test.YtliihkdocbpolaaReg
import Derived.ArgAppend
import Derived.Deep.AppendLies
import Derived.BigQuiet
import Derived.Deep.QuietTactic
/- The law FnHomeGives: what its variables hold, what its loops are. -/
namespace Go.Proofs.Ytliihkdocbpolaa
open Go.RowKit
set_option linter.unusedVariables false

/-- The innermost loop that holds region r: its body. -/
def findL (r : Nat) : Code → Option Code
  | .loop c => match findL r c with
    | some x => some x
    | none => if (findReg r c).isSome then some c else none
  | .seq a b => match findL r a with
    | some x => some x
    | none => findL r b
  | .block _ c => findL r c
  | .scope c => findL r c
  | .cond _ a b => match findL r a with
    | some x => some x
    | none => findL r b
  | _ => none

/-- What is told turns the states. -/
def st1 (st : List Int) (t : Int × Int × Bool) : List Int :=
  if t.2.1 = 3 then st.set t.1.toNat (if t.2.2 then 2 else 1) else if t.2.1 = 4 then st.set t.1.toNat 0 else if t.2.1 = 6 then st.set t.1.toNat (if t.2.2 then 0 else 1) else st
def stF (st : List Int) (TS : List (Int × Int × Bool)) : List Int := TS.foldl st1 st
def ackM : M := ⟨5, 0, false, none, 0, []⟩
def backM (wB : Nat) (wd : List Int) : M := ⟨7, 0, false, some ⟨wB, 0, none⟩, 4, wd⟩
/-- What is answered. -/
def ans1 (wB : Nat) (wd : List Int) (t : Int × Int × Bool) : List (Int × M) := if t.2.1 = 4 then [(t.1, ackM)] else if t.2.1 = 6 then [(t.1, backM wB wd)] else []
def ansF (wB : Nat) (wd : List Int) (TS : List (Int × Int × Bool)) : List (Int × M) := TS.flatMap (ans1 wB wd)

theorem st1_length (st : List Int) (t : Int × Int × Bool) : (st1 st t).length = st.length := by
  unfold st1
  split <;> (try split) <;> (try split) <;> simp
theorem stF_length (st : List Int) (TS : List (Int × Int × Bool)) : (stF st TS).length = st.length := by
  induction TS generalizing st with
  | nil => rfl
  | cons t TS ih => show (stF (st1 st t) TS).length = _; rw [ih, st1_length]
theorem stF_snoc (st : List Int) (TS : List (Int × Int × Bool)) (t : Int × Int × Bool) : stF st (TS ++ [t]) = st1 (stF st TS) t := by simp [stF]
theorem ansF_snoc (wB : Nat) (wd : List Int) (TS : List (Int × Int × Bool)) (t : Int × Int × Bool) : ansF wB wd (TS ++ [t]) = ansF wB wd TS ++ ans1 wB wd t := by simp [ansF]
theorem take_snoc {α : Type} (l : List α) (j : Nat) (x : α) (h : l[j]? = some x) : l.take (j + 1) = l.take j ++ [x] := by
  obtain ⟨hj, rfl⟩ := List.getElem?_eq_some_iff.1 h
  rw [List.take_succ_eq_append_getElem hj]
theorem ansF_take (wB : Nat) (wd : List Int) (TS : List (Int × Int × Bool)) (j : Nat) (h : ansF wB wd TS = []) : ansF wB wd (TS.take j) = [] := by
  rw [← List.take_append_drop j TS] at h
  simp only [ansF, List.flatMap_append, List.append_eq_nil_iff] at h
  exact h.1

/-- Where the law's variables lie. -/
structure GL (lo : Nat) (w : World) (hB sB wB : Nat) (vl vr vq : Value) (H : Hm) (st wd : List Int) : Prop where
  lh : lo ≤ hB
  h : Box w hB #[vl, .int .i64 H.ow, vr, .bool H.bz, .int .i64 H.wh, .bool H.wo, .int .i64 H.ak, vq] 30
  l : w.ownsRow lo 3 1 vl 4 (H.xs.map (Value.int .i64))
  r : w.ownsRow lo 4 1 vr H.rd.length (bv H.rd)
  q : w.ownsRow lo 27 2 vq 0 []
  s : w.ownsRow lo 3 1 (.slice (some ⟨sB, 0, none⟩) 3 3) 3 (st.map (Value.int .i64))
  d : w.ownsRow lo 3 1 (.slice (some ⟨wB, 0, none⟩) 4 4) 4 (wd.map (Value.int .i64))
  ls : vl.ownBlock ≠ some sB
  ld : vl.ownBlock ≠ some wB
  sd : sB ≠ wB

theorem GL.below {lo : Nat} {w w' : World} {hB sB wB : Nat} {vl vr vq : Value} {H : Hm} {st wd : List Int} (g : GL lo w hB sB wB vl vr vq H st wd) (b : Below w.heap.size w w') : GL lo w' hB sB wB vl vr vq H st wd :=
  ⟨g.lh, g.h.below b, owns_below g.l b, owns_below g.r b, owns_below g.q b, owns_below g.s b, owns_below g.d b, g.ls, g.ld, g.sd⟩

/-- The states are turned, and what is new is laid. -/
theorem GL.only {lo : Nat} {w w' : World} {hB sB wB : Nat} {vl vr vq : Value} {H : Hm} {st st' wd : List Int} (g : GL lo w hB sB wB vl vr vq H st wd) (on : Only w w' (fun x => x = sB)) (s' : w'.ownsRow lo 3 1 (.slice (some ⟨sB, 0, none⟩) 3 3) 3 (st'.map (Value.int .i64))) : GL lo w' hB sB wB vl vr vq H st' wd := by
  have hs : (Value.slice (some ⟨sB, 0, none⟩) 3 3).ownBlock = some sB := rfl
  refine ⟨g.lh, g.h.only on (fun e => ?_), owns_only g.l on (fun j hj e => ?_), owns_only g.r on (fun j hj e => ?_), owns_only g.q on (fun j hj e => ?_), s', owns_only g.d on (fun j hj e => ?_), g.ls, g.ld, g.sd⟩
  · exact box_ne g.h g.s (by decide) (by rw [hs, e])
  · exact g.ls (by rw [hj, e])
  · exact owns_types g.r g.s (by decide) hj (by rw [hs, e])
  · exact owns_types g.q g.s (by decide) hj (by rw [hs, e])
  · simp [Value.ownBlock] at hj
    exact g.sd (by omega)

/-- A word is written. -/
theorem GL.setW {lo : Nat} {w : World} {hB sB wB : Nat} {vl vr vq : Value} {H : Hm} {st wd : List Int} (g : GL lo w hB sB wB vl vr vq H st wd) (k : Nat) (x : Int) : GL lo (w.setCell ⟨wB, k, none⟩ (.int .i64 x)) hB sB wB vl vr vq H st (wd.set k x) := by
  have hs : (Value.slice (some ⟨wB, 0, none⟩) 4 4).ownBlock = some wB := rfl
  have on : Only w (w.setCell ⟨wB, k, none⟩ (.int .i64 x)) (fun b => b = wB) := (Only.refl w (fun b => b = wB)).setCell ⟨wB, k, none⟩ _ rfl
  have d' := (g.d.stored k (.int .i64 x)).1
  rw [← List.map_set] at d'
  refine ⟨g.lh, g.h.only on (fun e => ?_), owns_only g.l on (fun j hj e => ?_), owns_only g.r on (fun j hj e => ?_), owns_only g.q on (fun j hj e => ?_), owns_only g.s on (fun j hj e => ?_), d', g.ls, g.ld, g.sd⟩
  · exact box_ne g.h g.d (by decide) (by rw [hs, e])
  · exact g.ld (by rw [hj, e])
  · exact owns_types g.r g.d (by decide) hj (by rw [hs, e])
  · exact owns_types g.q g.d (by decide) hj (by rw [hs, e])
  · simp [Value.ownBlock] at hj
    exact g.sd (by omega)

/-- Another home is laid into the variable. -/
theorem GL.home {lo : Nat} {w w2 : World} {hB sB wB : Nat} {vl vr vq : Value} {H H' : Hm} {st wd : List Int} (g : GL lo w hB sB wB vl vr vq H st wd) (b : Below w.heap.size w w2) {vl' vr' vq' : Value} (hlo : lo ≤ w.heap.size)
    (l' : w2.ownsRow w.heap.size 3 1 vl' 4 (H'.xs.map (Value.int .i64))) (r' : w2.ownsRow w.heap.size 4 1 vr' H'.rd.length (bv H'.rd)) (q' : w2.ownsRow w.heap.size 27 2 vq' 0 []) :
    GL lo (set8 w2 hB vl' (.int .i64 H'.ow) vr' (.bool H'.bz) (.int .i64 H'.wh) (.bool H'.wo) (.int .i64 H'.ak) vq') hB sB wB vl' vr' vq' H' st wd := by
  have g2 := g.below b
  have hz := g.h.lt
  have sz := (g.s.lt sB rfl).2
  have dz := (g.d.lt wB rfl).2
  refine ⟨g.lh, set8_box g2.h _ _ _ _ _ _ _ _, ?_, ?_, ?_, ?_, ?_, fun e => ?_, fun e => ?_, g.sd⟩
  · exact set8_owns (owns_base l' hlo) hB (fun j hj e => by have := (l'.lt j hj).1; omega) _ _ _ _ _ _ _ _
  · exact set8_owns (owns_base r' hlo) hB (fun j hj e => by have := (r'.lt j hj).1; omega) _ _ _ _ _ _ _ _
  · exact set8_owns (owns_base q' hlo) hB (fun j hj e => by have := (q'.lt j hj).1; omega) _ _ _ _ _ _ _ _
  · exact set8_owns g2.s hB (fun j hj e => box_ne g2.h g2.s (by decide) (by rw [hj, e])) _ _ _ _ _ _ _ _
  · exact set8_owns g2.d hB (fun j hj e => box_ne g2.h g2.d (by decide) (by rw [hj, e])) _ _ _ _ _ _ _ _
  · have := (l'.lt sB e).1
    omega
  · have := (l'.lt wB e).1
    omega

/-- What is told, cell by cell. -/
theorem told_atG {w : World} {lo e g c L n : Nat} {ts : List (Int × M)} {t : Int × M} (h : w.ownsRow lo e 5 (.slice (some ⟨g, 0, none⟩) L c) L (tflat ts)) (ht : ts[n]? = some t) :
    w.cell? ⟨g, n * 5, none⟩ = some (.int .i64 t.1) ∧ w.cell? ⟨g, n * 5 + 1, none⟩ = some (.int .i64 t.2.k) ∧ w.cell? ⟨g, n * 5 + 2, none⟩ = some (.int .i64 t.2.p) ∧ w.cell? ⟨g, n * 5 + 3, none⟩ = some (.bool t.2.o) ∧ w.cell? ⟨g, n * 5 + 4, none⟩ = some t.2.v := by
  have hl : ts.length = L := by have := h.1; rw [tflat_length] at this; omega
  have hn := (List.getElem?_eq_some_iff.1 ht).1
  have key : ∀ j, j < 5 → (tflat ts)[n * 5 + j]? = (tcells t)[j]? := by
    clear h hl hn
    induction ts generalizing n with
    | nil => simp at ht
    | cons t' ts ih =>
      intro j hj
      rw [tflat_cons]
      cases n with
      | zero =>
        simp at ht
        subst ht
        rw [List.getElem?_append_left (by simp [tcells]; omega)]
        simp
      | succ n =>
        simp at ht
        rw [List.getElem?_append_right (by simp [tcells]; omega)]
        have e : (n + 1) * 5 + j - (tcells t').length = n * 5 + j := by simp [tcells]; omega
        rw [e]
        exact ih ht j hj
  have key2 : ∀ j, j < 5 → w.cell? ⟨g, n * 5 + j, none⟩ = (tcells t)[j]? := fun j hj => by
    rw [h.cellAt (n * 5 + j) (by omega), key j hj]
  exact ⟨by simpa [tcells] using key2 0 (by omega), by simpa [tcells] using key2 1 (by omega), by simpa [tcells] using key2 2 (by omega), by simpa [tcells] using key2 3 (by omega), by simpa [tcells] using key2 4 (by omega)⟩
end Go.Proofs.Ytliihkdocbpolaa

/- FnHomeGives' innermost loop, taken out of its code; what stands at each round. -/
namespace Go.Proofs.Ytliihkdocbpolaa
open Go.RowKit
set_option linter.unusedVariables false

/-- What stands at each round. -/
def Rel3 (lo : Nat) (W : World) (sB wB : Nat) (ts : List (Int × M)) (st wd : List Int) (v v10 v16 : Value) (w' : World) : Prop :=
  ∃ j : Nat, v16 = .int .i64 j ∧ j ≤ ts.length ∧ Only W w' (fun x => x = sB) ∧ w'.ownsRow lo 3 1 (.slice (some ⟨sB, 0, none⟩) 3 3) 3 ((stF st ((ts.map tabs).take j)).map (Value.int .i64)) ∧
    ((ansF wB wd ((ts.map tabs).take j) = [] ∧ v10 = v) ∨ (ansF wB wd ((ts.map tabs).take j) ≠ [] ∧ w'.ownsRow W.heap.size 36 5 v10 (ansF wB wd ((ts.map tabs).take j)).length (tflat (ansF wB wd ((ts.map tabs).take j)))))

/-- What stands ahead of the loop. -/
structure Ctx3 (lo : Nat) (W : World) (sB wB : Nat) (at3 : Option Addr) (ct : Nat) (ts : List (Int × M)) (st wd : List Int) (v : Value) : Prop where
  sd : sB ≠ wB
  sl : st.length = 3
  s : W.ownsRow lo 3 1 (.slice (some ⟨sB, 0, none⟩) 3 3) 3 (st.map (Value.int .i64))
  d : W.ownsRow lo 3 1 (.slice (some ⟨wB, 0, none⟩) 4 4) 4 (wd.map (Value.int .i64))
  t : W.ownsRow lo 36 5 (.slice at3 ts.length ct) ts.length (tflat ts)
  l : ∀ t ∈ ts, W.ownsRow lo 3 1 t.2.v t.2.xs.length (t.2.xs.map (Value.int .i64)) ∧ t.2.v.ownBlock ≠ some sB
  k : ∀ t ∈ ts, (0 ≤ t.1 ∧ t.1 < 3) ∧ ((t.2.k = 3 ∧ t.2.xs = wd) ∨ t.2.k = 4 ∨ t.2.k = 6)
  v0 : ansF wB wd (ts.map tabs) = [] ∨ ∃ ad, v = .slice (some ad) 0 0
  n : ts.length ≤ 100
  hlo : lo ≤ W.heap.size

set_option maxRecDepth 1000000 in
def WI3 (lo : Nat) (W : World) (sB wB : Nat) (at3 : Option Addr) (ct : Nat) (ts : List (Int × M)) (st wd : List Int) (v : Value) (c0 c1 c2 c3 c6 c7 c8 c9 c11 c12 c14 c15 c18 c19 c20 c21 c22 c23 c24 c25 c26 c27 c28 c29 c30 c31 c32 c33 c34 c35 c36 c37 c38 c39 c40 c41 c42 c43 c44 c45 c46 c47 c48 c49 c50 c51 c52 c53 c54 c55 c56 c57 c58 c59 c60 c61 c62 c63 c64 c65 c66 c67 c68 c69 c70 c71 c72 c73 c74 c75 c76 c77 c78 c79 c80 c81 c82 c83 c84 c151 c152 c153 c154 c155 c156 c157 c158 c159 c160 c161 c162 c163 c164 c165 c166 c167 c168 c169 c170 c171 c172 c173 c174 c175 c176 c177 c178 c179 c180 c181 c182 c183 c184 c185 c186 c187 c188 c189 : Value) (act : Act) (w' : World) : Prop :=
  ∃ v10 v16 u17 u85 u86 u87 u88 u89 u90 u91 u92 u93 u94 u95 u96 u97 u98 u99 u100 u101 u102 u103 u104 u105 u106 u107 u108 u109 u110 u111 u112 u113 u114 u115 u116 u117 u118 u119 u120 u121 u122 u123 u124 u125 u126 u127 u128 u129 u130 u131 u132 u133 u134 u135 u136 u137 u138 u139 u140 u141 u142 u143 u144 u145 u146 u147 u148 u149 u150 : Value, Rel3 lo W sB wB ts st wd v v10 v16 w' ∧ act = ⟨#[c0, c1, c2, c3, .slice (some ⟨sB, 0, none⟩) 3 3, .slice (some ⟨wB, 0, none⟩) 4 4, c6, c7, c8, c9, v10, c11, c12, .slice at3 ts.length ct, c14, c15, v16, u17, c18, c19, c20, c21, c22, c23, c24, c25, c26, c27, c28, c29, c30, c31, c32, c33, c34, c35, c36, c37, c38, c39, c40, c41, c42, c43, c44, c45, c46, c47, c48, c49, c50, c51, c52, c53, c54, c55, c56, c57, c58, c59, c60, c61, c62, c63, c64, c65, c66, c67, c68, c69, c70, c71, c72, c73, c74, c75, c76, c77, c78, c79, c80, c81, c82, c83, c84, u85, u86, u87, u88, u89, u90, u91, u92, u93, u94, u95, u96, u97, u98, u99, u100, u101, u102, u103, u104, u105, u106, u107, u108, u109, u110, u111, u112, u113, u114, u115, u116, u117, u118, u119, u120, u121, u122, u123, u124, u125, u126, u127, u128, u129, u130, u131, u132, u133, u134, u135, u136, u137, u138, u139, u140, u141, u142, u143, u144, u145, u146, u147, u148, u149, u150, c151, c152, c153, c154, c155, c156, c157, c158, c159, c160, c161, c162, c163, c164, c165, c166, c167, c168, c169, c170, c171, c172, c173, c174, c175, c176, c177, c178, c179, c180, c181, c182, c183, c184, c185, c186, c187, c188, c189], []⟩

set_option maxRecDepth 1000000 in
def WX3 (lo : Nat) (W : World) (sB wB : Nat) (at3 : Option Addr) (ct : Nat) (ts : List (Int × M)) (st wd : List Int) (v : Value) (c0 c1 c2 c3 c6 c7 c8 c9 c11 c12 c14 c15 c18 c19 c20 c21 c22 c23 c24 c25 c26 c27 c28 c29 c30 c31 c32 c33 c34 c35 c36 c37 c38 c39 c40 c41 c42 c43 c44 c45 c46 c47 c48 c49 c50 c51 c52 c53 c54 c55 c56 c57 c58 c59 c60 c61 c62 c63 c64 c65 c66 c67 c68 c69 c70 c71 c72 c73 c74 c75 c76 c77 c78 c79 c80 c81 c82 c83 c84 c151 c152 c153 c154 c155 c156 c157 c158 c159 c160 c161 c162 c163 c164 c165 c166 c167 c168 c169 c170 c171 c172 c173 c174 c175 c176 c177 c178 c179 c180 c181 c182 c183 c184 c185 c186 c187 c188 c189 : Value) (act : Act) (w' : World) : Prop :=
  ∃ v10 u17 u85 u86 u87 u88 u89 u90 u91 u92 u93 u94 u95 u96 u97 u98 u99 u100 u101 u102 u103 u104 u105 u106 u107 u108 u109 u110 u111 u112 u113 u114 u115 u116 u117 u118 u119 u120 u121 u122 u123 u124 u125 u126 u127 u128 u129 u130 u131 u132 u133 u134 u135 u136 u137 u138 u139 u140 u141 u142 u143 u144 u145 u146 u147 u148 u149 u150 : Value, Rel3 lo W sB wB ts st wd v v10 (.int .i64 (ts.length : Nat)) w' ∧ act = ⟨#[c0, c1, c2, c3, .slice (some ⟨sB, 0, none⟩) 3 3, .slice (some ⟨wB, 0, none⟩) 4 4, c6, c7, c8, c9, v10, c11, c12, .slice at3 ts.length ct, c14, c15, .int .i64 (ts.length : Nat), u17, c18, c19, c20, c21, c22, c23, c24, c25, c26, c27, c28, c29, c30, c31, c32, c33, c34, c35, c36, c37, c38, c39, c40, c41, c42, c43, c44, c45, c46, c47, c48, c49, c50, c51, c52, c53, c54, c55, c56, c57, c58, c59, c60, c61, c62, c63, c64, c65, c66, c67, c68, c69, c70, c71, c72, c73, c74, c75, c76, c77, c78, c79, c80, c81, c82, c83, c84, u85, u86, u87, u88, u89, u90, u91, u92, u93, u94, u95, u96, u97, u98, u99, u100, u101, u102, u103, u104, u105, u106, u107, u108, u109, u110, u111, u112, u113, u114, u115, u116, u117, u118, u119, u120, u121, u122, u123, u124, u125, u126, u127, u128, u129, u130, u131, u132, u133, u134, u135, u136, u137, u138, u139, u140, u141, u142, u143, u144, u145, u146, u147, u148, u149, u150, c151, c152, c153, c154, c155, c156, c157, c158, c159, c160, c161, c162, c163, c164, c165, c166, c167, c168, c169, c170, c171, c172, c173, c174, c175, c176, c177, c178, c179, c180, c181, c182, c183, c184, c185, c186, c187, c188, c189], []⟩

def mu3 (n : Nat) (act : Act) (_ : World) : Nat := n - (intOf (act.tmps.getD 16 undef)).toNat
end Go.Proofs.Ytliihkdocbpolaa

/- One way through a round of FnHomeGives' innermost loop. -/
namespace Go.Proofs.Ytliihkdocbpolaa
open Go.RowKit
set_option linter.unusedVariables false

set_option maxRecDepth 1000000 in
set_option maxHeartbeats 8000000 in
theorem g3_data1 {lo : Nat} {W : World} {sB wB : Nat} {at3 : Option Addr} {ct : Nat} {ts : List (Int × M)} {st wd : List Int} {v : Value} {c0 c1 c2 c3 c6 c7 c8 c9 c11 c12 c14 c15 c18 c19 c20 c21 c22 c23 c24 c25 c26 c27 c28 c29 c30 c31 c32 c33 c34 c35 c36 c37 c38 c39 c40 c41 c42 c43 c44 c45 c46 c47 c48 c49 c50 c51 c52 c53 c54 c55 c56 c57 c58 c59 c60 c61 c62 c63 c64 c65 c66 c67 c68 c69 c70 c71 c72 c73 c74 c75 c76 c77 c78 c79 c80 c81 c82 c83 c84 c151 c152 c153 c154 c155 c156 c157 c158 c159 c160 c161 c162 c163 c164 c165 c166 c167 c168 c169 c170 c171 c172 c173 c174 c175 c176 c177 c178 c179 c180 c181 c182 c183 c184 c185 c186 c187 c188 c189 : Value} {v10 u17 u85 u86 u87 u88 u89 u90 u91 u92 u93 u94 u95 u96 u97 u98 u99 u100 u101 u102 u103 u104 u105 u106 u107 u108 u109 u110 u111 u112 u113 u114 u115 u116 u117 u118 u119 u120 u121 u122 u123 u124 u125 u126 u127 u128 u129 u130 u131 u132 u133 u134 u135 u136 u137 u138 u139 u140 u141 u142 u143 u144 u145 u146 u147 u148 u149 u150 : Value} {j : Nat} {t : Int × M} {wr : World} {Q0 : Exit → Act → World → Prop} (C : Ctx3 lo W sB wB at3 ct ts st wd v) (ht : ts[j]? = some t) (on : Only W wr (fun x => x = sB))
    (hs : wr.ownsRow lo 3 1 (.slice (some ⟨sB, 0, none⟩) 3 3) 3 ((stF st ((ts.map tabs).take j)).map (Value.int .i64)))
    (hq : (ansF wB wd ((ts.map tabs).take j) = [] ∧ v10 = v) ∨ (ansF wB wd ((ts.map tabs).take j) ≠ [] ∧ wr.ownsRow W.heap.size 36 5 v10 (ansF wB wd ((ts.map tabs).take j)).length (tflat (ansF wB wd ((ts.map tabs).take j)))))
    (hpan : Hid (∀ (c : List PanicEntry) (a : Act) (d : Option Tmp) (v : Value) (w : World), Q0 (.panic c) (a.put d v) w → Q0 (.panic c) a w)) (hk : t.2.k = 3) (ho : t.2.o = false) :
    Code.wp Try.prog ((Try.f3.body.bind (findL 28)).getD .skip) (Exit.then (fun a' w'' => WI3 lo W sB wB at3 ct ts st wd v c0 c1 c2 c3 c6 c7 c8 c9 c11 c12 c14 c15 c18 c19 c20 c21 c22 c23 c24 c25 c26 c27 c28 c29 c30 c31 c32 c33 c34 c35 c36 c37 c38 c39 c40 c41 c42 c43 c44 c45 c46 c47 c48 c49 c50 c51 c52 c53 c54 c55 c56 c57 c58 c59 c60 c61 c62 c63 c64 c65 c66 c67 c68 c69 c70 c71 c72 c73 c74 c75 c76 c77 c78 c79 c80 c81 c82 c83 c84 c151 c152 c153 c154 c155 c156 c157 c158 c159 c160 c161 c162 c163 c164 c165 c166 c167 c168 c169 c170 c171 c172 c173 c174 c175 c176 c177 c178 c179 c180 c181 c182 c183 c184 c185 c186 c187 c188 c189 a' w'' ∧ mu3 ts.length a' w'' < mu3 ts.length ⟨#[c0, c1, c2, c3, .slice (some ⟨sB, 0, none⟩) 3 3, .slice (some ⟨wB, 0, none⟩) 4 4, c6, c7, c8, c9, v10, c11, c12, .slice at3 ts.length ct, c14, c15, .int .i64 (j : Nat), u17, c18, c19, c20, c21, c22, c23, c24, c25, c26, c27, c28, c29, c30, c31, c32, c33, c34, c35, c36, c37, c38, c39, c40, c41, c42, c43, c44, c45, c46, c47, c48, c49, c50, c51, c52, c53, c54, c55, c56, c57, c58, c59, c60, c61, c62, c63, c64, c65, c66, c67, c68, c69, c70, c71, c72, c73, c74, c75, c76, c77, c78, c79, c80, c81, c82, c83, c84, u85, u86, u87, u88, u89, u90, u91, u92, u93, u94, u95, u96, u97, u98, u99, u100, u101, u102, u103, u104, u105, u106, u107, u108, u109, u110, u111, u112, u113, u114, u115, u116, u117, u118, u119, u120, u121, u122, u123, u124, u125, u126, u127, u128, u129, u130, u131, u132, u133, u134, u135, u136, u137, u138, u139, u140, u141, u142, u143, u144, u145, u146, u147, u148, u149, u150, c151, c152, c153, c154, c155, c156, c157, c158, c159, c160, c161, c162, c163, c164, c165, c166, c167, c168, c169, c170, c171, c172, c173, c174, c175, c176, c177, c178, c179, c180, c181, c182, c183, c184, c185, c186, c187, c188, c189], []⟩ wr) Q0) ⟨#[c0, c1, c2, c3, .slice (some ⟨sB, 0, none⟩) 3 3, .slice (some ⟨wB, 0, none⟩) 4 4, c6, c7, c8, c9, v10, c11, c12, .slice at3 ts.length ct, c14, c15, .int .i64 (j : Nat), u17, c18, c19, c20, c21, c22, c23, c24, c25, c26, c27, c28, c29, c30, c31, c32, c33, c34, c35, c36, c37, c38, c39, c40, c41, c42, c43, c44, c45, c46, c47, c48, c49, c50, c51, c52, c53, c54, c55, c56, c57, c58, c59, c60, c61, c62, c63, c64, c65, c66, c67, c68, c69, c70, c71, c72, c73, c74, c75, c76, c77, c78, c79, c80, c81, c82, c83, c84, u85, u86, u87, u88, u89, u90, u91, u92, u93, u94, u95, u96, u97, u98, u99, u100, u101, u102, u103, u104, u105, u106, u107, u108, u109, u110, u111, u112, u113, u114, u115, u116, u117, u118, u119, u120, u121, u122, u123, u124, u125, u126, u127, u128, u129, u130, u131, u132, u133, u134, u135, u136, u137, u138, u139, u140, u141, u142, u143, u144, u145, u146, u147, u148, u149, u150, c151, c152, c153, c154, c155, c156, c157, c158, c159, c160, c161, c162, c163, c164, c165, c166, c167, c168, c169, c170, c171, c172, c173, c174, c175, c176, c177, c178, c179, c180, c181, c182, c183, c184, c185, c186, c187, c188, c189], []⟩ wr := by
  conv => arg 2; whnf
  have hj : j < ts.length := (List.getElem?_eq_some_iff.1 ht).1
  have hi : (j : Int) < (ts.length : Int) := by omega
  have hmem : t ∈ ts := List.mem_of_getElem? ht
  obtain ⟨⟨hto0, hto1⟩, _⟩ := C.k t hmem
  obtain ⟨tn, hto⟩ : ∃ tn : Nat, t.1 = (tn : Int) := ⟨t.1.toNat, by omega⟩
  have htl : tn < 3 := by omega
  have htn : (tn : Int) < 3 := by omega
  obtain ⟨gt, rfl⟩ := owns_addr C.t (by omega)
  have ot := owns_only C.t on (fun x hx e => owns_types C.t C.s (by decide) hx (by rw [e]; rfl))
  obtain ⟨y0, y1, y2, y3, y4x⟩ := told_atG ot ht
  rw [hto] at y0
  rw [hk] at y1
  have y4 : wr.cell? ⟨gt, j * 5 + 4, none⟩ = some (.slice t.2.a t.2.xs.length t.2.c) := y4x
  clear y4x
  have HTK : Hid ((ts.map tabs).take (j + 1) = (ts.map tabs).take j ++ [tabs t]) := take_snoc _ _ _ (by rw [List.getElem?_map, ht]; rfl)
  have HTA : Hid (tabs t = ((tn : Int), 3, t.2.o)) := by show _ = _; unfold tabs; rw [hto, hk]
  have hsl : (stF st ((ts.map tabs).take j)).length = 3 := by rw [stF_length]; exact C.sl
  obtain ⟨sts, hsts⟩ : ∃ l, stF st ((ts.map tabs).take j) = l := ⟨_, rfl⟩
  have HST : Hid (stF st ((ts.map tabs).take j) = sts) := hsts
  obtain ⟨ans, hans⟩ : ∃ l, ansF wB wd ((ts.map tabs).take j) = l := ⟨_, rfl⟩
  have HAN : Hid (ansF wB wd ((ts.map tabs).take j) = ans) := hans
  rw [hsts] at hs hsl
  rw [hans] at hq
  have sc : wr.cell? ⟨sB, tn, none⟩ = some (.int .i64 (sts.getD tn 0)) := by rw [hs.cellAt tn (by omega)]; simp [hsl, htl]
  have sf : wr.frozen? ⟨sB, tn, none⟩ = false := hs.frozenAt tn
  have sz : sB < wr.heap.size := (hs.lt sB rfl).2
  have hn100 : ts.length ≤ 100 := C.n
  rw [ho] at y3
  have HO : Hid (t.2.o = false) := ho
  have hxs : t.2.xs = wd := by rcases (C.k t hmem).2 with h | h | h; exact h.2; omega; omega
  obtain ⟨ol, old⟩ := C.l t hmem
  have ol2 := owns_only ol on (fun x hx e => old (by rw [hx, e]))
  have od2 := owns_only C.d on (fun x hx e => C.sd (by simp [Value.ownBlock] at hx; omega))
  have hwl : wd.length = 4 := by have := C.d.1; simpa using this
  rw [hxs, hwl] at y4
  have RL : Row .i64 wr t.2.a wd := by rw [← hxs]; exact owns_row' ol2 (by rw [hxs]; omega)
  have RD : Row .i64 wr (some ⟨wB, 0, none⟩) wd := by have h9 := od2; rw [← hwl] at h9; exact owns_row' h9 (by omega)
  have bT := bel_alloc (Below.refl wr.heap.size wr) (.cells #[.int .i64 tn, .int .i64 3, .int .i64 t.2.p, .bool false, .slice t.2.a 4 t.2.c] 36)
  have XT := Box.new wr #[.int .i64 tn, .int .i64 3, .int .i64 t.2.p, .bool false, .slice t.2.a 4 t.2.c] 36
  have H1 : Hid (∀ n : Nat, Calls Try.prog 10 #[.slice t.2.a 4 t.2.c, .slice (some ⟨wB, 0, none⟩) 4 4] (wr.alloc (.cells #[.int .i64 tn, .int .i64 3, .int .i64 t.2.p, .bool false, .slice t.2.a 4 t.2.c] 36)) fun e w' => e = .returned (.bool true) ∧ ∃ n, w' = (wr.alloc (.cells #[.int .i64 tn, .int .i64 3, .int .i64 t.2.p, .bool false, .slice t.2.a 4 t.2.c] 36)).drewN n) := fun _ => by
    have h9 := sameIntsG_any t.2.a (some ⟨wB, 0, none⟩) t.2.c 4 wd _ (RL.below bT) (RD.below bT)
    rw [hwl] at h9
    exact h9
  obtain ⟨W0, hW0⟩ : ∃ W0, wr.alloc (.cells #[.int .i64 tn, .int .i64 3, .int .i64 t.2.p, .bool false, .slice t.2.a 4 t.2.c] 36) = W0 := ⟨_, rfl⟩
  have HW0 : Hid (wr.alloc (.cells #[.int .i64 tn, .int .i64 3, .int .i64 t.2.p, .bool false, .slice t.2.a 4 t.2.c] 36) = W0) := hW0
  rw [hW0] at bT XT H1
  have hs0 := owns_below hs bT
  have sc0 : W0.cell? ⟨sB, tn, none⟩ = some (.int .i64 (sts.getD tn 0)) := (bT.cell (p := ⟨sB, tn, none⟩) sz).trans sc
  have sf0 : W0.frozen? ⟨sB, tn, none⟩ = false := hs0.frozenAt tn
  have z0 : W0.cell? ⟨wr.heap.size, 0, none⟩ = some (.int .i64 (tn : Int)) := XT.cell 0
  have z1 : W0.cell? ⟨wr.heap.size, 1, none⟩ = some (.int .i64 3) := XT.cell 1
  have z3 : W0.cell? ⟨wr.heap.size, 3, none⟩ = some (.bool false) := XT.cell 3
  have z4 : W0.cell? ⟨wr.heap.size, 4, none⟩ = some (.slice t.2.a 4 t.2.c) := XT.cell 4
  have zz := XT.lt
  have hne : wr.heap.size ≠ sB := by omega
  have HQ : Hid ((ans = [] ∧ v10 = v) ∨ (ans ≠ [] ∧ W0.ownsRow W.heap.size 36 5 v10 ans.length (tflat ans))) := hq.imp id (fun h => ⟨h.1, owns_below h.2 bT⟩)
  have ON : Hid (Only W W0 (fun x => x = sB)) := ⟨bT.os.trans on.os, bT.tape.trans on.tape, bT.output.trans on.output, Nat.le_trans on.size bT.size, fun i hi hn => (bT.block i (Nat.lt_of_lt_of_le hi on.size)).trans (on.block i hi hn)⟩
  have HS0 : Hid (W0.ownsRow lo 3 1 (.slice (some ⟨sB, 0, none⟩) 3 3) 3 (sts.map (Value.int .i64))) := hs0
  clear hs hq on ot hs0 XT ol old ol2 od2 RL RD bT sc sf hans hsts hk ho hmem hto hxs hwl hsl hto0 hto1 ht C
  go_wp2_with fail
  refine (H1.out 0).mono ?_
  rintro e w1 ⟨rfl, d1, rfl⟩
  go_wp2
  refine ⟨?_, by simp [mu3, intOf]; omega⟩
  unfold WI3
  refine ⟨_, _, _, _, _, _, _, _, _, _, _, _, _, _, _, _, _, _, _, _, _, _, _, _, _, _, _, _, _, _, _, _, _, _, _, _, _, _, _, _, _, _, _, _, _, _, _, _, _, _, _, _, _, _, _, _, _, _, _, _, _, _, _, _, _, _, _, _, _, ?_, rfl⟩
  have hst : stF st ((ts.map tabs).take (j + 1)) = sts.set tn 1 := by rw [HTK.out, stF_snoc, HST.out, HTA.out, HO.out]; simp [st1]
  have han : ansF wB wd ((ts.map tabs).take (j + 1)) = ans := by rw [HTK.out, ansF_snoc, HAN.out, HTA.out]; simp [ans1]
  refine ⟨j + 1, by go_num, by omega, ?_, ?_, ?_⟩
  · exact (ON.out.setCell ⟨sB, tn, none⟩ _ rfl).below (below_drewN (Below.refl _ _) d1)
  · rw [hst]
    have h1 := (HS0.out.stored tn (.int .i64 1)).1
    rw [← List.map_set] at h1
    exact h1
  · rw [han]
    exact HQ.out.imp id (fun h => ⟨h.1, owns_setCell h.2 (fun x hx e => by have := owns_types h.2 HS0.out (by decide) hx; exact this (by rw [← e]; rfl)) _⟩)
end Go.Proofs.Ytliihkdocbpolaa
