/- KpW and KpN and KpA: see the heads of the parts. -/
import Derived.Test.YtliihkdocbpolaaKpB
import Derived.Test.YtliihkdocbpolaaImplQ
/- What impl's cut and with do to those who wait. -/
namespace Go.Proofs.Ytliihkdocbpolaa
open Go.RowKit Go.Maps
set_option linter.unusedVariables false

theorem info_wait' : (Try.prog.info? 27).map (fun i => (i.zero, i.size, i.bytes)) = some (some (.agg #[.int .i64 0, .bool false]), 2, 16) := by kernel_rfl

/-- Where a row of those who wait lies that was cut at its front. -/
def CutW (a a' : Option Addr) (n k : Nat) : Prop := (a' = a ∧ n = k) ∨ ∃ b off, a = some ⟨b, off, none⟩ ∧ a' = some ⟨b, off + k * 2, none⟩

theorem wv_drop (ws : List (Int × Bool)) (k : Nat) (i : Nat) : (wv (ws.drop k))[i]? = (wv ws)[k * 2 + i]? := by
  induction k generalizing ws with
  | zero => simp
  | succ k ih =>
    cases ws with
    | nil => simp [wv]
    | cons p ws =>
      rw [List.drop_succ_cons, ih ws, wv_cons, show (k + 1) * 2 + i = k * 2 + i + 1 + 1 by omega]
      simp

theorem WRow.cut {lo : Nat} {w : World} {a a' : Option Addr} {ws : List (Int × Bool)} {k : Nat} (h : WRow lo w a ws) (hk : k ≤ ws.length) (hc : CutW a a' ws.length k) : WRow lo w a' (ws.drop k) := by
  rcases hc with ⟨rfl, hn⟩ | ⟨b, off, rfl, rfl⟩
  · refine ⟨?_, h.2⟩
    rw [List.drop_eq_nil_of_le (by omega)]
    exact ⟨by simp [wv], fun i v hi => by simp [wv] at hi⟩
  · refine ⟨⟨by have := h.1.1; rw [wv_length] at this ⊢; simp; omega, fun i v hi => ?_⟩, fun b' off' s he => ?_⟩
    · rw [wv_drop] at hi
      obtain ⟨b', off', he, hcell⟩ := h.1.2 _ v hi
      simp at he
      obtain ⟨rfl, rfl⟩ := he
      exact ⟨b, off + k * 2, rfl, by rw [Nat.add_assoc]; exact hcell⟩
    · simp at he
      obtain ⟨rfl, _, _⟩ := he
      exact h.2 _ _ _ rfl

set_option maxRecDepth 100000 in
set_option maxHeartbeats 1000000 in
theorem cutW_any (a : Option Addr) (n c k : Nat) (w : World) (hk : k ≤ n) (hn : n ≤ 1048577) (hc : n ≤ c) (ha : 0 < n → ∃ b off, a = some ⟨b, off, none⟩) :
    Calls Try.prog 34 #[.slice a n c, .int .i64 k] w fun e w' => ∃ a', e = .returned (.slice a' (n - k) (n - k)) ∧ CutW a a' n k ∧ w' = w := by
  by_cases h : n = k
  · subst h
    go_enter Try.func34, Try.ntmps34
    go_wp2
    go_ret
    exact ⟨a, by rw [Nat.sub_self]; rfl, .inl ⟨rfl, rfl⟩, rfl⟩
  · obtain ⟨b, off, rfl⟩ := ha (by omega)
    go_enter Try.func34, Try.ntmps34
    go_wp2
    go_ret
    exact ⟨_, rfl, .inr ⟨b, off, rfl, by simp⟩, rfl⟩

theorem WRow.addr {lo : Nat} {w : World} {a : Option Addr} {ws : List (Int × Bool)} (h : WRow lo w a ws) : 0 < ws.length → ∃ b off, a = some ⟨b, off, none⟩ := fun h0 => by
  obtain ⟨b, off, rfl, _, _⟩ := h.1.wait 0 h0
  exact ⟨b, off, rfl⟩

theorem cutW_none {a a' : Option Addr} {n : Nat} (h : CutW a a' n 0) (ha : 0 < n → ∃ b off, a = some ⟨b, off, none⟩) : a' = none → n = 0 ∧ n = 0 := fun e => by
  rcases h with ⟨_, h⟩ | ⟨b, off, rfl, e'⟩
  · exact ⟨h, h⟩
  · rw [e] at e'
    simp at e'

theorem cutW_src {lo : Nat} {w : World} {a a' : Option Addr} {ws : List (Int × Bool)} (ha : WRow lo w a ws) (hcut : CutW a a' ws.length 0) (o1 o2 : Obj) :
    ∀ b, a' = some b → ∀ j u, (wv ws)[j]? = some u → ((w.alloc o1).alloc o2).drew.cell? (b.add j) = some u := fun b hb j u hu => by
  have hm := (ha.cut (Nat.zero_le _) hcut).1.below (bel_alloc (bel_alloc (Below.refl w.heap.size w) o1) o2)
  rw [List.drop_zero] at hm
  obtain ⟨b', off, he, hc⟩ := hm.2 j u hu
  rw [hb] at he
  simp at he
  subst he
  rw [addr_add]
  exact hc

theorem newW_src (w : World) (o1 : Obj) (p : Int × Bool) : ∀ j u, [Value.int .i64 p.1, Value.bool p.2][j]? = some u → ((w.alloc o1).alloc (.cells #[.int .i64 p.1, .bool p.2] 27)).drew.cell? ((⟨w.heap.size + 1, 0, none⟩ : Addr).add j) = some u := fun j u hu => by
  have h := Box.new (w.alloc o1) #[.int .i64 p.1, .bool p.2] 27
  have e : (w.alloc o1).heap.size = w.heap.size + 1 := by simp
  rw [e] at h
  exact World.news_of_block h j u hu

theorem keep2n {W W' : World} (g : W.grownBy W' none) {a0 a1 : Addr} {u0 u1 : Value} (h : W.cell? a0 = some u0 ∧ W.cell? a1 = some u1) : W'.cell? a0 = some u0 ∧ W'.cell? a1 = some u1 :=
  ⟨(g.cell_far _ (lt_of_cell h.1) (by simp)).trans h.1, (g.cell_far _ (lt_of_cell h.2) (by simp)).trans h.2⟩

set_option maxRecDepth 100000 in
set_option maxHeartbeats 1000000 in
theorem withW_any (lo : Nat) (a : Option Addr) (c : Nat) (ws : List (Int × Bool)) (p : Int × Bool) (w : World) (ha : WRow lo w a ws) (hl : ws.length ≤ 1048576) (hc : ws.length ≤ c) :
    Calls Try.prog 40 #[.slice a ws.length c, .agg #[.int .i64 p.1, .bool p.2]] w fun e w' => ∃ a' c', e = .returned (.slice a' (ws.length + 1) c') ∧ w'.ownsRow w.heap.size 27 2 (.slice a' (ws.length + 1) c') (ws.length + 1) (wv (ws ++ [p])) ∧ Below w.heap.size w w' := by
  obtain ⟨i0, hi, hz0, hz1, hz2⟩ := info_parts info_wait'
  have bA := bel_alloc (Below.refl w.heap.size w) (.cells #[.int .i64 p.1, .bool p.2] 27)
  have XA := Box.new w #[.int .i64 p.1, .bool p.2] 27
  go_enter Try.func40, Try.ntmps40
  go_wp2_with fail
  obtain ⟨x0, x1, zx⟩ := XA.at2
  have hadr := ha.addr
  go_region_held3 (fun w' => w'.cell? ⟨w.heap.size, 0, none⟩ = some (.int .i64 p.1) ∧ w'.cell? ⟨w.heap.size, 1, none⟩ = some (.bool p.2))
    (first | (with_reducible exact keep2n g4 ‹_›) | go_keep)
    (first | (go_at_call 34; refine (cutW_any a ws.length c 0 _ (by omega) (by omega) hc hadr).mono ?_; rintro e w1 ⟨a', rfl, hcut, h⟩; subst h) | (refine step_append_grows rfl (.tmp 6) (.tmp 8) 56 rfl 27 i0 (.agg #[.int .i64 0, .bool false]) 2 16 Try.underlying56 hi hz0 hz1 hz2 rfl (by decide) a' ws.length ws.length (wv ws) (by rfl) (cutW_none hcut hadr) (wv_length ws) (cutW_src ha hcut _ _) ⟨w.heap.size + 1, 0, none⟩ 1 1 [.int .i64 p.1, .bool p.2] (by rfl) rfl (newW_src w _ p) (fun u hu => by simp at hu; rcases hu with rfl | rfl <;> rfl) (by omega) (by unfold maxLen; omega) (by omega) ?_; intro v4 w4 o4 g4; obtain ⟨a4, c4, rfl⟩ := owns_slice o4) | fail)
  all_goals
    have b0 := bel_drew (bel_alloc bA (.cells #[.int .i64 p.1, .bool p.2] 27))
    have B4 : Below w.heap.size w w4 := b0.grown g4 b0.size (fun k hk => by cases hk)
    have o4 := owns_base o4 b0.size
    clear b0 g4 bA XA x0 x1 zx hadr
    go_wp2
    go_ret
    refine ⟨_, _, rfl, ?_, B4⟩
    rw [wv_append]
    simpa [wv] using o4
end Go.Proofs.Ytliihkdocbpolaa

/- What impl's (keeper) goOn does. -/
namespace Go.Proofs.Ytliihkdocbpolaa
open Go.RowKit Go.Maps
set_option linter.unusedVariables false

theorem KLies.setW {lo : Nat} {w : World} {kB mB : Nat} {aw : Option Addr} {cw : Nat} {vt : Value} {S : KS} {n : Nat} (h : KLies lo w kB mB aw cw vt S n) {aw' : Option Addr} (cw' : Nat) {ws' : List (Int × Bool)} (q' : WRow lo w aw' ws') :
    KLies lo (w.setCell ⟨kB, 12, none⟩ (.slice aw' ws'.length cw')) kB mB aw' cw' vt { S with ws := ws' } n ∧ Same lo w (w.setCell ⟨kB, 12, none⟩ (.slice aw' ws'.length cw')) := by
  have hS : Same lo w (w.setCell ⟨kB, 12, none⟩ (.slice aw' ws'.length cw')) := by
    refine ⟨rfl, rfl, rfl, by simp, fun j hj hs => Below.heap_setCell _ _ _ _ (by have := h.lk; simp; omega), fun j cs t fr hj h1 h2 => ?_⟩
    have hne : j ≠ kB := fun e => by
      subst e
      have := h.k
      unfold Box at this
      rw [this] at hj
      simp at hj
      exact h1 hj.2.1.symm
    rw [Below.heap_setCell _ _ _ _ hne]
    exact hj
  have nk := box_ne h.k h.t (by decide)
  refine ⟨⟨h.lk, h.lm, heap_setCell_same _ _ 12 _ _ _ h.k, ?_, q'.same hS, owns_setCell h.t (fun j hj e => nk (by rw [hj, ← e])) _, fun t ht => owns_same (h.l t ht) hS (by decide) (by decide)⟩, hS⟩
  obtain ⟨D, oD, hD⟩ := h.r
  exact ⟨D, oD.setCell (fun e => by
    obtain ⟨es, cl, hb, _⟩ := oD
    have hk := h.k
    unfold Box at hk
    simp only at e
    rw [e, hk] at hb
    simp at hb) _, hD⟩

/-- One turn: the first one that waits. -/
def nowS (S : KS) (p : Int × Bool) (ws : List (Int × Bool)) : KS := { S with bz := true, wh := p.1, wo := p.2, ws := ws }
def TurnR (S S' : KS) : Prop := S.bz = false ∧ ∃ p ws, S.ws = p :: ws ∧ BeginR (nowS S p ws) S'
def StepsN (S : KS) : Nat → KS → Prop
  | 0, S' => S' = S
  | n + 1, S' => ∃ S1, StepsN S n S1 ∧ TurnR S1 S'
def StepsR (S S' : KS) : Prop := ∃ n, StepsN S n S'
theorem StepsR.refl {S : KS} : StepsR S S := ⟨0, rfl⟩
theorem StepsR.snoc {S S1 S2 : KS} (h : StepsR S S1) (t : TurnR S1 S2) : StepsR S S2 := h.elim fun n hn => ⟨n + 1, S1, hn, t⟩
theorem StepsR.last {S S' : KS} (h : StepsR S S') : S' = S ∨ ∃ S1, StepsR S S1 ∧ TurnR S1 S' := by
  obtain ⟨n, hn⟩ := h
  cases n with
  | zero => exact .inl hn
  | succ n =>
    obtain ⟨S1, h1, t⟩ := hn
    exact .inr ⟨S1, ⟨n, h1⟩, t⟩
/-- All turns until one has to wait. -/
def GoR (S S' : KS) : Prop := StepsR S S' ∧ (S'.bz = true ∨ S'.ws = [])

theorem BeginR.keeps {S S' : KS} (h : BeginR S S') : S'.ws = S.ws ∧ S'.rd.length = S.rd.length ∧ S'.ts.length ≤ S.ts.length + S.rd.length + 1 := by
  have hol := othersL_le S.rd S.wh
  rcases h with ⟨h, rfl⟩ | ⟨h, ho, hl, rfl⟩ | ⟨a, c, h, ho, hl, rfl⟩ | ⟨a, c, h, ho, rfl⟩
  · simp [fetchS]
  · simp [awayS, goneL, rdSub_length]; omega
  · simp [giveS, awayS, goneL, ho, rdSub_length]; omega
  · simp [giveS, ho, rdAdd_length]

/-- What a home at work keeps to. -/
structure KOk (S : KS) (n : Nat) : Prop where
  rd : S.rd.length ≤ 4
  ws : ∀ p ∈ S.ws, 0 ≤ p.1 ∧ p.1 < S.rd.length
  wl : S.ws.length ≤ 20
  ts : S.ts.length + 6 * S.ws.length ≤ 1000
  n : n + S.ws.length ≤ 1000

def waitLen (w : World) (kB : Nat) : Nat := match w.cell? ⟨kB, 12, none⟩ with
  | some (.slice _ n _) => n
  | _ => 0
theorem KLies.waits {lo : Nat} {w : World} {kB mB : Nat} {aw : Option Addr} {cw : Nat} {vt : Value} {S : KS} {n : Nat} (h : KLies lo w kB mB aw cw vt S n) : waitLen w kB = S.ws.length := by
  unfold waitLen
  rw [h.k.cell 12]
  rfl

set_option maxRecDepth 100000 in
set_option maxHeartbeats 2000000 in
theorem goOn_any (lo : Nat) (w : World) (kB mB : Nat) (aw : Option Addr) (cw : Nat) (vt : Value) (S : KS) (n : Nat) (h : KLies lo w kB mB aw cw vt S n) (hlo : lo ≤ w.heap.size) (hok : KOk S n) (hcw : S.ws.length ≤ cw) :
    Calls Try.prog 18 #[.pointer (some ⟨kB, 0, none⟩)] w fun e w' =>
      e = .returned (.tuple #[]) ∧ ∃ S' aw' cw' vt' n', GoR S S' ∧ KLies lo w' kB mB aw' cw' vt' S' n' ∧ S'.ws.length ≤ cw' ∧ KOk S' n' ∧ Same lo w w' := by
  go_enter Try.func18, Try.ntmps18
  go_wp2
  go_loopw [2] (fun _ wr => ∃ S' aw' cw' vt' n', StepsR S S' ∧ KLies lo wr kB mB aw' cw' vt' S' n' ∧ S'.ws.length ≤ cw' ∧ KOk S' n' ∧ Same lo w wr ∧ lo ≤ wr.heap.size) (fun _ wr => waitLen wr kB)
  case atStart => exact ⟨S, aw, cw, vt, n, .refl, h, hcw, hok, Same.refl _ _, hlo⟩
  case round =>
    clear h hlo hok hcw
    obtain ⟨S1, aw1, cw1, vt1, n1, hst, hL, hcw, hok, hS, hlo⟩ := hrel
    have k8 := hL.k.cell 8
    have k12 := hL.k.cell 12
    have kz := hL.k.lt
    have hwl := hok.wl
    cases hbz : S1.bz
    · cases hws : S1.ws with
      | nil =>
        have hw0 : S1.ws.length = 0 := by rw [hws]; rfl
        have hw1 : (S1.ws.length : Int) ≤ 0 := by omega
        have HN : Hid (∃ S' aw' cw' vt' n', GoR S S' ∧ KLies lo wr kB mB aw' cw' vt' S' n' ∧ S'.ws.length ≤ cw' ∧ KOk S' n' ∧ Same lo w wr) := ⟨S1, aw1, cw1, vt1, n1, ⟨hst, .inr hws⟩, hL, hcw, hok, hS⟩
        clear hL hS hok hst hws hw0
        go_wp2
        refine ⟨rfl, .tuple #[], by simp [results, Try.results18, go_sem], rfl, HN.out⟩
      | cons p rest =>
        obtain ⟨pg, nd, x0, x1, x2, x3, ow, rd, bz, wh, wo, ak, ws, ts⟩ := S1
        simp only at hws hbz hcw hwl
        subst hws hbz
        obtain ⟨b, off, rfl, y0, y1⟩ := hL.q.1.wait 0 (by simp)
        simp only [Nat.zero_mul, Nat.add_zero, List.getD_cons_zero] at y0 y1
        have hpw := hok.ws p (by simp)
        simp only at hpw
        have q1 := hL.set 8 (.bool true) (S' := ⟨pg, nd, x0, x1, x2, x3, ow, rd, true, wh, wo, ak, p :: rest, ts⟩) (heap_setCell_same _ _ 8 _ _ _ hL.k) rfl rfl rfl
        have q2 := q1.1.set 9 (.int .i64 p.1) (S' := ⟨pg, nd, x0, x1, x2, x3, ow, rd, true, p.1, wo, ak, p :: rest, ts⟩) (heap_setCell_same _ _ 9 _ _ _ q1.1.k) rfl rfl rfl
        have q3 := q2.1.set 10 (.bool p.2) (S' := ⟨pg, nd, x0, x1, x2, x3, ow, rd, true, p.1, p.2, ak, p :: rest, ts⟩) (heap_setCell_same _ _ 10 _ _ _ q2.1.k) rfl rfl rfl
        have hS3 := hS.trans (q1.2.trans (q2.2.trans q3.2))
        have hL3 := q3.1
        have f8 := hL.k.frozen 8
        have f9 := hL.k.frozen 9
        have f10 := hL.k.frozen 10
        have k9 := hL.k.cell 9
        have k10 := hL.k.cell 10
        have WL : Hid (waitLen wr kB = rest.length + 1) := hL.waits
        obtain ⟨W3, hW3⟩ : ∃ W3, ((wr.setCell ⟨kB, 8, none⟩ (.bool true)).setCell ⟨kB, 9, none⟩ (.int .i64 p.1)).setCell ⟨kB, 10, none⟩ (.bool p.2) = W3 := ⟨_, rfl⟩
        rw [hW3] at hL3 hS3
        have c12 := hL3.k.cell 12
        have z3 := hL3.k.lt
        have f12 := hL3.k.frozen 12
        have hlo3 : lo ≤ W3.heap.size := by rw [← hW3]; simpa using hlo
        have hadr := hL3.q.addr
        have HOK := hok
        clear q1 q2 q3 hS hok
        go_wp2_with fail
        refine (cutW_any (some ⟨b, off, none⟩) (rest.length + 1) cw1 1 _ (by omega) (by simp at hwl; omega) (by simpa using hcw) (fun _ => ⟨b, off, rfl⟩)).mono ?_
        rintro e w4 ⟨a', rfl, hcut, h⟩
        subst h
        have q' := hL3.q.cut (k := 1) (by simp) hcut
        rw [Nat.add_sub_cancel]
        have hL4 := hL3.setW rest.length (ws' := rest) q'
        have hS4 := hS3.trans hL4.2
        have hlo4 : lo ≤ (w4.setCell ⟨kB, 12, none⟩ (.slice a' rest.length rest.length)).heap.size := by simpa using hlo3
        clear hL3 hS3 q' hcut hL y0 y1 k8 k12 k9 k10 f8 f9 f10 hadr
        go_wp2_with fail
        refine (begin_any lo _ kB mB a' rest.length vt1 (nowS ⟨pg, nd, x0, x1, x2, x3, ow, rd, false, wh, wo, ak, p :: rest, ts⟩ p rest) n1 hL4.1 hlo4 HOK.rd (by have := HOK.ts; simp at this; simp [nowS]; omega) (by have := HOK.n; simp at this; omega) hpw).mono ?_
        rintro e w5 ⟨rfl, S5, vt5, hB5, hL5, hS5⟩
        obtain ⟨g1, g2, g3⟩ := hB5.keeps
        simp only [nowS] at g1 g2 g3
        have hK5 : KOk S5 (n1 + 1) := by
          have h1 := HOK.rd
          have h2 := HOK.ws
          have h3 := HOK.wl
          have h4 := HOK.ts
          have h5 := HOK.n
          simp at h1 h2 h3 h4 h5
          refine ⟨by omega, fun q hq => ?_, by rw [g1]; omega, by rw [g1]; omega, by rw [g1]; omega⟩
          rw [g1] at hq
          rw [g2]
          have h6 := HOK.ws q (List.mem_cons_of_mem _ hq)
          simpa using h6
        have HN : Hid (∃ S' aw' cw' vt' n', StepsR S S' ∧ KLies lo w5 kB mB aw' cw' vt' S' n' ∧ S'.ws.length ≤ cw' ∧ KOk S' n' ∧ Same lo w w5 ∧ lo ≤ w5.heap.size) := ⟨S5, a', rest.length, vt5, n1 + 1, .snoc hst ⟨rfl, p, rest, rfl, hB5⟩, hL5, by rw [g1]; exact Nat.le_refl _, hK5, hS4.trans hS5, by have := hS5.size; omega⟩
        have HM : Hid (waitLen w5 kB < waitLen wr kB) := by
          show _ < _
          rw [WL.out, hL5.waits, g1]
          omega
        clear hL4 hS4 hL5 hS5 hB5 g1 g2 g3 hK5 HOK
        go_wp2
        go_roundw
        case rel => exact HN.out
        case measure => exact HM.out
    · have HN : Hid (∃ S' aw' cw' vt' n', GoR S S' ∧ KLies lo wr kB mB aw' cw' vt' S' n' ∧ S'.ws.length ≤ cw' ∧ KOk S' n' ∧ Same lo w wr) := ⟨S1, aw1, cw1, vt1, n1, ⟨hst, .inl hbz⟩, hL, hcw, hok, hS⟩
      clear hL hS hok hst
      go_wp2
      refine ⟨rfl, .tuple #[], by simp [results, Try.results18, go_sem], rfl, HN.out⟩
end Go.Proofs.Ytliihkdocbpolaa

/- What impl's (keeper) asked and acked do. -/
namespace Go.Proofs.Ytliihkdocbpolaa
open Go.RowKit Go.Maps
set_option linter.unusedVariables false

theorem WRow.of_owns {lo base : Nat} {w : World} {a : Option Addr} {n c : Nat} {ws : List (Int × Bool)} (h : w.ownsRow base 27 2 (.slice a n c) n (wv ws)) (hl : ws.length ≤ 1048577) : WRow lo w a ws ∧ n ≤ c := by
  refine ⟨⟨owns_vrow' h (by rw [wv_length]; omega), fun b off s e => ?_⟩, ?_⟩
  · rcases h.2 with ⟨hv, h0⟩ | ⟨g, cap, cur, hv, hb, hg, rest⟩
    · simp at hv
      rw [hv.1] at e
      cases e
    · simp only [Value.slice.injEq] at hv
      rw [hv.1] at e
      simp at e
      rw [← e.1]
      exact .inr ⟨_, _, hg⟩
  · rcases h.2 with ⟨hv, h0⟩ | ⟨g, cap, cur, hv, hb, hg, hnc, rest⟩
    · omega
    · simp only [Value.slice.injEq] at hv
      omega

def askS (S : KS) (x : Int) (o : Bool) : KS := { S with ws := S.ws ++ [(x, o)] }

set_option maxRecDepth 100000 in
set_option maxHeartbeats 1000000 in
theorem asked_full (lo : Nat) (w : World) (kB mB : Nat) (aw : Option Addr) (cw : Nat) (vt : Value) (S : KS) (n : Nat) (h : KLies lo w kB mB aw cw vt S n) (x mk mp : Int) (mo : Bool) (mv : Value) (hl : 12 ≤ S.ws.length) (hl1 : S.ws.length ≤ 1048576) :
    Calls Try.prog 31 #[.pointer (some ⟨kB, 0, none⟩), .int .i64 x, .agg #[.int .i64 mk, .int .i64 mp, .bool mo, mv]] w fun e w' => e = .returned (.bool false) ∧ Below w.heap.size w w' := by
  have k12 := h.k.cell 12
  have kz := h.k.lt
  have hl' : (12 : Int) ≤ S.ws.length := by omega
  clear h
  go_enter Try.func31, Try.ntmps31
  go_wp2
  go_ret
  exact ⟨rfl, bel_alloc (Below.refl _ _) _⟩

theorem ask_with (lo : Nat) (w : World) (kB mB : Nat) (aw : Option Addr) (cw : Nat) (vt : Value) (S : KS) (n : Nat) (h : KLies lo w kB mB aw cw vt S n) (hcw : S.ws.length ≤ cw) (x : Int) (o : Bool) (hl : S.ws.length < 12) :
    Calls Try.prog 40 #[.slice aw S.ws.length cw, .agg #[.int .i64 x, .bool o]] w.drew fun e w' => ∃ a' c', e = .returned (.slice a' (S.ws.length + 1) c') ∧ (w'.cell? ⟨kB, 12, none⟩ = some (.slice aw S.ws.length cw) ∧ w'.frozen? ⟨kB, 12, none⟩ = false ∧ kB < w'.heap.size) ∧
      Hid (KLies lo (w'.setCell ⟨kB, 12, none⟩ (.slice a' (S.ws.length + 1) c')) kB mB a' c' vt (askS S x o) n ∧ S.ws.length + 1 ≤ c' ∧ Same lo w (w'.setCell ⟨kB, 12, none⟩ (.slice a' (S.ws.length + 1) c'))) := by
  have hq : WRow lo w.drew aw S.ws := h.q
  refine (withW_any lo aw cw S.ws (x, o) w.drew hq (by omega) hcw).mono ?_
  rintro e w1 ⟨a1, c1, rfl, o1, b1⟩
  obtain ⟨q1, hc1⟩ := WRow.of_owns (lo := lo) o1 (by simp; omega)
  replace b1 := bel_undrew b1
  have L1 := h.below b1
  have T := L1.setW c1 q1
  rw [List.length_append] at T
  exact ⟨_, _, rfl, ⟨L1.k.cell 12, L1.k.frozen 12, L1.k.lt⟩, ⟨T.1, hc1, (Same.of_below b1).trans T.2⟩⟩

set_option maxRecDepth 100000 in
set_option maxHeartbeats 1000000 in
theorem asked_room (lo : Nat) (w : World) (kB mB : Nat) (aw : Option Addr) (cw : Nat) (vt : Value) (S : KS) (n : Nat) (h : KLies lo w kB mB aw cw vt S n) (hcw : S.ws.length ≤ cw) (x mk mp : Int) (mo : Bool) (mv : Value) (hl : S.ws.length < 12) :
    Calls Try.prog 31 #[.pointer (some ⟨kB, 0, none⟩), .int .i64 x, .agg #[.int .i64 mk, .int .i64 mp, .bool mo, mv]] w fun e w' => e = .returned (.bool true) ∧ ∃ aw' cw', KLies lo w' kB mB aw' cw' vt (askS S x (mk == 2)) n ∧ S.ws.length + 1 ≤ cw' ∧ Same lo w w' := by
  have b0 := bel_alloc (Below.refl w.heap.size w) (.cells #[.int .i64 mk, .int .i64 mp, .bool mo, mv] 34)
  have hK : Hid (KLies lo (w.alloc (.cells #[.int .i64 mk, .int .i64 mp, .bool mo, mv] 34)) kB mB aw cw vt S n) := h.below b0
  have k12 := h.k.cell 12
  have kz := h.k.lt
  have hl' : (S.ws.length : Int) < 12 := by omega
  clear h
  go_enter Try.func31, Try.ntmps31
  go_wp2
  go_region_with (first | (go_at_call 40; refine (ask_with lo _ kB mB aw cw vt S n hK.out hcw x (mk == 2) hl).mono ?_; rintro e w1 ⟨a1, c1, rfl, ⟨c12, f12, z1⟩, HL1⟩) | fail)
  all_goals
    go_wp2
    go_ret
    exact ⟨rfl, _, _, HL1.out.1, HL1.out.2.1, (Same.of_below b0).trans HL1.out.2.2⟩

set_option maxRecDepth 100000 in
set_option maxHeartbeats 1000000 in
theorem acked_no (lo : Nat) (w : World) (kB mB : Nat) (aw : Option Addr) (cw : Nat) (vt : Value) (S : KS) (n : Nat) (h : KLies lo w kB mB aw cw vt S n) (x mk mp : Int) (mo : Bool) (mv : Value) (hn : S.bz = false ∨ S.ak ≤ 0) :
    Calls Try.prog 32 #[.pointer (some ⟨kB, 0, none⟩), .int .i64 x, .agg #[.int .i64 mk, .int .i64 mp, .bool mo, mv]] w fun e w' => e = .returned (.bool false) ∧ Below w.heap.size w w' := by
  have k8 := h.k.cell 8
  have k11 := h.k.cell 11
  have kz := h.k.lt
  clear h
  cases hb : S.bz
  · simp [hb] at k8
    go_enter Try.func32, Try.ntmps32
    go_wp2
    go_ret
    exact ⟨rfl, bel_alloc (Below.refl _ _) _⟩
  · have h0 : S.ak ≤ 0 := by
      rcases hn with hn | hn
      · rw [hb] at hn; cases hn
      · exact hn
    simp [hb] at k8
    go_enter Try.func32, Try.ntmps32
    go_wp2
    go_ret
    exact ⟨rfl, bel_alloc (Below.refl _ _) _⟩

set_option maxRecDepth 100000 in
set_option maxHeartbeats 1000000 in
theorem acked_more (lo : Nat) (w : World) (kB mB : Nat) (aw : Option Addr) (cw : Nat) (vt : Value) (S : KS) (n : Nat) (h : KLies lo w kB mB aw cw vt S n) (x mk mp : Int) (mo : Bool) (mv : Value) (hb : S.bz = true) (h1 : 1 < S.ak) (h2 : S.ak ≤ 4) :
    Calls Try.prog 32 #[.pointer (some ⟨kB, 0, none⟩), .int .i64 x, .agg #[.int .i64 mk, .int .i64 mp, .bool mo, mv]] w fun e w' => e = .returned (.bool true) ∧ KLies lo w' kB mB aw cw vt { S with ak := S.ak - 1 } n ∧ Same lo w w' := by
  have q1 := h.set 11 (.int .i64 (S.ak - 1)) (S' := { S with ak := S.ak - 1 }) (heap_setCell_same _ _ 11 _ _ _ h.k) rfl rfl rfl
  have b0 := bel_alloc (Below.refl (w.setCell ⟨kB, 11, none⟩ (.int .i64 (S.ak - 1))).heap.size (w.setCell ⟨kB, 11, none⟩ (.int .i64 (S.ak - 1)))) (.cells #[.int .i64 mk, .int .i64 mp, .bool mo, mv] 34)
  have HN : Hid (_ ∧ _) := ⟨q1.1.below b0, q1.2.trans (Same.of_below b0)⟩
  have k8 := h.k.cell 8
  have k11 := h.k.cell 11
  have f11 := h.k.frozen 11
  have kz := h.k.lt
  have h3 : ¬ S.ak - 1 = 0 := by omega
  clear h q1 b0
  simp [hb] at k8
  go_enter Try.func32, Try.ntmps32
  go_wp2
  go_ret
  exact ⟨rfl, HN.out.1, HN.out.2⟩

set_option maxRecDepth 100000 in
set_option maxHeartbeats 1000000 in
theorem acked_last (lo : Nat) (w : World) (kB mB : Nat) (aw : Option Addr) (cw : Nat) (vt : Value) (S : KS) (n : Nat) (h : KLies lo w kB mB aw cw vt S n) (hlo : lo ≤ w.heap.size) (hrd : S.rd.length ≤ 4) (hts : S.ts.length ≤ 50000) (hn : n ≤ 100000) (hwh : 0 ≤ S.wh ∧ S.wh < S.rd.length) (x mk mp : Int) (mo : Bool) (mv : Value) (hb : S.bz = true) (h1 : S.ak = 1) :
    Calls Try.prog 32 #[.pointer (some ⟨kB, 0, none⟩), .int .i64 x, .agg #[.int .i64 mk, .int .i64 mp, .bool mo, mv]] w fun e w' => e = .returned (.bool true) ∧ ∃ a c vt', KLies lo w' kB mB aw cw vt' (giveS { S with ak := 0 } a c) (n + 1) ∧ Same lo w w' := by
  have q1 := h.set 11 (.int .i64 0) (S' := { S with ak := 0 }) (heap_setCell_same _ _ 11 _ _ _ h.k) rfl rfl rfl
  have b0 := bel_alloc (Below.refl (w.setCell ⟨kB, 11, none⟩ (.int .i64 0)).heap.size (w.setCell ⟨kB, 11, none⟩ (.int .i64 0))) (.cells #[.int .i64 mk, .int .i64 mp, .bool mo, mv] 34)
  have HN : Hid (_ ∧ _) := ⟨q1.1.below b0, q1.2.trans (Same.of_below b0)⟩
  have k8 := h.k.cell 8
  have k11 := h.k.cell 11
  have f11 := h.k.frozen 11
  have kz := h.k.lt
  clear h q1 b0
  simp [hb] at k8
  simp [h1] at k11
  go_enter Try.func32, Try.ntmps32
  go_wp2_with (go_at_call 41; refine (give_any lo _ kB mB aw cw vt { S with ak := 0 } n HN.out.1 (by simp; omega) hrd hts hn hwh).mono ?_; rintro e w1 ⟨rfl, a1, c1, vt1, L1, S1⟩; have HL1 : Hid (_ ∧ _) := ⟨L1, S1⟩; clear L1 S1)
  go_ret
  exact ⟨rfl, _, _, _, HL1.out.1, HN.out.2.trans HL1.out.2⟩
end Go.Proofs.Ytliihkdocbpolaa
