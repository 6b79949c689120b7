/- What the law FnInOrder's small functions do: at, Arrived; the state of its loop. -/
import Derived.Test.YtbofjbjnbagbnaaImplQ2
import Derived.Test.YtbofjbjnbagbnaaImplA
import Derived.Test.YtbofjbjnbagbnaaSpecQ3
import Derived.Test.YtbofjbjnbagbnaaOpen
namespace Go.Proofs.Ytbofjbjnbagbnaa
open Go.RowKit
set_option linter.unusedVariables false

/-- What the law's at answers. -/
def atV (bs : List Int) (i : Nat) : Int := if i < bs.length then bs.getD i 0 else ((i : Int) * 7 + bs.length) % 256

set_option maxHeartbeats 400000 in
theorem at_any (a : Option Addr) (ca : Nat) (bs : List Int) (i : Nat) (w : World) (hi60 : i ≤ 60) (hl : bs.length ≤ 1048576) (hr : Row .u8 w a bs) (hb : ∀ x ∈ bs, 0 ≤ x ∧ x ≤ 255) :
    Calls Try.prog 5 #[.slice a bs.length ca, .int .i64 i] w fun e w' => ∃ x : Int, e = .returned (.int .i64 x) ∧ x = atV bs i ∧ 0 ≤ x ∧ x ≤ 255 ∧ w' = w := by
  by_cases h : i < bs.length
  · obtain ⟨b, off, rfl, hc⟩ := hr.2 i h
    have hx : 0 ≤ bs.getD i 0 ∧ bs.getD i 0 ≤ 255 := by
      have e : bs.getD i 0 = bs[i] := by simp [h]
      rw [e]
      exact hb _ (List.getElem_mem h)
    have hv : atV bs i = bs.getD i 0 := by unfold atV; rw [if_pos h]
    obtain ⟨x, hx'⟩ : ∃ x, bs.getD i 0 = x := ⟨_, rfl⟩
    rw [hx'] at hc hx hv
    have HV : Hid (atV bs i = x) := hv
    obtain ⟨hx0, hx1⟩ := hx
    have h' : (i : Int) < bs.length := by omega
    clear hr hb hx' hv
    go_enter Try.func5, Try.ntmps5
    go_wp2
    go_ret
    exact ⟨_, rfl, HV.out.symm, hx0, hx1, rfl⟩
  · have h' : (bs.length : Int) ≤ i := by omega
    have hv : Hid (atV bs i = ((i : Int) * 7 + bs.length) % 256) := by show _ = _; unfold atV; rw [if_neg h]
    clear hr hb
    go_enter Try.func5, Try.ntmps5
    go_wp2
    go_ret
    exact ⟨_, rfl, hv.out.symm, by omega, by omega, rfl⟩

set_option maxHeartbeats 400000 in
theorem arrived_any (g n : Int) (w : World) (h0 : 0 ≤ g) (h1 : g < 100000) :
    Calls Try.prog 8 #[.agg #[.int .i64 g], .int .i64 n] w fun e w' => e = .returned (.tuple #[.agg #[.int .i64 (if n = g then g + 1 else g)], .bool (decide (n = g))]) ∧ Below w.heap.size w w' := by
  have bA := bel_alloc (bel_alloc (Below.refl w.heap.size w) (.cells #[.int .i64 g] 28)) (.cells #[.int .i64 0] 28)
  by_cases h : n = g
  · subst h
    rw [if_pos rfl, decide_eq_true rfl]
    go_enter Try.func8, Try.ntmps8
    go_wp2
    refine bodyPost_ret (v := .tuple #[.agg #[.int .i64 (n + 1)], .bool true]) (by simp [results, Try.results8, go_sem]) rfl ⟨rfl, ?_⟩
    exact bel_alloc (bel_alloc (Below.refl _ _) _) _
  · have h' : (n == g) = false := by simp [h]
    rw [if_neg h, decide_eq_false h]
    go_enter Try.func8, Try.ntmps8
    go_wp2
    refine bodyPost_ret (v := .tuple #[.agg #[.int .i64 g], .bool false]) (by simp [results, Try.results8, go_sem]) rfl ⟨rfl, ?_⟩
    exact bel_alloc (bel_alloc (Below.refl _ _) _) _

/-- A message that asks to share page x. -/
def Asks (m : M) (x : Int) : Prop := m.say = (1, x, false, [])

/-- A packet's cells. -/
def pcells (t : Nat × M) : List Value := [.int .i64 0, .int .i64 0, .bool false, .int .i64 t.1, .int .i64 t.2.k, .int .i64 t.2.p, .bool t.2.o, t.2.v]
def pflat (ns : List (Nat × M)) : List Value := ns.flatMap pcells
theorem pflat_cons (m : Nat × M) (ms : List (Nat × M)) : pflat (m :: ms) = pcells m ++ pflat ms := rfl
theorem pflat_append (xs ys : List (Nat × M)) : pflat (xs ++ ys) = pflat xs ++ pflat ys := by simp [pflat]
theorem pflat_length (ms : List (Nat × M)) : (pflat ms).length = ms.length * 8 := by
  induction ms with
  | nil => rfl
  | cons m ms ih => rw [pflat_cons, List.length_append, ih]; simp [pcells]; omega
theorem pflat_get (ms : List (Nat × M)) (i : Nat) (m : Nat × M) (h : ms[i]? = some m) (j : Nat) (hj : j < 8) : (pflat ms)[i * 8 + j]? = (pcells m)[j]? := by
  induction ms generalizing i with
  | nil => simp at h
  | cons m' ms ih =>
    rw [pflat_cons]
    cases i with
    | zero =>
      simp at h
      subst h
      rw [List.getElem?_append_left (by simp [pcells]; omega)]
      simp
    | succ i =>
      simp at h
      rw [List.getElem?_append_right (by simp [pcells]; omega)]
      have e : (i + 1) * 8 + j - (pcells m').length = i * 8 + j := by simp [pcells]; omega
      rw [e]
      exact ih i h

/-- What was queued, what has come, what is on its way. -/
structure St where
  P : List Int
  b : Nat
  g : Nat
  qs : List M
  ns : List (Nat × M)
  aa : List M
  gg : List M

/-- THE INVARIANT: the queue is what was queued from b on; what has come is its first g; each packet is one that was queued, under its number. -/
structure St.Ok (S : St) : Prop where
  bg : S.b ≤ S.g
  gp : S.g ≤ S.P.length
  qb : S.b + S.qs.length = S.P.length
  q30 : S.qs.length ≤ 30
  al : S.aa.length = S.P.length
  gl : S.gg.length = S.g
  pg : ∀ x ∈ S.P, 0 ≤ x ∧ x ≤ 5
  hq : ∀ i m, S.qs[i]? = some m → Asks m (S.P.getD (S.b + i) 0)
  ha : ∀ i m, S.aa[i]? = some m → Asks m (S.P.getD i 0)
  hg : ∀ i m, S.gg[i]? = some m → Asks m (S.P.getD i 0)
  hn : ∀ t ∈ S.ns, t.1 < S.P.length ∧ Asks t.2 (S.P.getD t.1 0)

/-- Where all that lies. -/
structure Lies (w : World) (lo sB rB : Nat) (v5 v6 v7 : Value) (aq : Option Addr) (cq : Nat) (S : St) : Prop where
  ls : lo ≤ sB
  lr : lo ≤ rB
  s : Box w sB #[.int .i64 S.b, .slice aq S.qs.length cq] 26
  r : Box w rB #[.int .i64 S.g] 28
  q : w.ownsRow lo 33 4 (.slice aq S.qs.length cq) S.qs.length (flat S.qs)
  n : w.ownsRow lo 37 8 v5 S.ns.length (pflat S.ns)
  a : w.ownsRow lo 33 4 v6 S.aa.length (flat S.aa)
  g : w.ownsRow lo 33 4 v7 S.gg.length (flat S.gg)
  daq : ∀ j, v6.ownBlock = some j → (Value.slice aq S.qs.length cq).ownBlock ≠ some j
  dgq : ∀ j, v7.ownBlock = some j → (Value.slice aq S.qs.length cq).ownBlock ≠ some j
  dag : ∀ j, v6.ownBlock = some j → v7.ownBlock ≠ some j

theorem Lies.below {w w' : World} {lo sB rB : Nat} {v5 v6 v7 : Value} {aq : Option Addr} {cq : Nat} {S : St} (h : Lies w lo sB rB v5 v6 v7 aq cq S) (b : Below w.heap.size w w') : Lies w' lo sB rB v5 v6 v7 aq cq S :=
  ⟨h.ls, h.lr, h.s.below b, h.r.below b, owns_below h.q b, owns_below h.n b, owns_below h.a b, owns_below h.g b, h.daq, h.dgq, h.dag⟩

theorem Lies.mrow {w : World} {lo sB rB : Nat} {v5 v6 v7 : Value} {aq : Option Addr} {cq : Nat} {S : St} (h : Lies w lo sB rB v5 v6 v7 aq cq S) (ok : S.Ok) : MRow w aq S.qs := by
  refine ⟨by have := ok.q30; omega, fun i m hm => ⟨?_, ?_⟩⟩
  · obtain ⟨hi, _⟩ := List.getElem?_eq_some_iff.1 hm
    obtain ⟨g, rfl⟩ := owns_addr h.q (by omega)
    refine ⟨g, 0, rfl, ?_⟩
    have key : ∀ j, j < 4 → w.cell? ⟨g, i * 4 + j, none⟩ = m.cells[j]? := fun j hj => by
      rw [h.q.cellAt (i * 4 + j) (by omega), flat_get S.qs i m hm j hj]
    rw [Nat.zero_add]
    exact ⟨by simpa [M.cells] using key 0 (by omega), by simpa [M.cells] using key 1 (by omega), by simpa [M.cells] using key 2 (by omega), by simpa [M.cells] using key 3 (by omega)⟩
  · have := ok.hq i m hm
    simp [Asks, M.say] at this
    rw [this.2.2.2]
    exact Row.nil _ _ _

theorem owns_cap {w : World} {base e size n c : Nat} {a : Option Addr} {xs : List Value} (h : w.ownsRow base e size (.slice a n c) n xs) : n ≤ c := by
  rcases h.2 with ⟨h1, h2⟩ | ⟨g, cap, cur, h1, _, _, hnc, _⟩
  · omega
  · simp only [Value.slice.injEq] at h1
    rw [h1.2.2]
    exact hnc

theorem St.Ok.xs0 {S : St} (ok : S.Ok) : ∀ x ∈ S.qs, x.xs.length ≤ 1048577 := fun x hx => by
  obtain ⟨i, hi, rfl⟩ := List.getElem_of_mem hx
  have := ok.hq i _ (List.getElem?_eq_getElem hi)
  simp [Asks, M.say] at this
  rw [this.2.2.2]
  simp

/-- A block that holds a struct is no row's block of another type. -/
theorem box_ne {w : World} {m : Nat} {cs : Array Value} {t : TypeId} (hX : Box w m cs t) {base e size n : Nat} {v : Value} {xs : List Value} (h : w.ownsRow base e size v n xs) (hne : t ≠ e) : v.ownBlock ≠ some m := by
  intro hk
  rcases h.2 with ⟨rfl, _⟩ | ⟨g, cap, cur, rfl, _, hg, _⟩
  · simp [Value.ownBlock] at hk
  · simp [Value.ownBlock] at hk
    subst hk
    unfold Box at hX
    rw [hX] at hg
    simp at hg
    exact hne hg.2

theorem box_box {w : World} {m m' : Nat} {cs cs' : Array Value} {t t' : TypeId} (hX : Box w m cs t) (hY : Box w m' cs' t') (hne : t ≠ t') : m ≠ m' := by
  intro e
  subst e
  unfold Box at hX hY
  rw [hX] at hY
  simp at hY
  exact hne hY.2

/-- Another sender is laid into its variable. -/
theorem Lies.resend {w : World} {lo sB rB : Nat} {v5 v6 v7 : Value} {aq : Option Addr} {cq : Nat} {S : St} (h : Lies w lo sB rB v5 v6 v7 aq cq S) {b' : Nat} {ds : List M} {aq2 : Option Addr} {cq2 : Nat}
    (q2 : w.ownsRow lo 33 4 (.slice aq2 ds.length cq2) ds.length (flat ds)) (h6 : ∀ j, v6.ownBlock = some j → (Value.slice aq2 ds.length cq2).ownBlock ≠ some j) (h7 : ∀ j, v7.ownBlock = some j → (Value.slice aq2 ds.length cq2).ownBlock ≠ some j) :
    Lies ((w.setCell ⟨sB, 0, none⟩ (.int .i64 b')).setCell ⟨sB, 1, none⟩ (.slice aq2 ds.length cq2)) lo sB rB v5 v6 v7 aq2 cq2 { S with b := b', qs := ds } := by
  have hrs := box_box h.r h.s (by decide)
  have n5 := box_ne h.s h.n (by decide)
  have n6 := box_ne h.s h.a (by decide)
  have n7 := box_ne h.s h.g (by decide)
  have nq := box_ne h.s q2 (by decide)
  refine ⟨h.ls, h.lr, heap_setCell_same _ _ 1 _ _ _ (heap_setCell_same _ _ 0 _ _ _ h.s), (h.r.far _ _ hrs).far _ _ hrs, ?_, ?_, ?_, ?_, h6, h7, h.dag⟩
  · exact owns_setCell (owns_setCell q2 (fun j hj e => nq (by rw [hj, ← e])) _) (fun j hj e => nq (by rw [hj, ← e])) _
  · exact owns_setCell (owns_setCell h.n (fun j hj e => n5 (by rw [hj, ← e])) _) (fun j hj e => n5 (by rw [hj, ← e])) _
  · exact owns_setCell (owns_setCell h.a (fun j hj e => n6 (by rw [hj, ← e])) _) (fun j hj e => n6 (by rw [hj, ← e])) _
  · exact owns_setCell (owns_setCell h.g (fun j hj e => n7 (by rw [hj, ← e])) _) (fun j hj e => n7 (by rw [hj, ← e])) _

/-- A row of before is no block of a row that is made now. -/
theorem old_new {w w' : World} {lo lo' e e' size size' n n' : Nat} {v v' : Value} {xs xs' : List Value} (h : w.ownsRow lo e size v n xs) (h' : w'.ownsRow lo' e' size' v' n' xs') (hl : w.heap.size ≤ lo') : ∀ j, v.ownBlock = some j → v'.ownBlock ≠ some j := fun j hj hj' => by
  have h1 := (h.lt j hj).2
  have h2 := (h'.lt j hj').1
  omega

theorem packet_at {w : World} {lo e g c L n : Nat} {ns : List (Nat × M)} {t : Nat × M} (h : w.ownsRow lo e 8 (.slice (some ⟨g, 0, none⟩) L c) L (pflat ns)) (ht : ns[n]? = some t) :
    w.cell? ⟨g, n * 8, none⟩ = some (.int .i64 0) ∧ w.cell? ⟨g, n * 8 + 1, none⟩ = some (.int .i64 0) ∧ w.cell? ⟨g, n * 8 + 2, none⟩ = some (.bool false) ∧ w.cell? ⟨g, n * 8 + 3, none⟩ = some (.int .i64 t.1) ∧
    w.cell? ⟨g, n * 8 + 4, none⟩ = some (.int .i64 t.2.k) ∧ w.cell? ⟨g, n * 8 + 5, none⟩ = some (.int .i64 t.2.p) ∧ w.cell? ⟨g, n * 8 + 6, none⟩ = some (.bool t.2.o) ∧ w.cell? ⟨g, n * 8 + 7, none⟩ = some (.slice t.2.a t.2.xs.length t.2.c) := by
  have hl : ns.length = L := by have := h.1; rw [pflat_length] at this; omega
  have hn := (List.getElem?_eq_some_iff.1 ht).1
  have key : ∀ j, j < 8 → w.cell? ⟨g, n * 8 + j, none⟩ = (pcells t)[j]? := fun j hj => by
    rw [h.cellAt (n * 8 + j) (by omega), pflat_get ns n t ht j hj]
  exact ⟨by simpa [pcells] using key 0 (by omega), by simpa [pcells] using key 1 (by omega), by simpa [pcells] using key 2 (by omega), by simpa [pcells] using key 3 (by omega), by simpa [pcells] using key 4 (by omega), by simpa [pcells] using key 5 (by omega), by simpa [pcells] using key 6 (by omega), by simpa [pcells] using key 7 (by omega)⟩
end Go.Proofs.Ytbofjbjnbagbnaa
