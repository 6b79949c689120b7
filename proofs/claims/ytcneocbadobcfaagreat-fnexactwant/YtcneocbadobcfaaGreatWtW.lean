/- What impl's station does: lacks, isPage, homeOf, tell. -/
import Derived.Test.YtcneocbadobcfaaGreatWtO
import Derived.Test.YtcneocbadobcfaaGreatMark
import Derived.Test.YtcneocbadobcfaaGreatNdO3
namespace Go.Proofs.YtcneocbadobcfaaGreat
open Go.RowKit
set_option linter.unusedVariables false

def lackB (s : Int) (own : Bool) : Bool := if own then s != 2 else s == 0

set_option maxHeartbeats 400000 in
theorem lacks_any (s : Int) (v : Value) (q own : Bool) (w : World) :
    Calls Tryz.prog 26 #[.agg #[.int .i64 s, v, .bool q], .bool own] w fun e w' => e = .returned (.bool (lackB s own)) ∧ Below w.heap.size w w' := by
  have bA := bel_alloc (Below.refl w.heap.size w) (.cells #[.int .i64 s, v, .bool q] 50)
  cases own
  all_goals
    go_enter Tryz.func26, Tryz.ntmps26
    go_wp2
    go_ret
    exact ⟨ret_bool (by simp [lackB]), bA⟩

set_option maxHeartbeats 400000 in
theorem isPage_any (x : Int) (w : World) :
    Calls Tryz.prog 25 #[.int .i64 x] w fun e w' => e = .returned (.bool (inB x 0 5)) ∧ w' = w := by
  by_cases h0 : 0 ≤ x
  · by_cases h1 : x ≤ 5
    · have hd : inB x 0 5 = true := by simp [inB, h0, h1]
      rw [hd]
      have h1' : x < 6 := by omega
      go_enter Tryz.func25, Tryz.ntmps25
      go_wp2
      go_ret
      exact ⟨rfl, rfl⟩
    · have hd : inB x 0 5 = false := by simp [inB, h1]
      rw [hd]
      have h1' : 6 ≤ x := by omega
      go_enter Tryz.func25, Tryz.ntmps25
      go_wp2
      go_ret
      exact ⟨ret_bool (by simp; omega), rfl⟩
  · have hd : inB x 0 5 = false := by simp [inB, h0]
    rw [hd]
    have h0' : x < 0 := by omega
    go_enter Tryz.func25, Tryz.ntmps25
    go_wp2
    go_ret
    exact ⟨rfl, rfl⟩

/-- A station's cells. -/
abbrev stc (d : ND) (p : NP) (j : Bool) : Array Value := #[.slice p.o.1 d.no p.o.2, .slice p.i.1 d.ni p.i.2, .bool j, .int .i64 d.id, .slice p.f.1 d.nf p.f.2, .slice p.h.1 d.nh p.h.2]

set_option maxHeartbeats 1000000 in
theorem homeOf_any (m : Nat) (d : ND) (p : NP) (j : Bool) (page : Nat) (w : World) (hp : page ≤ 5) (hn : 1 ≤ d.no ∧ d.no ≤ 4) (X : Box w m (stc d p j) 123) :
    Calls Tryz.prog 80 #[.pointer (some ⟨m, 0, none⟩), .int .i64 page] w fun e w' => e = .returned (.int .i64 ((page % d.no : Nat) : Int)) ∧ w' = w := by
  obtain ⟨x0, x1, x2, x3, x4, x5, xz⟩ := X.at6
  obtain ⟨n1, n2⟩ := hn
  have hz : ¬ ((d.no : Int) = 0) := by omega
  have hz' : ¬ (d.no = 0) := by omega
  clear X
  go_enter Tryz.func80, Tryz.ntmps80
  go_wp2
  go_ret
  refine ⟨ret_int ?_, rfl⟩
  first | rfl | (simp; done) | (simp [Int.tmod]; done) | omega

/-- What telling reads. -/
structure HS (w : World) (m g di mb no c : Nat) (b : Int) (a : Option Addr) (l ca : Nat) (k pg : Int) : Prop where
  e0 : w.cell? ⟨m, 0, none⟩ = some (.slice (some ⟨g, 0, none⟩) no c)
  e1 : w.cell? ⟨g, di * 2, none⟩ = some (.int .i64 b)
  e2 : w.cell? ⟨g, di * 2 + 1, none⟩ = some (.slice a l ca)
  e3 : w.cell? ⟨mb, 0, none⟩ = some (.int .i64 k)
  e4 : w.cell? ⟨mb, 1, none⟩ = some (.int .i64 pg)
  e5 : w.cell? ⟨mb, 2, none⟩ = some (.bool false)
  e6 : w.cell? ⟨mb, 3, none⟩ = some (.slice none 0 0)
  mz : m < w.heap.size
  bz : mb < w.heap.size

theorem owns_cap {w : World} {lo e s n c : Nat} {a : Option Addr} {xs : List Value} (h : w.ownsRow lo e s (.slice a n c) n xs) : n ≤ c := by
  rcases h.2 with ⟨hv, hn⟩ | ⟨g, cap, cur, hv, hbg, hg, hnc, rest⟩
  · simp at hv
    omega
  · simp only [Value.slice.injEq] at hv
    obtain ⟨_, _, rfl⟩ := hv
    exact hnc

/-- Element j is laid anew, in blocks that are not of the row. -/
theorem Rw.put2 {w w2 w3 : World} {e s : Nat} {g c n : Nat} {f f' : Nat → List Value} {Q : Nat → Nat → Prop} {E : Nat → World → Prop} (h : Rw w e s (some ⟨g, 0, none⟩) c n n f Q E) {j : Nat} {E' : World → Prop} {Q' : Nat → Prop}
    (sm : Sm (RS (some ⟨g, 0, none⟩) c n Q) w w2) (k : Only w2 w3 (fun b => b = g)) (row : w3.ownsRow 0 e s (.slice (some ⟨g, 0, none⟩) n c) n (chunks n f')) (he : E' w2) (hfix : Fix Q' E') (hQ : ∀ b, Q' b → w.heap.size ≤ b ∧ b < w2.heap.size) :
    Rw w3 e s (some ⟨g, 0, none⟩) c n n f' (fun i => if i = j then Q' else Q i) (fun i => if i = j then E' else E i) := by
  have hg : g < w.heap.size := (h.row.lt g rfl).2
  refine ⟨row, fun i hi => ?_, fun i hi => ?_, fun i hi g' hg' => ?_, fun i k' hi hk hne b' => ?_, fun i hi b' hb => ?_⟩
  · by_cases e' : i = j
    · simp only [if_pos e']
      exact hfix w2 w3 (k.sm (fun b' hb hs => by have := hQ b' hb; omega)) he
    · simp only [if_neg e']
      exact h.fix i hi w w3 (Sm.trans (sm.mono (fun b hb => .inr ⟨i, hi, hb⟩)) (k.sm (fun b' hb hs => by subst hs; exact h.out i hi _ rfl hb))) (h.el i hi)
  · by_cases e' : i = j
    · simp only [if_pos e']; exact hfix
    · simp only [if_neg e']; exact h.fix i hi
  · by_cases e' : i = j
    · simp only [if_pos e']
      intro hq
      simp [blk] at hg'
      have := hQ g' hq
      omega
    · simp only [if_neg e']; exact h.out i hi g' hg'
  · by_cases e1 : i = j
    · by_cases e2 : k' = j
      · exact absurd (e1.trans e2.symm) hne
      · simp only [if_pos e1, if_neg e2]
        intro h1 h2
        have h3 := hQ b' h1
        have h4 := h.lt k' hk b' h2
        omega
    · by_cases e2 : k' = j
      · simp only [if_neg e1, if_pos e2]
        intro h1 h2
        have h3 := hQ b' h2
        have h4 := h.lt i hi b' h1
        omega
      · simp only [if_neg e1, if_neg e2]; exact h.ap i k' hi hk hne b'
  · have hs : w2.heap.size ≤ w3.heap.size := k.size
    by_cases e' : i = j
    · simp only [if_pos e'] at hb
      have := hQ b' hb
      omega
    · simp only [if_neg e'] at hb
      have := h.lt i hi b' hb
      have := sm.size
      omega

/-- A sender is put in the place of another one. -/
theorem sender_swap {w w2 : World} {g c n k : Nat} {b : Nat → Int} {p : Nat → Pl} {ms : Nat → List M} (h : SO w (some ⟨g, 0, none⟩) c n b p ms) (hk : k < n) (sm : Sm (RS (some ⟨g, 0, none⟩) c n (fun i => QS (p i) (ms i))) w w2) {a2 : Option Addr} {c2 : Nat} {ds : List M} (o2 : Deep w2 w.heap.size a2 c2 ds) :
    SO ((w2.setCell ⟨g, k * 2, none⟩ (.int .i64 (b k))).setCell ⟨g, k * 2 + 1, none⟩ (.slice a2 ds.length c2)) (some ⟨g, 0, none⟩) c n b (fun i => if i = k then (a2, c2) else p i) (fun i => if i = k then ds else ms i) := by
  have hr := owns_sm h.row sm (fun j hj => .inl (blk_eq hj))
  have hs := store2 hr (fun i _ => rfl) hk (.int .i64 (b k)) (.slice a2 ds.length c2)
  have on : Only w2 ((w2.setCell ⟨g, k * 2, none⟩ (.int .i64 (b k))).setCell ⟨g, k * 2 + 1, none⟩ (.slice a2 ds.length c2)) (fun b => b = g) := ((Only.refl w2 (fun b => b = g)).setCell ⟨g, k * 2, none⟩ _ rfl).setCell ⟨g, k * 2 + 1, none⟩ _ rfl
  refine (Rw.put2 h (j := k) sm on hs (E' := ES (a2, c2) ds) (Q' := QS (a2, c2) ds) ⟨owns_base o2.row (Nat.zero_le _), o2.lists.base (Nat.zero_le _)⟩ (fix_s _ _) (fun x hx => ?_)).congr (fun i hi => ?_) (fun i hi => ?_) (fun i hi => ?_)
  · rcases hx with hx | ⟨m, hm, hx⟩
    · exact o2.row.lt x (blk_own hx)
    · exact o2.lists.lt hm hx
  all_goals
    by_cases e : i = k
    · subst e; simp [scells]
    · simp [e]

/-- What telling leaves. -/
def TellP (m di : Nat) (k pg : Int) (d : ND) (p : NP) (j : Bool) (w w' : World) : Prop := ∃ (pl : Pl) (ds : List M),
  Box w' m (stc d p (j || !(senderB (d.b di) (p.ms di ++ [⟨k, pg, false, none, 0, []⟩])))) 123 ∧ SO w' p.o.1 p.o.2 d.no d.b (fun i => if i = di then pl else p.op i) (fun i => if i = di then ds else p.ms i) ∧ ds.map M.say = (if senderB (d.b di) (p.ms di ++ [⟨k, pg, false, none, 0, []⟩]) then p.ms di ++ [⟨k, pg, false, none, 0, []⟩] else p.ms di).map M.say ∧
  (∀ b, QS pl ds b → w.heap.size ≤ b) ∧ Only w w' (fun b => b = m ∨ blk p.o = some b)

theorem TellP.drew {m di : Nat} {k pg : Int} {d : ND} {p : NP} {j : Bool} {w w' : World} (h : TellP m di k pg d p j w w') : TellP m di k pg d p j w w'.drew := by
  obtain ⟨pl, ds, h1, h2, h3, h4, h5⟩ := h
  exact ⟨pl, ds, h1.below (bel_drew (Below.refl _ _)), Rw.below h2 (bel_drew (Below.refl _ _)), h3, h4, h5.below (bel_drew (Below.refl _ _))⟩

theorem tell_end {m di g : Nat} {k pg : Int} {d : ND} {p : NP} {j : Bool} {w wN : World} (X : Box w m (stc d p j) 123) (hO : SO w p.o.1 p.o.2 d.no d.b p.op p.ms) (ht : di < d.no) (hg : p.o.1 = some ⟨g, 0, none⟩) (hne : ∀ b, RS p.o.1 p.o.2 d.no (fun i => QS (p.op i) (p.ms i)) b → b ≠ m) (b : Below w.heap.size w wN) {a2 : Option Addr} {c2 : Nat} {ds : List M} (D : Deep wN w.heap.size a2 c2 ds)
    {qd : Bool} (hq : senderB (d.b di) (p.ms di ++ [⟨k, pg, false, none, 0, []⟩]) = qd) (hds : ds.map M.say = (if qd then p.ms di ++ [⟨k, pg, false, none, 0, []⟩] else p.ms di).map M.say) :
    TellP m di k pg d p j w (((if qd then wN else wN.setCell ⟨m, 2, none⟩ (.bool true)).setCell ⟨g, di * 2, none⟩ (.int .i64 (d.b di))).setCell ⟨g, di * 2 + 1, none⟩ (.slice a2 ds.length c2)) := by
  have hm := X.lt
  have hgm : g ≠ m := hne g (.inl (by rw [hg]; rfl))
  have hO' : SO w (some ⟨g, 0, none⟩) p.o.2 d.no d.b p.op p.ms := by rw [← hg]; exact hO
  have hne' : ∀ b, RS (some ⟨g, 0, none⟩) p.o.2 d.no (fun i => QS (p.op i) (p.ms i)) b → b ≠ m := by rw [← hg]; exact hne
  have low : ∀ x, QS (a2, c2) ds x → w.heap.size ≤ x := fun x hx => by
    rcases hx with hx | ⟨y, hy, hx⟩
    · exact (D.row.lt x (blk_own hx)).1
    · exact (D.lists.lt hy hx).1
  refine ⟨(a2, c2), ds, ?_, ?_, ?_, low, ?_⟩
  · rw [hq]
    cases qd
    · have h0 : Box (wN.setCell ⟨m, 2, none⟩ (.bool true)) m (stc d p true) 123 := heap_setCell_same _ _ 2 _ _ _ (X.below b)
      have h1 := (h0.far ⟨g, di * 2, none⟩ (.int .i64 (d.b di)) (fun e => hgm e.symm)).far ⟨g, di * 2 + 1, none⟩ (.slice a2 ds.length c2) (fun e => hgm e.symm)
      simpa using h1
    · have h1 := ((X.below b).far ⟨g, di * 2, none⟩ (.int .i64 (d.b di)) (fun e => hgm e.symm)).far ⟨g, di * 2 + 1, none⟩ (.slice a2 ds.length c2) (fun e => hgm e.symm)
      simpa using h1
  · rw [hg]
    cases qd
    · have on : Only wN (wN.setCell ⟨m, 2, none⟩ (.bool true)) (fun x => x = m) := (Only.refl wN (fun x => x = m)).setCell ⟨m, 2, none⟩ _ rfl
      refine sender_swap hO' ht (Sm.trans (sm_bel b) (on.sm (fun x hx he => hne' x hx he))) (w2 := wN.setCell ⟨m, 2, none⟩ (.bool true)) ⟨owns_setCell D.row (fun x hx he => ?_) _, D.lists.far _ _ (fun y hy x hx he => ?_)⟩
      · have := (D.row.lt x hx).1
        simp at he
        omega
      · have := (D.lists.lt hy hx).1
        simp at he
        omega
    · exact sender_swap hO' ht (sm_bel b) D
  · rw [hq]
    exact hds
  · have hgo : blk p.o = some g := by unfold blk; rw [hg]; rfl
    have o0 : Only w wN (fun b => b = m ∨ blk p.o = some b) := (Only.refl w _).below b
    cases qd
    · exact ((o0.setCell ⟨m, 2, none⟩ (.bool true) (.inl rfl)).setCell ⟨g, di * 2, none⟩ _ (.inr hgo)).setCell ⟨g, di * 2 + 1, none⟩ _ (.inr hgo)
    · exact (o0.setCell ⟨g, di * 2, none⟩ _ (.inr hgo)).setCell ⟨g, di * 2 + 1, none⟩ _ (.inr hgo)

set_option maxRecDepth 100000 in
set_option maxHeartbeats 4000000 in
theorem tellS_any (m di : Nat) (k pg : Int) (d : ND) (p : NP) (j : Bool) (w : World) (X : Box w m (stc d p j) 123) (hO : SO w p.o.1 p.o.2 d.no d.b p.op p.ms) (ht : di < d.no) (hn : d.no ≤ 1048576) (hl : (p.ms di).length ≤ 1048576) (hxs : ∀ x ∈ p.ms di, x.xs.length ≤ 1048577) (hne : ∀ b, RS p.o.1 p.o.2 d.no (fun i => QS (p.op i) (p.ms i)) b → b ≠ m) :
    Calls Tryz.prog 79 #[.pointer (some ⟨m, 0, none⟩), .int .i64 di, .agg #[.int .i64 k, .int .i64 pg, .bool false, .slice none 0 0]] w fun e w' => e = .returned (.tuple #[]) ∧ TellP m di k pg d p j w w' := by
  obtain ⟨g, hg⟩ := owns_addr hO.row (by omega)
  have cc : ∀ t, t < 2 → w.cell? ⟨g, di * 2 + t, none⟩ = (scells (d.b di) (p.op di) (p.ms di).length)[t]? := fun t ht' => by
    have h := hO.row
    rw [hg] at h
    exact owns_chunk h (fun i _ => rfl) ht ht'
  have c0 := cc 0 (by decide)
  have c1 := cc 1 (by decide)
  simp only [Nat.add_zero, scells, List.getElem?_cons_zero, List.getElem?_cons_succ] at c0 c1
  have hi : (di : Int) < (d.no : Int) := by omega
  have bX := bel_alloc (Below.refl w.heap.size w) (.cells #[.int .i64 k, .int .i64 pg, .bool false, .slice none 0 0] 58)
  have XM := Box.new w #[.int .i64 k, .int .i64 pg, .bool false, .slice none 0 0] 58
  obtain ⟨Z, hZ⟩ : ∃ Z, w.alloc (.cells #[.int .i64 k, .int .i64 pg, .bool false, .slice none 0 0] 58) = Z := ⟨_, rfl⟩
  have mz : w.heap.size < (w.alloc (.cells #[.int .i64 k, .int .i64 pg, .bool false, .slice none 0 0] 58)).heap.size := XM.lt
  have hgz : g < w.heap.size := (hO.row.lt g (by rw [hg]; rfl)).2
  have KS : Hid (∀ w', Below Z.heap.size Z w' → HS w' m g di w.heap.size d.no p.o.2 (d.b di) (p.op di).1 (p.ms di).length (p.op di).2 k pg) := fun w' b => by
    rw [hZ] at bX XM
    have X' := (X.below bX).below b
    have XM' := XM.below b
    obtain ⟨q0, q1, q2, q3, q4, q5, qz⟩ := X'.at6
    obtain ⟨y0, y1, y2, y3, yz⟩ := XM'.at4
    rw [hg] at q0
    have hz := bX.size
    exact ⟨q0, (b.cell (p := ⟨g, di * 2, none⟩) (by simp; omega)).trans ((bX.cell (p := ⟨g, di * 2, none⟩) hgz).trans c0), (b.cell (p := ⟨g, di * 2 + 1, none⟩) (by simp; omega)).trans ((bX.cell (p := ⟨g, di * 2 + 1, none⟩) hgz).trans c1), y0, y1, y2, y3, qz, yz⟩
  have HCap : (p.ms di).length ≤ (p.op di).2 := owns_cap (hO.el di ht).row
  have HQ : Hid (∀ W, Below w.heap.size w W → Calls Tryz.prog 115 #[.agg #[.int .i64 (d.b di), .slice (p.op di).1 (p.ms di).length (p.op di).2], .agg #[.int .i64 k, .int .i64 pg, .bool false, .slice none 0 0]] W fun e w' => QPost (d.b di) (p.ms di) ⟨k, pg, false, none, 0, []⟩ W e w') := fun W b =>
    implQueue_any (d.b di) (p.op di).1 (p.op di).2 (p.ms di) ⟨k, pg, false, none, 0, []⟩ W ((hO.below b).el di ht |>.mrow (by omega) hxs) hl HCap hxs (by simp) (Row.nil _ _ _)
  have HE : Hid (∀ (wN : World) (a2 : Option Addr) (c2 : Nat) (ds : List M) (qd : Bool), Below Z.heap.size Z wN → Deep wN w.heap.size a2 c2 ds → senderB (d.b di) (p.ms di ++ [⟨k, pg, false, none, 0, []⟩]) = qd → ds.map M.say = (if qd then p.ms di ++ [⟨k, pg, false, none, 0, []⟩] else p.ms di).map M.say → TellP m di k pg d p j w (((if qd then wN else wN.setCell ⟨m, 2, none⟩ (.bool true)).setCell ⟨g, di * 2, none⟩ (.int .i64 (d.b di))).setCell ⟨g, di * 2 + 1, none⟩ (.slice a2 ds.length c2))) :=
    fun wN a2 c2 ds qd b D hq hds => tell_end X hO ht hg hne (bel_trans (by rw [hZ] at bX; exact bX) b) D hq hds
  have HG : Hid (∀ W, Below Z.heap.size Z W → (W.frozen? ⟨g, di * 2, none⟩ = false ∧ W.frozen? ⟨g, di * 2 + 1, none⟩ = false) ∧ W.cell? ⟨m, 2, none⟩ = some (.bool j) ∧ W.frozen? ⟨m, 2, none⟩ = false) := fun W b => by
    rw [hZ] at bX
    have o1 := owns_below (owns_below hO.row bX) b
    rw [hg] at o1
    have X' := (X.below bX).below b
    exact ⟨⟨o1.frozenAt _, o1.frozenAt _⟩, X'.cell 2, X'.frozen 2⟩
  have hzw : w.heap.size < Z.heap.size := by rw [← hZ]; exact mz
  have HBX : Hid (Below w.heap.size w Z) := by rw [← hZ]; exact bX
  have hgm : ¬ g = m := hne g (.inl (by rw [hg]; rfl))
  have hmw : m < w.heap.size := X.lt
  clear XM bX mz X hO hne hxs hl HCap cc
  go_enter Tryz.func79, Tryz.ntmps79
  go_wp2_with fail
  clear hZ
  refine wp_region_held_drew (S := (fun w' => HS w' m g di w.heap.size d.no p.o.2 (d.b di) (p.op di).1 (p.ms di).length (p.op di).2 k pg)) (by kernel_rfl) ?_ (fun hHeld => ?_)
  · exact KS.out _ (bel_drew (Below.refl _ _))
  refine wpAnyH_take (i := 0) (oi := { dst := some 9, op := Op.move (Operand.tmp 0), type := 155, pos := "l05_node.go:74", after := #[], guard := none }) (v := ?r1_v0) rfl (by kernel_rfl) (by kernel_rfl) (by kernel_rfl) (fun _ _ _ h => h) (Or.inl ⟨by rfl, ?r1_hy0⟩) (by assumption) ?r1_rest0
  case r1_hy0 => intro w hSw; obtain ⟨s0, s1, s2, s3, s4, s5, s6, s7, s8⟩ := hSw; go_simp; try (with_reducible rfl)
  simp only [Act.put, List.setIfInBounds_toArray, List.set_cons_zero, List.set_cons_succ]
  refine wpAnyH_take (i := 1) (oi := { dst := some 10, op := Op.nilCheck (Operand.tmp 9), type := 0, pos := "l05_node.go:74", after := #[{ on := 0, ground := Ground.data }], guard := none }) (v := ?r1_v1) rfl (by kernel_rfl) (by kernel_rfl) (by kernel_rfl) (fun _ _ _ h => h) (Or.inl ⟨by rfl, ?r1_hy1⟩) (by assumption) ?r1_rest1
  case r1_hy1 => intro w hSw; obtain ⟨s0, s1, s2, s3, s4, s5, s6, s7, s8⟩ := hSw; go_simp; try (with_reducible rfl)
  simp only [Act.put, List.setIfInBounds_toArray, List.set_cons_zero, List.set_cons_succ]
  refine wpAnyH_take (i := 2) (oi := { dst := some 11, op := Op.fieldAddr 121 (Operand.tmp 10) 0, type := 0, pos := "l05_node.go:74", after := #[{ on := 1, ground := Ground.data }], guard := none }) (v := ?r1_v2) rfl (by kernel_rfl) (by kernel_rfl) (by kernel_rfl) (fun _ _ _ h => h) (Or.inl ⟨by rfl, ?r1_hy2⟩) (by assumption) ?r1_rest2
  case r1_hy2 => intro w hSw; obtain ⟨s0, s1, s2, s3, s4, s5, s6, s7, s8⟩ := hSw; go_simp; try (with_reducible rfl)
  simp only [Act.put, List.setIfInBounds_toArray, List.set_cons_zero, List.set_cons_succ]
  refine wpAnyH_take (i := 3) (oi := { dst := some 12, op := Op.load 31 (Operand.tmp 11), type := 31, pos := "l05_node.go:74", after := #[{ on := 2, ground := Ground.data }], guard := none }) (v := ?r1_v3) rfl (by kernel_rfl) (by kernel_rfl) (by kernel_rfl) (fun _ _ _ h => h) (Or.inl ⟨by rfl, ?r1_hy3⟩) (by assumption) ?r1_rest3
  case r1_hy3 => intro w hSw; obtain ⟨s0, s1, s2, s3, s4, s5, s6, s7, s8⟩ := hSw; go_simp; try (with_reducible rfl)
  simp only [Act.put, List.setIfInBounds_toArray, List.set_cons_zero, List.set_cons_succ]
  refine wpAnyH_take (i := 4) (oi := { dst := some 13, op := Op.move (Operand.tmp 1), type := 3, pos := "l05_node.go:74", after := #[], guard := none }) (v := ?r1_v4) rfl (by kernel_rfl) (by kernel_rfl) (by kernel_rfl) (fun _ _ _ h => h) (Or.inl ⟨by rfl, ?r1_hy4⟩) (by assumption) ?r1_rest4
  case r1_hy4 => intro w hSw; obtain ⟨s0, s1, s2, s3, s4, s5, s6, s7, s8⟩ := hSw; go_simp; try (with_reducible rfl)
  simp only [Act.put, List.setIfInBounds_toArray, List.set_cons_zero, List.set_cons_succ]
  refine wpAnyH_take (i := 5) (oi := { dst := some 14, op := Op.indexAddr 31 (Operand.tmp 12) (Operand.tmp 13), type := 0, pos := "l05_node.go:74", after := #[{ on := 3, ground := Ground.data }, { on := 4, ground := Ground.data }], guard := none }) (v := ?r1_v5) rfl (by kernel_rfl) (by kernel_rfl) (by kernel_rfl) (fun _ _ _ h => h) (Or.inl ⟨by rfl, ?r1_hy5⟩) (by assumption) ?r1_rest5
  case r1_hy5 => intro w hSw; obtain ⟨s0, s1, s2, s3, s4, s5, s6, s7, s8⟩ := hSw; go_simp; try (with_reducible rfl)
  simp only [Act.put, List.setIfInBounds_toArray, List.set_cons_zero, List.set_cons_succ]
  refine wpAnyH_take (i := 6) (oi := { dst := some 15, op := Op.load 54 (Operand.tmp 14), type := 54, pos := "l05_node.go:74", after := #[{ on := 5, ground := Ground.data }], guard := none }) (v := ?r1_v6) rfl (by kernel_rfl) (by kernel_rfl) (by kernel_rfl) (fun _ _ _ h => h) (Or.inl ⟨by rfl, ?r1_hy6⟩) (by assumption) ?r1_rest6
  case r1_hy6 => intro w hSw; obtain ⟨s0, s1, s2, s3, s4, s5, s6, s7, s8⟩ := hSw; go_simp; try (with_reducible rfl)
  simp only [Act.put, List.setIfInBounds_toArray, List.set_cons_zero, List.set_cons_succ]
  refine wpAnyH_take (i := 7) (oi := { dst := some 16, op := Op.load 58 (Operand.tmp 5), type := 58, pos := "l05_node.go:74", after := #[], guard := none }) (v := ?r1_v7) rfl (by kernel_rfl) (by kernel_rfl) (by kernel_rfl) (fun _ _ _ h => h) (Or.inl ⟨by rfl, ?r1_hy7⟩) (by assumption) ?r1_rest7
  case r1_hy7 => intro w hSw; obtain ⟨s0, s1, s2, s3, s4, s5, s6, s7, s8⟩ := hSw; go_simp; try (with_reducible rfl)
  simp only [Act.put, List.setIfInBounds_toArray, List.set_cons_zero, List.set_cons_succ]
  refine wpAnyH_ready (rs := [8, 12]) (by kernel_rfl) (by simp) ?_
  refine AllReadyH.cons (o := { dst := some 17, op := Op.call { callee := Callee.value (Operand.func 115), args := #[Operand.tmp 15, Operand.tmp 16], argTypes := #[54, 58] }, type := 55, pos := "l05_node.go:74", after := #[{ on := 6, ground := Ground.data }, { on := 7, ground := Ground.data }], guard := none }) rfl (fun K2 hK2 => ?_) (AllReadyH.cons (o := { dst := some 6, op := Op.alloc 54, type := 0, pos := "l05_node.go:74", after := #[], guard := none }) rfl (fun K2 hK2 => ?_) AllReadyH.nil)
  · go_simp
    refine (HQ.out _ (bel_drew HBX.out)).mono ?_
    rintro e w1 ⟨a2, c2, ds, rfl, hds, D1, b1⟩
    replace b1 := bel_undrew b1
    go_wp2_with fail
    refine hK2.out _ _ ?_ (fun hHeld2 => ?_)
    · exact KS.out _ b1
    clear hK2 K2 hHeld
    have hHeld := hHeld2
    clear hHeld2
    try simp only [Act.put, List.setIfInBounds_toArray, List.set_cons_zero, List.set_cons_succ]
    refine wpAnyH_take (i := 9) (oi := { dst := some 8, op := Op.move (Operand.tmp 17), type := 55, pos := "l05_node.go:74", after := #[{ on := 8, ground := Ground.data }], guard := none }) (v := ?r2_v9) rfl (by kernel_rfl) (by kernel_rfl) (by kernel_rfl) (fun _ _ _ h => h) (Or.inl ⟨by rfl, ?r2_hy9⟩) (by assumption) ?r2_rest9
    case r2_hy9 => intro w hSw; obtain ⟨s0, s1, s2, s3, s4, s5, s6, s7, s8⟩ := hSw; go_simp; try (with_reducible rfl)
    simp only [Act.put, List.setIfInBounds_toArray, List.set_cons_zero, List.set_cons_succ]
    refine wpAnyH_take (i := 10) (oi := { dst := some 18, op := Op.extract (Operand.tmp 8) 0, type := 54, pos := "l05_node.go:74", after := #[{ on := 9, ground := Ground.data }], guard := none }) (v := ?r2_v10) rfl (by kernel_rfl) (by kernel_rfl) (by kernel_rfl) (fun _ _ _ h => h) (Or.inl ⟨by rfl, ?r2_hy10⟩) (by assumption) ?r2_rest10
    case r2_hy10 => intro w hSw; obtain ⟨s0, s1, s2, s3, s4, s5, s6, s7, s8⟩ := hSw; go_simp; try (with_reducible rfl)
    simp only [Act.put, List.setIfInBounds_toArray, List.set_cons_zero, List.set_cons_succ]
    refine wpAnyH_take (i := 11) (oi := { dst := some 19, op := Op.extract (Operand.tmp 8) 1, type := 4, pos := "l05_node.go:74", after := #[{ on := 9, ground := Ground.data }, { on := 13, ground := Ground.gcOnly Departure.lateStores }], guard := none }) (v := ?r2_v11) rfl (by kernel_rfl) (by kernel_rfl) (by kernel_rfl) (fun _ _ _ h => h) (Or.inl ⟨by rfl, ?r2_hy11⟩) (by assumption) ?r2_rest11
    case r2_hy11 => intro w hSw; obtain ⟨s0, s1, s2, s3, s4, s5, s6, s7, s8⟩ := hSw; go_simp; try (with_reducible rfl)
    simp only [Act.put, List.setIfInBounds_toArray, List.set_cons_zero, List.set_cons_succ]
    refine wpAnyH_ready (rs := [12]) (by kernel_rfl) (by simp) ?_
    refine AllReadyH.cons (o := { dst := some 6, op := Op.alloc 54, type := 0, pos := "l05_node.go:74", after := #[], guard := none }) rfl (fun K2 hK2 => ?_) AllReadyH.nil
    go_simp
    refine hK2.out _ _ ?_ (fun hHeld2 => ?_)
    · exact KS.out _ (bel_alloc b1 _)
    clear hK2 K2 hHeld
    have hHeld := hHeld2
    clear hHeld2
    try simp only [Act.put, List.setIfInBounds_toArray, List.set_cons_zero, List.set_cons_succ]
    have XS := Box.new w1 #[.int .i64 0, .slice none 0 0] 54
    obtain ⟨n0, n1, nz⟩ := XS.at2
    have nf0 := XS.frozen 0
    have nf1 := XS.frozen 1
    have hz1 := b1.size
    refine wpAnyH_ready (rs := [13]) (by kernel_rfl) (by simp) ?_
    refine AllReadyH.cons (o := { dst := none, op := Op.store 54 (Operand.tmp 6) (Operand.tmp 18), type := 0, pos := "l05_node.go:74", after := #[{ on := 12, ground := Ground.data }, { on := 10, ground := Ground.data }, { on := 8, ground := Ground.chain }, { on := 0, ground := Ground.phase }, { on := 1, ground := Ground.phase }, { on := 2, ground := Ground.phase }, { on := 3, ground := Ground.phase }, { on := 4, ground := Ground.phase }, { on := 5, ground := Ground.phase }, { on := 6, ground := Ground.phase }, { on := 7, ground := Ground.phase }, { on := 8, ground := Ground.phase }, { on := 9, ground := Ground.phase }, { on := 10, ground := Ground.phase }, { on := 11, ground := Ground.textOnly Departure.lateStores }, { on := 12, ground := Ground.phase }], guard := none }) rfl (fun K2 hK2 => ?_) AllReadyH.nil
    go_simp
    refine hK2.out _ _ ?_ (fun hHeld2 => ?_)
    · exact KS.out _ (bel_alloc b1 _)
    clear hK2 K2 hHeld
    have hHeld := hHeld2
    clear hHeld2
    try simp only [Act.put, List.setIfInBounds_toArray, List.set_cons_zero, List.set_cons_succ]
    refine wpAnyH_take (i := 14) (oi := { dst := some 7, op := Op.assign (Operand.tmp 19), type := 4, pos := "l05_node.go:74", after := #[{ on := 11, ground := Ground.data }, { on := 13, ground := Ground.chain }, { on := 0, ground := Ground.phase }, { on := 1, ground := Ground.phase }, { on := 2, ground := Ground.phase }, { on := 3, ground := Ground.phase }, { on := 4, ground := Ground.phase }, { on := 5, ground := Ground.phase }, { on := 6, ground := Ground.phase }, { on := 7, ground := Ground.phase }, { on := 8, ground := Ground.phase }, { on := 9, ground := Ground.phase }, { on := 10, ground := Ground.phase }, { on := 11, ground := Ground.phase }, { on := 12, ground := Ground.phase }, { on := 13, ground := Ground.phase }], guard := none }) (v := ?r2_v14) rfl (by kernel_rfl) (by kernel_rfl) (by kernel_rfl) (fun _ _ _ h => h) (Or.inl ⟨by rfl, ?r2_hy14⟩) (by assumption) ?r2_rest14
    case r2_hy14 => intro w hSw; obtain ⟨s0, s1, s2, s3, s4, s5, s6, s7, s8⟩ := hSw; go_simp; try (with_reducible rfl)
    simp only [Act.put, List.setIfInBounds_toArray, List.set_cons_zero, List.set_cons_succ]
    refine wpAnyH_done (by kernel_rfl) ?_ _
    have BW := bel_alloc b1 (.cells #[.int .i64 (d.b di), .slice a2 ds.length c2] 54)
    have XS2 : Box (w1.alloc (.cells #[.int .i64 (d.b di), .slice a2 ds.length c2] 54)) w1.heap.size #[.int .i64 (d.b di), .slice a2 ds.length c2] 54 := Box.new w1 _ _
    have D2 : Deep w1 w.heap.size a2 c2 ds := ⟨owns_base D1.row (by have := HBX.out.size; simp; omega), D1.lists.base (by have := HBX.out.size; simp; omega)⟩
    have bw1 : Below w1.heap.size w1 (w1.alloc (.cells #[.int .i64 (d.b di), .slice a2 ds.length c2] 54)) := bel_alloc (Below.refl _ _) _
    have DW := D2.below bw1
    clear n0 n1 nz nf0 nf1 XS D1 D2 bw1 b1
    have hnb : Z.heap.size ≤ w1.heap.size := hz1
    obtain ⟨W, hW⟩ : ∃ W, w1.alloc (.cells #[.int .i64 (d.b di), .slice a2 ds.length c2] 54) = W := ⟨_, rfl⟩
    rw [hW] at BW XS2 DW hHeld ⊢
    clear hW hz1
    obtain ⟨⟨fg0, fg1⟩, fm, ff⟩ := HG.out _ BW
    obtain ⟨s0, s1, s2, s3, s4, s5, s6, s7, s8⟩ := KS.out _ BW
    obtain ⟨n0, n1, nz⟩ := XS2.at2
    clear s3 s4 s5 s6 s8 XS2 hHeld
    cases hq : senderB (d.b di) (p.ms di ++ [⟨k, pg, false, none, 0, []⟩])
    · have HF0 := HE.out _ a2 c2 ds false BW DW hq (by rw [hq] at hds; exact hds)
      simp only [Bool.false_eq_true, if_false] at HF0
      have HF : Hid (TellP m di k pg d p j w _) := HF0
      clear HF0 hq hds HE KS HG HQ DW BW
      go_wp2_with fail
      have t0 : (W.setCell ⟨m, 2, none⟩ (.bool true)).cell? ⟨m, 0, none⟩ = _ := (World.cell?_setCell_other _ _ _ _ (fun e => by simp at e)).trans s0
      have t1 : (W.setCell ⟨m, 2, none⟩ (.bool true)).cell? ⟨g, di * 2, none⟩ = _ := (World.cell?_setCell_other _ _ _ _ (fun e => by first | (simp at e; done) | (simp at e; omega))).trans s1
      have t2 : (W.setCell ⟨m, 2, none⟩ (.bool true)).cell? ⟨g, di * 2 + 1, none⟩ = _ := (World.cell?_setCell_other _ _ _ _ (fun e => by first | (simp at e; done) | (simp at e; omega))).trans s2
      have t3 : (W.setCell ⟨m, 2, none⟩ (.bool true)).cell? ⟨w1.heap.size, 0, none⟩ = _ := (World.cell?_setCell_other _ _ _ _ (fun e => by first | (simp at e; done) | (simp at e; omega))).trans n0
      have t4 : (W.setCell ⟨m, 2, none⟩ (.bool true)).cell? ⟨w1.heap.size, 1, none⟩ = _ := (World.cell?_setCell_other _ _ _ _ (fun e => by first | (simp at e; done) | (simp at e; omega))).trans n1
      have t5 : (W.setCell ⟨m, 2, none⟩ (.bool true)).frozen? ⟨g, di * 2, none⟩ = false := by simpa using fg0
      have t6 : (W.setCell ⟨m, 2, none⟩ (.bool true)).frozen? ⟨g, di * 2 + 1, none⟩ = false := by simpa using fg1
      have t7 : m < (W.setCell ⟨m, 2, none⟩ (.bool true)).heap.size := by simpa using s7
      have t8 : w1.heap.size < (W.setCell ⟨m, 2, none⟩ (.bool true)).heap.size := by simpa using nz
      obtain ⟨V, hV⟩ : ∃ V, (W.setCell ⟨m, 2, none⟩ (.bool true)) = V := ⟨_, rfl⟩
      rw [hV] at t0 t1 t2 t3 t4 t5 t6 t7 t8 HF ⊢
      clear hV s0 s1 s2 n0 n1 fg0 fg1 fm ff s7 nz
      refine wp_region_held_drew (S := (fun w' => w'.cell? ⟨m, 0, none⟩ = some (.slice (some ⟨g, 0, none⟩) d.no p.o.2) ∧ w'.cell? ⟨w1.heap.size, 0, none⟩ = some (.int .i64 (d.b di)) ∧ w'.cell? ⟨w1.heap.size, 1, none⟩ = some (.slice a2 ds.length c2) ∧ m < w'.heap.size ∧ w1.heap.size < w'.heap.size)) (by kernel_rfl) ?_ (fun hHeld => ?_)
      · exact ⟨t0, t3, t4, t7, t8⟩
      refine wpAnyH_take (i := 0) (oi := { dst := some 25, op := Op.move (Operand.tmp 0), type := 155, pos := "l05_node.go:78", after := #[], guard := none }) (v := ?r3_v0) rfl (by kernel_rfl) (by kernel_rfl) (by kernel_rfl) (fun _ _ _ h => h) (Or.inl ⟨by rfl, ?r3_hy0⟩) (by assumption) ?r3_rest0
      case r3_hy0 => intro w hSw; obtain ⟨r0, r1, r2, r3, r4⟩ := hSw; go_simp; try (with_reducible rfl)
      simp only [Act.put, List.setIfInBounds_toArray, List.set_cons_zero, List.set_cons_succ]
      refine wpAnyH_take (i := 1) (oi := { dst := some 26, op := Op.nilCheck (Operand.tmp 25), type := 0, pos := "l05_node.go:78", after := #[{ on := 0, ground := Ground.data }], guard := none }) (v := ?r3_v1) rfl (by kernel_rfl) (by kernel_rfl) (by kernel_rfl) (fun _ _ _ h => h) (Or.inl ⟨by rfl, ?r3_hy1⟩) (by assumption) ?r3_rest1
      case r3_hy1 => intro w hSw; obtain ⟨r0, r1, r2, r3, r4⟩ := hSw; go_simp; try (with_reducible rfl)
      simp only [Act.put, List.setIfInBounds_toArray, List.set_cons_zero, List.set_cons_succ]
      refine wpAnyH_take (i := 2) (oi := { dst := some 27, op := Op.fieldAddr 121 (Operand.tmp 26) 0, type := 0, pos := "l05_node.go:78", after := #[{ on := 1, ground := Ground.data }], guard := none }) (v := ?r3_v2) rfl (by kernel_rfl) (by kernel_rfl) (by kernel_rfl) (fun _ _ _ h => h) (Or.inl ⟨by rfl, ?r3_hy2⟩) (by assumption) ?r3_rest2
      case r3_hy2 => intro w hSw; obtain ⟨r0, r1, r2, r3, r4⟩ := hSw; go_simp; try (with_reducible rfl)
      simp only [Act.put, List.setIfInBounds_toArray, List.set_cons_zero, List.set_cons_succ]
      refine wpAnyH_take (i := 3) (oi := { dst := some 28, op := Op.load 31 (Operand.tmp 27), type := 31, pos := "l05_node.go:78", after := #[{ on := 2, ground := Ground.data }], guard := none }) (v := ?r3_v3) rfl (by kernel_rfl) (by kernel_rfl) (by kernel_rfl) (fun _ _ _ h => h) (Or.inl ⟨by rfl, ?r3_hy3⟩) (by assumption) ?r3_rest3
      case r3_hy3 => intro w hSw; obtain ⟨r0, r1, r2, r3, r4⟩ := hSw; go_simp; try (with_reducible rfl)
      simp only [Act.put, List.setIfInBounds_toArray, List.set_cons_zero, List.set_cons_succ]
      refine wpAnyH_take (i := 4) (oi := { dst := some 29, op := Op.move (Operand.tmp 1), type := 3, pos := "l05_node.go:78", after := #[], guard := none }) (v := ?r3_v4) rfl (by kernel_rfl) (by kernel_rfl) (by kernel_rfl) (fun _ _ _ h => h) (Or.inl ⟨by rfl, ?r3_hy4⟩) (by assumption) ?r3_rest4
      case r3_hy4 => intro w hSw; obtain ⟨r0, r1, r2, r3, r4⟩ := hSw; go_simp; try (with_reducible rfl)
      simp only [Act.put, List.setIfInBounds_toArray, List.set_cons_zero, List.set_cons_succ]
      refine wpAnyH_take (i := 5) (oi := { dst := some 30, op := Op.load 54 (Operand.tmp 6), type := 54, pos := "l05_node.go:78", after := #[], guard := none }) (v := ?r3_v5) rfl (by kernel_rfl) (by kernel_rfl) (by kernel_rfl) (fun _ _ _ h => h) (Or.inl ⟨by rfl, ?r3_hy5⟩) (by assumption) ?r3_rest5
      case r3_hy5 => intro w hSw; obtain ⟨r0, r1, r2, r3, r4⟩ := hSw; go_simp; try (with_reducible rfl)
      simp only [Act.put, List.setIfInBounds_toArray, List.set_cons_zero, List.set_cons_succ]
      refine wpAnyH_take (i := 6) (oi := { dst := some 31, op := Op.indexAddr 31 (Operand.tmp 28) (Operand.tmp 29), type := 0, pos := "l05_node.go:78", after := #[{ on := 3, ground := Ground.data }, { on := 4, ground := Ground.data }, { on := 0, ground := Ground.phase }, { on := 1, ground := Ground.phase }, { on := 2, ground := Ground.phase }, { on := 3, ground := Ground.phase }, { on := 4, ground := Ground.phase }, { on := 5, ground := Ground.phase }], guard := none }) (v := ?r3_v6) rfl (by kernel_rfl) (by kernel_rfl) (by kernel_rfl) (fun _ _ _ h => h) (Or.inl ⟨by rfl, ?r3_hy6⟩) (by assumption) ?r3_rest6
      case r3_hy6 => intro w hSw; obtain ⟨r0, r1, r2, r3, r4⟩ := hSw; go_simp; try (with_reducible rfl)
      simp only [Act.put, List.setIfInBounds_toArray, List.set_cons_zero, List.set_cons_succ]
      refine wpAnyH_ready (rs := [7]) (by kernel_rfl) (by simp) ?_
      refine AllReadyH.cons (o := { dst := none, op := Op.store 54 (Operand.tmp 31) (Operand.tmp 30), type := 0, pos := "l05_node.go:78", after := #[{ on := 6, ground := Ground.data }, { on := 5, ground := Ground.data }, { on := 0, ground := Ground.phase }, { on := 1, ground := Ground.phase }, { on := 2, ground := Ground.phase }, { on := 3, ground := Ground.phase }, { on := 4, ground := Ground.phase }, { on := 5, ground := Ground.phase }], guard := none }) rfl (fun K2 hK2 => ?_) AllReadyH.nil
      go_simp
      refine hK2.out _ _ ?_ (fun hHeld2 => ?_)
      · exact ⟨(World.cell?_setCell_other _ _ _ _ (fun e => by first | (simp at e; done) | (simp at e; omega))).trans ((World.cell?_setCell_other _ _ _ _ (fun e => by first | (simp at e; done) | (simp at e; omega))).trans t0), (World.cell?_setCell_other _ _ _ _ (fun e => by first | (simp at e; done) | (simp at e; omega))).trans ((World.cell?_setCell_other _ _ _ _ (fun e => by first | (simp at e; done) | (simp at e; omega))).trans t3), (World.cell?_setCell_other _ _ _ _ (fun e => by first | (simp at e; done) | (simp at e; omega))).trans ((World.cell?_setCell_other _ _ _ _ (fun e => by first | (simp at e; done) | (simp at e; omega))).trans t4), by simpa using t7, by simpa using t8⟩
      clear hK2 K2 hHeld
      have hHeld := hHeld2
      clear hHeld2
      try simp only [Act.put, List.setIfInBounds_toArray, List.set_cons_zero, List.set_cons_succ]
      refine wpAnyH_done (by kernel_rfl) ?_ _
      clear hHeld t0 t1 t2 t3 t4 t5 t6 t7 t8
      go_wp2
      exact ⟨rfl, .tuple #[], by simp [results, Tryz.results79, go_sem], rfl, HF.out.drew⟩
    · have HF0 := HE.out _ a2 c2 ds true BW DW hq (by rw [hq] at hds; exact hds)
      simp only [if_true] at HF0
      have HF : Hid (TellP m di k pg d p j w _) := HF0
      clear HF0 hq hds HE KS HG HQ DW BW
      go_wp2_with fail
      have t0 := s0
      have t1 := s1
      have t2 := s2
      have t3 := n0
      have t4 := n1
      have t5 := fg0
      have t6 := fg1
      have t7 := s7
      have t8 := nz
      obtain ⟨V, hV⟩ : ∃ V, W = V := ⟨_, rfl⟩
      subst hV
      clear s0 s1 s2 n0 n1 fg0 fg1 fm ff s7 nz
      refine wp_region_held_drew (S := (fun w' => w'.cell? ⟨m, 0, none⟩ = some (.slice (some ⟨g, 0, none⟩) d.no p.o.2) ∧ w'.cell? ⟨w1.heap.size, 0, none⟩ = some (.int .i64 (d.b di)) ∧ w'.cell? ⟨w1.heap.size, 1, none⟩ = some (.slice a2 ds.length c2) ∧ m < w'.heap.size ∧ w1.heap.size < w'.heap.size)) (by kernel_rfl) ?_ (fun hHeld => ?_)
      · exact ⟨t0, t3, t4, t7, t8⟩
      refine wpAnyH_take (i := 0) (oi := { dst := some 25, op := Op.move (Operand.tmp 0), type := 155, pos := "l05_node.go:78", after := #[], guard := none }) (v := ?r4_v0) rfl (by kernel_rfl) (by kernel_rfl) (by kernel_rfl) (fun _ _ _ h => h) (Or.inl ⟨by rfl, ?r4_hy0⟩) (by assumption) ?r4_rest0
      case r4_hy0 => intro w hSw; obtain ⟨r0, r1, r2, r3, r4⟩ := hSw; go_simp; try (with_reducible rfl)
      simp only [Act.put, List.setIfInBounds_toArray, List.set_cons_zero, List.set_cons_succ]
      refine wpAnyH_take (i := 1) (oi := { dst := some 26, op := Op.nilCheck (Operand.tmp 25), type := 0, pos := "l05_node.go:78", after := #[{ on := 0, ground := Ground.data }], guard := none }) (v := ?r4_v1) rfl (by kernel_rfl) (by kernel_rfl) (by kernel_rfl) (fun _ _ _ h => h) (Or.inl ⟨by rfl, ?r4_hy1⟩) (by assumption) ?r4_rest1
      case r4_hy1 => intro w hSw; obtain ⟨r0, r1, r2, r3, r4⟩ := hSw; go_simp; try (with_reducible rfl)
      simp only [Act.put, List.setIfInBounds_toArray, List.set_cons_zero, List.set_cons_succ]
      refine wpAnyH_take (i := 2) (oi := { dst := some 27, op := Op.fieldAddr 121 (Operand.tmp 26) 0, type := 0, pos := "l05_node.go:78", after := #[{ on := 1, ground := Ground.data }], guard := none }) (v := ?r4_v2) rfl (by kernel_rfl) (by kernel_rfl) (by kernel_rfl) (fun _ _ _ h => h) (Or.inl ⟨by rfl, ?r4_hy2⟩) (by assumption) ?r4_rest2
      case r4_hy2 => intro w hSw; obtain ⟨r0, r1, r2, r3, r4⟩ := hSw; go_simp; try (with_reducible rfl)
      simp only [Act.put, List.setIfInBounds_toArray, List.set_cons_zero, List.set_cons_succ]
      refine wpAnyH_take (i := 3) (oi := { dst := some 28, op := Op.load 31 (Operand.tmp 27), type := 31, pos := "l05_node.go:78", after := #[{ on := 2, ground := Ground.data }], guard := none }) (v := ?r4_v3) rfl (by kernel_rfl) (by kernel_rfl) (by kernel_rfl) (fun _ _ _ h => h) (Or.inl ⟨by rfl, ?r4_hy3⟩) (by assumption) ?r4_rest3
      case r4_hy3 => intro w hSw; obtain ⟨r0, r1, r2, r3, r4⟩ := hSw; go_simp; try (with_reducible rfl)
      simp only [Act.put, List.setIfInBounds_toArray, List.set_cons_zero, List.set_cons_succ]
      refine wpAnyH_take (i := 4) (oi := { dst := some 29, op := Op.move (Operand.tmp 1), type := 3, pos := "l05_node.go:78", after := #[], guard := none }) (v := ?r4_v4) rfl (by kernel_rfl) (by kernel_rfl) (by kernel_rfl) (fun _ _ _ h => h) (Or.inl ⟨by rfl, ?r4_hy4⟩) (by assumption) ?r4_rest4
      case r4_hy4 => intro w hSw; obtain ⟨r0, r1, r2, r3, r4⟩ := hSw; go_simp; try (with_reducible rfl)
      simp only [Act.put, List.setIfInBounds_toArray, List.set_cons_zero, List.set_cons_succ]
      refine wpAnyH_take (i := 5) (oi := { dst := some 30, op := Op.load 54 (Operand.tmp 6), type := 54, pos := "l05_node.go:78", after := #[], guard := none }) (v := ?r4_v5) rfl (by kernel_rfl) (by kernel_rfl) (by kernel_rfl) (fun _ _ _ h => h) (Or.inl ⟨by rfl, ?r4_hy5⟩) (by assumption) ?r4_rest5
      case r4_hy5 => intro w hSw; obtain ⟨r0, r1, r2, r3, r4⟩ := hSw; go_simp; try (with_reducible rfl)
      simp only [Act.put, List.setIfInBounds_toArray, List.set_cons_zero, List.set_cons_succ]
      refine wpAnyH_take (i := 6) (oi := { dst := some 31, op := Op.indexAddr 31 (Operand.tmp 28) (Operand.tmp 29), type := 0, pos := "l05_node.go:78", after := #[{ on := 3, ground := Ground.data }, { on := 4, ground := Ground.data }, { on := 0, ground := Ground.phase }, { on := 1, ground := Ground.phase }, { on := 2, ground := Ground.phase }, { on := 3, ground := Ground.phase }, { on := 4, ground := Ground.phase }, { on := 5, ground := Ground.phase }], guard := none }) (v := ?r4_v6) rfl (by kernel_rfl) (by kernel_rfl) (by kernel_rfl) (fun _ _ _ h => h) (Or.inl ⟨by rfl, ?r4_hy6⟩) (by assumption) ?r4_rest6
      case r4_hy6 => intro w hSw; obtain ⟨r0, r1, r2, r3, r4⟩ := hSw; go_simp; try (with_reducible rfl)
      simp only [Act.put, List.setIfInBounds_toArray, List.set_cons_zero, List.set_cons_succ]
      refine wpAnyH_ready (rs := [7]) (by kernel_rfl) (by simp) ?_
      refine AllReadyH.cons (o := { dst := none, op := Op.store 54 (Operand.tmp 31) (Operand.tmp 30), type := 0, pos := "l05_node.go:78", after := #[{ on := 6, ground := Ground.data }, { on := 5, ground := Ground.data }, { on := 0, ground := Ground.phase }, { on := 1, ground := Ground.phase }, { on := 2, ground := Ground.phase }, { on := 3, ground := Ground.phase }, { on := 4, ground := Ground.phase }, { on := 5, ground := Ground.phase }], guard := none }) rfl (fun K2 hK2 => ?_) AllReadyH.nil
      go_simp
      refine hK2.out _ _ ?_ (fun hHeld2 => ?_)
      · exact ⟨(World.cell?_setCell_other _ _ _ _ (fun e => by first | (simp at e; done) | (simp at e; omega))).trans ((World.cell?_setCell_other _ _ _ _ (fun e => by first | (simp at e; done) | (simp at e; omega))).trans t0), (World.cell?_setCell_other _ _ _ _ (fun e => by first | (simp at e; done) | (simp at e; omega))).trans ((World.cell?_setCell_other _ _ _ _ (fun e => by first | (simp at e; done) | (simp at e; omega))).trans t3), (World.cell?_setCell_other _ _ _ _ (fun e => by first | (simp at e; done) | (simp at e; omega))).trans ((World.cell?_setCell_other _ _ _ _ (fun e => by first | (simp at e; done) | (simp at e; omega))).trans t4), by simpa using t7, by simpa using t8⟩
      clear hK2 K2 hHeld
      have hHeld := hHeld2
      clear hHeld2
      try simp only [Act.put, List.setIfInBounds_toArray, List.set_cons_zero, List.set_cons_succ]
      refine wpAnyH_done (by kernel_rfl) ?_ _
      clear hHeld t0 t1 t2 t3 t4 t5 t6 t7 t8
      go_wp2
      exact ⟨rfl, .tuple #[], by simp [results, Tryz.results79, go_sem], rfl, HF.out.drew⟩
  · go_simp
    refine hK2.out _ _ ?_ (fun hHeld2 => ?_)
    · exact KS.out _ (bel_alloc (bel_drew (Below.refl _ _)) _)
    clear hK2 K2 hHeld
    have hHeld := hHeld2
    clear hHeld2
    try simp only [Act.put, List.setIfInBounds_toArray, List.set_cons_zero, List.set_cons_succ]
    have XS : Box (Z.drew.alloc (.cells #[.int .i64 0, .slice none 0 0] 54)) Z.heap.size #[.int .i64 0, .slice none 0 0] 54 := Box.new Z.drew _ _
    have bz := bel_alloc (bel_drew (Below.refl Z.heap.size Z)) (.cells #[.int .i64 0, .slice none 0 0] 54)
    refine wpAnyH_ready (rs := [8]) (by kernel_rfl) (by simp) ?_
    refine AllReadyH.cons (o := { dst := some 17, op := Op.call { callee := Callee.value (Operand.func 115), args := #[Operand.tmp 15, Operand.tmp 16], argTypes := #[54, 58] }, type := 55, pos := "l05_node.go:74", after := #[{ on := 6, ground := Ground.data }, { on := 7, ground := Ground.data }], guard := none }) rfl (fun K2 hK2 => ?_) AllReadyH.nil
    go_simp
    refine (HQ.out _ (bel_trans HBX.out bz)).mono ?_
    rintro e w1 ⟨a2, c2, ds, rfl, hds, D1, b1⟩
    go_wp2_with fail
    refine hK2.out _ _ ?_ (fun hHeld2 => ?_)
    · exact KS.out _ (bel_trans bz b1)
    clear hK2 K2 hHeld
    have hHeld := hHeld2
    clear hHeld2
    try simp only [Act.put, List.setIfInBounds_toArray, List.set_cons_zero, List.set_cons_succ]
    refine wpAnyH_take (i := 9) (oi := { dst := some 8, op := Op.move (Operand.tmp 17), type := 55, pos := "l05_node.go:74", after := #[{ on := 8, ground := Ground.data }], guard := none }) (v := ?r5_v9) rfl (by kernel_rfl) (by kernel_rfl) (by kernel_rfl) (fun _ _ _ h => h) (Or.inl ⟨by rfl, ?r5_hy9⟩) (by assumption) ?r5_rest9
    case r5_hy9 => intro w hSw; obtain ⟨s0, s1, s2, s3, s4, s5, s6, s7, s8⟩ := hSw; go_simp; try (with_reducible rfl)
    simp only [Act.put, List.setIfInBounds_toArray, List.set_cons_zero, List.set_cons_succ]
    refine wpAnyH_take (i := 10) (oi := { dst := some 18, op := Op.extract (Operand.tmp 8) 0, type := 54, pos := "l05_node.go:74", after := #[{ on := 9, ground := Ground.data }], guard := none }) (v := ?r5_v10) rfl (by kernel_rfl) (by kernel_rfl) (by kernel_rfl) (fun _ _ _ h => h) (Or.inl ⟨by rfl, ?r5_hy10⟩) (by assumption) ?r5_rest10
    case r5_hy10 => intro w hSw; obtain ⟨s0, s1, s2, s3, s4, s5, s6, s7, s8⟩ := hSw; go_simp; try (with_reducible rfl)
    simp only [Act.put, List.setIfInBounds_toArray, List.set_cons_zero, List.set_cons_succ]
    refine wpAnyH_take (i := 11) (oi := { dst := some 19, op := Op.extract (Operand.tmp 8) 1, type := 4, pos := "l05_node.go:74", after := #[{ on := 9, ground := Ground.data }, { on := 13, ground := Ground.gcOnly Departure.lateStores }], guard := none }) (v := ?r5_v11) rfl (by kernel_rfl) (by kernel_rfl) (by kernel_rfl) (fun _ _ _ h => h) (Or.inl ⟨by rfl, ?r5_hy11⟩) (by assumption) ?r5_rest11
    case r5_hy11 => intro w hSw; obtain ⟨s0, s1, s2, s3, s4, s5, s6, s7, s8⟩ := hSw; go_simp; try (with_reducible rfl)
    simp only [Act.put, List.setIfInBounds_toArray, List.set_cons_zero, List.set_cons_succ]
    replace XS := XS.below b1
    have bzz := bel_trans bz b1
    have hz1 : Z.heap.size < w1.heap.size := by have := XS.lt; simpa using this
    obtain ⟨n0, n1, nz⟩ := XS.at2
    have nf0 := XS.frozen 0
    have nf1 := XS.frozen 1
    refine wpAnyH_ready (rs := [13]) (by kernel_rfl) (by simp) ?_
    refine AllReadyH.cons (o := { dst := none, op := Op.store 54 (Operand.tmp 6) (Operand.tmp 18), type := 0, pos := "l05_node.go:74", after := #[{ on := 12, ground := Ground.data }, { on := 10, ground := Ground.data }, { on := 8, ground := Ground.chain }, { on := 0, ground := Ground.phase }, { on := 1, ground := Ground.phase }, { on := 2, ground := Ground.phase }, { on := 3, ground := Ground.phase }, { on := 4, ground := Ground.phase }, { on := 5, ground := Ground.phase }, { on := 6, ground := Ground.phase }, { on := 7, ground := Ground.phase }, { on := 8, ground := Ground.phase }, { on := 9, ground := Ground.phase }, { on := 10, ground := Ground.phase }, { on := 11, ground := Ground.textOnly Departure.lateStores }, { on := 12, ground := Ground.phase }], guard := none }) rfl (fun K2 hK2 => ?_) AllReadyH.nil
    go_simp
    refine hK2.out _ _ ?_ (fun hHeld2 => ?_)
    · exact KS.out _ (bel_setCell (bel_setCell bzz ⟨Z.heap.size, 0, none⟩ (.int .i64 (d.b di)) (Nat.le_refl _)) ⟨Z.heap.size, 1, none⟩ (.slice a2 ds.length c2) (Nat.le_refl _))
    clear hK2 K2 hHeld
    have hHeld := hHeld2
    clear hHeld2
    try simp only [Act.put, List.setIfInBounds_toArray, List.set_cons_zero, List.set_cons_succ]
    refine wpAnyH_take (i := 14) (oi := { dst := some 7, op := Op.assign (Operand.tmp 19), type := 4, pos := "l05_node.go:74", after := #[{ on := 11, ground := Ground.data }, { on := 13, ground := Ground.chain }, { on := 0, ground := Ground.phase }, { on := 1, ground := Ground.phase }, { on := 2, ground := Ground.phase }, { on := 3, ground := Ground.phase }, { on := 4, ground := Ground.phase }, { on := 5, ground := Ground.phase }, { on := 6, ground := Ground.phase }, { on := 7, ground := Ground.phase }, { on := 8, ground := Ground.phase }, { on := 9, ground := Ground.phase }, { on := 10, ground := Ground.phase }, { on := 11, ground := Ground.phase }, { on := 12, ground := Ground.phase }, { on := 13, ground := Ground.phase }], guard := none }) (v := ?r5_v14) rfl (by kernel_rfl) (by kernel_rfl) (by kernel_rfl) (fun _ _ _ h => h) (Or.inl ⟨by rfl, ?r5_hy14⟩) (by assumption) ?r5_rest14
    case r5_hy14 => intro w hSw; obtain ⟨s0, s1, s2, s3, s4, s5, s6, s7, s8⟩ := hSw; go_simp; try (with_reducible rfl)
    simp only [Act.put, List.setIfInBounds_toArray, List.set_cons_zero, List.set_cons_succ]
    refine wpAnyH_done (by kernel_rfl) ?_ _
    have BW := bel_setCell (bel_setCell bzz ⟨Z.heap.size, 0, none⟩ (.int .i64 (d.b di)) (Nat.le_refl _)) ⟨Z.heap.size, 1, none⟩ (.slice a2 ds.length c2) (Nat.le_refl _)
    have XS2 : Box ((w1.setCell ⟨Z.heap.size, 0, none⟩ (.int .i64 (d.b di))).setCell ⟨Z.heap.size, 1, none⟩ (.slice a2 ds.length c2)) Z.heap.size #[.int .i64 (d.b di), .slice a2 ds.length c2] 54 := heap_setCell_same _ _ 1 _ _ _ (heap_setCell_same _ _ 0 _ _ _ XS)
    have hlw : ∀ x, (Value.slice a2 ds.length c2).ownBlock = some x → Z.heap.size ≠ x := fun x hx e => by have := (D1.row.lt x hx).1; simp at this; omega
    have hly : ∀ y ∈ ds, ∀ x, y.v.ownBlock = some x → Z.heap.size ≠ x := fun y hy x hx e => by have := (D1.lists.lt hy hx).1; simp at this; omega
    have DW : Deep ((w1.setCell ⟨Z.heap.size, 0, none⟩ (.int .i64 (d.b di))).setCell ⟨Z.heap.size, 1, none⟩ (.slice a2 ds.length c2)) w.heap.size a2 c2 ds := ⟨owns_base (owns_setCell (owns_setCell D1.row hlw _) hlw _) (by have := HBX.out.size; simp; omega), ((D1.lists.far _ _ hly).far _ _ hly).base (by have := HBX.out.size; simp; omega)⟩
    clear n0 n1 nz nf0 nf1 XS D1 b1 bz bzz hlw hly
    have hnb : Z.heap.size ≤ Z.heap.size := Nat.le_refl _
    obtain ⟨W, hW⟩ : ∃ W, (w1.setCell ⟨Z.heap.size, 0, none⟩ (.int .i64 (d.b di))).setCell ⟨Z.heap.size, 1, none⟩ (.slice a2 ds.length c2) = W := ⟨_, rfl⟩
    rw [hW] at BW XS2 DW hHeld ⊢
    clear hW hz1
    obtain ⟨⟨fg0, fg1⟩, fm, ff⟩ := HG.out _ BW
    obtain ⟨s0, s1, s2, s3, s4, s5, s6, s7, s8⟩ := KS.out _ BW
    obtain ⟨n0, n1, nz⟩ := XS2.at2
    clear s3 s4 s5 s6 s8 XS2 hHeld
    cases hq : senderB (d.b di) (p.ms di ++ [⟨k, pg, false, none, 0, []⟩])
    · have HF0 := HE.out _ a2 c2 ds false BW DW hq (by rw [hq] at hds; exact hds)
      simp only [Bool.false_eq_true, if_false] at HF0
      have HF : Hid (TellP m di k pg d p j w _) := HF0
      clear HF0 hq hds HE KS HG HQ DW BW
      go_wp2_with fail
      have t0 : (W.setCell ⟨m, 2, none⟩ (.bool true)).cell? ⟨m, 0, none⟩ = _ := (World.cell?_setCell_other _ _ _ _ (fun e => by simp at e)).trans s0
      have t1 : (W.setCell ⟨m, 2, none⟩ (.bool true)).cell? ⟨g, di * 2, none⟩ = _ := (World.cell?_setCell_other _ _ _ _ (fun e => by first | (simp at e; done) | (simp at e; omega))).trans s1
      have t2 : (W.setCell ⟨m, 2, none⟩ (.bool true)).cell? ⟨g, di * 2 + 1, none⟩ = _ := (World.cell?_setCell_other _ _ _ _ (fun e => by first | (simp at e; done) | (simp at e; omega))).trans s2
      have t3 : (W.setCell ⟨m, 2, none⟩ (.bool true)).cell? ⟨Z.heap.size, 0, none⟩ = _ := (World.cell?_setCell_other _ _ _ _ (fun e => by first | (simp at e; done) | (simp at e; omega))).trans n0
      have t4 : (W.setCell ⟨m, 2, none⟩ (.bool true)).cell? ⟨Z.heap.size, 1, none⟩ = _ := (World.cell?_setCell_other _ _ _ _ (fun e => by first | (simp at e; done) | (simp at e; omega))).trans n1
      have t5 : (W.setCell ⟨m, 2, none⟩ (.bool true)).frozen? ⟨g, di * 2, none⟩ = false := by simpa using fg0
      have t6 : (W.setCell ⟨m, 2, none⟩ (.bool true)).frozen? ⟨g, di * 2 + 1, none⟩ = false := by simpa using fg1
      have t7 : m < (W.setCell ⟨m, 2, none⟩ (.bool true)).heap.size := by simpa using s7
      have t8 : Z.heap.size < (W.setCell ⟨m, 2, none⟩ (.bool true)).heap.size := by simpa using nz
      obtain ⟨V, hV⟩ : ∃ V, (W.setCell ⟨m, 2, none⟩ (.bool true)) = V := ⟨_, rfl⟩
      rw [hV] at t0 t1 t2 t3 t4 t5 t6 t7 t8 HF ⊢
      clear hV s0 s1 s2 n0 n1 fg0 fg1 fm ff s7 nz
      refine wp_region_held_drew (S := (fun w' => w'.cell? ⟨m, 0, none⟩ = some (.slice (some ⟨g, 0, none⟩) d.no p.o.2) ∧ w'.cell? ⟨Z.heap.size, 0, none⟩ = some (.int .i64 (d.b di)) ∧ w'.cell? ⟨Z.heap.size, 1, none⟩ = some (.slice a2 ds.length c2) ∧ m < w'.heap.size ∧ Z.heap.size < w'.heap.size)) (by kernel_rfl) ?_ (fun hHeld => ?_)
      · exact ⟨t0, t3, t4, t7, t8⟩
      refine wpAnyH_take (i := 0) (oi := { dst := some 25, op := Op.move (Operand.tmp 0), type := 155, pos := "l05_node.go:78", after := #[], guard := none }) (v := ?r6_v0) rfl (by kernel_rfl) (by kernel_rfl) (by kernel_rfl) (fun _ _ _ h => h) (Or.inl ⟨by rfl, ?r6_hy0⟩) (by assumption) ?r6_rest0
      case r6_hy0 => intro w hSw; obtain ⟨r0, r1, r2, r3, r4⟩ := hSw; go_simp; try (with_reducible rfl)
      simp only [Act.put, List.setIfInBounds_toArray, List.set_cons_zero, List.set_cons_succ]
      refine wpAnyH_take (i := 1) (oi := { dst := some 26, op := Op.nilCheck (Operand.tmp 25), type := 0, pos := "l05_node.go:78", after := #[{ on := 0, ground := Ground.data }], guard := none }) (v := ?r6_v1) rfl (by kernel_rfl) (by kernel_rfl) (by kernel_rfl) (fun _ _ _ h => h) (Or.inl ⟨by rfl, ?r6_hy1⟩) (by assumption) ?r6_rest1
      case r6_hy1 => intro w hSw; obtain ⟨r0, r1, r2, r3, r4⟩ := hSw; go_simp; try (with_reducible rfl)
      simp only [Act.put, List.setIfInBounds_toArray, List.set_cons_zero, List.set_cons_succ]
      refine wpAnyH_take (i := 2) (oi := { dst := some 27, op := Op.fieldAddr 121 (Operand.tmp 26) 0, type := 0, pos := "l05_node.go:78", after := #[{ on := 1, ground := Ground.data }], guard := none }) (v := ?r6_v2) rfl (by kernel_rfl) (by kernel_rfl) (by kernel_rfl) (fun _ _ _ h => h) (Or.inl ⟨by rfl, ?r6_hy2⟩) (by assumption) ?r6_rest2
      case r6_hy2 => intro w hSw; obtain ⟨r0, r1, r2, r3, r4⟩ := hSw; go_simp; try (with_reducible rfl)
      simp only [Act.put, List.setIfInBounds_toArray, List.set_cons_zero, List.set_cons_succ]
      refine wpAnyH_take (i := 3) (oi := { dst := some 28, op := Op.load 31 (Operand.tmp 27), type := 31, pos := "l05_node.go:78", after := #[{ on := 2, ground := Ground.data }], guard := none }) (v := ?r6_v3) rfl (by kernel_rfl) (by kernel_rfl) (by kernel_rfl) (fun _ _ _ h => h) (Or.inl ⟨by rfl, ?r6_hy3⟩) (by assumption) ?r6_rest3
      case r6_hy3 => intro w hSw; obtain ⟨r0, r1, r2, r3, r4⟩ := hSw; go_simp; try (with_reducible rfl)
      simp only [Act.put, List.setIfInBounds_toArray, List.set_cons_zero, List.set_cons_succ]
      refine wpAnyH_take (i := 4) (oi := { dst := some 29, op := Op.move (Operand.tmp 1), type := 3, pos := "l05_node.go:78", after := #[], guard := none }) (v := ?r6_v4) rfl (by kernel_rfl) (by kernel_rfl) (by kernel_rfl) (fun _ _ _ h => h) (Or.inl ⟨by rfl, ?r6_hy4⟩) (by assumption) ?r6_rest4
      case r6_hy4 => intro w hSw; obtain ⟨r0, r1, r2, r3, r4⟩ := hSw; go_simp; try (with_reducible rfl)
      simp only [Act.put, List.setIfInBounds_toArray, List.set_cons_zero, List.set_cons_succ]
      refine wpAnyH_take (i := 5) (oi := { dst := some 30, op := Op.load 54 (Operand.tmp 6), type := 54, pos := "l05_node.go:78", after := #[], guard := none }) (v := ?r6_v5) rfl (by kernel_rfl) (by kernel_rfl) (by kernel_rfl) (fun _ _ _ h => h) (Or.inl ⟨by rfl, ?r6_hy5⟩) (by assumption) ?r6_rest5
      case r6_hy5 => intro w hSw; obtain ⟨r0, r1, r2, r3, r4⟩ := hSw; go_simp; try (with_reducible rfl)
      simp only [Act.put, List.setIfInBounds_toArray, List.set_cons_zero, List.set_cons_succ]
      refine wpAnyH_take (i := 6) (oi := { dst := some 31, op := Op.indexAddr 31 (Operand.tmp 28) (Operand.tmp 29), type := 0, pos := "l05_node.go:78", after := #[{ on := 3, ground := Ground.data }, { on := 4, ground := Ground.data }, { on := 0, ground := Ground.phase }, { on := 1, ground := Ground.phase }, { on := 2, ground := Ground.phase }, { on := 3, ground := Ground.phase }, { on := 4, ground := Ground.phase }, { on := 5, ground := Ground.phase }], guard := none }) (v := ?r6_v6) rfl (by kernel_rfl) (by kernel_rfl) (by kernel_rfl) (fun _ _ _ h => h) (Or.inl ⟨by rfl, ?r6_hy6⟩) (by assumption) ?r6_rest6
      case r6_hy6 => intro w hSw; obtain ⟨r0, r1, r2, r3, r4⟩ := hSw; go_simp; try (with_reducible rfl)
      simp only [Act.put, List.setIfInBounds_toArray, List.set_cons_zero, List.set_cons_succ]
      refine wpAnyH_ready (rs := [7]) (by kernel_rfl) (by simp) ?_
      refine AllReadyH.cons (o := { dst := none, op := Op.store 54 (Operand.tmp 31) (Operand.tmp 30), type := 0, pos := "l05_node.go:78", after := #[{ on := 6, ground := Ground.data }, { on := 5, ground := Ground.data }, { on := 0, ground := Ground.phase }, { on := 1, ground := Ground.phase }, { on := 2, ground := Ground.phase }, { on := 3, ground := Ground.phase }, { on := 4, ground := Ground.phase }, { on := 5, ground := Ground.phase }], guard := none }) rfl (fun K2 hK2 => ?_) AllReadyH.nil
      go_simp
      refine hK2.out _ _ ?_ (fun hHeld2 => ?_)
      · exact ⟨(World.cell?_setCell_other _ _ _ _ (fun e => by first | (simp at e; done) | (simp at e; omega))).trans ((World.cell?_setCell_other _ _ _ _ (fun e => by first | (simp at e; done) | (simp at e; omega))).trans t0), (World.cell?_setCell_other _ _ _ _ (fun e => by first | (simp at e; done) | (simp at e; omega))).trans ((World.cell?_setCell_other _ _ _ _ (fun e => by first | (simp at e; done) | (simp at e; omega))).trans t3), (World.cell?_setCell_other _ _ _ _ (fun e => by first | (simp at e; done) | (simp at e; omega))).trans ((World.cell?_setCell_other _ _ _ _ (fun e => by first | (simp at e; done) | (simp at e; omega))).trans t4), by simpa using t7, by simpa using t8⟩
      clear hK2 K2 hHeld
      have hHeld := hHeld2
      clear hHeld2
      try simp only [Act.put, List.setIfInBounds_toArray, List.set_cons_zero, List.set_cons_succ]
      refine wpAnyH_done (by kernel_rfl) ?_ _
      clear hHeld t0 t1 t2 t3 t4 t5 t6 t7 t8
      go_wp2
      exact ⟨rfl, .tuple #[], by simp [results, Tryz.results79, go_sem], rfl, HF.out.drew⟩
    · have HF0 := HE.out _ a2 c2 ds true BW DW hq (by rw [hq] at hds; exact hds)
      simp only [if_true] at HF0
      have HF : Hid (TellP m di k pg d p j w _) := HF0
      clear HF0 hq hds HE KS HG HQ DW BW
      go_wp2_with fail
      have t0 := s0
      have t1 := s1
      have t2 := s2
      have t3 := n0
      have t4 := n1
      have t5 := fg0
      have t6 := fg1
      have t7 := s7
      have t8 := nz
      obtain ⟨V, hV⟩ : ∃ V, W = V := ⟨_, rfl⟩
      subst hV
      clear s0 s1 s2 n0 n1 fg0 fg1 fm ff s7 nz
      refine wp_region_held_drew (S := (fun w' => w'.cell? ⟨m, 0, none⟩ = some (.slice (some ⟨g, 0, none⟩) d.no p.o.2) ∧ w'.cell? ⟨Z.heap.size, 0, none⟩ = some (.int .i64 (d.b di)) ∧ w'.cell? ⟨Z.heap.size, 1, none⟩ = some (.slice a2 ds.length c2) ∧ m < w'.heap.size ∧ Z.heap.size < w'.heap.size)) (by kernel_rfl) ?_ (fun hHeld => ?_)
      · exact ⟨t0, t3, t4, t7, t8⟩
      refine wpAnyH_take (i := 0) (oi := { dst := some 25, op := Op.move (Operand.tmp 0), type := 155, pos := "l05_node.go:78", after := #[], guard := none }) (v := ?r7_v0) rfl (by kernel_rfl) (by kernel_rfl) (by kernel_rfl) (fun _ _ _ h => h) (Or.inl ⟨by rfl, ?r7_hy0⟩) (by assumption) ?r7_rest0
      case r7_hy0 => intro w hSw; obtain ⟨r0, r1, r2, r3, r4⟩ := hSw; go_simp; try (with_reducible rfl)
      simp only [Act.put, List.setIfInBounds_toArray, List.set_cons_zero, List.set_cons_succ]
      refine wpAnyH_take (i := 1) (oi := { dst := some 26, op := Op.nilCheck (Operand.tmp 25), type := 0, pos := "l05_node.go:78", after := #[{ on := 0, ground := Ground.data }], guard := none }) (v := ?r7_v1) rfl (by kernel_rfl) (by kernel_rfl) (by kernel_rfl) (fun _ _ _ h => h) (Or.inl ⟨by rfl, ?r7_hy1⟩) (by assumption) ?r7_rest1
      case r7_hy1 => intro w hSw; obtain ⟨r0, r1, r2, r3, r4⟩ := hSw; go_simp; try (with_reducible rfl)
      simp only [Act.put, List.setIfInBounds_toArray, List.set_cons_zero, List.set_cons_succ]
      refine wpAnyH_take (i := 2) (oi := { dst := some 27, op := Op.fieldAddr 121 (Operand.tmp 26) 0, type := 0, pos := "l05_node.go:78", after := #[{ on := 1, ground := Ground.data }], guard := none }) (v := ?r7_v2) rfl (by kernel_rfl) (by kernel_rfl) (by kernel_rfl) (fun _ _ _ h => h) (Or.inl ⟨by rfl, ?r7_hy2⟩) (by assumption) ?r7_rest2
      case r7_hy2 => intro w hSw; obtain ⟨r0, r1, r2, r3, r4⟩ := hSw; go_simp; try (with_reducible rfl)
      simp only [Act.put, List.setIfInBounds_toArray, List.set_cons_zero, List.set_cons_succ]
      refine wpAnyH_take (i := 3) (oi := { dst := some 28, op := Op.load 31 (Operand.tmp 27), type := 31, pos := "l05_node.go:78", after := #[{ on := 2, ground := Ground.data }], guard := none }) (v := ?r7_v3) rfl (by kernel_rfl) (by kernel_rfl) (by kernel_rfl) (fun _ _ _ h => h) (Or.inl ⟨by rfl, ?r7_hy3⟩) (by assumption) ?r7_rest3
      case r7_hy3 => intro w hSw; obtain ⟨r0, r1, r2, r3, r4⟩ := hSw; go_simp; try (with_reducible rfl)
      simp only [Act.put, List.setIfInBounds_toArray, List.set_cons_zero, List.set_cons_succ]
      refine wpAnyH_take (i := 4) (oi := { dst := some 29, op := Op.move (Operand.tmp 1), type := 3, pos := "l05_node.go:78", after := #[], guard := none }) (v := ?r7_v4) rfl (by kernel_rfl) (by kernel_rfl) (by kernel_rfl) (fun _ _ _ h => h) (Or.inl ⟨by rfl, ?r7_hy4⟩) (by assumption) ?r7_rest4
      case r7_hy4 => intro w hSw; obtain ⟨r0, r1, r2, r3, r4⟩ := hSw; go_simp; try (with_reducible rfl)
      simp only [Act.put, List.setIfInBounds_toArray, List.set_cons_zero, List.set_cons_succ]
      refine wpAnyH_take (i := 5) (oi := { dst := some 30, op := Op.load 54 (Operand.tmp 6), type := 54, pos := "l05_node.go:78", after := #[], guard := none }) (v := ?r7_v5) rfl (by kernel_rfl) (by kernel_rfl) (by kernel_rfl) (fun _ _ _ h => h) (Or.inl ⟨by rfl, ?r7_hy5⟩) (by assumption) ?r7_rest5
      case r7_hy5 => intro w hSw; obtain ⟨r0, r1, r2, r3, r4⟩ := hSw; go_simp; try (with_reducible rfl)
      simp only [Act.put, List.setIfInBounds_toArray, List.set_cons_zero, List.set_cons_succ]
      refine wpAnyH_take (i := 6) (oi := { dst := some 31, op := Op.indexAddr 31 (Operand.tmp 28) (Operand.tmp 29), type := 0, pos := "l05_node.go:78", after := #[{ on := 3, ground := Ground.data }, { on := 4, ground := Ground.data }, { on := 0, ground := Ground.phase }, { on := 1, ground := Ground.phase }, { on := 2, ground := Ground.phase }, { on := 3, ground := Ground.phase }, { on := 4, ground := Ground.phase }, { on := 5, ground := Ground.phase }], guard := none }) (v := ?r7_v6) rfl (by kernel_rfl) (by kernel_rfl) (by kernel_rfl) (fun _ _ _ h => h) (Or.inl ⟨by rfl, ?r7_hy6⟩) (by assumption) ?r7_rest6
      case r7_hy6 => intro w hSw; obtain ⟨r0, r1, r2, r3, r4⟩ := hSw; go_simp; try (with_reducible rfl)
      simp only [Act.put, List.setIfInBounds_toArray, List.set_cons_zero, List.set_cons_succ]
      refine wpAnyH_ready (rs := [7]) (by kernel_rfl) (by simp) ?_
      refine AllReadyH.cons (o := { dst := none, op := Op.store 54 (Operand.tmp 31) (Operand.tmp 30), type := 0, pos := "l05_node.go:78", after := #[{ on := 6, ground := Ground.data }, { on := 5, ground := Ground.data }, { on := 0, ground := Ground.phase }, { on := 1, ground := Ground.phase }, { on := 2, ground := Ground.phase }, { on := 3, ground := Ground.phase }, { on := 4, ground := Ground.phase }, { on := 5, ground := Ground.phase }], guard := none }) rfl (fun K2 hK2 => ?_) AllReadyH.nil
      go_simp
      refine hK2.out _ _ ?_ (fun hHeld2 => ?_)
      · exact ⟨(World.cell?_setCell_other _ _ _ _ (fun e => by first | (simp at e; done) | (simp at e; omega))).trans ((World.cell?_setCell_other _ _ _ _ (fun e => by first | (simp at e; done) | (simp at e; omega))).trans t0), (World.cell?_setCell_other _ _ _ _ (fun e => by first | (simp at e; done) | (simp at e; omega))).trans ((World.cell?_setCell_other _ _ _ _ (fun e => by first | (simp at e; done) | (simp at e; omega))).trans t3), (World.cell?_setCell_other _ _ _ _ (fun e => by first | (simp at e; done) | (simp at e; omega))).trans ((World.cell?_setCell_other _ _ _ _ (fun e => by first | (simp at e; done) | (simp at e; omega))).trans t4), by simpa using t7, by simpa using t8⟩
      clear hK2 K2 hHeld
      have hHeld := hHeld2
      clear hHeld2
      try simp only [Act.put, List.setIfInBounds_toArray, List.set_cons_zero, List.set_cons_succ]
      refine wpAnyH_done (by kernel_rfl) ?_ _
      clear hHeld t0 t1 t2 t3 t4 t5 t6 t7 t8
      go_wp2
      exact ⟨rfl, .tuple #[], by simp [results, Tryz.results79, go_sem], rfl, HF.out.drew⟩
end Go.Proofs.YtcneocbadobcfaaGreat
