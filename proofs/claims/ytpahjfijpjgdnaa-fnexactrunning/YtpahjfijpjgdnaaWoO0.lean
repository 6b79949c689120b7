/- Owned rows of nodes and of packets, and an owned world. -/
import Derived.Test.YtpahjfijpjgdnaaWoR
import Derived.Test.YtpahjfijpjgdnaaWtP
namespace Go.Proofs.Ytpahjfijpjgdnaa
open Go.RowKit
set_option linter.unusedVariables false

theorem info_packetW : (Try.prog.info? 90).map (fun i => (i.zero, i.size, i.bytes)) = some (some (.agg #[.int .i64 0, .int .i64 0, .bool false, .int .i64 0, .int .i64 0, .int .i64 0, .bool false, .slice none 0 0]), 8, 80) := by kernel_rfl
theorem info_nodeW : (Try.prog.info? 86).map (fun i => (i.zero, i.size, i.bytes)) = some (some (.agg #[.int .i64 0, .slice none 0 0, .slice none 0 0, .slice none 0 0, .slice none 0 0]), 5, 104) := by kernel_rfl

theorem store5 {w : World} {lo e n g c k : Nat} {f : Nat → List Value} (h : w.ownsRow lo e 5 (.slice (some ⟨g, 0, none⟩) n c) n (chunks n f)) (hf : ∀ i, i < n → (f i).length = 5) (hk : k < n) (c0 c1 c2 c3 c4 : Value) :
    (((((w.setCell ⟨g, k * 5, none⟩ c0).setCell ⟨g, k * 5 + 1, none⟩ c1).setCell ⟨g, k * 5 + 2, none⟩ c2).setCell ⟨g, k * 5 + 3, none⟩ c3).setCell ⟨g, k * 5 + 4, none⟩ c4).ownsRow lo e 5 (.slice (some ⟨g, 0, none⟩) n c) n (chunks n fun i => if i = k then [c0, c1, c2, c3, c4] else f i) := by
  have k0 := owns_stored h hf hk (j := 0) (by decide) c0
  have k1 := owns_stored k0 (set_len hf _ _ _) hk (j := 1) (by decide) c1
  have k2 := owns_stored k1 (set_len (set_len hf _ _ _) _ _ _) hk (j := 2) (by decide) c2
  have k3 := owns_stored k2 (set_len (set_len (set_len hf _ _ _) _ _ _) _ _ _) hk (j := 3) (by decide) c3
  have k4 := owns_stored k3 (set_len (set_len (set_len (set_len hf _ _ _) _ _ _) _ _ _) _ _ _) hk (j := 4) (by decide) c4
  refine owns_congr k4 (fun i hi => ?_)
  have hl := hf i hi
  by_cases e : i = k
  · simp only [if_pos e]
    match hq : f i, hl with
    | [x0, x1, x2, x3, x4], _ => rfl
  · simp only [if_neg e]

def EPk (d : PkD) (q : Pl) (w : World) : Prop := w.ownsRow 0 3 1 (.slice q.1 d.xs.length q.2) d.xs.length (d.xs.map (Value.int .i64))
theorem fix_pk (d : PkD) (q : Pl) : Fix (QF q) (EPk d q) := fun w w' k h => owns_sm h k (fun j hj => blk_eq hj)
theorem fix_n (d : ND) (p : NP) : Fix (NBs d p) (fun w => NOw w d p) := fun w w' k h => h.sm k
def PkO (w : World) (a : Option Addr) (c n : Nat) (d : Nat → PkD) (q : Nat → Pl) : Prop := Rw w 90 8 a c n n (fun i => pkcells (d i) (q i)) (fun i => QF (q i)) (fun i => EPk (d i) (q i))
def NsO (w : World) (a : Option Addr) (c n : Nat) (d : Nat → ND) (p : Nat → NP) : Prop := Rw w 86 5 a c n n (fun i => nlist (d i) (p i)) (fun i => NBs (d i) (p i)) (fun i w => NOw w (d i) (p i))
theorem PkO.pr {w : World} {a : Option Addr} {c n : Nat} {d : Nat → PkD} {q : Nat → Pl} (h : PkO w a c n d q) (hn : n ≤ 1048576) (hx : ∀ i, i < n → (d i).xs.length ≤ 1048576) : PkR w a n d q :=
  ⟨by omega, owns_vrow' h.row (by rw [chunks_length (s := 8) n (fun i _ => rfl)]; omega), fun i hi => owns_row' (h.el i hi) (by have := hx i hi; omega)⟩
theorem NsO.nr {w : World} {a : Option Addr} {c n : Nat} {d : Nat → ND} {p : Nat → NP} (h : NsO w a c n d p) (hn : n ≤ 1048576) (hx : ∀ i, i < n → Nsm (d i)) : NsR w a n d p :=
  ⟨by omega, owns_vrow' h.row (by rw [chunks_length (s := 5) n (fun i _ => rfl)]; omega), fun i hi => (h.el i hi).nr (hx i hi)⟩

/-- A world that is owned with all that it says. -/
structure WoO (w : World) (d : WoD) (p : WoP) : Prop where
  n : NsO w p.n.1 p.n.2 d.nn d.d p.np
  k : PkO w p.k.1 p.k.2 d.nk d.k p.kp
  nk : ∀ b, RS p.n.1 p.n.2 d.nn (fun i => NBs (d.d i) (p.np i)) b → ¬ RS p.k.1 p.k.2 d.nk (fun i => QF (p.kp i)) b
/-- Its blocks. -/
def WBs (d : WoD) (p : WoP) (b : Nat) : Prop := RS p.n.1 p.n.2 d.nn (fun i => NBs (d.d i) (p.np i)) b ∨ RS p.k.1 p.k.2 d.nk (fun i => QF (p.kp i)) b
theorem WoO.sm {w w' : World} {d : WoD} {p : WoP} (h : WoO w d p) (k : Sm (WBs d p) w w') : WoO w' d p := ⟨Rw.sm h.n (k.mono (fun b hb => .inl hb)), Rw.sm h.k (k.mono (fun b hb => .inr hb)), h.nk⟩
theorem WoO.below {w w' : World} {d : WoD} {p : WoP} (h : WoO w d p) (b : Below w.heap.size w w') : WoO w' d p := h.sm (sm_bel b)
theorem WoO.lt {w : World} {d : WoD} {p : WoP} (h : WoO w d p) {b : Nat} (hb : WBs d p b) : b < w.heap.size := by
  rcases hb with hb | hb
  · exact Rw.slt h.n hb
  · exact Rw.slt h.k hb

abbrev PTw (w : World) (lo : Nat) (a : Option Addr) (c n k : Nat) (d : Nat → PkD) (p : Nat → Pl) (z : Nat → List Value) : Prop := Tw w lo 90 8 a c n k (fun i => pkcells (d i) (p i)) z (fun i => QF (p i)) (fun i => EPk (d i) (p i))
abbrev NTw (w : World) (lo : Nat) (a : Option Addr) (c n k : Nat) (d : Nat → ND) (p : Nat → NP) (z : Nat → List Value) : Prop := Tw w lo 86 5 a c n k (fun i => nlist (d i) (p i)) z (fun i => NBs (d i) (p i)) (fun i w => NOw w (d i) (p i))

theorem packet_put {w w2 : World} {lo g c n k : Nat} {d : Nat → PkD} {p : Nat → Pl} {z : Nat → List Value} (h : PTw w lo (some ⟨g, 0, none⟩) c n k d p z) (hz : ∀ i, i < n → (z i).length = 8) (hk : k < n) (b : Below w.heap.size w w2) (hlo : lo ≤ w.heap.size) {a2 : Option Addr} {c2 : Nat} (o2 : w2.ownsRow w.heap.size 3 1 (.slice a2 (d k).xs.length c2) (d k).xs.length ((d k).xs.map (Value.int .i64))) :
    PTw ((((((((w2.setCell ⟨g, k * 8, none⟩ (.int .i64 (d k).f)).setCell ⟨g, k * 8 + 1, none⟩ (.int .i64 (d k).t)).setCell ⟨g, k * 8 + 2, none⟩ (.bool (d k).a)).setCell ⟨g, k * 8 + 3, none⟩ (.int .i64 (d k).n)).setCell ⟨g, k * 8 + 4, none⟩ (.int .i64 (d k).k)).setCell ⟨g, k * 8 + 5, none⟩ (.int .i64 (d k).p)).setCell ⟨g, k * 8 + 6, none⟩ (.bool (d k).o)).setCell ⟨g, k * 8 + 7, none⟩ (.slice a2 (d k).xs.length c2)) lo (some ⟨g, 0, none⟩) c n (k + 1) d (fun i => if i = k then (a2, c2) else p i) z := by
  have hr := owns_below h.r.row b
  have hf : ∀ i, i < n → ((fun i => if i < k then pkcells (d i) (p i) else z i) i).length = 8 := fun i hi => by dsimp only; split; rfl; exact hz i hi
  have hs := store8 hr hf hk (.int .i64 (d k).f) (.int .i64 (d k).t) (.bool (d k).a) (.int .i64 (d k).n) (.int .i64 (d k).k) (.int .i64 (d k).p) (.bool (d k).o) (.slice a2 (d k).xs.length c2)
  have on : Only w2 ((((((((w2.setCell ⟨g, k * 8, none⟩ (.int .i64 (d k).f)).setCell ⟨g, k * 8 + 1, none⟩ (.int .i64 (d k).t)).setCell ⟨g, k * 8 + 2, none⟩ (.bool (d k).a)).setCell ⟨g, k * 8 + 3, none⟩ (.int .i64 (d k).n)).setCell ⟨g, k * 8 + 4, none⟩ (.int .i64 (d k).k)).setCell ⟨g, k * 8 + 5, none⟩ (.int .i64 (d k).p)).setCell ⟨g, k * 8 + 6, none⟩ (.bool (d k).o)).setCell ⟨g, k * 8 + 7, none⟩ (.slice a2 (d k).xs.length c2)) (fun b => b = g) := (((((((((Only.refl w2 (fun b => b = g)).setCell ⟨g, k * 8, none⟩ _ rfl).setCell ⟨g, k * 8 + 1, none⟩ _ rfl).setCell ⟨g, k * 8 + 2, none⟩ _ rfl).setCell ⟨g, k * 8 + 3, none⟩ _ rfl).setCell ⟨g, k * 8 + 4, none⟩ _ rfl).setCell ⟨g, k * 8 + 5, none⟩ _ rfl).setCell ⟨g, k * 8 + 6, none⟩ _ rfl).setCell ⟨g, k * 8 + 7, none⟩ _ rfl)
  refine (h.step b hlo on hs (E' := EPk (d k) (a2, c2)) (owns_base o2 (Nat.zero_le _)) (fix_pk _ _) (fun x hx => o2.lt x (blk_own hx))).congr (fun i hi => ?_) (fun i hi => ?_) (fun i hi => ?_)
  all_goals
    by_cases e : i = k
    · subst e; simp [pkcells]
    · simp [e]

theorem node_put {w w2 : World} {lo g c n k : Nat} {d : Nat → ND} {p : Nat → NP} {z : Nat → List Value} (h : NTw w lo (some ⟨g, 0, none⟩) c n k d p z) (hz : ∀ i, i < n → (z i).length = 5) (hk : k < n) (b : Below w.heap.size w w2) (hlo : lo ≤ w.heap.size) {p2 : NP} (o2 : NOw w2 (d k) p2) (l2 : ∀ b, NBs (d k) p2 b → w.heap.size ≤ b) :
    NTw (((((w2.setCell ⟨g, k * 5, none⟩ (.int .i64 (d k).id)).setCell ⟨g, k * 5 + 1, none⟩ (.slice p2.f.1 (d k).nf p2.f.2)).setCell ⟨g, k * 5 + 2, none⟩ (.slice p2.h.1 (d k).nh p2.h.2)).setCell ⟨g, k * 5 + 3, none⟩ (.slice p2.o.1 (d k).no p2.o.2)).setCell ⟨g, k * 5 + 4, none⟩ (.slice p2.i.1 (d k).ni p2.i.2)) lo (some ⟨g, 0, none⟩) c n (k + 1) d (fun i => if i = k then p2 else p i) z := by
  have hr := owns_below h.r.row b
  have hf : ∀ i, i < n → ((fun i => if i < k then nlist (d i) (p i) else z i) i).length = 5 := fun i hi => by dsimp only; split; rfl; exact hz i hi
  have hs := store5 hr hf hk (.int .i64 (d k).id) (.slice p2.f.1 (d k).nf p2.f.2) (.slice p2.h.1 (d k).nh p2.h.2) (.slice p2.o.1 (d k).no p2.o.2) (.slice p2.i.1 (d k).ni p2.i.2)
  have on : Only w2 (((((w2.setCell ⟨g, k * 5, none⟩ (.int .i64 (d k).id)).setCell ⟨g, k * 5 + 1, none⟩ (.slice p2.f.1 (d k).nf p2.f.2)).setCell ⟨g, k * 5 + 2, none⟩ (.slice p2.h.1 (d k).nh p2.h.2)).setCell ⟨g, k * 5 + 3, none⟩ (.slice p2.o.1 (d k).no p2.o.2)).setCell ⟨g, k * 5 + 4, none⟩ (.slice p2.i.1 (d k).ni p2.i.2)) (fun b => b = g) := ((((((Only.refl w2 (fun b => b = g)).setCell ⟨g, k * 5, none⟩ _ rfl).setCell ⟨g, k * 5 + 1, none⟩ _ rfl).setCell ⟨g, k * 5 + 2, none⟩ _ rfl).setCell ⟨g, k * 5 + 3, none⟩ _ rfl).setCell ⟨g, k * 5 + 4, none⟩ _ rfl)
  refine (h.step b hlo on hs (E' := fun w => NOw w (d k) p2) o2 (fix_n _ _) (fun x hx => ⟨l2 x hx, o2.lt hx⟩)).congr (fun i hi => ?_) (fun i hi => ?_) (fun i hi => ?_)
  all_goals
    by_cases e : i = k
    · subst e; simp [nlist]
    · simp [e]

end Go.Proofs.Ytpahjfijpjgdnaa
