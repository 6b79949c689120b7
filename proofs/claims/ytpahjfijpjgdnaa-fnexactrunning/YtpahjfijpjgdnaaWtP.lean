/- An element is laid into a row: a frame, a home, a sender; what the law's toFrameS, toHomeS, toSenderS, toReceiverS lay. -/
import Derived.Test.YtpahjfijpjgdnaaWtR
namespace Go.Proofs.Ytpahjfijpjgdnaa
open Go.RowKit
set_option linter.unusedVariables false

abbrev HTw (w : World) (lo : Nat) (a : Option Addr) (c n k : Nat) (d : Nat → HD) (p : Nat → HP) (z : Nat → List Value) : Prop := Tw w lo 145 8 a c n k (fun i => hcells (d i) (p i)) z (fun i => QH (p i)) (fun i => EH (d i) (p i))
abbrev STw (w : World) (lo : Nat) (a : Option Addr) (c n k : Nat) (b : Nat → Int) (p : Nat → Pl) (ms : Nat → List M) (z : Nat → List Value) : Prop := Tw w lo 149 2 a c n k (fun i => scells (b i) (p i) (ms i).length) z (fun i => QS (p i) (ms i)) (fun i => ES (p i) (ms i))


theorem home_put {w w2 : World} {lo g c n k : Nat} {d : Nat → HD} {p : Nat → HP} {z : Nat → List Value} (h : HTw w lo (some ⟨g, 0, none⟩) c n k d p z) (hz : ∀ i, i < n → (z i).length = 8) (hk : k < n) (b : Below w.heap.size w w2) (hlo : lo ≤ w.heap.size) {al ar aq : Option Addr} {cl cr cq : Nat} (o2 : w2.ownsRow w.heap.size 3 1 (.slice al (d k).xs.length cl) (d k).xs.length ((d k).xs.map (Value.int .i64)))
    (o3 : w2.ownsRow w.heap.size 4 1 (.slice ar (d k).bs.length cr) (d k).bs.length (bv (d k).bs)) (o4 : w2.ownsRow w.heap.size 142 2 (.slice aq (d k).ws.length cq) (d k).ws.length (wv (d k).ws)) :
    HTw ((((((((w2.setCell ⟨g, k * 8, none⟩ (.slice al (d k).xs.length cl)).setCell ⟨g, k * 8 + 1, none⟩ (.int .i64 (d k).ow)).setCell ⟨g, k * 8 + 2, none⟩ (.slice ar (d k).bs.length cr)).setCell ⟨g, k * 8 + 3, none⟩ (.bool (d k).bz)).setCell ⟨g, k * 8 + 4, none⟩ (.int .i64 (d k).wh)).setCell ⟨g, k * 8 + 5, none⟩ (.bool (d k).wo)).setCell ⟨g, k * 8 + 6, none⟩ (.int .i64 (d k).ak)).setCell ⟨g, k * 8 + 7, none⟩ (.slice aq (d k).ws.length cq)) lo (some ⟨g, 0, none⟩) c n (k + 1) d (fun i => if i = k then ⟨(al, cl), (ar, cr), (aq, cq)⟩ else p i) z := by
  have hr := owns_below h.r.row b
  have hf : ∀ i, i < n → ((fun i => if i < k then hcells (d i) (p i) else z i) i).length = 8 := fun i hi => by dsimp only; split; rfl; exact hz i hi
  have hs := store8 hr hf hk (.slice al (d k).xs.length cl) (.int .i64 (d k).ow) (.slice ar (d k).bs.length cr) (.bool (d k).bz) (.int .i64 (d k).wh) (.bool (d k).wo) (.int .i64 (d k).ak) (.slice aq (d k).ws.length cq)
  have on : Only w2 ((((((((w2.setCell ⟨g, k * 8, none⟩ (.slice al (d k).xs.length cl)).setCell ⟨g, k * 8 + 1, none⟩ (.int .i64 (d k).ow)).setCell ⟨g, k * 8 + 2, none⟩ (.slice ar (d k).bs.length cr)).setCell ⟨g, k * 8 + 3, none⟩ (.bool (d k).bz)).setCell ⟨g, k * 8 + 4, none⟩ (.int .i64 (d k).wh)).setCell ⟨g, k * 8 + 5, none⟩ (.bool (d k).wo)).setCell ⟨g, k * 8 + 6, none⟩ (.int .i64 (d k).ak)).setCell ⟨g, k * 8 + 7, none⟩ (.slice aq (d k).ws.length cq)) (fun b => b = g) :=
    ((((((((Only.refl w2 (fun b => b = g)).setCell ⟨g, k * 8, none⟩ _ rfl).setCell ⟨g, k * 8 + 1, none⟩ _ rfl).setCell ⟨g, k * 8 + 2, none⟩ _ rfl).setCell ⟨g, k * 8 + 3, none⟩ _ rfl).setCell ⟨g, k * 8 + 4, none⟩ _ rfl).setCell ⟨g, k * 8 + 5, none⟩ _ rfl).setCell ⟨g, k * 8 + 6, none⟩ _ rfl).setCell ⟨g, k * 8 + 7, none⟩ _ rfl
  refine (h.step b hlo on hs (E' := EH (d k) ⟨(al, cl), (ar, cr), (aq, cq)⟩) ⟨owns_base o2 (Nat.zero_le _), owns_base o3 (Nat.zero_le _), owns_base o4 (Nat.zero_le _)⟩ (fix_h _ _) (fun x hx => ?_)).congr (fun i hi => ?_) (fun i hi => ?_) (fun i hi => ?_)
  · rcases hx with hx | hx | hx
    · exact o2.lt x (blk_own hx)
    · exact o3.lt x (blk_own hx)
    · exact o4.lt x (blk_own hx)
  all_goals
    by_cases e : i = k
    · subst e; simp [hcells]
    · simp [e]

theorem sender_put {w w2 : World} {lo g c n k : Nat} {b : Nat → Int} {p : Nat → Pl} {ms : Nat → List M} {z : Nat → List Value} (h : STw w lo (some ⟨g, 0, none⟩) c n k b p ms z) (hz : ∀ i, i < n → (z i).length = 2) (hk : k < n) (bb : Below w.heap.size w w2) (hlo : lo ≤ w.heap.size) {a2 : Option Addr} {c2 l2 : Nat} {ds : List M} (o2 : Deep w2 w.heap.size a2 c2 ds) (hl : ds.length = l2) :
    STw ((w2.setCell ⟨g, k * 2, none⟩ (.int .i64 (b k))).setCell ⟨g, k * 2 + 1, none⟩ (.slice a2 l2 c2)) lo (some ⟨g, 0, none⟩) c n (k + 1) b (fun i => if i = k then (a2, c2) else p i) (fun i => if i = k then ds else ms i) z := by
  subst hl
  have hr := owns_below h.r.row bb
  have hf : ∀ i, i < n → ((fun i => if i < k then scells (b i) (p i) (ms i).length else z i) i).length = 2 := fun i hi => by dsimp only; split; rfl; exact hz i hi
  have hs := store2 hr hf hk (.int .i64 (b k)) (.slice a2 ds.length c2)
  have on : Only w2 ((w2.setCell ⟨g, k * 2, none⟩ (.int .i64 (b k))).setCell ⟨g, k * 2 + 1, none⟩ (.slice a2 ds.length c2)) (fun b => b = g) := ((Only.refl w2 (fun b => b = g)).setCell ⟨g, k * 2, none⟩ _ rfl).setCell ⟨g, k * 2 + 1, none⟩ _ rfl
  refine (h.step bb hlo on hs (E' := ES (a2, c2) ds) (Q' := QS (a2, c2) ds) ⟨owns_base o2.row (Nat.zero_le _), o2.lists.base (Nat.zero_le _)⟩ (fix_s _ _) (fun x hx => ?_)).congr (fun i hi => ?_) (fun i hi => ?_) (fun i hi => ?_)
  · rcases hx with hx | ⟨m, hm, hx⟩
    · exact o2.row.lt x (blk_own hx)
    · exact o2.lists.lt hm hx
  all_goals
    by_cases e : i = k
    · subst e; simp [scells]
    · simp [e]
end Go.Proofs.Ytpahjfijpjgdnaa
