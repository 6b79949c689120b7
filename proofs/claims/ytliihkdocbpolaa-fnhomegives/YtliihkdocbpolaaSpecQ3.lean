/- SpecQ2 and SpecQ3: see the heads of the parts. -/
import Derived.Test.YtliihkdocbpolaaImplA
import Derived.Deep.AppendLies
import Derived.Deep.RegionWith
import Derived.Deep.RegionLaw
import Derived.BigRegion
/- What the specification's l2Sender does. -/
namespace Go.Proofs.Ytliihkdocbpolaa
open Go.RowKit
set_option linter.unusedVariables false

theorem new_one (W : World) (k p : Int) (o : Bool) (v : Value) : ∀ j u, [Value.int .i64 k, .int .i64 p, .bool o, v][j]? = some u → (W.alloc (.cells #[.int .i64 k, .int .i64 p, .bool o, v] 34)).cell? ((⟨W.heap.size, 0, none⟩ : Addr).add j) = some u := fun j u hu => by
  have h := Box.new W #[.int .i64 k, .int .i64 p, .bool o, v] 34
  rw [addr_add, Nat.zero_add, h.cell]
  simpa using hu

theorem four_one (k p : Int) (o : Bool) (a : Option Addr) (n c : Nat) : ∀ u ∈ [Value.int .i64 k, .int .i64 p, .bool o, .slice a n c], u.oneCell' = true := fun u hu => by
  simp at hu
  rcases hu with rfl | rfl | rfl | rfl <;> rfl

theorem not_low {w : World} {lo e size n : Nat} {v : Value} {xs : List Value} (h : w.ownsRow lo e size v n xs) {m : Nat} (hm : m < lo) : ∀ j, v.ownBlock = some j → j ≠ m := fun j hj he => by have := (h.lt j hj).1; omega


end Go.Proofs.Ytliihkdocbpolaa

/- What the specification's Queue answers. -/
namespace Go.Proofs.Ytliihkdocbpolaa
open Go.RowKit
set_option linter.unusedVariables false

theorem queueB (B : Int) (ms : List M) (m : M) : senderB B (ms ++ [m]) = (senderB B ms && (okS m.say && (!decide ((ms.length : Int) = 30) && !decide (B + ms.length = 100000)))) := by
  unfold senderB
  rw [List.all_append, Bool.eq_iff_iff]
  simp only [Bool.and_eq_true, decide_eq_true_eq, Bool.not_eq_true', decide_eq_false_iff_not, List.length_append, List.length_cons, List.length_nil, List.all_cons, List.all_nil, Bool.and_true]
  constructor
  · rintro ⟨h1, h2, h3, h4, h5⟩
    exact ⟨⟨h1, by omega, by omega, h4⟩, h5, by omega, by omega⟩
  · rintro ⟨⟨h1, h2, h3, h4⟩, h5, h6, h7⟩
    exact ⟨h1, by omega, by omega, h4, h5⟩

theorem QPost.off {B : Int} {ms : List M} {m : M} {w w' : World} {a' : Option Addr} {c' k : Nat} {ds : List M} (h : senderB B (ms ++ [m]) = false) (hk : ds.length = k) (hs : ds.map M.say = ms.map M.say) (hD : Deep w' w.heap.size a' c' ds) (hb : Below w.heap.size w w') : QPost B ms m w (.returned (.tuple #[.agg #[.int .i64 B, .slice a' k c'], .bool false])) w' :=
  ⟨a', c', ds, by rw [h, hk], by rw [h]; exact hs, hD, hb⟩
theorem QPost.on {B : Int} {ms : List M} {m : M} {w w' : World} {a' : Option Addr} {c' k : Nat} {ds : List M} (h : senderB B (ms ++ [m]) = true) (hk : ds.length = k) (hs : ds.map M.say = (ms ++ [m]).map M.say) (hD : Deep w' w.heap.size a' c' ds) (hb : Below w.heap.size w w') : QPost B ms m w (.returned (.tuple #[.agg #[.int .i64 B, .slice a' k c'], .bool true])) w' :=
  ⟨a', c', ds, by rw [h, hk], by rw [h]; exact hs, hD, hb⟩


end Go.Proofs.Ytliihkdocbpolaa
