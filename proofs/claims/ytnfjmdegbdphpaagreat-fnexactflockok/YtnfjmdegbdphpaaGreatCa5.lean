/- Ca2 and Ca3 and Ca5: see the heads of the parts. -/
import Derived.Test.YtnfjmdegbdphpaaGreatBk5
import Derived.Test.YtnfjmdegbdphpaaGreatHs9
import Derived.Deep.RegionLawGrows
import Derived.Test.YtnfjmdegbdphpaaGreatBkZ
import Derived.Test.YtnfjmdegbdphpaaGreatBk4
import Derived.BigQuiet
import Derived.BigRegion
import Derived.Deep.RegionHeld3
/- What the specification's l10Copy does. -/
namespace Go.Proofs.YtnfjmdegbdphpaaGreat
open Go.RowKit
set_option linter.unusedVariables false

theorem ic_one {d : Nat → XD} {n : Nat} : ∀ u ∈ chunks n (fun i => ic (d i)), u.oneCell' = true := fun u hu => by
  unfold chunks at hu
  rw [List.mem_flatMap] at hu
  obtain ⟨i, _, h⟩ := hu
  simp [ic] at h
  rcases h with rfl | rfl | rfl | rfl | rfl <;> rfl
/-- A block, its places owned. -/
def CpP (st : Int) (n : Nat) (d : Nat → XD) (w : World) (e : Ending) (w' : World) : Prop := ∃ a c, e = .returned (.agg #[.int .i64 st, .slice a n c]) ∧ IOw w' w.heap.size a c n d ∧ Below w.heap.size w w'

end Go.Proofs.YtnfjmdegbdphpaaGreat

/- Rows of blocks that grow; what the specification's l11Copy and Purge answer. -/
namespace Go.Proofs.YtnfjmdegbdphpaaGreat
open Go.RowKit
set_option linter.unusedVariables false

def kz : KD := ⟨0, 0, fun _ => ⟨0, 0, 0, 0, 0⟩⟩
def kd (L : List KD) (i : Nat) : KD := L.getD i kz
theorem kd_snoc (L : List KD) (y : KD) {i : Nat} (hi : i < L.length + 1) : kd (L ++ [y]) i = if i = L.length then y else kd L i := by
  unfold kd
  by_cases e : i = L.length
  · subst e; simp
  · rw [if_neg e]
    simp [List.getD_eq_getElem?_getD, List.getElem?_append, show i < L.length by omega]
/-- A row of blocks, all of it new. -/
structure KL (w0 w : World) (L : List KD) (a : Option Addr) (c : Nat) (p : Nat → Pl) : Prop where
  r : KO w a c L.length (kd L) p
  lo : ∀ b, RS a c L.length (fun i => QK (p i)) b → w0.heap.size ≤ b
  b : Below w0.heap.size w0 w
theorem KL.below {w0 w w' : World} {L : List KD} {a : Option Addr} {c : Nat} {p : Nat → Pl} (h : KL w0 w L a c p) (b : Below w.heap.size w w') : KL w0 w' L a c p := ⟨h.r.below b, h.lo, bel_trans h.b b⟩
/-- What answers a row of blocks. -/
def RowP (L : List KD) (w : World) (e : Ending) (w' : World) : Prop := ∃ a c p, e = .returned (.slice a L.length c) ∧ KL w w' L a c p
theorem KL.nil (w : World) {w1 : World} (b : Below w.heap.size w w1) : KL w (w1.alloc (.cells #[] 119)) [] (some ⟨w1.heap.size, 0, none⟩) 0 (fun _ => (none, 0)) :=
  ⟨⟨own_litE w1 119 2 0 (Nat.zero_le _), fun i hi => absurd hi (Nat.not_lt_zero i), fun i hi => absurd hi (Nat.not_lt_zero i), fun i hi => absurd hi (Nat.not_lt_zero i), fun i k hi => absurd hi (Nat.not_lt_zero i), fun i hi => absurd hi (Nat.not_lt_zero i)⟩, fun x hx => by
    rcases hx with hx | ⟨i, hi, _⟩
    · simp [blk] at hx; have := b.size; omega
    · exact absurd hi (Nat.not_lt_zero i), bel_alloc b _⟩
theorem KL.snoc {w0 wr w1 V w5 : World} {L : List KD} {y : KD} {g cap : Nat} {a : Option Addr} {c : Nat} {p : Nat → Pl} {a2 : Option Addr} {c2 : Nat} (h : KL w0 wr L a c p) (o1 : IOw w1 wr.heap.size a2 c2 y.n y.x) (b1 : Below wr.heap.size wr w1) (b2 : Below w1.heap.size w1 V)
    (o5 : w5.ownsRow 0 119 2 (.slice (some ⟨g, 0, none⟩) (L.length + 1) cap) (L.length + 1) (chunks L.length (fun i => bkcells (kd L i) (p i)) ++ [.int .i64 y.st, .slice a2 y.n c2])) (g5 : V.grownBy w5 (Value.slice a L.length c).ownBlock) (hg : (Value.slice a L.length c).ownBlock = some g ∨ g = V.heap.size) :
    KL w0 w5 (L ++ [y]) (some ⟨g, 0, none⟩) cap (fun i => if i = L.length then (a2, c2) else p i) := by
  have b12 := bel_trans b1 b2
  have hs := b12.size
  have hs0 := h.b.size
  have oV : EK y (a2, c2) V := owns_base (owns_below o1 b2) (Nat.zero_le _)
  have hq : ∀ x, QK (a2, c2) x → wr.heap.size ≤ x ∧ x < V.heap.size := fun x hx => by
    have := World.ownsRow.lt o1 x (blk_own hx)
    have := b2.size
    omega
  have R5 := Rw.snoc (E' := EK y (a2, c2)) (Q' := QK (a2, c2)) h.r b12 oV (fix_k _ _) hq o5 g5 hg
  have el : (L ++ [y]).length = L.length + 1 := by simp
  have R6 : KO w5 (some ⟨g, 0, none⟩) cap (L ++ [y]).length (kd (L ++ [y])) (fun i => if i = L.length then (a2, c2) else p i) := by
    rw [el]
    exact R5.congr (fun i hi => by
      rw [kd_snoc L y hi]
      by_cases e : i = L.length
      · subst e; simp [bkcells]
      · simp [e]) (fun i hi => by
      by_cases e : i = L.length
      · subst e; simp
      · simp [e]) (fun i hi => by
      rw [kd_snoc L y hi]
      by_cases e : i = L.length
      · subst e; simp
      · simp [e])
  refine ⟨R6, fun b hb => ?_, ?_⟩
  · rw [el] at hb
    rcases hb with hb | ⟨i, hi, hb⟩
    · simp [blk] at hb
      subst hb
      rcases hg with hg | hg
      · exact h.lo _ (.inl (blk_eq hg))
      · omega
    · by_cases e : i = L.length
      · rw [if_pos e] at hb
        have := hq b hb
        omega
      · rw [if_neg e] at hb
        exact h.lo b (.inr ⟨i, by omega, hb⟩)
  · have hB := bel_trans h.b b12
    exact hB.grown g5 hB.size (fun x hx => h.lo _ (.inl (blk_eq hx)))
def allL (d : Nat → KD) (n : Nat) : List KD := (List.range n).map d
theorem allL_succ (d : Nat → KD) (n : Nat) : allL d (n + 1) = allL d n ++ [d n] := by unfold allL; rw [List.range_succ, List.map_append]; rfl
theorem allL_length (d : Nat → KD) (n : Nat) : (allL d n).length = n := by unfold allL; simp


def pgB (page : Int) (d : KD) : Bool := !((if blockB d.st d.n d.x then d.st / 4 else -1) == page)
def purL (page : Int) (d : Nat → KD) (n : Nat) : List KD := (allL d n).filter (pgB page)
theorem purL_yes {page : Int} {d : Nat → KD} {n : Nat} (h : pgB page (d n) = true) : purL page d (n + 1) = purL page d n ++ [d n] := by unfold purL; rw [allL_succ, List.filter_append]; simp [h]
theorem purL_no {page : Int} {d : Nat → KD} {n : Nat} (h : pgB page (d n) = false) : purL page d (n + 1) = purL page d n := by unfold purL; rw [allL_succ, List.filter_append]; simp [h]
theorem purL_le (page : Int) (d : Nat → KD) (n : Nat) : (purL page d n).length ≤ n := by
  unfold purL
  have := List.length_filter_le (pgB page) (allL d n)
  rw [allL_length] at this
  exact this
theorem purL_n {page : Int} {d : Nat → KD} {n Z : Nat} (h : ∀ i, i < n → (d i).n ≤ Z) : ∀ i, i < (purL page d n).length → (kd (purL page d n) i).n ≤ Z := fun i hi => by
  have hm : kd (purL page d n) i ∈ purL page d n := by
    unfold kd
    rw [List.getD_eq_getElem?_getD, List.getElem?_eq_getElem hi]
    exact List.getElem_mem hi
  have h2 : kd (purL page d n) i ∈ allL d n := (List.mem_filter.1 hm).1
  unfold allL at h2
  rw [List.mem_map] at h2
  obtain ⟨j, hj, e⟩ := h2
  rw [← e]
  exact h j (by simpa using hj)

end Go.Proofs.YtnfjmdegbdphpaaGreat

/- What the specification's l11Same answers. -/
namespace Go.Proofs.YtnfjmdegbdphpaaGreat
open Go.RowKit
set_option linter.unusedVariables false

def xdB (a b : XD) : Bool := a.op == b.op && (a.r == b.r && (a.a == b.a && (a.b == b.b && a.n == b.n)))
set_option maxHeartbeats 1000000 in
theorem insv_eq2 (x y : XD) (w : World) : (Op.equalIn 10000 152 (.agg (icells x.op x.r x.a x.b x.n)) (.agg (icells y.op y.r y.a y.b y.n))).run Tryz.prog w = .ok (xdB x y) w := by
  have u3 := Tryz.underlying3
  have a3 := Tryz.isAgg3
  have z3 := Tryz.sizeOf3
  obtain ⟨a, b, c, d, e⟩ := x
  obtain ⟨a', b', c', d', e'⟩ := y
  rw [show (10000 : Nat) = 9999 + 1 from rfl, Op.equalIn]
  simp only [Sem.run_bind, run_underlying Tryz.underlying152, Result.andThen_ok]
  go_simp
  by_cases h1 : a = a' <;> by_cases h2 : b = b' <;> by_cases h3 : c = c' <;> by_cases h4 : d = d' <;> by_cases h5 : e = e' <;> simp [h1, h2, h3, h4, h5, xdB]
def allX (n : Nat) (d d' : Nat → XD) : Bool := (List.range n).all fun i => xdB (d i) (d' i)
theorem allX_no {n k : Nat} {d d' : Nat → XD} (hk : k < n) (h : xdB (d k) (d' k) = false) : allX n d d' = false := by
  unfold allX
  rw [List.all_eq_false]
  exact ⟨k, by simpa using hk, by rw [h]; simp⟩
theorem allX_yes {n : Nat} {d d' : Nat → XD} (h : ∀ i, i < n → xdB (d i) (d' i) = true) : allX n d d' = true := by
  unfold allX
  rw [List.all_eq_true]
  exact fun i hi => h i (by simpa using hi)
def sameKB (st : Int) (n : Nat) (d : Nat → XD) (st' : Int) (n' : Nat) (d' : Nat → XD) : Bool := st == st' && (((n : Int) == (n' : Int)) && allX n d d')

set_option maxRecDepth 100000 in
set_option maxHeartbeats 4000000 in
theorem l11Same_any (st : Int) (a : Option Addr) (c n : Nat) (d : Nat → XD) (st' : Int) (a' : Option Addr) (c' n' : Nat) (d' : Nat → XD) (w : World) (ha : IR w a n d) (hb : IR w a' n' d') :
    Calls Tryz.prog 50 #[.agg #[.int .i64 st, .slice a n c], .agg #[.int .i64 st', .slice a' n' c']] w fun e w' => e = .returned (.bool (sameKB st n d st' n' d')) ∧ Below w.heap.size w w' := by
  have hl := ha.1
  have hl' := hb.1
  have bA := bel_alloc (bel_alloc (Below.refl w.heap.size w) (.cells #[.int .i64 st, .slice a n c] 119)) (.cells #[.int .i64 st', .slice a' n' c'] 119)
  obtain ⟨X0, X1⟩ := Box.two w #[.int .i64 st, .slice a n c] #[.int .i64 st', .slice a' n' c'] 119 119
  by_cases hs : st = st'
  · subst hs
    by_cases hn : n = n'
    · subst hn
      have hra := ha.below bA
      have hrb := hb.below bA
      have HV : Hid (sameKB st n d st n d' = allX n d d') := by show _ = _; unfold sameKB; simp
      have H0 : Hid (Below w.heap.size w _ ∧ Box _ w.heap.size #[.int .i64 st, .slice a n c] 119 ∧ Box _ (w.heap.size + 1) #[.int .i64 st, .slice a' n c'] 119 ∧ IR _ a n d ∧ IR _ a' n d') := ⟨bA, X0, X1, hra, hrb⟩
      clear ha hb hra hrb bA X0 X1
      go_enter Tryz.func50, Tryz.ntmps50
      go_wp2_with fail
      go_loopw [5] (fun i wr => ∃ k : Nat, k ≤ n ∧ i = .int .i64 k ∧ (∀ i, i < k → xdB (d i) (d' i) = true) ∧ (Below w.heap.size w wr ∧ Box wr w.heap.size #[.int .i64 st, .slice a n c] 119 ∧ Box wr (w.heap.size + 1) #[.int .i64 st, .slice a' n c'] 119 ∧ IR wr a n d ∧ IR wr a' n d')) (fun i _ => n - (intOf i).toNat)
      case atStart => exact ⟨0, Nat.zero_le _, rfl, fun i hi => absurd hi (Nat.not_lt_zero i), H0.out⟩
      case round =>
        obtain ⟨k, hk, rfl, hE, hB, hX0, hX1, hra, hrb⟩ := hrel
        clear H0
        have HE : Hid (∀ i, i < k → xdB (d i) (d' i) = true) := hE
        obtain ⟨x0, x1, xz⟩ := hX0.at2
        obtain ⟨y0, y1, yz⟩ := hX1.at2
        have HQ : Hid (∀ q, Below w.heap.size w (wr.drewN q) ∧ Box (wr.drewN q) w.heap.size #[.int .i64 st, .slice a n c] 119 ∧ Box (wr.drewN q) (w.heap.size + 1) #[.int .i64 st, .slice a' n c'] 119 ∧ IR (wr.drewN q) a n d ∧ IR (wr.drewN q) a' n d') := fun q => ⟨below_drewN hB q, hX0.below (below_drewN (Below.refl _ _) q), hX1.below (below_drewN (Below.refl _ _) q), hra.below (below_drewN (Below.refl _ _) q), hrb.below (below_drewN (Below.refl _ _) q)⟩
        by_cases hlt : k < n
        · have hi : (k : Int) < (n : Int) := by omega
          obtain ⟨b1, o1, rfl, u0, u1, u2, u3, u4⟩ := hra.at hlt
          obtain ⟨b2, o2, rfl, v0, v1, v2, v3, v4⟩ := hrb.at hlt
          cases hz : xdB (d k) (d' k)
          · have heq : ∀ W, (Op.equalIn 10000 152 (.agg (icells (d k).op (d k).r (d k).a (d k).b (d k).n)) (.agg (icells (d' k).op (d' k).r (d' k).a (d' k).b (d' k).n))).run Tryz.prog W = .ok false W := fun W => by rw [insv_eq2, hz]
            have HF : Hid (sameKB st n d st n d' = false) := HV.out.trans (allX_no hlt hz)
            clear hz hE hB hX0 hX1 hra hrb
            go_wp2_with fail
            go_quiet (fail)
            go_wp2
            go_ret
            exact ⟨ret_bool HF.out.symm, (HQ.out _).1⟩
          · have heq : ∀ W, (Op.equalIn 10000 152 (.agg (icells (d k).op (d k).r (d k).a (d k).b (d k).n)) (.agg (icells (d' k).op (d' k).r (d' k).a (d' k).b (d' k).n))).run Tryz.prog W = .ok true W := fun W => by rw [insv_eq2, hz]
            have HE2 : Hid (∀ i, i < k + 1 → xdB (d i) (d' i) = true) := fun i hi => by
              by_cases e : i = k
              · subst e; exact hz
              · exact HE.out i (by omega)
            clear hz hE hB hX0 hX1 hra hrb
            go_wp2_with fail
            go_quiet (fail)
            go_wp2
            go_roundw
            case rel => exact ⟨k + 1, by omega, by go_num, HE2.out, HQ.out _⟩
            case measure => simp [intOf]; omega
        · have : k = n := by omega
          subst this
          have HF : Hid (sameKB st k d st k d' = true) := HV.out.trans (allX_yes hE)
          have HB : Hid (Below w.heap.size w wr) := hB
          clear hE hB hX0 hX1 hra hrb
          go_wp2
          go_ret
          exact ⟨ret_bool HF.out.symm, HB.out⟩
    · have HF : Hid (sameKB st n d st n' d' = false) := by show _ = _; unfold sameKB; simp; omega
      have hne : ((n : Int) == (n' : Int)) = false := by simp; omega
      clear ha hb X0 X1
      go_enter Tryz.func50, Tryz.ntmps50
      go_wp2
      go_ret
      exact ⟨ret_bool HF.out.symm, bA⟩
  · have hse : (st == st') = false := by simpa using hs
    have HF : Hid (sameKB st n d st' n' d' = false) := by show _ = _; unfold sameKB; rw [hse]; rfl
    clear ha hb X0 X1
    go_enter Tryz.func50, Tryz.ntmps50
    go_wp2
    go_ret
    exact ⟨ret_bool HF.out.symm, bA⟩
end Go.Proofs.YtnfjmdegbdphpaaGreat
