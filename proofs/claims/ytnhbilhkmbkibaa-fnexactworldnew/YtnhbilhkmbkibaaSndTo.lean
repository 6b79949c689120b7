/- What the law's small functions over rows of messages and senders do. -/
import Derived.Test.YtnhbilhkmbkibaaDeep
import Derived.Test.YtnhbilhkmbkibaaInfos
import Derived.Deep.RegionWith
import Derived.BigRegion
namespace Go.Proofs.Ytnhbilhkmbkibaa
open Go.RowKit
set_option linter.unusedVariables false



theorem say_len {ms ds : List M} (h : ds.map M.say = ms.map M.say) {L : Nat} (hx : ∀ m ∈ ms, m.xs.length ≤ L) : ∀ d ∈ ds, d.xs.length ≤ L + 1 := fun d hd => by
  have h1 : d.say ∈ ms.map M.say := by rw [← h]; exact List.mem_map_of_mem hd
  obtain ⟨m, hm, he⟩ := List.mem_map.1 h1
  have e : m.xs = d.xs := by simp [M.say] at he; exact he.2.2.2
  have := hx m hm
  rw [e] at this
  omega

theorem all_say {ms ds : List M} (h : ds.map M.say = ms.map M.say) : ds.all (fun m => okS m.say) = ms.all (fun m => okS m.say) := by
  have e : ∀ l : List M, l.all (fun m => okS m.say) = (l.map M.say).all okS := fun l => by rw [List.all_map]; rfl
  rw [e, e, h]

theorem senderB_say (B : Int) {ms ds : List M} (h : ds.map M.say = ms.map M.say) : senderB B ds = senderB B ms := by
  have hl : ds.length = ms.length := by have := congrArg List.length h; simpa using this
  unfold senderB
  rw [all_say h, hl]

theorem say_at {ms ds : List M} (h : ds.map M.say = ms.map M.say) {k : Nat} {m : M} (hm : ms[k]? = some m) : ∃ a c, ds[k]? = some ⟨m.k, m.p, m.o, a, c, m.xs⟩ := by
  have h1 : (ds.map M.say)[k]? = some m.say := by rw [h, List.getElem?_map, hm]; rfl
  rw [List.getElem?_map] at h1
  cases hd : ds[k]? with
  | none => rw [hd] at h1; simp at h1
  | some d =>
    rw [hd] at h1
    simp [M.say] at h1
    obtain ⟨k', p', o', a', c', x'⟩ := d
    simp at h1
    obtain ⟨rfl, rfl, rfl, rfl⟩ := h1
    exact ⟨a', c', rfl⟩

set_option maxRecDepth 100000 in
set_option maxHeartbeats 1000000 in
theorem eqMsgS_any (a b : Option Addr) (ca cb : Nat) (ms ds : List M) (n : Nat) (w : World) (hn : ms.length = n) (hs : ds.map M.say = ms.map M.say) (ha : MRow w a ms) (hb : MRow w b ds) :
    Calls Try.prog 53 #[.slice a n ca, .slice b n cb] w fun e w' => e = .returned (.bool true) ∧ Below w.heap.size w w' := by
  have hl : n ≤ 1048577 := by have := ha.1; omega
  have HN : Hid (ms.length = n) := hn
  have HS : Hid (ds.map M.say = ms.map M.say) := hs
  clear hn hs
  go_enter Try.func53, Try.ntmps53
  go_wp2
  go_loopw [5] (fun i wr => ∃ k : Nat, k ≤ n ∧ i = .int .i64 k ∧ MRow wr a ms ∧ MRow wr b ds ∧ Below w.heap.size w wr) (fun i _ => n - (intOf i).toNat)
  case atStart => exact ⟨0, Nat.zero_le _, rfl, ha, hb, Below.refl _ _⟩
  case round =>
    obtain ⟨k, hk, rfl, hma, hmb, hB⟩ := hrel
    by_cases hlt : k < n
    · have hi : (k : Int) < (n : Int) := by omega
      obtain ⟨m, hmk⟩ : ∃ m, ms[k]? = some m := ⟨_, List.getElem?_eq_getElem (by have := HN.out; omega)⟩
      obtain ⟨a', c', hdk⟩ := say_at HS.out hmk
      obtain ⟨⟨ba, oa, rfl, y0, y1, y2, y3⟩, hrowA⟩ := hma.2 k m hmk
      obtain ⟨⟨bb, ob, rfl, z0, z1, z2, z3⟩, hrowB⟩ := hmb.2 k _ hdk
      clear hmk hdk ha hb
      go_wp2_with fail
      go_region_with (go_at_call 38; refine (eqMsg_any m.k m.p m.o m.a a' m.c c' m.xs _ ?_ ?_).mono ?_; exact hrowA; exact hrowB; rintro e w1 ⟨rfl, b1⟩)
      all_goals
        have hma1 := hma.below (bel_undrew b1)
        have hmb1 := hmb.below (bel_undrew b1)
        have hB1 := bel_trans hB (bel_undrew b1)
        clear hma hmb hB b1 y0 y1 y2 y3 z0 z1 z2 z3 hrowA hrowB
        go_wp2
        go_roundw
        case rel => exact ⟨k + 1, by omega, by go_num, hma1, hmb1, hB1⟩
        case measure => simp [intOf]; omega
    · clear ha hb hma hmb
      go_wp2
      go_ret
      exact ⟨rfl, hB⟩

set_option maxRecDepth 100000 in
set_option maxHeartbeats 1000000 in
theorem eqSender_any (base : Int) (a b : Option Addr) (ca cb : Nat) (ms ds : List M) (n : Nat) (w : World) (hn : ms.length = n) (hs : ds.map M.say = ms.map M.say) (ha : MRow w a ms) (hb : MRow w b ds) :
    Calls Try.prog 47 #[.agg #[.int .i64 base, .slice a n ca], .agg #[.int .i64 base, .slice b n cb]] w fun e w' => e = .returned (.bool true) ∧ Below w.heap.size w w' := by
  have bA := bel_alloc (bel_alloc (Below.refl w.heap.size w) (.cells #[.int .i64 base, .slice a n ca] 75)) (.cells #[.int .i64 base, .slice b n cb] 75)
  go_enter Try.func47, Try.ntmps47
  go_wp2_with fail
  refine (eqMsgS_any a b ca cb ms ds n _ hn hs (ha.below bA) (hb.below bA)).mono ?_
  rintro e w1 ⟨rfl, b1⟩
  have B := bel_trans bA b1
  clear bA b1 ha hb
  go_wp2
  go_ret
  exact ⟨rfl, B⟩
end Go.Proofs.Ytnhbilhkmbkibaa
