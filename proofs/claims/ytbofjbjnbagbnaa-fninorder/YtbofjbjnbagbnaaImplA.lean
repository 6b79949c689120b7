/- What impl's Acked answers. -/
import Derived.Test.YtbofjbjnbagbnaaImplQ2
namespace Go.Proofs.Ytbofjbjnbagbnaa
open Go.RowKit
set_option linter.unusedVariables false

def ackOn (B n : Int) (ms : List M) : Bool := senderB B ms && (decide (B ≤ n) && decide (n ≤ B + ms.length))
def ackN (B n : Int) (ms : List M) : Int := if ackOn B n ms then n else B
def ackL (B n : Int) (ms : List M) : List M := if ackOn B n ms then ms.drop (n - B).toNat else ms

/-- What Acked answers. -/
def APost (B n : Int) (ms : List M) (w : World) (e : Ending) (w' : World) : Prop :=
  ∃ (a' : Option Addr) (c' : Nat) (ds : List M), e = .returned (.agg #[.int .i64 (ackN B n ms), .slice a' ds.length c']) ∧ ds.map M.say = (ackL B n ms).map M.say ∧ Deep w' w.heap.size a' c' ds ∧ Below w.heap.size w w'

theorem APost.off {B n : Int} {ms : List M} {w w' : World} {a' : Option Addr} {c' : Nat} {ds : List M} {k : Nat} (h : ackOn B n ms = false) (hk : ds.length = k) (hs : ds.map M.say = ms.map M.say) (hD : Deep w' w.heap.size a' c' ds) (hb : Below w.heap.size w w') : APost B n ms w (.returned (.agg #[.int .i64 B, .slice a' k c'])) w' :=
  ⟨a', c', ds, by simp [ackN, h, hk], by simpa [ackL, h] using hs, hD, hb⟩
theorem APost.on {B n : Int} {ms : List M} {w w' : World} {a' : Option Addr} {c' : Nat} {ds : List M} {k : Nat} (h : ackOn B n ms = true) (hk : ds.length = k) (hs : ds.map M.say = (ms.drop (n - B).toNat).map M.say) (hD : Deep w' w.heap.size a' c' ds) (hb : Below w.heap.size w w') : APost B n ms w (.returned (.agg #[.int .i64 n, .slice a' k c'])) w' :=
  ⟨a', c', ds, by simp [ackN, h, hk], by simpa [ackL, h] using hs, hD, hb⟩

set_option maxRecDepth 100000 in
set_option maxHeartbeats 2000000 in
theorem implAcked_any (B : Int) (a : Option Addr) (c : Nat) (ms : List M) (n : Int) (w : World) (ha : MRow w a ms) (hl : ms.length ≤ 1048576) (hc : ms.length ≤ c) (hxs : ∀ x ∈ ms, x.xs.length ≤ 1048577) :
    Calls Try.prog 9 #[.agg #[.int .i64 B, .slice a ms.length c], .int .i64 n] w fun e w' => APost B n ms w e w' := by
  have hb2 := bel_alloc (bel_alloc (Below.refl w.heap.size w) (.cells #[.int .i64 B, .slice a ms.length c] 26)) (.cells #[.int .i64 0, .slice none 0 0] 26)
  obtain ⟨X0, X1⟩ := Box.two w #[.int .i64 B, .slice a ms.length c] #[.int .i64 0, .slice none 0 0] 26 26
  have haW := ha.below hb2
  by_cases hs : senderB B ms = true
  case neg =>
    have HS : Hid (senderB B ms = false) := by show _ = _; simpa using hs
    have HA : Hid (ackOn B n ms = false) := by show _ = _; unfold ackOn; rw [HS.out]; rfl
    clear hs
    go_enter Try.func9, Try.ntmps9
    go_wp2_with fail
    refine (implSender_any B a c ms _ haW).mono ?_
    rintro e w2 ⟨rfl, b2⟩
    rw [HS.out]
    have X0 := X0.below b2
    have X1 := X1.below b2
    have haN := haW.below b2
    have B2 := bel_trans hb2 b2
    have s2 : w.heap.size + 2 ≤ w2.heap.size := by have := b2.size; simp at this; omega
    clear b2 hb2 haW
    obtain ⟨x0, x1, zx⟩ := X0.at2
    go_wp2_with fail
    refine (copySender_any B a c ms _ haN hxs).mono ?_
    rintro e w3 ⟨a3, c3, d3, rfl, s3, D3, b3⟩
    have X1 := X1.below b3
    have B3 := bel_trans B2 b3
    obtain ⟨z0, z1, zz⟩ := X1.at2
    have f0 := X1.frozen 0
    have f1 := X1.frozen 1
    have HD := D3
    have hl3 : d3.length = ms.length := by have h := congrArg List.length s3; simpa using h
    clear X0 haN b3 B2 x0 x1 zx D3
    go_wp2
    refine bodyPost_ret (v := .agg #[.int .i64 B, .slice a3 ms.length c3]) (by simp [results, Try.results9, go_sem, z0, z1]) rfl (APost.off HA.out hl3 s3 ?_ ?_)
    · exact ((HD.far ⟨w.heap.size + 1, 0, none⟩ _ (by simp; omega)).far ⟨w.heap.size + 1, 1, none⟩ _ (by simp; omega)).base (by omega)
    · exact bel_setCell (bel_setCell B3 _ _ (by simp)) _ _ (by simp)
  have HS : Hid (senderB B ms = true) := hs
  obtain ⟨hB0, hB1, hB2⟩ : 0 ≤ B ∧ B ≤ 100000 ∧ (ms.length : Int) ≤ 30 := by
    unfold senderB at hs
    simp only [Bool.and_eq_true, decide_eq_true_eq] at hs
    omega
  clear hs
  by_cases hn1 : n < B
  case pos =>
    have HA : Hid (ackOn B n ms = false) := by show _ = _; unfold ackOn; rw [HS.out, decide_eq_false (by omega : ¬ B ≤ n)]; rfl
    go_enter Try.func9, Try.ntmps9
    go_wp2_with fail
    refine (implSender_any B a c ms _ haW).mono ?_
    rintro e w2 ⟨rfl, b2⟩
    rw [HS.out]
    have X0 := X0.below b2
    have X1 := X1.below b2
    have haN := haW.below b2
    have B2 := bel_trans hb2 b2
    have s2 : w.heap.size + 2 ≤ w2.heap.size := by have := b2.size; simp at this; omega
    clear b2 hb2 haW
    obtain ⟨x0, x1, zx⟩ := X0.at2
    go_wp2_with fail
    refine (copySender_any B a c ms _ haN hxs).mono ?_
    rintro e w3 ⟨a3, c3, d3, rfl, s3, D3, b3⟩
    have X1 := X1.below b3
    have B3 := bel_trans B2 b3
    obtain ⟨z0, z1, zz⟩ := X1.at2
    have f0 := X1.frozen 0
    have f1 := X1.frozen 1
    have HD := D3
    have hl3 : d3.length = ms.length := by have h := congrArg List.length s3; simpa using h
    clear X0 haN b3 B2 x0 x1 zx D3
    go_wp2
    refine bodyPost_ret (v := .agg #[.int .i64 B, .slice a3 ms.length c3]) (by simp [results, Try.results9, go_sem, z0, z1]) rfl (APost.off HA.out hl3 s3 ?_ ?_)
    · exact ((HD.far ⟨w.heap.size + 1, 0, none⟩ _ (by simp; omega)).far ⟨w.heap.size + 1, 1, none⟩ _ (by simp; omega)).base (by omega)
    · exact bel_setCell (bel_setCell B3 _ _ (by simp)) _ _ (by simp)
  have hn1' : B ≤ n := by omega
  by_cases hn2 : B + (ms.length : Int) < n
  case pos =>
    have HA : Hid (ackOn B n ms = false) := by show _ = _; unfold ackOn; rw [HS.out, decide_eq_false (by omega : ¬ n ≤ B + (ms.length : Int))]; simp
    go_enter Try.func9, Try.ntmps9
    go_wp2_with fail
    refine (implSender_any B a c ms _ haW).mono ?_
    rintro e w2 ⟨rfl, b2⟩
    rw [HS.out]
    have X0 := X0.below b2
    have X1 := X1.below b2
    have haN := haW.below b2
    have B2 := bel_trans hb2 b2
    have s2 : w.heap.size + 2 ≤ w2.heap.size := by have := b2.size; simp at this; omega
    clear b2 hb2 haW
    obtain ⟨x0, x1, zx⟩ := X0.at2
    go_wp2_with fail
    refine (copySender_any B a c ms _ haN hxs).mono ?_
    rintro e w3 ⟨a3, c3, d3, rfl, s3, D3, b3⟩
    have X1 := X1.below b3
    have B3 := bel_trans B2 b3
    obtain ⟨z0, z1, zz⟩ := X1.at2
    have f0 := X1.frozen 0
    have f1 := X1.frozen 1
    have HD := D3
    have hl3 : d3.length = ms.length := by have h := congrArg List.length s3; simpa using h
    clear X0 haN b3 B2 x0 x1 zx D3
    go_wp2
    refine bodyPost_ret (v := .agg #[.int .i64 B, .slice a3 ms.length c3]) (by simp [results, Try.results9, go_sem, z0, z1]) rfl (APost.off HA.out hl3 s3 ?_ ?_)
    · exact ((HD.far ⟨w.heap.size + 1, 0, none⟩ _ (by simp; omega)).far ⟨w.heap.size + 1, 1, none⟩ _ (by simp; omega)).base (by omega)
    · exact bel_setCell (bel_setCell B3 _ _ (by simp)) _ _ (by simp)
  have hn2' : n ≤ B + (ms.length : Int) := by omega
  have HA : Hid (ackOn B n ms = true) := by show _ = _; unfold ackOn; rw [HS.out, decide_eq_true hn1', decide_eq_true hn2']; rfl
  obtain ⟨k, hk⟩ : ∃ k : Nat, n = B + k := ⟨(n - B).toNat, by omega⟩
  have hkl : k ≤ ms.length := by omega
  have HKN : Hid ((n - B).toNat = k) := by show _ = _; omega
  subst hk
  have hadr := ha.addr
  go_enter Try.func9, Try.ntmps9
  go_wp2_with fail
  refine (implSender_any B a c ms _ haW).mono ?_
  rintro e w2 ⟨rfl, b2⟩
  rw [HS.out]
  have X0 := X0.below b2
  have X1 := X1.below b2
  have haN := haW.below b2
  have B2 := bel_trans hb2 b2
  have s2 : w.heap.size + 2 ≤ w2.heap.size := by have := b2.size; simp at this; omega
  clear b2 hb2 haW
  obtain ⟨x0, x1, zx⟩ := X0.at2
  have hsub : B + (k : Int) - B = k := by omega
  go_wp2_with fail
  refine (cut_any a ms.length c k _ hkl (by omega) hc hadr).mono ?_
  rintro e w2' ⟨a', rfl, hcut, h⟩
  subst h
  have hmN := haN.cut hcut
  have hlN : (ms.drop k).length = ms.length - k := by simp
  clear haN x0 x1 zx X0 hsub
  go_wp2_with fail
  have hcall := copySender_any (B + k) a' (ms.length - k) (ms.drop k) w2' hmN (fun x hx => hxs x (List.mem_of_mem_drop hx))
  rw [hlN] at hcall
  refine hcall.mono ?_
  rintro e w3 ⟨a3, c3, d3, rfl, s3, D3, b3⟩
  have X1 := X1.below b3
  have B3 := bel_trans B2 b3
  obtain ⟨z0, z1, zz⟩ := X1.at2
  have f0 := X1.frozen 0
  have f1 := X1.frozen 1
  have HD := D3
  have hl3 : d3.length = ms.length - k := by have h := congrArg List.length s3; simpa using h
  clear hmN b3 B2 D3 hcall
  go_wp2
  refine bodyPost_ret (v := .agg #[.int .i64 (B + k), .slice a3 (ms.length - k) c3]) (by simp [results, Try.results9, go_sem, z0, z1]) rfl (APost.on HA.out hl3 (by rw [HKN.out]; exact s3) ?_ ?_)
  · exact ((HD.far ⟨w.heap.size + 1, 0, none⟩ _ (by simp; omega)).far ⟨w.heap.size + 1, 1, none⟩ _ (by simp; omega)).base (by omega)
  · exact bel_setCell (bel_setCell B3 _ _ (by simp)) _ _ (by simp)
end Go.Proofs.Ytbofjbjnbagbnaa
