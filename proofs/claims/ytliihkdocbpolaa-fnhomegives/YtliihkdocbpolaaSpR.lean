/- What the specification's HomeHear does where it hears and none waits. -/
import Derived.Test.YtliihkdocbpolaaSpH
import Derived.Test.YtliihkdocbpolaaHomO
import Derived.Test.YtliihkdocbpolaaKpH
namespace Go.Proofs.Ytliihkdocbpolaa
open Go.RowKit
set_option linter.unusedVariables false
set_option linter.unusedSimpArgs false

theorem gvS_ws (S : SS) : (gvS S).ws = S.ws := rfl
theorem nxS_ws (S : SS) (p : Nat) (o : Bool) : (nxS S p o).ws = [] := by
  unfold nxS
  by_cases h : 0 ≤ S.ow
  · rw [if_pos h]; rfl
  · rw [if_neg h]
    cases o
    · rfl
    · by_cases hc : cntU S.rd p S.rd.length = 0
      · simp only [if_true]; rw [if_pos hc]; rfl
      · simp only [if_true]; rw [if_neg hc]; rfl

/-- What follows what was heard. -/
def GoS (S1 S2 : SS) : Prop := (S1.ws = [] ∧ S2 = S1) ∨ ∃ (p : Nat) (o : Bool), S1.ws = [((p : Int), o)] ∧ S1.bz = false ∧ p < S1.rd.length ∧ S2 = nxS S1 p o

def HearsS (fr : Int) (m : Value) (w : World) (S0 : SS) (R : SS → Prop) : Prop :=
  ∀ (lo : Nat) (W : World) (kB : Nat) (vl vr vq : Value), lo ≤ W.heap.size → SLies lo W kB vl vr vq (.slice none 0 0) S0 → Below w.heap.size w W → w.heap.size ≤ lo →
    Calls Try.prog 24 #[.pointer (some ⟨kB, 0, none⟩), .int .i64 fr, m] W fun e w' => e = .returned (.bool true) ∧ ∃ S1 vl' vr' vq' vt', R S1 ∧ SLies lo w' kB vl' vr' vq' vt' S1 ∧ Below lo W w'

def waitS (w : World) (kB : Nat) : Nat := match w.cell? ⟨kB, 7, none⟩ with
  | some (.slice _ n _) => n
  | _ => 0
theorem SLies.waits {lo : Nat} {w : World} {kB : Nat} {vl vr vq vt : Value} {S : SS} (h : SLies lo w kB vl vr vq vt S) : waitS w kB = S.ws.length := by
  obtain ⟨a, c, rfl⟩ := owns_slice h.q
  have := h.k.cell 7
  unfold waitS
  rw [this]
  rfl

set_option maxRecDepth 100000 in
set_option maxHeartbeats 8000000 in
theorem specHear_yes (pg fr mk ow wh ak : Int) (mo bz wo : Bool) (am : Option Addr) (cm : Nat) (ys : List Int) (al ar aq : Option Addr) (cl cr cq : Nat) (xs : List Int) (bs : List Bool) (w : World)
    (hal : Row .i64 w al xs) (hr : VRow w ar (bv bs)) (hm : Row .i64 w am ys)
    (hok : homeB bs.length ow wh ak xs bs.length [] = true) (hmok : msgOkB mk pg mo ys = true) (hfr : inB fr 0 ((bs.length : Int) - 1) = true) (hbs : bs.length ≤ 4) (hxs : xs.length ≤ 1048577)
    (R : SS → Prop) (hcall : HearsS fr (.agg #[.int .i64 mk, .int .i64 pg, .bool mo, .slice am ys.length cm]) w ⟨xs, ow, bs, bz, wh, wo, ak, [], pg, 0⟩ R)
    (hR : ∀ S1, R S1 → S1.rd.length ≤ 4 ∧ S1.xs.length ≤ 1048577 ∧ -1 ≤ S1.ow ∧ S1.nt ≤ 1000 ∧ (S1.ws = [] ∨ ∃ (p : Nat) (o : Bool), S1.ws = [((p : Int), o)] ∧ S1.bz = false ∧ p < S1.rd.length)) :
    Calls Try.prog 8 #[.agg #[.slice al xs.length cl, .int .i64 ow, .slice ar bs.length cr, .bool bz, .int .i64 wh, .bool wo, .int .i64 ak, .slice aq 0 cq], .int .i64 bs.length, .int .i64 pg, .int .i64 fr, .agg #[.int .i64 mk, .int .i64 pg, .bool mo, .slice am ys.length cm]] w fun e w' =>
      ∃ S1 S2 vl vr vq vt, R S1 ∧ GoS S1 S2 ∧ e = .returned (.tuple #[.agg #[vl, .int .i64 S2.ow, vr, .bool S2.bz, .int .i64 S2.wh, .bool S2.wo, .int .i64 S2.ak, vq], vt]) ∧ w'.ownsRow w.heap.size 3 1 vl S2.xs.length (S2.xs.map (Value.int .i64)) ∧ w'.ownsRow w.heap.size 4 1 vr S2.rd.length (bv S2.rd) ∧ w'.ownsRow w.heap.size 27 2 vq S2.ws.length (wv S2.ws) ∧ Below w.heap.size w w' := by
  have b0 := bel_alloc (bel_alloc (bel_alloc (Below.refl w.heap.size w) (.cells #[.slice al xs.length cl, .int .i64 ow, .slice ar bs.length cr, .bool bz, .int .i64 wh, .bool wo, .int .i64 ak, .slice aq 0 cq] 30)) (.cells #[.int .i64 mk, .int .i64 pg, .bool mo, .slice am ys.length cm] 34)) (.cells #[.slice none 0 0, .int .i64 0, .slice none 0 0, .bool false, .int .i64 0, .bool false, .int .i64 0, .slice none 0 0] 30)
  have X01 := Box.two w #[.slice al xs.length cl, .int .i64 ow, .slice ar bs.length cr, .bool bz, .int .i64 wh, .bool wo, .int .i64 ak, .slice aq 0 cq] #[.int .i64 mk, .int .i64 pg, .bool mo, .slice am ys.length cm] 30 34
  have b00 := bel_alloc (Below.refl ((w.alloc (.cells #[.slice al xs.length cl, .int .i64 ow, .slice ar bs.length cr, .bool bz, .int .i64 wh, .bool wo, .int .i64 ak, .slice aq 0 cq] 30)).alloc (.cells #[.int .i64 mk, .int .i64 pg, .bool mo, .slice am ys.length cm] 34)).heap.size ((w.alloc (.cells #[.slice al xs.length cl, .int .i64 ow, .slice ar bs.length cr, .bool bz, .int .i64 wh, .bool wo, .int .i64 ak, .slice aq 0 cq] 30)).alloc (.cells #[.int .i64 mk, .int .i64 pg, .bool mo, .slice am ys.length cm] 34))) (.cells #[.slice none 0 0, .int .i64 0, .slice none 0 0, .bool false, .int .i64 0, .bool false, .int .i64 0, .slice none 0 0] 30)
  have X0 := X01.1.below b00
  have X1 := X01.2.below b00
  have X2 := Box.new ((w.alloc (.cells #[.slice al xs.length cl, .int .i64 ow, .slice ar bs.length cr, .bool bz, .int .i64 wh, .bool wo, .int .i64 ak, .slice aq 0 cq] 30)).alloc (.cells #[.int .i64 mk, .int .i64 pg, .bool mo, .slice am ys.length cm] 34)) #[.slice none 0 0, .int .i64 0, .slice none 0 0, .bool false, .int .i64 0, .bool false, .int .i64 0, .slice none 0 0] 30
  simp only [World.size_alloc] at X2
  clear X01 b00
  have hq : VRow w aq (wv []) := ⟨by simp [wv], fun i v hv => by simp [wv] at hv⟩
  have H1 : Hid (∀ W : World, Below w.heap.size w W → Calls Try.prog 20 #[.agg #[.slice al xs.length cl, .int .i64 ow, .slice ar bs.length cr, .bool bz, .int .i64 wh, .bool wo, .int .i64 ak, .slice aq 0 cq], .int .i64 bs.length] W fun e w' => e = .returned (.bool true) ∧ Below W.heap.size W w') := fun W b => by
    have := specHomeOk_any bs.length ow wh ak bz wo al ar aq cl bs.length cr cq xs [] W (by omega) (hal.below b) (hq.below b)
    rw [hok] at this
    exact this
  have H2 : Hid (∀ W : World, Below w.heap.size w W → Calls Try.prog 21 #[.agg #[.int .i64 mk, .int .i64 pg, .bool mo, .slice am ys.length cm]] W fun e w' => e = .returned (.bool true) ∧ Below W.heap.size W w') := fun W b => by
    have := specMsgOk_any mk pg mo am cm ys W (hm.below b)
    rw [hmok] at this
    exact this
  have H3 : Hid (∀ W : World, Calls Try.prog 22 #[.int .i64 fr, .int .i64 0, .int .i64 ((bs.length : Int) - 1)] W fun e w' => e = .returned (.bool true) ∧ w' = W) := fun W => by
    have := specIn_h fr 0 ((bs.length : Int) - 1) W
    rw [hfr] at this
    exact this
  have H4 : Hid (∀ W : World, Below w.heap.size w W → Calls Try.prog 23 #[.agg #[.slice al xs.length cl, .int .i64 ow, .slice ar bs.length cr, .bool bz, .int .i64 wh, .bool wo, .int .i64 ak, .slice aq 0 cq]] W fun e w' => ∃ a1 c1 a2 c2 a3 c3, e = .returned (.agg #[.slice a1 xs.length c1, .int .i64 ow, .slice a2 bs.length c2, .bool bz, .int .i64 wh, .bool wo, .int .i64 ak, .slice a3 0 c3]) ∧ w'.ownsRow W.heap.size 3 1 (.slice a1 xs.length c1) xs.length (xs.map (Value.int .i64)) ∧ w'.ownsRow W.heap.size 4 1 (.slice a2 bs.length c2) bs.length (bv bs) ∧ w'.ownsRow W.heap.size 27 2 (.slice a3 0 c3) 0 (wv []) ∧ Below W.heap.size W w') := fun W b =>
    l4Copy_p ow wh ak bz wo xs bs [] al ar aq cl cr cq W ⟨hxs, by omega, by simp⟩ (hal.below b) (hr.below b) (hq.below b)
  have HC0 : Hid (HearsS fr (.agg #[.int .i64 mk, .int .i64 pg, .bool mo, .slice am ys.length cm]) w ⟨xs, ow, bs, bz, wh, wo, ak, [], pg, 0⟩ R) := hcall
  have HR : Hid (∀ S1, R S1 → S1.rd.length ≤ 4 ∧ S1.xs.length ≤ 1048577 ∧ -1 ≤ S1.ow ∧ S1.nt ≤ 1000 ∧ (S1.ws = [] ∨ ∃ (p : Nat) (o : Bool), S1.ws = [((p : Int), o)] ∧ S1.bz = false ∧ p < S1.rd.length)) := hR
  clear hcall hR hal hr hm hok hmok hfr hq
  go_enter Try.func8, Try.ntmps8
  go_wp2_with fail
  refine (H1.out _ b0).mono ?_
  rintro e w1 ⟨rfl, b1⟩
  replace X0 := X0.below b1
  replace X1 := X1.below b1
  replace X2 := X2.below b1
  have B1 := bel_trans b0 b1
  clear b0 b1 H1
  obtain ⟨m0, m1, m2, m3, mz⟩ := X1.at4
  go_wp2_with fail
  refine (H2.out _ B1).mono ?_
  rintro e w2 ⟨rfl, b2⟩
  replace X0 := X0.below b2
  replace X1 := X1.below b2
  replace X2 := X2.below b2
  have B2 := bel_trans B1 b2
  clear b2 H2 m0 m1 m2 m3 mz B1
  obtain ⟨m0, m1, m2, m3, mz⟩ := X1.at4
  go_wp2_with fail
  refine (H3.out _).mono ?_
  rintro e w3 ⟨rfl, h⟩
  subst h
  have u0 := X0.cell 0
  have u1 := X0.cell 1
  have u2 := X0.cell 2
  have u3 := X0.cell 3
  have u4 := X0.cell 4
  have u5 := X0.cell 5
  have u6 := X0.cell 6
  have u7 := X0.cell 7
  have xz := X0.lt
  go_wp2_with fail
  refine (H4.out _ B2).mono ?_
  rintro e w4 ⟨a1, c1, a2, c2, a3, c3, rfl, o1, o2, o3, b4⟩
  have B4 := bel_trans B2 b4
  have hlo : w.heap.size ≤ w3.heap.size := B2.size
  have L5 : SLies w3.heap.size (w4.alloc (.cells #[.slice a1 xs.length c1, .int .i64 ow, .slice a2 bs.length c2, .bool bz, .int .i64 wh, .bool wo, .int .i64 ak, .slice a3 0 c3, .int .i64 pg, .slice none 0 0] 62)) w4.heap.size (.slice a1 xs.length c1) (.slice a2 bs.length c2) (.slice a3 0 c3) (.slice none 0 0) ⟨xs, ow, bs, bz, wh, wo, ak, [], pg, 0⟩ :=
    have b5 := bel_alloc (Below.refl w4.heap.size w4) (.cells #[.slice a1 xs.length c1, .int .i64 ow, .slice a2 bs.length c2, .bool bz, .int .i64 wh, .bool wo, .int .i64 ak, .slice a3 0 c3, .int .i64 pg, .slice none 0 0] 62)
    ⟨b4.size, Box.new w4 _ _, owns_below o1 b5, owns_below o2 b5, owns_below o3 b5, ⟨[], World.ownsRow_nil _ _ _ _⟩⟩
  have b5 := bel_alloc (Below.refl w4.heap.size w4) (.cells #[.slice a1 xs.length c1, .int .i64 ow, .slice a2 bs.length c2, .bool bz, .int .i64 wh, .bool wo, .int .i64 ak, .slice a3 0 c3, .int .i64 pg, .slice none 0 0] 62)
  have B5 := bel_trans B4 b5
  have X1' := (X1.below b4).below b5
  have X2' := (X2.below b4).below b5
  obtain ⟨W5, hW5⟩ : ∃ W5, w4.alloc (.cells #[.slice a1 xs.length c1, .int .i64 ow, .slice a2 bs.length c2, .bool bz, .int .i64 wh, .bool wo, .int .i64 ak, .slice a3 0 c3, .int .i64 pg, .slice none 0 0] 62) = W5 := ⟨_, rfl⟩
  rw [hW5] at L5 b5 B5 X1' X2'
  have HW5 : Hid (w4.alloc (.cells #[.slice a1 xs.length c1, .int .i64 ow, .slice a2 bs.length c2, .bool bz, .int .i64 wh, .bool wo, .int .i64 ak, .slice a3 0 c3, .int .i64 pg, .slice none 0 0] 62) = W5) := hW5
  have hz5 : w3.heap.size ≤ W5.heap.size := Nat.le_trans b4.size b5.size
  have hz3 : w.heap.size + 1 + 1 < w3.heap.size := X2.lt
  have HX2 : Hid (Box W5 (w.heap.size + 1 + 1) #[.slice none 0 0, .int .i64 0, .slice none 0 0, .bool false, .int .i64 0, .bool false, .int .i64 0, .slice none 0 0] 30) := X2'
  have HB5 : Hid (Below w.heap.size w W5) := B5
  have HL5 : Hid (SLies w3.heap.size W5 w4.heap.size _ _ _ _ _) := L5
  clear u0 u1 u2 u3 u4 u5 u6 u7 xz m0 m1 m2 m3 mz X0 X1 X2 H3 H4 B2 B4 L5 B5 X2' o1 o2 o3
  obtain ⟨m0, m1, m2, m3, mz⟩ := X1'.at4
  go_wp2_with fail
  refine (HC0.out w3.heap.size W5 w4.heap.size _ _ _ hz5 HL5.out HB5.out hlo).mono ?_
  rintro e w6 ⟨rfl, S1, vl6, vr6, vq6, vt6, hR1, L6, B6⟩
  obtain ⟨g1, g2, g3, g4, g5⟩ := HR.out S1 hR1
  have X6 : Box w6 (w.heap.size + 1 + 1) #[.slice none 0 0, .int .i64 0, .slice none 0 0, .bool false, .int .i64 0, .bool false, .int .i64 0, .slice none 0 0] 30 := (B6.block _ hz3).trans HX2.out
  have B7 : Below w.heap.size w w6 := HB5.out.trans ⟨B6.os, B6.tape, B6.output, B6.size, fun i hi => B6.block i (by omega)⟩
  have hz6 : w3.heap.size ≤ w6.heap.size := Nat.le_trans hz5 B6.size
  have HX6 : Hid (Box w6 (w.heap.size + 1 + 1) #[.slice none 0 0, .int .i64 0, .slice none 0 0, .bool false, .int .i64 0, .bool false, .int .i64 0, .slice none 0 0] 30) := X6
  have HB7 : Hid (Below w.heap.size w w6) := B7
  have HR1 : Hid (R S1) := hR1
  clear m0 m1 m2 m3 mz X1' HX2 HB5 HL5 B6 HC0 HR hR1 X6 B7
  have REST : ∃ S2, GoS S1 S2 ∧ S2.ws = [] ∧ (S1.ws = [] ∧ S2 = S1 ∨ ∃ (p : Nat) (o : Bool), S1.ws = [((p : Int), o)] ∧ S1.bz = false ∧ p < S1.rd.length ∧ S2 = nxS S1 p o) := by
    rcases g5 with h | ⟨p, o, h1, h2, h3⟩
    · exact ⟨S1, .inl ⟨h, rfl⟩, h, .inl ⟨h, rfl⟩⟩
    · exact ⟨nxS S1 p o, .inr ⟨p, o, h1, h2, h3, rfl⟩, nxS_ws _ _ _, .inr ⟨p, o, h1, h2, h3, rfl⟩⟩
  obtain ⟨S2, hG, hE, hT⟩ := REST
  have HG : Hid (GoS S1 S2) := hG
  have HE : Hid (S2.ws = []) := hE
  have HT : Hid (S1.ws = [] ∧ S2 = S1 ∨ ∃ (p : Nat) (o : Bool), S1.ws = [((p : Int), o)] ∧ S1.bz = false ∧ p < S1.rd.length ∧ S2 = nxS S1 p o) := hT
  have HL6 : Hid (SLies w3.heap.size w6 w4.heap.size vl6 vr6 vq6 vt6 S1) := L6
  clear hG hE hT L6 g5
  go_wp2_with fail
  go_loopw [] (fun wr => ∃ S vl vr vq vt, SLies w3.heap.size wr w4.heap.size vl vr vq vt S ∧ (S = S2 ∨ ((∃ (p : Nat) (o : Bool), S1.ws = [((p : Int), o)] ∧ S1.bz = false ∧ p < S1.rd.length ∧ S2 = nxS S1 p o) ∧ S = S1)) ∧ Below w3.heap.size w6 wr) (fun wr => waitS wr w4.heap.size)
  case atStart =>
    refine ⟨S1, _, _, _, _, HL6.out, ?_, Below.refl _ _⟩
    rcases HT.out with h | h
    · exact .inl h.2.symm
    · exact .inr ⟨h, rfl⟩
  case round =>
    obtain ⟨S, vl, vr, vq, vt, L, hor, B⟩ := hrel
    have hwl := L.waits
    have c3 := L.k.cell 3
    have kz := L.k.lt
    obtain ⟨aq9, cq9, rfl⟩ := owns_slice L.q
    obtain ⟨at9, ct9, hvt⟩ := L.t.elim fun cs h => owns_slice h
    subst hvt
    rcases hor with hS | ⟨⟨p, o, e1, e2, e3, e4⟩, hS⟩
    · have hws : S.ws = [] := by rw [hS]; exact HE.out
      have c7 : wr.cell? ⟨w4.heap.size, 7, none⟩ = some (.slice aq9 0 cq9) := by have := L.k.cell 7; rw [hws] at this; exact this
      obtain ⟨al9, cl9, rfl⟩ := owns_slice L.l
      obtain ⟨ar9, cr9, rfl⟩ := owns_slice L.r
      have X9 : Box wr (w.heap.size + 1 + 1) #[.slice none 0 0, .int .i64 0, .slice none 0 0, .bool false, .int .i64 0, .bool false, .int .i64 0, .slice none 0 0] 30 := (B.block _ hz3).trans HX6.out
      have B9 : Below w.heap.size w wr := HB7.out.trans ⟨B.os, B.tape, B.output, B.size, fun i hi => B.block i (by omega)⟩
      have hne : ¬ w4.heap.size = w.heap.size + 1 + 1 := fun e => by have := L.lk; omega
      have HL : Hid (SLies w3.heap.size wr w4.heap.size (.slice al9 S.xs.length cl9) (.slice ar9 S.rd.length cr9) (.slice aq9 S.ws.length cq9) (.slice at9 S.nt ct9) S) := L
      have HX9 : Hid (Box wr (w.heap.size + 1 + 1) #[.slice none 0 0, .int .i64 0, .slice none 0 0, .bool false, .int .i64 0, .bool false, .int .i64 0, .slice none 0 0] 30) := X9
      have HB9 : Hid (Below w.heap.size w wr) := B9
      have HSS : Hid (S = S2) := hS
      have HWS : Hid (S.ws = []) := hws
      have k0 : wr.cell? ⟨w4.heap.size, 0, none⟩ = some (.slice al9 S.xs.length cl9) := L.k.cell 0
      have k1 : wr.cell? ⟨w4.heap.size, 1, none⟩ = some (.int .i64 S.ow) := L.k.cell 1
      have k2 : wr.cell? ⟨w4.heap.size, 2, none⟩ = some (.slice ar9 S.rd.length cr9) := L.k.cell 2
      have k4 : wr.cell? ⟨w4.heap.size, 4, none⟩ = some (.int .i64 S.wh) := L.k.cell 4
      have k5 : wr.cell? ⟨w4.heap.size, 5, none⟩ = some (.bool S.wo) := L.k.cell 5
      have k6 : wr.cell? ⟨w4.heap.size, 6, none⟩ = some (.int .i64 S.ak) := L.k.cell 6
      have k9 : wr.cell? ⟨w4.heap.size, 9, none⟩ = some (.slice at9 S.nt ct9) := L.k.cell 9
      have xz9 := X9.lt
      clear L X9 B9 B hwl hS hws HL6
      have k3 : ∀ b, S.bz = b → wr.cell? ⟨w4.heap.size, 3, none⟩ = some (.bool b) := fun b hb => by rw [← hb]; exact HL.out.k.cell 3
      clear c3
      cases hbz : S.bz
      · have kk3 := k3 _ hbz
        clear k3
        have HBZ : Hid (S.bz = false) := hbz
        clear hbz
        go_wp2_with fail
        refine wp_region_held_drew (S := (fun w' => w'.cell? ⟨w4.heap.size, 0, none⟩ = some (.slice al9 S.xs.length cl9) ∧ w'.cell? ⟨w4.heap.size, 1, none⟩ = some (.int .i64 S.ow) ∧ w'.cell? ⟨w4.heap.size, 2, none⟩ = some (.slice ar9 S.rd.length cr9) ∧ w'.cell? ⟨w4.heap.size, 3, none⟩ = some (.bool false) ∧ w'.cell? ⟨w4.heap.size, 4, none⟩ = some (.int .i64 S.wh) ∧ w'.cell? ⟨w4.heap.size, 5, none⟩ = some (.bool S.wo) ∧ w'.cell? ⟨w4.heap.size, 6, none⟩ = some (.int .i64 S.ak) ∧ w'.cell? ⟨w4.heap.size, 7, none⟩ = some (.slice aq9 0 cq9) ∧ w'.cell? ⟨w4.heap.size, 9, none⟩ = some (.slice at9 S.nt ct9) ∧ w4.heap.size < w'.heap.size)) (by kernel_rfl) ?_ (fun hHeld => ?_)
        · exact ⟨k0, k1, k2, kk3, k4, k5, k6, c7, k9, kz⟩
        refine wpAnyH_take (i := 0) (oi := { dst := some 68, op := Op.move (Operand.tmp 12), type := 60, pos := "l04_home.go:119", after := #[], guard := none }) (v := ?r1_v0) rfl (by kernel_rfl) (by kernel_rfl) (by kernel_rfl) (fun _ _ _ h => h) (Or.inl ⟨by rfl, ?r1_hy0⟩) (by assumption) ?r1_rest0
        case r1_hy0 => intro w hSw; obtain ⟨s0, s1, s2, s3, s4, s5, s6, s7, s9, sz⟩ := hSw; go_simp; try (with_reducible rfl)
        simp only [Act.put, List.setIfInBounds_toArray, List.set_cons_zero, List.set_cons_succ]
        refine wpAnyH_take (i := 1) (oi := { dst := some 69, op := Op.nilCheck (Operand.tmp 68), type := 0, pos := "l04_home.go:119", after := #[{ on := 0, ground := Ground.data }], guard := none }) (v := ?r1_v1) rfl (by kernel_rfl) (by kernel_rfl) (by kernel_rfl) (fun _ _ _ h => h) (Or.inl ⟨by rfl, ?r1_hy1⟩) (by assumption) ?r1_rest1
        case r1_hy1 => intro w hSw; obtain ⟨s0, s1, s2, s3, s4, s5, s6, s7, s9, sz⟩ := hSw; go_simp; try (with_reducible rfl)
        simp only [Act.put, List.setIfInBounds_toArray, List.set_cons_zero, List.set_cons_succ]
        refine wpAnyH_take (i := 2) (oi := { dst := some 70, op := Op.fieldAddr 62 (Operand.tmp 69) 0, type := 0, pos := "l04_home.go:119", after := #[{ on := 1, ground := Ground.data }], guard := none }) (v := ?r1_v2) rfl (by kernel_rfl) (by kernel_rfl) (by kernel_rfl) (fun _ _ _ h => h) (Or.inl ⟨by rfl, ?r1_hy2⟩) (by assumption) ?r1_rest2
        case r1_hy2 => intro w hSw; obtain ⟨s0, s1, s2, s3, s4, s5, s6, s7, s9, sz⟩ := hSw; go_simp; try (with_reducible rfl)
        simp only [Act.put, List.setIfInBounds_toArray, List.set_cons_zero, List.set_cons_succ]
        refine wpAnyH_take (i := 3) (oi := { dst := some 71, op := Op.load 30 (Operand.tmp 70), type := 30, pos := "l04_home.go:119", after := #[{ on := 2, ground := Ground.data }], guard := none }) (v := ?r1_v3) rfl (by kernel_rfl) (by kernel_rfl) (by kernel_rfl) (fun _ _ _ h => h) (Or.inl ⟨by rfl, ?r1_hy3⟩) (by assumption) ?r1_rest3
        case r1_hy3 => intro w hSw; obtain ⟨s0, s1, s2, s3, s4, s5, s6, s7, s9, sz⟩ := hSw; go_simp; try (with_reducible rfl)
        simp only [Act.put, List.setIfInBounds_toArray, List.set_cons_zero, List.set_cons_succ]
        refine wpAnyH_take (i := 4) (oi := { dst := some 72, op := Op.move (Operand.tmp 12), type := 60, pos := "l04_home.go:119", after := #[{ on := 8, ground := Ground.gcOnly Departure.lateStores }], guard := none }) (v := ?r1_v4) rfl (by kernel_rfl) (by kernel_rfl) (by kernel_rfl) (fun _ _ _ h => h) (Or.inl ⟨by rfl, ?r1_hy4⟩) (by assumption) ?r1_rest4
        case r1_hy4 => intro w hSw; obtain ⟨s0, s1, s2, s3, s4, s5, s6, s7, s9, sz⟩ := hSw; go_simp; try (with_reducible rfl)
        simp only [Act.put, List.setIfInBounds_toArray, List.set_cons_zero, List.set_cons_succ]
        refine wpAnyH_take (i := 5) (oi := { dst := some 73, op := Op.nilCheck (Operand.tmp 72), type := 0, pos := "l04_home.go:119", after := #[{ on := 4, ground := Ground.data }, { on := 8, ground := Ground.gcOnly Departure.lateStores }], guard := none }) (v := ?r1_v5) rfl (by kernel_rfl) (by kernel_rfl) (by kernel_rfl) (fun _ _ _ h => h) (Or.inl ⟨by rfl, ?r1_hy5⟩) (by assumption) ?r1_rest5
        case r1_hy5 => intro w hSw; obtain ⟨s0, s1, s2, s3, s4, s5, s6, s7, s9, sz⟩ := hSw; go_simp; try (with_reducible rfl)
        simp only [Act.put, List.setIfInBounds_toArray, List.set_cons_zero, List.set_cons_succ]
        refine wpAnyH_take (i := 6) (oi := { dst := some 74, op := Op.fieldAddr 62 (Operand.tmp 73) 2, type := 0, pos := "l04_home.go:119", after := #[{ on := 5, ground := Ground.data }, { on := 8, ground := Ground.gcOnly Departure.lateStores }], guard := none }) (v := ?r1_v6) rfl (by kernel_rfl) (by kernel_rfl) (by kernel_rfl) (fun _ _ _ h => h) (Or.inl ⟨by rfl, ?r1_hy6⟩) (by assumption) ?r1_rest6
        case r1_hy6 => intro w hSw; obtain ⟨s0, s1, s2, s3, s4, s5, s6, s7, s9, sz⟩ := hSw; go_simp; try (with_reducible rfl)
        simp only [Act.put, List.setIfInBounds_toArray, List.set_cons_zero, List.set_cons_succ]
        refine wpAnyH_take (i := 7) (oi := { dst := some 75, op := Op.load 37 (Operand.tmp 74), type := 37, pos := "l04_home.go:119", after := #[{ on := 6, ground := Ground.data }, { on := 8, ground := Ground.gcOnly Departure.lateStores }], guard := none }) (v := ?r1_v7) rfl (by kernel_rfl) (by kernel_rfl) (by kernel_rfl) (fun _ _ _ h => h) (Or.inl ⟨by rfl, ?r1_hy7⟩) (by assumption) ?r1_rest7
        case r1_hy7 => intro w hSw; obtain ⟨s0, s1, s2, s3, s4, s5, s6, s7, s9, sz⟩ := hSw; go_simp; try (with_reducible rfl)
        simp only [Act.put, List.setIfInBounds_toArray, List.set_cons_zero, List.set_cons_succ]
        have XX := HX9.out
        have x0 := XX.cell 0
        have x1 := XX.cell 1
        have x2 := XX.cell 2
        have x3 := XX.cell 3
        have x4 := XX.cell 4
        have x5 := XX.cell 5
        have x6 := XX.cell 6
        have x7 := XX.cell 7
        have y0 := XX.frozen 0
        have y1 := XX.frozen 1
        have y2 := XX.frozen 2
        have y3 := XX.frozen 3
        have y4 := XX.frozen 4
        have y5 := XX.frozen 5
        have y6 := XX.frozen 6
        have y7 := XX.frozen 7
        have KK := set8_far HL.out.k (w.heap.size + 1 + 1) hne (.slice al9 S.xs.length cl9) (.int .i64 S.ow) (.slice ar9 S.rd.length cr9) (.bool false) (.int .i64 S.wh) (.bool S.wo) (.int .i64 S.ak) (.slice aq9 0 cq9)
        obtain ⟨V, hV⟩ : ∃ V, set8 wr (w.heap.size + 1 + 1) (.slice al9 S.xs.length cl9) (.int .i64 S.ow) (.slice ar9 S.rd.length cr9) (.bool false) (.int .i64 S.wh) (.bool S.wo) (.int .i64 S.ak) (.slice aq9 0 cq9) = V := ⟨_, rfl⟩
        rw [hV] at KK
        have hV2 := hV
        unfold set8 at hV2
        refine wpAnyH_ready (rs := [8]) (by kernel_rfl) (by simp) ?_
        refine AllReadyH.cons (o := { dst := none, op := Op.store 30 (Operand.tmp 10) (Operand.tmp 71), type := 0, pos := "l04_home.go:119", after := #[{ on := 3, ground := Ground.data }, { on := 0, ground := Ground.phase }, { on := 1, ground := Ground.phase }, { on := 2, ground := Ground.phase }, { on := 3, ground := Ground.phase }, { on := 4, ground := Ground.textOnly Departure.lateStores }, { on := 5, ground := Ground.textOnly Departure.lateStores }, { on := 6, ground := Ground.textOnly Departure.lateStores }, { on := 7, ground := Ground.textOnly Departure.lateStores }], guard := none }) rfl (fun K2 hK2 => ?_) AllReadyH.nil
        go_simp
        try rw [hV2]
        refine hK2.out _ _ ?_ (fun hHeld2 => ?_)
        · exact ⟨KK.cell 0, KK.cell 1, KK.cell 2, by rw [← HBZ.out]; exact KK.cell 3, KK.cell 4, KK.cell 5, KK.cell 6, by have := KK.cell 7; rw [HWS.out] at this; exact this, KK.cell 9, KK.lt⟩
        clear hK2 K2 hHeld
        have hHeld := hHeld2
        clear hHeld2
        try simp only [Act.put, List.setIfInBounds_toArray, List.set_cons_zero, List.set_cons_succ]
        refine wpAnyH_take (i := 9) (oi := { dst := some 11, op := Op.assign (Operand.tmp 75), type := 37, pos := "l04_home.go:119", after := #[{ on := 7, ground := Ground.data }, { on := 8, ground := Ground.chain }, { on := 0, ground := Ground.phase }, { on := 1, ground := Ground.phase }, { on := 2, ground := Ground.phase }, { on := 3, ground := Ground.phase }, { on := 4, ground := Ground.phase }, { on := 5, ground := Ground.phase }, { on := 6, ground := Ground.phase }, { on := 7, ground := Ground.phase }, { on := 8, ground := Ground.phase }], guard := none }) (v := ?r1_v9) rfl (by kernel_rfl) (by kernel_rfl) (by kernel_rfl) (fun _ _ _ h => h) (Or.inl ⟨by rfl, ?r1_hy9⟩) (by assumption) ?r1_rest9
        case r1_hy9 => intro w hSw; obtain ⟨s0, s1, s2, s3, s4, s5, s6, s7, s9, sz⟩ := hSw; go_simp; try (with_reducible rfl)
        simp only [Act.put, List.setIfInBounds_toArray, List.set_cons_zero, List.set_cons_succ]
        refine wpAnyH_done (by kernel_rfl) ?_ _
        have X10 := set8_box HX9.out (.slice al9 S.xs.length cl9) (.int .i64 S.ow) (.slice ar9 S.rd.length cr9) (.bool false) (.int .i64 S.wh) (.bool S.wo) (.int .i64 S.ak) (.slice aq9 0 cq9)
        rw [hV] at X10
        have t0 := X10.cell 0
        have t1 := X10.cell 1
        have t2 := X10.cell 2
        have t3 := X10.cell 3
        have t4 := X10.cell 4
        have t5 := X10.cell 5
        have t6 := X10.cell 6
        have t7 := X10.cell 7
        have oq : wr.ownsRow w3.heap.size 27 2 (.slice aq9 0 cq9) S.ws.length (wv S.ws) := by have := HL.out.q; rw [HWS.out] at this ⊢; exact this
        have HF : Hid (_ ∧ _ ∧ _ ∧ _) := ⟨set8_owns (owns_base HL.out.l (show w.heap.size ≤ _ by omega)) (w.heap.size + 1 + 1) (fun j hj e => by have := (HL.out.l.lt j hj).1; omega) (.slice al9 S.xs.length cl9) (.int .i64 S.ow) (.slice ar9 S.rd.length cr9) (.bool false) (.int .i64 S.wh) (.bool S.wo) (.int .i64 S.ak) (.slice aq9 0 cq9), set8_owns (owns_base HL.out.r (show w.heap.size ≤ _ by omega)) (w.heap.size + 1 + 1) (fun j hj e => by have := (HL.out.r.lt j hj).1; omega) (.slice al9 S.xs.length cl9) (.int .i64 S.ow) (.slice ar9 S.rd.length cr9) (.bool false) (.int .i64 S.wh) (.bool S.wo) (.int .i64 S.ak) (.slice aq9 0 cq9), set8_owns (owns_base oq (show w.heap.size ≤ _ by omega)) (w.heap.size + 1 + 1) (fun j hj e => by have := (oq.lt j hj).1; omega) (.slice al9 S.xs.length cl9) (.int .i64 S.ow) (.slice ar9 S.rd.length cr9) (.bool false) (.int .i64 S.wh) (.bool S.wo) (.int .i64 S.ak) (.slice aq9 0 cq9), set8_below HB9.out (w.heap.size + 1 + 1) (by omega) (.slice al9 S.xs.length cl9) (.int .i64 S.ow) (.slice ar9 S.rd.length cr9) (.bool false) (.int .i64 S.wh) (.bool S.wo) (.int .i64 S.ak) (.slice aq9 0 cq9)⟩
        rw [hV] at HF
        clear X10 KK XX hHeld oq hV hV2 x0 y0 x1 y1 x2 y2 x3 y3 x4 y4 x5 y5 x6 y6 x7 y7
        go_wp2
        refine bodyPost_ret (v := .tuple #[.agg #[.slice al9 S.xs.length cl9, .int .i64 S.ow, .slice ar9 S.rd.length cr9, .bool false, .int .i64 S.wh, .bool S.wo, .int .i64 S.ak, .slice aq9 0 cq9], .slice at9 S.nt ct9]) (by simp [results, Try.results8, go_sem, t0, t1, t2, t3, t4, t5, t6, t7]) rfl ⟨S1, S, _, _, _, _, HR1.out, by rw [HSS.out]; exact HG.out, by rw [HBZ.out], own_dr HF.out.1, own_dr HF.out.2.1, own_dr HF.out.2.2.1, bel_drew HF.out.2.2.2⟩
      · have kk3 := k3 _ hbz
        clear k3
        have HBZ : Hid (S.bz = true) := hbz
        clear hbz
        go_wp2_with fail
        refine wp_region_held_drew (S := (fun w' => w'.cell? ⟨w4.heap.size, 0, none⟩ = some (.slice al9 S.xs.length cl9) ∧ w'.cell? ⟨w4.heap.size, 1, none⟩ = some (.int .i64 S.ow) ∧ w'.cell? ⟨w4.heap.size, 2, none⟩ = some (.slice ar9 S.rd.length cr9) ∧ w'.cell? ⟨w4.heap.size, 3, none⟩ = some (.bool true) ∧ w'.cell? ⟨w4.heap.size, 4, none⟩ = some (.int .i64 S.wh) ∧ w'.cell? ⟨w4.heap.size, 5, none⟩ = some (.bool S.wo) ∧ w'.cell? ⟨w4.heap.size, 6, none⟩ = some (.int .i64 S.ak) ∧ w'.cell? ⟨w4.heap.size, 7, none⟩ = some (.slice aq9 0 cq9) ∧ w'.cell? ⟨w4.heap.size, 9, none⟩ = some (.slice at9 S.nt ct9) ∧ w4.heap.size < w'.heap.size)) (by kernel_rfl) ?_ (fun hHeld => ?_)
        · exact ⟨k0, k1, k2, kk3, k4, k5, k6, c7, k9, kz⟩
        refine wpAnyH_take (i := 0) (oi := { dst := some 68, op := Op.move (Operand.tmp 12), type := 60, pos := "l04_home.go:119", after := #[], guard := none }) (v := ?r2_v0) rfl (by kernel_rfl) (by kernel_rfl) (by kernel_rfl) (fun _ _ _ h => h) (Or.inl ⟨by rfl, ?r2_hy0⟩) (by assumption) ?r2_rest0
        case r2_hy0 => intro w hSw; obtain ⟨s0, s1, s2, s3, s4, s5, s6, s7, s9, sz⟩ := hSw; go_simp; try (with_reducible rfl)
        simp only [Act.put, List.setIfInBounds_toArray, List.set_cons_zero, List.set_cons_succ]
        refine wpAnyH_take (i := 1) (oi := { dst := some 69, op := Op.nilCheck (Operand.tmp 68), type := 0, pos := "l04_home.go:119", after := #[{ on := 0, ground := Ground.data }], guard := none }) (v := ?r2_v1) rfl (by kernel_rfl) (by kernel_rfl) (by kernel_rfl) (fun _ _ _ h => h) (Or.inl ⟨by rfl, ?r2_hy1⟩) (by assumption) ?r2_rest1
        case r2_hy1 => intro w hSw; obtain ⟨s0, s1, s2, s3, s4, s5, s6, s7, s9, sz⟩ := hSw; go_simp; try (with_reducible rfl)
        simp only [Act.put, List.setIfInBounds_toArray, List.set_cons_zero, List.set_cons_succ]
        refine wpAnyH_take (i := 2) (oi := { dst := some 70, op := Op.fieldAddr 62 (Operand.tmp 69) 0, type := 0, pos := "l04_home.go:119", after := #[{ on := 1, ground := Ground.data }], guard := none }) (v := ?r2_v2) rfl (by kernel_rfl) (by kernel_rfl) (by kernel_rfl) (fun _ _ _ h => h) (Or.inl ⟨by rfl, ?r2_hy2⟩) (by assumption) ?r2_rest2
        case r2_hy2 => intro w hSw; obtain ⟨s0, s1, s2, s3, s4, s5, s6, s7, s9, sz⟩ := hSw; go_simp; try (with_reducible rfl)
        simp only [Act.put, List.setIfInBounds_toArray, List.set_cons_zero, List.set_cons_succ]
        refine wpAnyH_take (i := 3) (oi := { dst := some 71, op := Op.load 30 (Operand.tmp 70), type := 30, pos := "l04_home.go:119", after := #[{ on := 2, ground := Ground.data }], guard := none }) (v := ?r2_v3) rfl (by kernel_rfl) (by kernel_rfl) (by kernel_rfl) (fun _ _ _ h => h) (Or.inl ⟨by rfl, ?r2_hy3⟩) (by assumption) ?r2_rest3
        case r2_hy3 => intro w hSw; obtain ⟨s0, s1, s2, s3, s4, s5, s6, s7, s9, sz⟩ := hSw; go_simp; try (with_reducible rfl)
        simp only [Act.put, List.setIfInBounds_toArray, List.set_cons_zero, List.set_cons_succ]
        refine wpAnyH_take (i := 4) (oi := { dst := some 72, op := Op.move (Operand.tmp 12), type := 60, pos := "l04_home.go:119", after := #[{ on := 8, ground := Ground.gcOnly Departure.lateStores }], guard := none }) (v := ?r2_v4) rfl (by kernel_rfl) (by kernel_rfl) (by kernel_rfl) (fun _ _ _ h => h) (Or.inl ⟨by rfl, ?r2_hy4⟩) (by assumption) ?r2_rest4
        case r2_hy4 => intro w hSw; obtain ⟨s0, s1, s2, s3, s4, s5, s6, s7, s9, sz⟩ := hSw; go_simp; try (with_reducible rfl)
        simp only [Act.put, List.setIfInBounds_toArray, List.set_cons_zero, List.set_cons_succ]
        refine wpAnyH_take (i := 5) (oi := { dst := some 73, op := Op.nilCheck (Operand.tmp 72), type := 0, pos := "l04_home.go:119", after := #[{ on := 4, ground := Ground.data }, { on := 8, ground := Ground.gcOnly Departure.lateStores }], guard := none }) (v := ?r2_v5) rfl (by kernel_rfl) (by kernel_rfl) (by kernel_rfl) (fun _ _ _ h => h) (Or.inl ⟨by rfl, ?r2_hy5⟩) (by assumption) ?r2_rest5
        case r2_hy5 => intro w hSw; obtain ⟨s0, s1, s2, s3, s4, s5, s6, s7, s9, sz⟩ := hSw; go_simp; try (with_reducible rfl)
        simp only [Act.put, List.setIfInBounds_toArray, List.set_cons_zero, List.set_cons_succ]
        refine wpAnyH_take (i := 6) (oi := { dst := some 74, op := Op.fieldAddr 62 (Operand.tmp 73) 2, type := 0, pos := "l04_home.go:119", after := #[{ on := 5, ground := Ground.data }, { on := 8, ground := Ground.gcOnly Departure.lateStores }], guard := none }) (v := ?r2_v6) rfl (by kernel_rfl) (by kernel_rfl) (by kernel_rfl) (fun _ _ _ h => h) (Or.inl ⟨by rfl, ?r2_hy6⟩) (by assumption) ?r2_rest6
        case r2_hy6 => intro w hSw; obtain ⟨s0, s1, s2, s3, s4, s5, s6, s7, s9, sz⟩ := hSw; go_simp; try (with_reducible rfl)
        simp only [Act.put, List.setIfInBounds_toArray, List.set_cons_zero, List.set_cons_succ]
        refine wpAnyH_take (i := 7) (oi := { dst := some 75, op := Op.load 37 (Operand.tmp 74), type := 37, pos := "l04_home.go:119", after := #[{ on := 6, ground := Ground.data }, { on := 8, ground := Ground.gcOnly Departure.lateStores }], guard := none }) (v := ?r2_v7) rfl (by kernel_rfl) (by kernel_rfl) (by kernel_rfl) (fun _ _ _ h => h) (Or.inl ⟨by rfl, ?r2_hy7⟩) (by assumption) ?r2_rest7
        case r2_hy7 => intro w hSw; obtain ⟨s0, s1, s2, s3, s4, s5, s6, s7, s9, sz⟩ := hSw; go_simp; try (with_reducible rfl)
        simp only [Act.put, List.setIfInBounds_toArray, List.set_cons_zero, List.set_cons_succ]
        have XX := HX9.out
        have x0 := XX.cell 0
        have x1 := XX.cell 1
        have x2 := XX.cell 2
        have x3 := XX.cell 3
        have x4 := XX.cell 4
        have x5 := XX.cell 5
        have x6 := XX.cell 6
        have x7 := XX.cell 7
        have y0 := XX.frozen 0
        have y1 := XX.frozen 1
        have y2 := XX.frozen 2
        have y3 := XX.frozen 3
        have y4 := XX.frozen 4
        have y5 := XX.frozen 5
        have y6 := XX.frozen 6
        have y7 := XX.frozen 7
        have KK := set8_far HL.out.k (w.heap.size + 1 + 1) hne (.slice al9 S.xs.length cl9) (.int .i64 S.ow) (.slice ar9 S.rd.length cr9) (.bool true) (.int .i64 S.wh) (.bool S.wo) (.int .i64 S.ak) (.slice aq9 0 cq9)
        obtain ⟨V, hV⟩ : ∃ V, set8 wr (w.heap.size + 1 + 1) (.slice al9 S.xs.length cl9) (.int .i64 S.ow) (.slice ar9 S.rd.length cr9) (.bool true) (.int .i64 S.wh) (.bool S.wo) (.int .i64 S.ak) (.slice aq9 0 cq9) = V := ⟨_, rfl⟩
        rw [hV] at KK
        have hV2 := hV
        unfold set8 at hV2
        refine wpAnyH_ready (rs := [8]) (by kernel_rfl) (by simp) ?_
        refine AllReadyH.cons (o := { dst := none, op := Op.store 30 (Operand.tmp 10) (Operand.tmp 71), type := 0, pos := "l04_home.go:119", after := #[{ on := 3, ground := Ground.data }, { on := 0, ground := Ground.phase }, { on := 1, ground := Ground.phase }, { on := 2, ground := Ground.phase }, { on := 3, ground := Ground.phase }, { on := 4, ground := Ground.textOnly Departure.lateStores }, { on := 5, ground := Ground.textOnly Departure.lateStores }, { on := 6, ground := Ground.textOnly Departure.lateStores }, { on := 7, ground := Ground.textOnly Departure.lateStores }], guard := none }) rfl (fun K2 hK2 => ?_) AllReadyH.nil
        go_simp
        try rw [hV2]
        refine hK2.out _ _ ?_ (fun hHeld2 => ?_)
        · exact ⟨KK.cell 0, KK.cell 1, KK.cell 2, by rw [← HBZ.out]; exact KK.cell 3, KK.cell 4, KK.cell 5, KK.cell 6, by have := KK.cell 7; rw [HWS.out] at this; exact this, KK.cell 9, KK.lt⟩
        clear hK2 K2 hHeld
        have hHeld := hHeld2
        clear hHeld2
        try simp only [Act.put, List.setIfInBounds_toArray, List.set_cons_zero, List.set_cons_succ]
        refine wpAnyH_take (i := 9) (oi := { dst := some 11, op := Op.assign (Operand.tmp 75), type := 37, pos := "l04_home.go:119", after := #[{ on := 7, ground := Ground.data }, { on := 8, ground := Ground.chain }, { on := 0, ground := Ground.phase }, { on := 1, ground := Ground.phase }, { on := 2, ground := Ground.phase }, { on := 3, ground := Ground.phase }, { on := 4, ground := Ground.phase }, { on := 5, ground := Ground.phase }, { on := 6, ground := Ground.phase }, { on := 7, ground := Ground.phase }, { on := 8, ground := Ground.phase }], guard := none }) (v := ?r2_v9) rfl (by kernel_rfl) (by kernel_rfl) (by kernel_rfl) (fun _ _ _ h => h) (Or.inl ⟨by rfl, ?r2_hy9⟩) (by assumption) ?r2_rest9
        case r2_hy9 => intro w hSw; obtain ⟨s0, s1, s2, s3, s4, s5, s6, s7, s9, sz⟩ := hSw; go_simp; try (with_reducible rfl)
        simp only [Act.put, List.setIfInBounds_toArray, List.set_cons_zero, List.set_cons_succ]
        refine wpAnyH_done (by kernel_rfl) ?_ _
        have X10 := set8_box HX9.out (.slice al9 S.xs.length cl9) (.int .i64 S.ow) (.slice ar9 S.rd.length cr9) (.bool true) (.int .i64 S.wh) (.bool S.wo) (.int .i64 S.ak) (.slice aq9 0 cq9)
        rw [hV] at X10
        have t0 := X10.cell 0
        have t1 := X10.cell 1
        have t2 := X10.cell 2
        have t3 := X10.cell 3
        have t4 := X10.cell 4
        have t5 := X10.cell 5
        have t6 := X10.cell 6
        have t7 := X10.cell 7
        have oq : wr.ownsRow w3.heap.size 27 2 (.slice aq9 0 cq9) S.ws.length (wv S.ws) := by have := HL.out.q; rw [HWS.out] at this ⊢; exact this
        have HF : Hid (_ ∧ _ ∧ _ ∧ _) := ⟨set8_owns (owns_base HL.out.l (show w.heap.size ≤ _ by omega)) (w.heap.size + 1 + 1) (fun j hj e => by have := (HL.out.l.lt j hj).1; omega) (.slice al9 S.xs.length cl9) (.int .i64 S.ow) (.slice ar9 S.rd.length cr9) (.bool true) (.int .i64 S.wh) (.bool S.wo) (.int .i64 S.ak) (.slice aq9 0 cq9), set8_owns (owns_base HL.out.r (show w.heap.size ≤ _ by omega)) (w.heap.size + 1 + 1) (fun j hj e => by have := (HL.out.r.lt j hj).1; omega) (.slice al9 S.xs.length cl9) (.int .i64 S.ow) (.slice ar9 S.rd.length cr9) (.bool true) (.int .i64 S.wh) (.bool S.wo) (.int .i64 S.ak) (.slice aq9 0 cq9), set8_owns (owns_base oq (show w.heap.size ≤ _ by omega)) (w.heap.size + 1 + 1) (fun j hj e => by have := (oq.lt j hj).1; omega) (.slice al9 S.xs.length cl9) (.int .i64 S.ow) (.slice ar9 S.rd.length cr9) (.bool true) (.int .i64 S.wh) (.bool S.wo) (.int .i64 S.ak) (.slice aq9 0 cq9), set8_below HB9.out (w.heap.size + 1 + 1) (by omega) (.slice al9 S.xs.length cl9) (.int .i64 S.ow) (.slice ar9 S.rd.length cr9) (.bool true) (.int .i64 S.wh) (.bool S.wo) (.int .i64 S.ak) (.slice aq9 0 cq9)⟩
        rw [hV] at HF
        clear X10 KK XX hHeld oq hV hV2 x0 y0 x1 y1 x2 y2 x3 y3 x4 y4 x5 y5 x6 y6 x7 y7
        go_wp2
        refine bodyPost_ret (v := .tuple #[.agg #[.slice al9 S.xs.length cl9, .int .i64 S.ow, .slice ar9 S.rd.length cr9, .bool true, .int .i64 S.wh, .bool S.wo, .int .i64 S.ak, .slice aq9 0 cq9], .slice at9 S.nt ct9]) (by simp [results, Try.results8, go_sem, t0, t1, t2, t3, t4, t5, t6, t7]) rfl ⟨S1, S, _, _, _, _, HR1.out, by rw [HSS.out]; exact HG.out, by rw [HBZ.out], own_dr HF.out.1, own_dr HF.out.2.1, own_dr HF.out.2.2.1, bel_drew HF.out.2.2.2⟩
    · have hq1 : S.ws = [((p : Int), o)] := by rw [hS]; exact e1
      have c3' : wr.cell? ⟨w4.heap.size, 3, none⟩ = some (.bool false) := by have h3 : wr.cell? ⟨w4.heap.size, 3, none⟩ = some (.bool S.bz) := L.k.cell 3; rw [hS, e2] at h3; exact h3
      have c7 : wr.cell? ⟨w4.heap.size, 7, none⟩ = some (.slice aq9 1 cq9) := by have := L.k.cell 7; rw [hq1] at this; exact this
      have HL : Hid (SLies w3.heap.size wr w4.heap.size vl vr (.slice aq9 S.ws.length cq9) (.slice at9 S.nt ct9) S) := L
      have HB : Hid (Below w3.heap.size w6 wr) := B
      have HQ : Hid (S.ws = [((p : Int), o)]) := hq1
      have HS : Hid (S = S1) := hS
      have HE4 : Hid (S2 = nxS S1 p o) := e4
      have hzr : w3.heap.size ≤ wr.heap.size := Nat.le_trans hz6 B.size
      clear L B c3 hwl hq1 e4
      go_wp2_with fail
      refine (l4Next_any w3.heap.size wr w4.heap.size vl vr _ _ S HL.out hzr (by rw [hS]; exact g2) (by rw [hS]; exact g1) (by rw [hS]; exact g4) p o (by rw [hS]; exact e3) HQ.out (by rw [hS]; exact g3)).mono ?_
      rintro e w7 ⟨rfl, vq7, vt7, L7, S7⟩
      have HL7 : Hid (SLies w3.heap.size w7 w4.heap.size vl vr vq7 vt7 (nxS S p o)) := L7
      have HB7' : Hid (Below w3.heap.size w6 w7) := HB.out.trans (S7.below hzr)
      clear L7 S7
      go_wp2
      go_roundw
      case rel => exact ⟨_, _, _, _, _, HL7.out, .inl (by rw [HE4.out, HS.out]), HB7'.out⟩
      case measure =>
        rw [HL7.out.waits, HL.out.waits, HQ.out, nxS_ws]
        simp
end Go.Proofs.Ytliihkdocbpolaa
