/- What is heard by a home at work: asked, acked, given back. -/
import Derived.Test.YtliihkdocbpolaaKpI
namespace Go.Proofs.Ytliihkdocbpolaa
open Go.RowKit Go.Maps
set_option linter.unusedVariables false

theorem hears_ask (fr mk mp : Int) (mo : Bool) (mv : Value) (w : World) (aq : Option Addr) (cq : Nat) (S0 : KS) (hcq : S0.ws.length ≤ cq) (hrd : S0.rd.length ≤ 4) (hnd : S0.nd = S0.rd.length) (hws : ∀ p ∈ S0.ws, 0 ≤ p.1 ∧ p.1 < S0.rd.length) (hwl : S0.ws.length < 12) (hts : S0.ts = []) (hfr : 0 ≤ fr ∧ fr < S0.rd.length) :
    Hears 31 fr (.agg #[.int .i64 mk, .int .i64 mp, .bool mo, mv]) w aq cq S0.rd.length S0 (fun S1 => S1 = askS S0 fr (mk == 2)) := by
  intro lo W kB mB hlo L _ _
  refine (asked_room lo W kB mB aq cq (.slice none 0 0) S0 _ L hcq fr mk mp mo mv hwl).mono ?_
  rintro e w' ⟨rfl, aw', cw', L', hc', hS⟩
  refine ⟨rfl, _, aw', cw', _, _, rfl, L', by simpa [askS] using hc', ⟨by simpa [askS] using hrd, fun p hp => ?_, by simp [askS]; omega, by simp [askS, hts]; omega, by simp [askS]; omega⟩, by simpa [askS] using hnd, hS⟩
  simp [askS] at hp
  rcases hp with hp | rfl
  · exact hws p hp
  · simpa [askS] using hfr

theorem hears_more (fr mk mp : Int) (mo : Bool) (mv : Value) (w : World) (aq : Option Addr) (cq : Nat) (S0 : KS) (hcq : S0.ws.length ≤ cq) (hrd : S0.rd.length ≤ 4) (hnd : S0.nd = S0.rd.length) (hws : ∀ p ∈ S0.ws, 0 ≤ p.1 ∧ p.1 < S0.rd.length) (hwl : S0.ws.length ≤ 12) (hts : S0.ts = []) (hb : S0.bz = true) (h1 : 1 < S0.ak) (h2 : S0.ak ≤ 4) :
    Hears 32 fr (.agg #[.int .i64 mk, .int .i64 mp, .bool mo, mv]) w aq cq S0.rd.length S0 (fun S1 => S1 = { S0 with ak := S0.ak - 1 }) := by
  intro lo W kB mB hlo L _ _
  refine (acked_more lo W kB mB aq cq (.slice none 0 0) S0 _ L fr mk mp mo mv hb h1 h2).mono ?_
  rintro e w' ⟨rfl, L', hS⟩
  exact ⟨rfl, _, aq, cq, _, _, rfl, L', hcq, ⟨hrd, hws, by simp; omega, by simp [hts]; omega, by simp; omega⟩, hnd, hS⟩

theorem giveS_len (S : KS) (a : Option Addr) (c : Nat) : (giveS S a c).rd.length = S.rd.length := by
  unfold giveS
  cases S.wo <;> simp [rdAdd_length, rdSub_length]

theorem hears_last (fr mk mp : Int) (mo : Bool) (mv : Value) (w : World) (aq : Option Addr) (cq : Nat) (S0 : KS) (hcq : S0.ws.length ≤ cq) (hrd : S0.rd.length ≤ 4) (hnd : S0.nd = S0.rd.length) (hws : ∀ p ∈ S0.ws, 0 ≤ p.1 ∧ p.1 < S0.rd.length) (hwl : S0.ws.length ≤ 12) (hts : S0.ts = []) (hwh : 0 ≤ S0.wh ∧ S0.wh < S0.rd.length) (hb : S0.bz = true) (h1 : S0.ak = 1) :
    Hears 32 fr (.agg #[.int .i64 mk, .int .i64 mp, .bool mo, mv]) w aq cq S0.rd.length S0 (fun S1 => ∃ a c, S1 = giveS { S0 with ak := 0 } a c) := by
  intro lo W kB mB hlo L _ _
  refine (acked_last lo W kB mB aq cq (.slice none 0 0) S0 _ L hlo hrd (by simp [hts]) (by omega) hwh fr mk mp mo mv hb h1).mono ?_
  rintro e w' ⟨rfl, a, c, vt', L', hS⟩
  have hl := giveS_len { S0 with ak := 0 } a c
  simp only at hl
  refine ⟨rfl, _, aq, cq, _, _, ⟨a, c, rfl⟩, L', hcq, ⟨by rw [hl]; exact hrd, fun p hp => by rw [hl]; exact hws p hp, by simp [giveS]; omega, by simp [giveS, hts]; omega, by simp [giveS]; omega⟩, by rw [hl]; exact hnd, hS⟩

theorem hears_back (mk mp : Int) (mo : Bool) (am : Option Addr) (cm : Nat) (y0 y1 y2 y3 : Int) (w : World) (hm : Row .i64 w am [y0, y1, y2, y3]) (hw : [y0, y1, y2, y3].all wordB = true) (aq : Option Addr) (cq : Nat) (S0 : KS) (hcq : S0.ws.length ≤ cq) (hrd : S0.rd.length ≤ 4) (hnd : S0.nd = S0.rd.length) (hws : ∀ p ∈ S0.ws, 0 ≤ p.1 ∧ p.1 < S0.rd.length) (hwl : S0.ws.length ≤ 12) (hts : S0.ts = []) (hwh : 0 ≤ S0.wh ∧ S0.wh < S0.rd.length) (how : 0 ≤ S0.ow ∧ S0.ow < S0.rd.length) (hb : S0.bz = true) (h1 : S0.ak = 0) :
    Hears 33 S0.ow (.agg #[.int .i64 mk, .int .i64 mp, .bool mo, .slice am 4 cm]) w aq cq S0.rd.length S0 (fun S1 => ∃ a c, S1 = giveS (backS S0 y0 y1 y2 y3) a c) := by
  intro lo W kB mB hlo L B _
  obtain ⟨b, off, rfl, _⟩ := hm.2 0 (by simp)
  obtain ⟨c0, c1, c2, c3⟩ := row4_cells (hm.below B)
  refine (gotBack_yes lo W kB mB aq cq (.slice none 0 0) S0 _ L hlo hrd (by simp [hts]) (by omega) hwh how mk mp mo b off cm y0 y1 y2 y3 c0 c1 c2 c3 hw hb h1).mono ?_
  rintro e w' ⟨rfl, a, c, vt', L', hS⟩
  have hb2 : (backS S0 y0 y1 y2 y3).rd.length = S0.rd.length := by unfold backS; cases S0.wo <;> simp [rdAdd_length]
  have hl : (giveS (backS S0 y0 y1 y2 y3) a c).rd.length = S0.rd.length := (giveS_len _ a c).trans hb2
  refine ⟨rfl, _, aq, cq, _, _, ⟨a, c, rfl⟩, L', hcq, ⟨by rw [hl]; exact hrd, fun p hp => by rw [hl]; exact hws p hp, by simp [giveS, backS]; omega, by simp [giveS, backS, hts]; omega, by simp [giveS, backS]; omega⟩, by rw [hl]; exact hnd, hS⟩
end Go.Proofs.Ytliihkdocbpolaa
