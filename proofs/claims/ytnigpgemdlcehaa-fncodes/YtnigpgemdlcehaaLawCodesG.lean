/- The law FnCodes over any impl.InsOk, Code, Decode, Ends that answer as they should. -/
import Derived.BigRegion
import Derived.Deep.RegionHeld3
import Derived.Test.YtnigpgemdlcehaaDrawI2
import Derived.Test.YtnigpgemdlcehaaOpen
namespace Go.Proofs.Ytnigpgemdlcehaa
open Go.ChangeShapes Go.WideShapes Go.ChangeAt Go.RowKit
set_option linter.unusedVariables false

theorem dec_code {op r a b n : Int} (h : insB op r a b n = true) : decD (codeW op r a b n) = (op, r, a, b, n) ∧ inB (codeW op r a b n) 0 65535 = true := by
  have hp : (1 ≤ op ∧ op ≤ 10) ∧ (0 ≤ r ∧ r ≤ 3) ∧ (0 ≤ a ∧ a ≤ 3) ∧ (0 ≤ b ∧ b ≤ 3) ∧ (0 ≤ n ∧ n ≤ 63) := by
    unfold insB fldB at h
    simp only [Bool.and_eq_true] at h
    obtain ⟨h1, ⟨h2, _⟩, ⟨h3, _⟩, ⟨h4, _⟩, h5, _⟩ := h
    simp [inB] at h1 h2 h3 h4 h5
    omega
  unfold decD codeW
  refine ⟨?_, ?_⟩
  · simp only [Prod.mk.injEq]
    omega
  · simp [inB]
    omega
theorem code_dec {v : Int} (h : inB v 0 65535 = true) : codeW (decD v).1 (decD v).2.1 (decD v).2.2.1 (decD v).2.2.2.1 (decD v).2.2.2.2 = v := by
  have : 0 ≤ v ∧ v ≤ 65535 := by simpa [inB] using h
  unfold decD codeW
  dsimp only
  omega
theorem decB_code {op r a b n : Int} (h : insB op r a b n = true) : decB (codeW op r a b n) = true ∧ decV (codeW op r a b n) = icells op r a b n ∧ 0 ≤ codeW op r a b n ∧ codeW op r a b n ≤ 65535 := by
  obtain ⟨h1, h2⟩ := dec_code h
  have hb : decB (codeW op r a b n) = true := by unfold decB; rw [h1, h2]; simpa using h
  refine ⟨hb, by unfold decV; rw [hb, h1]; rfl, ?_⟩
  simpa [inB] using h2
theorem decV_no {v : Int} (h : decB v = false) : decV v = icells 0 0 0 0 0 := by unfold decV; rw [h]; rfl
theorem decV_yes {v : Int} (h : decB v = true) : ∃ op r a b n, decV v = icells op r a b n ∧ insB op r a b n = true ∧ codeW op r a b n = v := by
  refine ⟨_, _, _, _, _, by unfold decV; rw [h]; rfl, ?_, ?_⟩
  · unfold decB at h
    rw [Bool.and_eq_true] at h
    exact h.2
  · unfold decB at h
    rw [Bool.and_eq_true] at h
    exact code_dec h.1
theorem dec_some (v : Int) : ∃ x : Int × Int × Int × Int × Int, decV v = icells x.1 x.2.1 x.2.2.1 x.2.2.2.1 x.2.2.2.2 := by
  unfold decV
  cases h : decB v
  · exact ⟨(0, 0, 0, 0, 0), rfl⟩
  · exact ⟨decD v, rfl⟩
theorem icells_inj {a b c d e a' b' c' d' e' : Int} (h : icells a b c d e = icells a' b' c' d' e') : a' = a ∧ b' = b ∧ c' = c ∧ d' = d ∧ e' = e := by
  simp [icells] at h
  omega
theorem big_c (a : Option Addr) (n ca : Nat) (w : World) (hl : (n : Int) ≤ 1048576) :
    Calls Try.prog 8 #[.slice a n ca] w fun e w' => e = .returned (.bool false) ∧ w' = w := by
  go_enter Try.func8, Try.ntmps8
  go_wp2
  go_ret
  exact ⟨ret_bool (by simp; omega), rfl⟩
theorem keep10 {W W' : World} (b : Below W.heap.size W W') {a0 a1 a2 a3 a4 b0 b1 b2 b3 b4 : Addr} {u0 u1 u2 u3 u4 v0 v1 v2 v3 v4 : Value}
    (h : W.cell? a0 = some u0 ∧ W.cell? a1 = some u1 ∧ W.cell? a2 = some u2 ∧ W.cell? a3 = some u3 ∧ W.cell? a4 = some u4 ∧ W.cell? b0 = some v0 ∧ W.cell? b1 = some v1 ∧ W.cell? b2 = some v2 ∧ W.cell? b3 = some v3 ∧ W.cell? b4 = some v4) :
    W'.cell? a0 = some u0 ∧ W'.cell? a1 = some u1 ∧ W'.cell? a2 = some u2 ∧ W'.cell? a3 = some u3 ∧ W'.cell? a4 = some u4 ∧ W'.cell? b0 = some v0 ∧ W'.cell? b1 = some v1 ∧ W'.cell? b2 = some v2 ∧ W'.cell? b3 = some v3 ∧ W'.cell? b4 = some v4 :=
  ⟨cell_later b h.1, cell_later b h.2.1, cell_later b h.2.2.1, cell_later b h.2.2.2.1, cell_later b h.2.2.2.2.1, cell_later b h.2.2.2.2.2.1, cell_later b h.2.2.2.2.2.2.1, cell_later b h.2.2.2.2.2.2.2.1, cell_later b h.2.2.2.2.2.2.2.2.1, cell_later b h.2.2.2.2.2.2.2.2.2⟩

namespace LawFnCodes
set_option maxRecDepth 100000 in
set_option maxHeartbeats 8000000 in
theorem walkG (HIO : ∀ (op r a b n : Int) (w : World), Calls Try.prog 12 #[.agg (icells op r a b n)] w fun e w' => e = .returned (.bool (insB op r a b n)) ∧ Below w.heap.size w w')
    (HIC : ∀ (op r a b n : Int) (w : World), Calls Try.prog 10 #[.agg (icells op r a b n)] w fun e w' => e = .returned (.tuple #[.int .i64 (if insB op r a b n then codeW op r a b n else 0), .bool (insB op r a b n)]) ∧ Below w.heap.size w w')
    (HID : ∀ (v : Int) (w : World), Calls Try.prog 13 #[.int .i64 v] w fun e w' => e = .returned (.tuple #[.agg (decV v), .bool (decB v)]) ∧ Below w.heap.size w w')
    (HIE : ∀ (op r a b n : Int) (w : World), Calls Try.prog 19 #[.agg (icells op r a b n)] w fun e w' => e = .returned (.bool (endsB op r a b n)) ∧ Below w.heap.size w w')
    (a : Option Addr) (ca : Nat) (bs : List Int) (w : World) (hc : Came .u8 w a ca bs) :
    Calls Try.prog 3 #[.slice a bs.length ca] w fun e w' => e = .returned (.bool true) ∧ Below w.heap.size w w' := by
  have HO : Hid (∀ (op r a b n : Int) (w : World), Calls Try.prog 12 #[.agg (icells op r a b n)] w fun e w' => e = .returned (.bool (insB op r a b n)) ∧ Below w.heap.size w w') := HIO
  have HC : Hid (∀ (op r a b n : Int) (w : World), Calls Try.prog 10 #[.agg (icells op r a b n)] w fun e w' => e = .returned (.tuple #[.int .i64 (if insB op r a b n then codeW op r a b n else 0), .bool (insB op r a b n)]) ∧ Below w.heap.size w w') := HIC
  have HD : Hid (∀ (v : Int) (w : World), Calls Try.prog 13 #[.int .i64 v] w fun e w' => e = .returned (.tuple #[.agg (decV v), .bool (decB v)]) ∧ Below w.heap.size w w') := HID
  have HE : Hid (∀ (op r a b n : Int) (w : World), Calls Try.prog 19 #[.agg (icells op r a b n)] w fun e w' => e = .returned (.bool (endsB op r a b n)) ∧ Below w.heap.size w w') := HIE
  clear HIO HIC HID HIE
  by_cases hl : 1048576 < bs.length
  · have hn : bs.length ≤ maxLen := Nat.le_trans hc.1 hc.2.1
    have hl' : (1048576 : Int) < bs.length := by omega
    clear hc
    go_enter Try.func3, Try.ntmps3
    go_wp2
    go_ret
    exact ⟨rfl, Below.refl _ _⟩
  · have HR : Hid (Row .u8 w a bs) := hc.row (by omega)
    have hl' : (bs.length : Int) ≤ 1048576 := by omega
    clear hc hl
    go_enter Try.func3, Try.ntmps3
    go_wp2_with fail
    refine (big_c a bs.length ca _ hl').mono ?_
    rintro e w0 ⟨rfl, h⟩
    subst h
    go_wp2_with fail
    refine (dDrawCode_any a ca bs _ HR.out).mono ?_
    rintro e w1 ⟨op, r, ia, ib, n, rfl, B⟩
    go_wp2_with fail
    have bx := bel_alloc (Below.refl w1.heap.size w1) (.cells (icells op r ia ib n) 25)
    have X := Box.new w1 (icells op r ia ib n) 25
    replace B := bel_trans B bx
    clear bx
    refine (HC.out op r ia ib n _).mono ?_
    rintro e w2 ⟨rfl, b2⟩
    replace X := X.below b2
    replace B := bel_trans B b2
    clear b2
    obtain ⟨cv, hcv⟩ : ∃ cv, (if insB op r ia ib n then codeW op r ia ib n else 0) = cv := ⟨_, rfl⟩
    have HCV : Hid ((if insB op r ia ib n then codeW op r ia ib n else 0) = cv) := hcv
    obtain ⟨ok, hok⟩ : ∃ ok, insB op r ia ib n = ok := ⟨_, rfl⟩
    have HOKX : Hid (insB op r ia ib n = ok) := hok
    rw [hcv, hok]
    clear hcv hok
    obtain ⟨x0, x1, x2, x3, x4, xz⟩ := X.at5i
    go_wp2_with fail
    refine (specCode_any op r ia ib n _).mono ?_
    rintro e w3 ⟨rfl, b3⟩
    rw [HCV.out, HOKX.out]
    replace X := X.below b3
    replace B := bel_trans B b3
    clear b3 x0 x1 x2 x3 x4 xz
    obtain ⟨x0, x1, x2, x3, x4, xz⟩ := X.at5i
    go_wp2_with fail
    refine (HO.out op r ia ib n _).mono ?_
    rintro e w4 ⟨rfl, b4⟩
    rw [HOKX.out]
    replace X := X.below b4
    replace B := bel_trans B b4
    clear b4 x0 x1 x2 x3 x4 xz
    cases ok
    · clear X HCV HOKX
      go_wp2_with fail
      refine (dDrawDecode_any a ca bs _ (HR.out.below B)).mono ?_
      rintro e w6 ⟨raw, rfl, b6⟩
      replace B := bel_trans B b6
      clear b6
      obtain ⟨fine, hfine⟩ : ∃ f, decB raw = f := ⟨_, rfl⟩
      have HFI : Hid (decB raw = fine) := hfine
      obtain ⟨⟨yo, yr, ya, yb, yn⟩, hy⟩ : ∃ x : Int × Int × Int × Int × Int, decV raw = icells x.1 x.2.1 x.2.2.1 x.2.2.2.1 x.2.2.2.2 := dec_some raw
      simp only at hy
      have HY : Hid (decV raw = icells yo yr ya yb yn) := hy
      clear hy hfine
      go_wp2_with fail
      refine (HD.out raw _).mono ?_
      rintro e w7 ⟨rfl, b7⟩
      rw [HY.out, HFI.out]
      have bx := bel_alloc b7 (.cells (icells yo yr ya yb yn) 25)
      have Y := Box.new w7 (icells yo yr ya yb yn) 25
      replace B := bel_trans B bx
      clear bx b7
      go_wp2_with fail
      refine (specDecode_any raw _).mono ?_
      rintro e w8 ⟨rfl, b8⟩
      rw [HY.out, HFI.out]
      have bx := bel_alloc b8 (.cells (icells yo yr ya yb yn) 25)
      replace Y := Y.below bx
      replace B := bel_trans B bx
      clear bx b8
      go_wp2_with fail
      refine (dDrawInsOk_any a ca bs _ (HR.out.below B)).mono ?_
      rintro e w9 ⟨jo, jr, ja, jb, jn, rfl, b9⟩
      replace Y := Y.below b9
      replace B := bel_trans B b9
      clear b9
      go_wp2_with fail
      refine (dDrawEnds_any a ca bs _ (HR.out.below B)).mono ?_
      rintro e w10 ⟨ko, kr, ka, kb, kn, rfl, b10⟩
      replace Y := Y.below b10
      replace B := bel_trans B b10
      clear b10
      obtain ⟨J1, J2⟩ := Box.two w10 (icells jo jr ja jb jn) (icells ko kr ka kb kn) 25 25
      have bx := bel_alloc (bel_alloc (Below.refl w10.heap.size w10) (.cells (icells jo jr ja jb jn) 25)) (.cells (icells ko kr ka kb kn) 25)
      replace Y := Y.below bx
      replace B := bel_trans B bx
      clear bx
      obtain ⟨j0, j1, j2, j3, j4, jz⟩ := J1.at5i
      obtain ⟨k0, k1, k2, k3, k4, kz⟩ := J2.at5i
      obtain ⟨oj, hoj⟩ : ∃ o, insB jo jr ja jb jn = o := ⟨_, rfl⟩
      obtain ⟨ok2, hok2⟩ : ∃ o, endsB ko kr ka kb kn = o := ⟨_, rfl⟩
      have HOJ : Hid (insB jo jr ja jb jn = oj) := hoj
      have HOE : Hid (endsB ko kr ka kb kn = ok2) := hok2
      clear hoj hok2
      go_wp2_with fail
      go_region_held3 (fun w' => w'.cell? ⟨w10.heap.size, 0, none⟩ = some (.int .i64 jo) ∧ w'.cell? ⟨w10.heap.size, 1, none⟩ = some (.int .i64 jr) ∧ w'.cell? ⟨w10.heap.size, 2, none⟩ = some (.int .i64 ja) ∧ w'.cell? ⟨w10.heap.size, 3, none⟩ = some (.int .i64 jb) ∧ w'.cell? ⟨w10.heap.size, 4, none⟩ = some (.int .i64 jn) ∧ w'.cell? ⟨w10.heap.size + 1, 0, none⟩ = some (.int .i64 ko) ∧ w'.cell? ⟨w10.heap.size + 1, 1, none⟩ = some (.int .i64 kr) ∧ w'.cell? ⟨w10.heap.size + 1, 2, none⟩ = some (.int .i64 ka) ∧ w'.cell? ⟨w10.heap.size + 1, 3, none⟩ = some (.int .i64 kb) ∧ w'.cell? ⟨w10.heap.size + 1, 4, none⟩ = some (.int .i64 kn))
        (first | (with_reducible exact keep10 b14 ‹_›) | (with_reducible exact keep10 b13 ‹_›) | (with_reducible exact keep10 b12 ‹_›) | (with_reducible exact keep10 b11 ‹_›) | go_keep)
        (first | (go_at_call 12; refine (HO.out jo jr ja jb jn _).mono ?_; rintro e w11 ⟨rfl, b11⟩; rw [HOJ.out]) | (go_at_call 18; refine (specInsOk_any jo jr ja jb jn _).mono ?_; rintro e w12 ⟨rfl, b12⟩; rw [HOJ.out]) | (go_at_call 19; refine (HE.out ko kr ka kb kn _).mono ?_; rintro e w13 ⟨rfl, b13⟩; rw [HOE.out]) | (go_at_call 20; refine (specEnds_any ko kr ka kb kn _).mono ?_; rintro e w14 ⟨rfl, b14⟩; rw [HOE.out]))
      have bb := bel_trans (bel_trans (bel_trans (bel_undrew b11) b12) b13) b14
      replace Y := Y.below bb
      replace B := bel_trans B bb
      clear bb b11 b12 b13 b14 j0 j1 j2 j3 j4 jz k0 k1 k2 k3 k4 kz J1 J2 HOJ HOE
      obtain ⟨y0, y1, y2, y3, y4, yz⟩ := Y.at5i
      cases fine
      · have hz : icells yo yr ya yb yn = icells 0 0 0 0 0 := HY.out.symm.trans (decV_no HFI.out)
        obtain ⟨rfl, rfl, rfl, rfl, rfl⟩ := icells_inj hz
        clear hz HY HFI
        go_wp2_with fail
        refine (HC.out 0 0 0 0 0 _).mono ?_
        rintro e w15 ⟨rfl, b15⟩
        rw [show insB 0 0 0 0 0 = false from rfl]
        replace Y := Y.below b15
        replace B := bel_trans B b15
        clear b15 y0 y1 y2 y3 y4 yz
        obtain ⟨y0, y1, y2, y3, y4, yz⟩ := Y.at5i
        simp only [Bool.false_eq_true, if_false]
        go_wp2
        go_ret
        exact ⟨rfl, B⟩
      · obtain ⟨go, gr, ga, gb, gn, hg1, hg2, hg3⟩ := decV_yes HFI.out
        obtain ⟨rfl, rfl, rfl, rfl, rfl⟩ := icells_inj (hg1.symm.trans HY.out)
        have HG : Hid (insB yo yr ya yb yn = true ∧ codeW yo yr ya yb yn = raw) := ⟨hg2, hg3⟩
        clear hg1 hg2 hg3 HY HFI
        go_wp2_with fail
        refine (HC.out yo yr ya yb yn _).mono ?_
        rintro e w15 ⟨rfl, b15⟩
        rw [HG.out.1, HG.out.2]
        replace Y := Y.below b15
        replace B := bel_trans B b15
        clear b15 y0 y1 y2 y3 y4 yz
        obtain ⟨y0, y1, y2, y3, y4, yz⟩ := Y.at5i
        simp only [if_true]
        go_wp2
        go_ret
        exact ⟨by first | rfl | simp, B⟩
    · obtain ⟨d1, d2, d3, d4⟩ := decB_code HOKX.out
      have hcv : codeW op r ia ib n = cv := by have := HCV.out; rw [HOKX.out] at this; exact this
      rw [hcv] at d1 d2 d3 d4
      have HD1 : Hid (decB cv = true ∧ decV cv = icells op r ia ib n) := ⟨d1, d2⟩
      clear d1 d2 hcv HCV HOKX
      go_wp2_with fail
      refine (HD.out cv _).mono ?_
      rintro e w5 ⟨rfl, b5⟩
      rw [HD1.out.1, HD1.out.2]
      have bx := bel_alloc b5 (.cells (icells op r ia ib n) 25)
      replace X := X.below bx
      have X8 := Box.new w5 (icells op r ia ib n) 25
      replace B := bel_trans B bx
      clear bx b5 HD1
      obtain ⟨x0, x1, x2, x3, x4, xz⟩ := X.at5i
      obtain ⟨y0, y1, y2, y3, y4, yz⟩ := X8.at5i
      go_wp2_with fail
      clear x0 x1 x2 x3 x4 xz y0 y1 y2 y3 y4 yz X X8
      refine (dDrawDecode_any a ca bs _ (HR.out.below B)).mono ?_
      rintro e w6 ⟨raw, rfl, b6⟩
      replace B := bel_trans B b6
      clear b6
      obtain ⟨fine, hfine⟩ : ∃ f, decB raw = f := ⟨_, rfl⟩
      have HFI : Hid (decB raw = fine) := hfine
      obtain ⟨⟨yo, yr, ya, yb, yn⟩, hy⟩ : ∃ x : Int × Int × Int × Int × Int, decV raw = icells x.1 x.2.1 x.2.2.1 x.2.2.2.1 x.2.2.2.2 := dec_some raw
      simp only at hy
      have HY : Hid (decV raw = icells yo yr ya yb yn) := hy
      clear hy hfine
      go_wp2_with fail
      refine (HD.out raw _).mono ?_
      rintro e w7 ⟨rfl, b7⟩
      rw [HY.out, HFI.out]
      have bx := bel_alloc b7 (.cells (icells yo yr ya yb yn) 25)
      have Y := Box.new w7 (icells yo yr ya yb yn) 25
      replace B := bel_trans B bx
      clear bx b7
      go_wp2_with fail
      refine (specDecode_any raw _).mono ?_
      rintro e w8 ⟨rfl, b8⟩
      rw [HY.out, HFI.out]
      have bx := bel_alloc b8 (.cells (icells yo yr ya yb yn) 25)
      replace Y := Y.below bx
      replace B := bel_trans B bx
      clear bx b8
      go_wp2_with fail
      refine (dDrawInsOk_any a ca bs _ (HR.out.below B)).mono ?_
      rintro e w9 ⟨jo, jr, ja, jb, jn, rfl, b9⟩
      replace Y := Y.below b9
      replace B := bel_trans B b9
      clear b9
      go_wp2_with fail
      refine (dDrawEnds_any a ca bs _ (HR.out.below B)).mono ?_
      rintro e w10 ⟨ko, kr, ka, kb, kn, rfl, b10⟩
      replace Y := Y.below b10
      replace B := bel_trans B b10
      clear b10
      obtain ⟨J1, J2⟩ := Box.two w10 (icells jo jr ja jb jn) (icells ko kr ka kb kn) 25 25
      have bx := bel_alloc (bel_alloc (Below.refl w10.heap.size w10) (.cells (icells jo jr ja jb jn) 25)) (.cells (icells ko kr ka kb kn) 25)
      replace Y := Y.below bx
      replace B := bel_trans B bx
      clear bx
      obtain ⟨j0, j1, j2, j3, j4, jz⟩ := J1.at5i
      obtain ⟨k0, k1, k2, k3, k4, kz⟩ := J2.at5i
      obtain ⟨oj, hoj⟩ : ∃ o, insB jo jr ja jb jn = o := ⟨_, rfl⟩
      obtain ⟨ok2, hok2⟩ : ∃ o, endsB ko kr ka kb kn = o := ⟨_, rfl⟩
      have HOJ : Hid (insB jo jr ja jb jn = oj) := hoj
      have HOE : Hid (endsB ko kr ka kb kn = ok2) := hok2
      clear hoj hok2
      go_wp2_with fail
      go_region_held3 (fun w' => w'.cell? ⟨w10.heap.size, 0, none⟩ = some (.int .i64 jo) ∧ w'.cell? ⟨w10.heap.size, 1, none⟩ = some (.int .i64 jr) ∧ w'.cell? ⟨w10.heap.size, 2, none⟩ = some (.int .i64 ja) ∧ w'.cell? ⟨w10.heap.size, 3, none⟩ = some (.int .i64 jb) ∧ w'.cell? ⟨w10.heap.size, 4, none⟩ = some (.int .i64 jn) ∧ w'.cell? ⟨w10.heap.size + 1, 0, none⟩ = some (.int .i64 ko) ∧ w'.cell? ⟨w10.heap.size + 1, 1, none⟩ = some (.int .i64 kr) ∧ w'.cell? ⟨w10.heap.size + 1, 2, none⟩ = some (.int .i64 ka) ∧ w'.cell? ⟨w10.heap.size + 1, 3, none⟩ = some (.int .i64 kb) ∧ w'.cell? ⟨w10.heap.size + 1, 4, none⟩ = some (.int .i64 kn))
        (first | (with_reducible exact keep10 b14 ‹_›) | (with_reducible exact keep10 b13 ‹_›) | (with_reducible exact keep10 b12 ‹_›) | (with_reducible exact keep10 b11 ‹_›) | go_keep)
        (first | (go_at_call 12; refine (HO.out jo jr ja jb jn _).mono ?_; rintro e w11 ⟨rfl, b11⟩; rw [HOJ.out]) | (go_at_call 18; refine (specInsOk_any jo jr ja jb jn _).mono ?_; rintro e w12 ⟨rfl, b12⟩; rw [HOJ.out]) | (go_at_call 19; refine (HE.out ko kr ka kb kn _).mono ?_; rintro e w13 ⟨rfl, b13⟩; rw [HOE.out]) | (go_at_call 20; refine (specEnds_any ko kr ka kb kn _).mono ?_; rintro e w14 ⟨rfl, b14⟩; rw [HOE.out]))
      have bb := bel_trans (bel_trans (bel_trans (bel_undrew b11) b12) b13) b14
      replace Y := Y.below bb
      replace B := bel_trans B bb
      clear bb b11 b12 b13 b14 j0 j1 j2 j3 j4 jz k0 k1 k2 k3 k4 kz J1 J2 HOJ HOE
      obtain ⟨y0, y1, y2, y3, y4, yz⟩ := Y.at5i
      cases fine
      · have hz : icells yo yr ya yb yn = icells 0 0 0 0 0 := HY.out.symm.trans (decV_no HFI.out)
        obtain ⟨rfl, rfl, rfl, rfl, rfl⟩ := icells_inj hz
        clear hz HY HFI
        go_wp2_with fail
        refine (HC.out 0 0 0 0 0 _).mono ?_
        rintro e w15 ⟨rfl, b15⟩
        rw [show insB 0 0 0 0 0 = false from rfl]
        replace Y := Y.below b15
        replace B := bel_trans B b15
        clear b15 y0 y1 y2 y3 y4 yz
        obtain ⟨y0, y1, y2, y3, y4, yz⟩ := Y.at5i
        simp only [Bool.false_eq_true, if_false]
        go_wp2
        go_ret
        exact ⟨rfl, B⟩
      · obtain ⟨go, gr, ga, gb, gn, hg1, hg2, hg3⟩ := decV_yes HFI.out
        obtain ⟨rfl, rfl, rfl, rfl, rfl⟩ := icells_inj (hg1.symm.trans HY.out)
        have HG : Hid (insB yo yr ya yb yn = true ∧ codeW yo yr ya yb yn = raw) := ⟨hg2, hg3⟩
        clear hg1 hg2 hg3 HY HFI
        go_wp2_with fail
        refine (HC.out yo yr ya yb yn _).mono ?_
        rintro e w15 ⟨rfl, b15⟩
        rw [HG.out.1, HG.out.2]
        replace Y := Y.below b15
        replace B := bel_trans B b15
        clear b15 y0 y1 y2 y3 y4 yz
        obtain ⟨y0, y1, y2, y3, y4, yz⟩ := Y.at5i
        simp only [if_true]
        go_wp2
        go_ret
        exact ⟨by first | rfl | simp, B⟩
end LawFnCodes
end Go.Proofs.Ytnigpgemdlcehaa
