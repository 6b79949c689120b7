/- A statement of the law FnExactWork, taken out of its code (written by mk9w.py). -/
import Derived.Test.YtiilgkloddflcaaLw9
namespace Go.Proofs.Ytiilgkloddflcaa
open Go.ChangeShapes Go.WideShapes Go.ChangeAt Go.RowKit
set_option linter.unusedVariables false

namespace LawFnExactWork
set_option maxRecDepth 100000 in
set_option maxHeartbeats 8000000 in
theorem r24 {u0 u1 u5 u6 u7 u8 u9 u10 u11 u12 u13 u14 u15 u16 u17 u18 u19 u20 u21 u22 u23 u24 u25 u26 u27 u28 u29 u30 u31 u32 u33 u34 u35 u36 u37 u38 u39 u40 u41 u42 u43 u44 u45 u46 u47 u48 u49 u50 u51 u52 u53 u54 u55 u56 u57 u58 u59 u60 u61 u62 u63 u64 u65 u66 u67 u68 u69 u70 u71 u72 u73 u74 u75 u76 u77 u78 u79 u80 u81 u82 u83 u84 u85 u86 u87 u88 u89 u90 u91 u92 u93 u94 u95 u96 u97 u98 u99 u100 u101 u102 u103 u104 u105 u106 u107 u108 : Value} {bA bI : Nat} {a : Option Addr} {ca : Nat} {xs : List Int} {pc st op r ia ib n got : Int} {L : List Int} {pq sq v : Int} {w2 : World} {K : Act → World → Prop} {RR : Ending → World → Prop}
    (hsm : xs.length ≤ 1048576) (hr : Row .i64 w2 a xs) (XA : Box w2 bA #[.slice a xs.length ca, .int .i64 pc, .int .i64 st] 24) (XI : Box w2 bI (icells op r ia ib n) 35)
    (HS : Hid (∀ (p : Option Addr) (c : Nat) (W : World), Row .i64 W p xs → Calls Try.prog 24 #[.agg #[.slice p xs.length c, .int .i64 pc, .int .i64 st], .agg (icells op r ia ib n), .int .i64 got] W (WorkP (L, pq, sq, v) W)))
    (hK : Hid (∀ (v83 v84 v85 v86 v87 v88 v89 v90 v91 s8 s9 : Value) (wx : World), AR w2 L pq sq v s8 s9 wx → K ⟨#[u0, u1, .int .i64 got, .pointer (some ⟨bA, 0, none⟩), .pointer (some ⟨bI, 0, none⟩), u5, u6, u7, u8, u9, u10, u11, u12, u13, u14, u15, s8, s9, u18, u19, u20, u21, u22, u23, u24, u25, u26, u27, u28, u29, u30, u31, u32, u33, u34, u35, u36, u37, u38, u39, u40, u41, u42, u43, u44, u45, u46, u47, u48, u49, u50, u51, u52, u53, u54, u55, u56, u57, u58, u59, u60, u61, u62, u63, u64, u65, u66, u67, u68, u69, u70, u71, u72, u73, u74, u75, u76, u77, u78, u79, u80, u81, u82, v83, v84, v85, v86, v87, v88, v89, v90, v91, u92, u93, u94, u95, u96, u97, u98, u99, u100, u101, u102, u103, u104, u105, u106, u107, u108], []⟩ wx)) :
    Code.wp Try.prog ((Try.f6.body.bind (findReg 24)).getD .skip) (Exit.then K (bodyPost Try.prog Try.f6 RR)) ⟨#[u0, u1, .int .i64 got, .pointer (some ⟨bA, 0, none⟩), .pointer (some ⟨bI, 0, none⟩), u5, u6, u7, u8, u9, u10, u11, u12, u13, u14, u15, u16, u17, u18, u19, u20, u21, u22, u23, u24, u25, u26, u27, u28, u29, u30, u31, u32, u33, u34, u35, u36, u37, u38, u39, u40, u41, u42, u43, u44, u45, u46, u47, u48, u49, u50, u51, u52, u53, u54, u55, u56, u57, u58, u59, u60, u61, u62, u63, u64, u65, u66, u67, u68, u69, u70, u71, u72, u73, u74, u75, u76, u77, u78, u79, u80, u81, u82, u83, u84, u85, u86, u87, u88, u89, u90, u91, u92, u93, u94, u95, u96, u97, u98, u99, u100, u101, u102, u103, u104, u105, u106, u107, u108], []⟩ w2 := by
  conv => arg 2; whnf
  obtain ⟨x0, x1, x2, zx⟩ := XA.at3
  obtain ⟨y0, y1, y2, y3, y4, zy⟩ := XI.at5i
  have hrd : Row .i64 w2.drew a xs := hr.drewN 1
  have hra : Row .i64 (w2.alloc (.cells #[.slice none 0 0, .int .i64 0, .int .i64 0] 27)).drew a xs := (hr.below (bel_alloc (Below.refl _ _) _)).drewN 1
  clear XA XI
  go_region_held3 (fun w' => w'.cell? ⟨bA, 0, none⟩ = some (.slice a xs.length ca) ∧ w'.cell? ⟨bA, 1, none⟩ = some (.int .i64 pc) ∧ w'.cell? ⟨bA, 2, none⟩ = some (.int .i64 st) ∧ w'.cell? ⟨bI, 0, none⟩ = some (.int .i64 op) ∧ w'.cell? ⟨bI, 1, none⟩ = some (.int .i64 r) ∧ w'.cell? ⟨bI, 2, none⟩ = some (.int .i64 ia) ∧ w'.cell? ⟨bI, 3, none⟩ = some (.int .i64 ib) ∧ w'.cell? ⟨bI, 4, none⟩ = some (.int .i64 n))
    (first | (with_reducible exact keep8 b5 ‹_›) | (with_reducible exact keep8 b4 ‹_›) | (with_reducible exact keep8 b3 ‹_›) | (with_reducible exact keep8 (bel_alloc B25 _) ⟨x0, x1, x2, y0, y1, y2, y3, y4⟩) | (refine keep8f (keep8f (keep8f ‹_› ?_) ?_) ?_ <;> (have h1 := b3'.size; have h2 := b4'.size; simp; omega)) | go_keep)
    (first | (go_at_call 11; refine (toHart_any pc st a ca xs _ hsm ?_).mono ?_; (first | (with_reducible exact hrd) | (with_reducible exact hra)); rintro e w3 ⟨v3, rfl, o3, b3⟩; obtain ⟨a3, c3, rfl⟩ := owns_slice o3; have b3' : Below w2.heap.size w2 w3 := (by first | (with_reducible exact bel_undrew b3) | (with_reducible exact bel_trans (bel_alloc (Below.refl _ _) _) (bel_undrew b3))); (first | (have XN := (Box.new w2 #[.slice none 0 0, .int .i64 0, .int .i64 0] 27).below (bel_undrew b3)) | skip)) | (go_at_call 19; refine (toIns_any op r ia ib n _).mono ?_; rintro e w4 ⟨rfl, b4⟩; have b4' : Below w3.heap.size w3 w4 := (by first | (with_reducible exact b4) | (with_reducible exact bel_trans (bel_alloc (Below.refl _ _) _) b4)); (first | (have XN := (Box.new w3 #[.slice none 0 0, .int .i64 0, .int .i64 0] 27).below b4) | (have XN := XN.below b4') | skip)) | (go_at_call 24; refine (HS.out a3 c3 _ ?_).mono ?_; (first | (with_reducible exact (owns_row' o3 (by omega)).below b4') | (with_reducible exact ((owns_row' o3 (by omega)).below b4').below (bel_alloc (Below.refl _ _) _))); rintro e w5 ⟨a5, c5, rfl, o5, b5⟩; have b5' : Below w4.heap.size w4 w5 := (by first | (with_reducible exact b5) | (with_reducible exact bel_trans (bel_alloc (Below.refl _ _) _) b5)); have B25 := bel_trans b3' (bel_trans b4' b5'); (first | (have XN := (Box.new w4 #[.slice none 0 0, .int .i64 0, .int .i64 0] 27).below b5; obtain ⟨n0, n1, n2, nz⟩ := XN.at3; have nf0 := XN.frozen 0; have nf1 := XN.frozen 1; have nf2 := XN.frozen 2) | (have XN := XN.below b5'; obtain ⟨n0, n1, n2, nz⟩ := XN.at3; have nf0 := XN.frozen 0; have nf1 := XN.frozen 1; have nf2 := XN.frozen 2) | skip)))
  all_goals refine hK.out _ _ _ _ _ _ _ _ _ _ _ _ ?_
  all_goals
    have t3 := b3'.size
    have t4 := b4'.size
    have u3 := b3.size
    have u4 := b4.size
    have u5 := b5.size
    first | exact AR.new o5 (by omega) B25 | exact AR.set XN (by omega) (by first | omega | (simp; done) | (simp; omega) | (simp at u4; omega) | (have h := (bel_undrew b3).size; simp at h; omega)) o5 B25
end LawFnExactWork
end Go.Proofs.Ytiilgkloddflcaa
