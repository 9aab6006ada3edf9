/- First, Second and Centre of package corners return what the specification returns, where a valid polygon has a doubled area other than 0. -/
import Derived.Test.YtkfnngcphcfbjaaCentre
import Derived.Test.YtkfnngcphcfbjaaLawWhere
namespace Go.Proofs.Ytkfnngcphcfbjaa
open Go.RowKit

set_option maxRecDepth 100000 in
set_option maxHeartbeats 8000000 in
theorem lawMoments_short (hA : ∀ ps, Geo.validB ps = true → Geo.tot Geo.fanV ps ≠ 0) (A : Option Addr) (c : Nat) (ps : List (Int × Int)) (w : World) (hm : ps.length ≤ maxLen) (hl : ¬ 40 < ps.length) (hg : Prs w w.heap.size A ps) :
    Calls Try.prog 11 #[.slice A ps.length c] w fun e w' => e = .returned (.bool true) ∧ Below w.heap.size w w' := by
  have hl1 : ps.length ≤ 100 := by omega
  have HF : Hid (∀ W, Calls Try.prog 26 #[.slice A ps.length c] W fun e w' => e = .returned (.bool false) ∧ W = w') := fun W => (Far_any A c ps.length W hm).mono (by rw [decide_eq_false hl]; exact fun _ _ h => h)
  have HG := Lib.hid hg
  have HCo : Hid (∀ W, Prs W W.heap.size A ps → Calls Try.prog 32 #[.slice A ps.length c] W fun e W' => ∃ A2 c2, e = .returned (.slice A2 ps.length c2) ∧ Hid (Prs W' W'.heap.size A2 ps) ∧ Below W.heap.size W W') := fun W hP => (Copy_any A c ps (by omega) W hP).mono fun e W' ⟨A2, c2, h1, h2, h3⟩ => ⟨A2, c2, h1, h2, h3⟩
  have H1 : Hid (∀ A c W, Prs W W.heap.size A ps → Calls Try.prog 37 #[.slice A ps.length c] W fun e W' => e = .returned (.tuple #[.int .i64 (Geo.whenV ps (Geo.tot Geo.fxV ps)), .int .i64 (Geo.whenV ps (Geo.tot Geo.fyV ps)), .int .i64 (Geo.errV ps)]) ∧ Below W.heap.size W W') := fun A c W hP => First_any A c ps hl1 W hP
  have H2 : Hid (∀ A c W, Prs W W.heap.size A ps → Calls Try.prog 38 #[.slice A ps.length c] W fun e W' => e = .returned (.tuple #[.int .i64 (Geo.whenV ps (Geo.tot Geo.fxV ps)), .int .i64 (Geo.whenV ps (Geo.tot Geo.fyV ps)), .int .i64 (Geo.errV ps)]) ∧ Below W.heap.size W W') := fun A c W hP => refFirst_any A c ps hl1 W hP
  have H3 : Hid (∀ A c W, Prs W W.heap.size A ps → Calls Try.prog 39 #[.slice A ps.length c] W fun e W' => e = .returned (.tuple #[.int .i64 (Geo.whenV ps (Geo.tot Geo.xxV ps)), .int .i64 (Geo.whenV ps (Geo.tot Geo.xyV ps)), .int .i64 (Geo.whenV ps (Geo.tot Geo.yyV ps)), .int .i64 (Geo.errV ps)]) ∧ Below W.heap.size W W') := fun A c W hP => Second_any A c ps hl1 W hP
  have H4 : Hid (∀ A c W, Prs W W.heap.size A ps → Calls Try.prog 40 #[.slice A ps.length c] W fun e W' => e = .returned (.tuple #[.int .i64 (Geo.whenV ps (Geo.tot Geo.xxV ps)), .int .i64 (Geo.whenV ps (Geo.tot Geo.xyV ps)), .int .i64 (Geo.whenV ps (Geo.tot Geo.yyV ps)), .int .i64 (Geo.errV ps)]) ∧ Below W.heap.size W W') := fun A c W hP => refSecond_any A c ps hl1 W hP
  have H5 : Hid (∀ A c W, Prs W W.heap.size A ps → Calls Try.prog 41 #[.slice A ps.length c] W fun e W' => e = .returned (.tuple #[.agg #[.int .i64 (Geo.cenN Geo.fxV ps), .int .i64 (Geo.cenD Geo.fxV ps)], .agg #[.int .i64 (Geo.cenN Geo.fyV ps), .int .i64 (Geo.cenD Geo.fyV ps)], .int .i64 (Geo.errV ps)]) ∧ Below W.heap.size W W') := fun A c W hP => Centre_any hA A c ps hl1 W hP
  have H6 : Hid (∀ A c W, Prs W W.heap.size A ps → Calls Try.prog 42 #[.slice A ps.length c] W fun e W' => e = .returned (.tuple #[.agg #[.int .i64 (Geo.cenN Geo.fxV ps), .int .i64 (Geo.cenD Geo.fxV ps)], .agg #[.int .i64 (Geo.cenN Geo.fyV ps), .int .i64 (Geo.cenD Geo.fyV ps)], .int .i64 (Geo.errV ps)]) ∧ Below W.heap.size W W') := fun A c W hP => refCentre_any hA A c ps hl1 W hP
  have HS : Hid (∀ A A2 c c2 W, Prs W W.heap.size A ps → Prs W W.heap.size A2 ps → Calls Try.prog 36 #[.slice A ps.length c, .slice A2 ps.length c2] W fun e W' => e = .returned (.bool true) ∧ Below W.heap.size W W') := fun A A2 c c2 W hP hP2 => Same_yes A A2 c c2 ps hl1 W hP hP2
  generalize Geo.errV ps = E at *
  generalize Geo.whenV ps (Geo.tot Geo.fxV ps) = V1 at *
  generalize Geo.whenV ps (Geo.tot Geo.fyV ps) = V2 at *
  generalize Geo.whenV ps (Geo.tot Geo.xxV ps) = V3 at *
  generalize Geo.whenV ps (Geo.tot Geo.xyV ps) = V4 at *
  generalize Geo.whenV ps (Geo.tot Geo.yyV ps) = V5 at *
  generalize Geo.cenN Geo.fxV ps = V6 at *
  generalize Geo.cenD Geo.fxV ps = V7 at *
  generalize Geo.cenN Geo.fyV ps = V8 at *
  generalize Geo.cenD Geo.fyV ps = V9 at *
  clear hg hl hl1 hm hA
  generalize ps.length = n at *
  go_enter Try.func11, Try.ntmps11
  go_wp2_with fail
  refine (HF.out _).mono ?_
  rintro e w0 ⟨rfl, rfl⟩
  go_wp2_with fail
  refine (HCo.out _ HG.out).mono ?_
  rintro e w1 ⟨A2, c2, rfl, hP1, hB1⟩
  have hQ1 := Lib.hid (prs_keep HG.out hB1)
  clear HG
  go_wp2_with fail
  refine (H1.out A2 c2 _ hP1.out).mono ?_
  rintro e w2 ⟨rfl, hb2⟩
  have hP2 := Lib.hid (prs_keep hP1.out hb2)
  have hQ2 := Lib.hid (prs_keep hQ1.out hb2)
  have hB2 : Below w.heap.size w w2 := hB1.trans (hb2.mono hB1.size)
  clear hP1 hQ1 hb2
  go_wp2_with fail
  refine (H2.out A c _ hQ2.out).mono ?_
  rintro e w3 ⟨rfl, hb3⟩
  have hP3 := Lib.hid (prs_keep hP2.out hb3)
  have hQ3 := Lib.hid (prs_keep hQ2.out hb3)
  have hB3 : Below w.heap.size w w3 := hB2.trans (hb3.mono hB2.size)
  clear hP2 hQ2 hb3
  go_wp2_with fail
  refine (H3.out A2 c2 _ hP3.out).mono ?_
  rintro e w4 ⟨rfl, hb4⟩
  have hP4 := Lib.hid (prs_keep hP3.out hb4)
  have hQ4 := Lib.hid (prs_keep hQ3.out hb4)
  have hB4 : Below w.heap.size w w4 := hB3.trans (hb4.mono hB3.size)
  clear hP3 hQ3 hb4
  go_wp2_with fail
  refine (H4.out A c _ hQ4.out).mono ?_
  rintro e w5 ⟨rfl, hb5⟩
  have hP5 := Lib.hid (prs_keep hP4.out hb5)
  have hQ5 := Lib.hid (prs_keep hQ4.out hb5)
  have hB5 : Below w.heap.size w w5 := hB4.trans (hb5.mono hB4.size)
  clear hP4 hQ4 hb5
  go_wp2_with fail
  refine (H5.out A2 c2 _ hP5.out).mono ?_
  rintro e w6 ⟨rfl, hb6⟩
  have hP6 := Lib.hid (prs_keep hP5.out hb6)
  have hQ6 := Lib.hid (prs_keep hQ5.out hb6)
  have hB6 : Below w.heap.size w w6 := hB5.trans (hb6.mono hB5.size)
  clear hP5 hQ5 hb6
  go_wp2_with fail
  have bAx := (BoxS.new w6 28 #[.int .i64 V6, .int .i64 V7]).alloc (.cells #[.int .i64 V8, .int .i64 V9] 28)
  have bCx := BoxS.new (w6.alloc (.cells #[.int .i64 V6, .int .i64 V7] 28)) 28 #[.int .i64 V8, .int .i64 V9]
  rw [World.size_alloc] at bCx
  have hb6 : Below w6.heap.size w6 ((w6.alloc (.cells #[.int .i64 V6, .int .i64 V7] 28)).alloc (.cells #[.int .i64 V8, .int .i64 V9] 28)) := by (repeat' (first | (with_reducible exact Below.refl _ _) | (with_reducible assumption) | (with_reducible refine Below.alloc ?_ ?_ _) | (with_reducible refine Below.drew ?_) | (with_reducible refine Below.setCell ?_ ?_ _) | go_size | (exact (by simp)) | omega))
  have hP6' := Lib.hid (prs_keep hP6.out hb6)
  have hQ6' := Lib.hid (prs_keep hQ6.out hb6)
  have hB6' := hB6.trans (hb6.mono hB6.size)
  clear hP6 hQ6 hb6
  generalize World.alloc _ _ = v6 at *
  refine (H6.out A c _ hQ6'.out).mono ?_
  rintro e w7 ⟨rfl, hb7⟩
  have hP7 := Lib.hid (prs_keep hP6'.out hb7)
  have hQ7 := Lib.hid (prs_keep hQ6'.out hb7)
  have hB7 : Below w.heap.size w w7 := hB6'.trans (hb7.mono hB6'.size)
  have bA7 := bAx.below hb7
  have bC7 := bCx.below hb7
  obtain ⟨p0, p1⟩ := boxS2 bA7
  obtain ⟨p2, p3⟩ := boxS2 bC7
  have l0 := bA7.lt
  have l1 := bC7.lt
  clear hP6' hQ6' hb7 bAx bCx hB6'
  go_wp2_with fail
  have hb8 : Below w7.heap.size w7 ((w7.alloc (.cells #[.int .i64 V6, .int .i64 V7] 28)).alloc (.cells #[.int .i64 V8, .int .i64 V9] 28)) := by (repeat' (first | (with_reducible exact Below.refl _ _) | (with_reducible assumption) | (with_reducible refine Below.alloc ?_ ?_ _) | (with_reducible refine Below.drew ?_) | (with_reducible refine Below.setCell ?_ ?_ _) | go_size | (exact (by simp)) | omega))
  have hP8 := Lib.hid (prs_keep hP7.out hb8)
  have hQ8 := Lib.hid (prs_keep hQ7.out hb8)
  have hB8 := hB7.trans (hb8.mono hB7.size)
  clear p0 p1 p2 p3 hP7 hQ7 hb8
  generalize World.alloc _ _ = v8 at *
  refine (HS.out A2 A c2 c _ hP8.out hQ8.out).mono ?_
  rintro e w9 ⟨rfl, hb9⟩
  have hB9 : Below w.heap.size w w9 := hB8.trans (hb9.mono hB8.size)
  go_wp2_with fail
  refine (works_any _).mono ?_
  rintro e w10 ⟨rfl, hb10⟩
  have hB10 : Below w.heap.size w w10 := hB9.trans (hb10.mono hB9.size)
  go_wp2_with fail
  go_returns
  exact ⟨rfl, hB10⟩
end Go.Proofs.Ytkfnngcphcfbjaa
