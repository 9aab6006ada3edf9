/- Centre of both sides, where a valid polygon has a doubled area other than 0. -/
import Derived.Test.YtkfnngcphcfbjaaRefSec
import Derived.Test.YtkfnngcphcfbjaaFrac
namespace Go.Proofs.Ytkfnngcphcfbjaa
open Go.RowKit

namespace Geo
def cenN (f : Pt × Pt → Int) (ps : List Pt) : Int := if validB ps then lowN (tot f ps) (3 * tot fanV ps) else 0
def cenD (f : Pt × Pt → Int) (ps : List Pt) : Int := if validB ps then lowD (tot f ps) (3 * tot fanV ps) else 0
theorem cen_no {ps : List Pt} (h : validB ps = false) (f : Pt × Pt → Int) : cenN f ps = 0 ∧ cenD f ps = 0 := by unfold cenN cenD; simp [h]
theorem cen_yes {ps : List Pt} (h : validB ps = true) (f : Pt × Pt → Int) : cenN f ps = lowN (tot f ps) (3 * tot fanV ps) ∧ cenD f ps = lowD (tot f ps) (3 * tot fanV ps) := by unfold cenN cenD; simp [h]
end Geo
def CenPost (a b c d x : Int) (w : World) (e : Ending) (w' : World) : Prop := e = .returned (.tuple #[.agg #[.int .i64 a, .int .i64 b], .agg #[.int .i64 c, .int .i64 d], .int .i64 x]) ∧ Below w.heap.size w w'
theorem ret_cen {a b c d x a' b' c' d' x' : Int} (h1 : a = a') (h2 : b = b') (h3 : c = c') (h4 : d = d') (h5 : x = x') : Ending.returned (.tuple #[.agg #[.int .i64 a, .int .i64 b], .agg #[.int .i64 c, .int .i64 d], .int .i64 x]) = .returned (.tuple #[.agg #[.int .i64 a', .int .i64 b'], .agg #[.int .i64 c', .int .i64 d'], .int .i64 x']) := by rw [h1, h2, h3, h4, h5]
theorem fx_sum {ps : List Geo.Pt} (h : ∀ p ∈ ps, Geo.sm p) (hl : ps.length ≤ 10) : -1000000000000000000 ≤ Geo.tot Geo.fxV ps ∧ Geo.tot Geo.fxV ps ≤ 1000000000000000000 := by
  have := tot_bd (f := Geo.fxV) (M := 1000000000000000) h (fun s h1 h2 => Geo.fx_bd h1 h2)
  omega
theorem fy_sum {ps : List Geo.Pt} (h : ∀ p ∈ ps, Geo.sm p) (hl : ps.length ≤ 10) : -1000000000000000000 ≤ Geo.tot Geo.fyV ps ∧ Geo.tot Geo.fyV ps ≤ 1000000000000000000 := by
  have := tot_bd (f := Geo.fyV) (M := 1000000000000000) h (fun s h1 h2 => Geo.fy_bd h1 h2)
  omega
theorem fan_sum {ps : List Geo.Pt} (h : ∀ p ∈ ps, Geo.sm p) (hl : ps.length ≤ 10) : -80000000 ≤ Geo.tot Geo.fanV ps ∧ Geo.tot Geo.fanV ps ≤ 80000000 := by
  have := tot_bd (f := Geo.fanV) (M := 8000000) h (fun s h1 h2 => by have := Geo.fan_bd h1 h2; omega)
  omega

set_option maxRecDepth 100000 in
set_option maxHeartbeats 2000000 in
theorem Centre_any (hA : ∀ ps, Geo.validB ps = true → Geo.tot Geo.fanV ps ≠ 0) (A : Option Addr) (c : Nat) (ps : List Geo.Pt) (hl : ps.length ≤ 100) (w : World) (hP : Prs w w.heap.size A ps) :
    Calls Try.prog 41 #[.slice A ps.length c] w (CenPost (Geo.cenN Geo.fxV ps) (Geo.cenD Geo.fxV ps) (Geo.cenN Geo.fyV ps) (Geo.cenD Geo.fyV ps) (Geo.errV ps) w) := by
  have H1 : Hid (∀ W, Below w.heap.size w W → Calls Try.prog 37 #[.slice A ps.length c] W fun e w' => e = .returned (.tuple #[.int .i64 (Geo.whenV ps (Geo.tot Geo.fxV ps)), .int .i64 (Geo.whenV ps (Geo.tot Geo.fyV ps)), .int .i64 (Geo.errV ps)]) ∧ Below W.heap.size W w') := fun W hW => First_any A c ps hl W (prs_keep hP hW)
  cases hv : Geo.validB ps with
  | false =>
    rw [Geo.errV_no hv, Geo.whenV_no hv, Geo.whenV_no hv] at H1
    obtain ⟨e1, e2⟩ := Geo.cen_no hv Geo.fxV
    obtain ⟨e3, e4⟩ := Geo.cen_no hv Geo.fyV
    have E1 := Lib.hid e1
    have E2 := Lib.hid e2
    have E3 := Lib.hid e3
    have E4 := Lib.hid e4
    have E5 := Lib.hid (Geo.errV_no hv)
    clear hP hl hv e1 e2 e3 e4 hA
    go_enter Try.func41, Try.ntmps41
    go_wp2_with fail
    have bA0 := (BoxS.new w 28 #[.int .i64 0, .int .i64 0]).alloc (.cells #[.int .i64 0, .int .i64 0] 28)
    have bC0 := BoxS.new (w.alloc (.cells #[.int .i64 0, .int .i64 0] 28)) 28 #[.int .i64 0, .int .i64 0]
    have hB0 : Below w.heap.size w ((w.alloc (.cells #[.int .i64 0, .int .i64 0] 28)).alloc (.cells #[.int .i64 0, .int .i64 0] 28)) := by (repeat' (first | (with_reducible exact Below.refl _ _) | (with_reducible assumption) | (with_reducible refine Below.alloc ?_ ?_ _) | (with_reducible refine below_drewN ?_ _) | (with_reducible refine Below.drew ?_) | (with_reducible refine Below.setCell ?_ ?_ _) | go_size))
    rw [World.size_alloc] at bC0
    generalize World.alloc _ _ = w0 at *
    refine (H1.out _ hB0).mono ?_
    rintro e w1 ⟨rfl, hb1⟩
    have bA1 := bA0.below hb1
    have bC1 := bC0.below hb1
    have hB1 : Below w.heap.size w w1 := hB0.trans (hb1.mono hB0.size)
    clear hb1
    obtain ⟨p0, p1⟩ := boxS2 bA1
    obtain ⟨p2, p3⟩ := boxS2 bC1
    have f0 := bA1.frozen 0
    have f1 := bA1.frozen 1
    have f2 := bC1.frozen 0
    have f3 := bC1.frozen 1
    go_wp2_with fail
    have k0 : ((((w1.setCell ⟨w.heap.size, 0, none⟩ (.int .i64 0)).setCell ⟨w.heap.size, 1, none⟩ (.int .i64 0)).setCell ⟨w.heap.size + 1, 0, none⟩ (.int .i64 0)).setCell ⟨w.heap.size + 1, 1, none⟩ (.int .i64 0)).cell? ⟨w.heap.size, 0, none⟩ = some (.int .i64 0) := cs_other (by simp) (cs_other (by simp) (cs_other (by simp) (cs_same p0)))
    have k1 : ((((w1.setCell ⟨w.heap.size, 0, none⟩ (.int .i64 0)).setCell ⟨w.heap.size, 1, none⟩ (.int .i64 0)).setCell ⟨w.heap.size + 1, 0, none⟩ (.int .i64 0)).setCell ⟨w.heap.size + 1, 1, none⟩ (.int .i64 0)).cell? ⟨w.heap.size, 1, none⟩ = some (.int .i64 0) := cs_other (by simp) (cs_other (by simp) (cs_same (cs_other (by simp) p1)))
    have k2 : ((((w1.setCell ⟨w.heap.size, 0, none⟩ (.int .i64 0)).setCell ⟨w.heap.size, 1, none⟩ (.int .i64 0)).setCell ⟨w.heap.size + 1, 0, none⟩ (.int .i64 0)).setCell ⟨w.heap.size + 1, 1, none⟩ (.int .i64 0)).cell? ⟨w.heap.size + 1, 0, none⟩ = some (.int .i64 0) := cs_other (by simp) (cs_same (cs_other (by simp) (cs_other (by simp) p2)))
    have k3 : ((((w1.setCell ⟨w.heap.size, 0, none⟩ (.int .i64 0)).setCell ⟨w.heap.size, 1, none⟩ (.int .i64 0)).setCell ⟨w.heap.size + 1, 0, none⟩ (.int .i64 0)).setCell ⟨w.heap.size + 1, 1, none⟩ (.int .i64 0)).cell? ⟨w.heap.size + 1, 1, none⟩ = some (.int .i64 0) := cs_same (cs_other (by simp) (cs_other (by simp) (cs_other (by simp) p3)))
    exact bodyPost_ret (v := .tuple #[.agg #[.int .i64 0, .int .i64 0], .agg #[.int .i64 0, .int .i64 0], .int .i64 20]) (by simp [results, Try.results41, go_sem, k0, k1, k2, k3]) rfl ⟨ret_cen E1.out.symm E2.out.symm E3.out.symm E4.out.symm E5.out.symm, by have := hB1.size; (repeat' (first | (with_reducible exact Below.refl _ _) | (with_reducible assumption) | (with_reducible refine Below.alloc ?_ ?_ _) | (with_reducible refine Below.drew ?_) | (with_reducible refine Below.setCell ?_ ?_ _) | go_size | (exact (by simp)) | omega))⟩
  | true =>
    rw [Geo.errV_yes hv, Geo.whenV_yes hv, Geo.whenV_yes hv] at H1
    obtain ⟨e1, e2⟩ := Geo.cen_yes hv Geo.fxV
    obtain ⟨e3, e4⟩ := Geo.cen_yes hv Geo.fyV
    have E1 := Lib.hid e1
    have E2 := Lib.hid e2
    have E3 := Lib.hid e3
    have E4 := Lib.hid e4
    have E5 := Lib.hid (Geo.errV_yes hv)
    have hsm := Geo.valid_sm hv
    have hlen := Geo.valid_len hv
    have hnz := hA ps hv
    have H2 : Hid (∀ W, Below w.heap.size w W → Calls Try.prog 52 #[.slice A ps.length c] W fun e w' => e = .returned (.int .i64 (Geo.tot Geo.fanV ps)) ∧ Below W.heap.size W w') := fun W hW => doubled_any A c ps hsm hl W (prs_keep hP hW)
    have b1 := fx_sum hsm hlen.2
    have b2 := fy_sum hsm hlen.2
    have b3 := fan_sum hsm hlen.2
    clear hP hl hv e1 e2 e3 e4 hA hsm hlen
    generalize Geo.tot Geo.fxV ps = X at *
    generalize Geo.tot Geo.fyV ps = Y at *
    generalize Geo.tot Geo.fanV ps = T at *
    have H3 : Hid (∀ W, Calls Try.prog 83 #[.int .i64 X, .int .i64 (3 * T)] W (RatPost (Geo.lowN X (3 * T)) (Geo.lowD X (3 * T)) W)) := fun W => fraction_any X (3 * T) W b1 (by omega) (by omega)
    have H4 : Hid (∀ W, Calls Try.prog 83 #[.int .i64 Y, .int .i64 (3 * T)] W (RatPost (Geo.lowN Y (3 * T)) (Geo.lowD Y (3 * T)) W)) := fun W => fraction_any Y (3 * T) W b2 (by omega) (by omega)
    have hw3 : IntKind.i64.wrap (3 * T) = 3 * T := IntWalk.i64_in _ (by omega)
    generalize Geo.lowN X (3 * T) = a1 at *
    generalize Geo.lowD X (3 * T) = a2 at *
    generalize Geo.lowN Y (3 * T) = a3 at *
    generalize Geo.lowD Y (3 * T) = a4 at *
    clear b1 b2 hnz
    obtain ⟨b31, b32⟩ := b3
    go_enter Try.func41, Try.ntmps41
    go_wp2_with fail
    have bA0 := (BoxS.new w 28 #[.int .i64 0, .int .i64 0]).alloc (.cells #[.int .i64 0, .int .i64 0] 28)
    have bC0 := BoxS.new (w.alloc (.cells #[.int .i64 0, .int .i64 0] 28)) 28 #[.int .i64 0, .int .i64 0]
    have hB0 : Below w.heap.size w ((w.alloc (.cells #[.int .i64 0, .int .i64 0] 28)).alloc (.cells #[.int .i64 0, .int .i64 0] 28)) := by (repeat' (first | (with_reducible exact Below.refl _ _) | (with_reducible assumption) | (with_reducible refine Below.alloc ?_ ?_ _) | (with_reducible refine below_drewN ?_ _) | (with_reducible refine Below.drew ?_) | (with_reducible refine Below.setCell ?_ ?_ _) | go_size))
    rw [World.size_alloc] at bC0
    generalize World.alloc _ _ = w0 at *
    refine (H1.out _ hB0).mono ?_
    rintro e w1 ⟨rfl, hb1⟩
    have bA1 := bA0.below hb1
    have bC1 := bC0.below hb1
    have hB1 : Below w.heap.size w w1 := hB0.trans (hb1.mono hB0.size)
    clear hb1
    go_wp2_with fail
    refine (H2.out _ hB1).mono ?_
    rintro e w2 ⟨rfl, hb2⟩
    have bA2 := bA1.below hb2
    have bC2 := bC1.below hb2
    have hB2 : Below w.heap.size w w2 := hB1.trans (hb2.mono hB1.size)
    clear hb2
    go_wp2_with fail
    refine (H3.out _).mono ?_
    rintro e w3 ⟨rfl, hb3⟩
    have bA3 := bA2.below hb3
    have bC3 := bC2.below hb3
    have hB3 : Below w.heap.size w w3 := hB2.trans (hb3.mono hB2.size)
    clear hb3
    go_wp2_with fail
    refine (H4.out _).mono ?_
    rintro e w4 ⟨rfl, hb4⟩
    have bA4 := bA3.below hb4
    have bC4 := bC3.below hb4
    have hB4 : Below w.heap.size w w4 := hB3.trans (hb4.mono hB3.size)
    clear hb4
    obtain ⟨p0, p1⟩ := boxS2 bA4
    obtain ⟨p2, p3⟩ := boxS2 bC4
    have f0 := bA4.frozen 0
    have f1 := bA4.frozen 1
    have f2 := bC4.frozen 0
    have f3 := bC4.frozen 1
    go_wp2_with fail
    have k0 : ((((w4.setCell ⟨w.heap.size, 0, none⟩ (.int .i64 a1)).setCell ⟨w.heap.size, 1, none⟩ (.int .i64 a2)).setCell ⟨w.heap.size + 1, 0, none⟩ (.int .i64 a3)).setCell ⟨w.heap.size + 1, 1, none⟩ (.int .i64 a4)).cell? ⟨w.heap.size, 0, none⟩ = some (.int .i64 a1) := cs_other (by simp) (cs_other (by simp) (cs_other (by simp) (cs_same p0)))
    have k1 : ((((w4.setCell ⟨w.heap.size, 0, none⟩ (.int .i64 a1)).setCell ⟨w.heap.size, 1, none⟩ (.int .i64 a2)).setCell ⟨w.heap.size + 1, 0, none⟩ (.int .i64 a3)).setCell ⟨w.heap.size + 1, 1, none⟩ (.int .i64 a4)).cell? ⟨w.heap.size, 1, none⟩ = some (.int .i64 a2) := cs_other (by simp) (cs_other (by simp) (cs_same (cs_other (by simp) p1)))
    have k2 : ((((w4.setCell ⟨w.heap.size, 0, none⟩ (.int .i64 a1)).setCell ⟨w.heap.size, 1, none⟩ (.int .i64 a2)).setCell ⟨w.heap.size + 1, 0, none⟩ (.int .i64 a3)).setCell ⟨w.heap.size + 1, 1, none⟩ (.int .i64 a4)).cell? ⟨w.heap.size + 1, 0, none⟩ = some (.int .i64 a3) := cs_other (by simp) (cs_same (cs_other (by simp) (cs_other (by simp) p2)))
    have k3 : ((((w4.setCell ⟨w.heap.size, 0, none⟩ (.int .i64 a1)).setCell ⟨w.heap.size, 1, none⟩ (.int .i64 a2)).setCell ⟨w.heap.size + 1, 0, none⟩ (.int .i64 a3)).setCell ⟨w.heap.size + 1, 1, none⟩ (.int .i64 a4)).cell? ⟨w.heap.size + 1, 1, none⟩ = some (.int .i64 a4) := cs_same (cs_other (by simp) (cs_other (by simp) (cs_other (by simp) p3)))
    exact bodyPost_ret (v := .tuple #[.agg #[.int .i64 a1, .int .i64 a2], .agg #[.int .i64 a3, .int .i64 a4], .int .i64 0]) (by simp [results, Try.results41, go_sem, k0, k1, k2, k3]) rfl ⟨ret_cen E1.out.symm E2.out.symm E3.out.symm E4.out.symm E5.out.symm, by have := hB4.size; (repeat' (first | (with_reducible exact Below.refl _ _) | (with_reducible assumption) | (with_reducible refine Below.alloc ?_ ?_ _) | (with_reducible refine Below.drew ?_) | (with_reducible refine Below.setCell ?_ ?_ _) | go_size | (exact (by simp)) | omega))⟩

set_option maxRecDepth 100000 in
set_option maxHeartbeats 2000000 in
theorem refCentre_any (hA : ∀ ps, Geo.validB ps = true → Geo.tot Geo.fanV ps ≠ 0) (A : Option Addr) (c : Nat) (ps : List Geo.Pt) (hl : ps.length ≤ 100) (w : World) (hP : Prs w w.heap.size A ps) :
    Calls Try.prog 42 #[.slice A ps.length c] w (CenPost (Geo.cenN Geo.fxV ps) (Geo.cenD Geo.fxV ps) (Geo.cenN Geo.fyV ps) (Geo.cenD Geo.fyV ps) (Geo.errV ps) w) := by
  have H1 : Hid (∀ W, Below w.heap.size w W → Calls Try.prog 38 #[.slice A ps.length c] W fun e w' => e = .returned (.tuple #[.int .i64 (Geo.whenV ps (Geo.tot Geo.fxV ps)), .int .i64 (Geo.whenV ps (Geo.tot Geo.fyV ps)), .int .i64 (Geo.errV ps)]) ∧ Below W.heap.size W w') := fun W hW => refFirst_any A c ps hl W (prs_keep hP hW)
  cases hv : Geo.validB ps with
  | false =>
    rw [Geo.errV_no hv, Geo.whenV_no hv, Geo.whenV_no hv] at H1
    obtain ⟨e1, e2⟩ := Geo.cen_no hv Geo.fxV
    obtain ⟨e3, e4⟩ := Geo.cen_no hv Geo.fyV
    have E1 := Lib.hid e1
    have E2 := Lib.hid e2
    have E3 := Lib.hid e3
    have E4 := Lib.hid e4
    have E5 := Lib.hid (Geo.errV_no hv)
    clear hP hl hv e1 e2 e3 e4 hA
    go_enter Try.func42, Try.ntmps42
    go_wp2_with fail
    have bA0 := (BoxS.new w 28 #[.int .i64 0, .int .i64 0]).alloc (.cells #[.int .i64 0, .int .i64 0] 28)
    have bC0 := BoxS.new (w.alloc (.cells #[.int .i64 0, .int .i64 0] 28)) 28 #[.int .i64 0, .int .i64 0]
    have hB0 : Below w.heap.size w ((w.alloc (.cells #[.int .i64 0, .int .i64 0] 28)).alloc (.cells #[.int .i64 0, .int .i64 0] 28)) := by (repeat' (first | (with_reducible exact Below.refl _ _) | (with_reducible assumption) | (with_reducible refine Below.alloc ?_ ?_ _) | (with_reducible refine below_drewN ?_ _) | (with_reducible refine Below.drew ?_) | (with_reducible refine Below.setCell ?_ ?_ _) | go_size))
    rw [World.size_alloc] at bC0
    generalize World.alloc _ _ = w0 at *
    refine (H1.out _ hB0).mono ?_
    rintro e w1 ⟨rfl, hb1⟩
    have bA1 := bA0.below hb1
    have bC1 := bC0.below hb1
    have hB1 : Below w.heap.size w w1 := hB0.trans (hb1.mono hB0.size)
    clear hb1
    obtain ⟨p0, p1⟩ := boxS2 bA1
    obtain ⟨p2, p3⟩ := boxS2 bC1
    have f0 := bA1.frozen 0
    have f1 := bA1.frozen 1
    have f2 := bC1.frozen 0
    have f3 := bC1.frozen 1
    go_wp2_with fail
    have k0 : ((((w1.setCell ⟨w.heap.size, 0, none⟩ (.int .i64 0)).setCell ⟨w.heap.size, 1, none⟩ (.int .i64 0)).setCell ⟨w.heap.size + 1, 0, none⟩ (.int .i64 0)).setCell ⟨w.heap.size + 1, 1, none⟩ (.int .i64 0)).cell? ⟨w.heap.size, 0, none⟩ = some (.int .i64 0) := cs_other (by simp) (cs_other (by simp) (cs_other (by simp) (cs_same p0)))
    have k1 : ((((w1.setCell ⟨w.heap.size, 0, none⟩ (.int .i64 0)).setCell ⟨w.heap.size, 1, none⟩ (.int .i64 0)).setCell ⟨w.heap.size + 1, 0, none⟩ (.int .i64 0)).setCell ⟨w.heap.size + 1, 1, none⟩ (.int .i64 0)).cell? ⟨w.heap.size, 1, none⟩ = some (.int .i64 0) := cs_other (by simp) (cs_other (by simp) (cs_same (cs_other (by simp) p1)))
    have k2 : ((((w1.setCell ⟨w.heap.size, 0, none⟩ (.int .i64 0)).setCell ⟨w.heap.size, 1, none⟩ (.int .i64 0)).setCell ⟨w.heap.size + 1, 0, none⟩ (.int .i64 0)).setCell ⟨w.heap.size + 1, 1, none⟩ (.int .i64 0)).cell? ⟨w.heap.size + 1, 0, none⟩ = some (.int .i64 0) := cs_other (by simp) (cs_same (cs_other (by simp) (cs_other (by simp) p2)))
    have k3 : ((((w1.setCell ⟨w.heap.size, 0, none⟩ (.int .i64 0)).setCell ⟨w.heap.size, 1, none⟩ (.int .i64 0)).setCell ⟨w.heap.size + 1, 0, none⟩ (.int .i64 0)).setCell ⟨w.heap.size + 1, 1, none⟩ (.int .i64 0)).cell? ⟨w.heap.size + 1, 1, none⟩ = some (.int .i64 0) := cs_same (cs_other (by simp) (cs_other (by simp) (cs_other (by simp) p3)))
    exact bodyPost_ret (v := .tuple #[.agg #[.int .i64 0, .int .i64 0], .agg #[.int .i64 0, .int .i64 0], .int .i64 20]) (by simp [results, Try.results42, go_sem, k0, k1, k2, k3]) rfl ⟨ret_cen E1.out.symm E2.out.symm E3.out.symm E4.out.symm E5.out.symm, by have := hB1.size; (repeat' (first | (with_reducible exact Below.refl _ _) | (with_reducible assumption) | (with_reducible refine Below.alloc ?_ ?_ _) | (with_reducible refine Below.drew ?_) | (with_reducible refine Below.setCell ?_ ?_ _) | go_size | (exact (by simp)) | omega))⟩
  | true =>
    rw [Geo.errV_yes hv, Geo.whenV_yes hv, Geo.whenV_yes hv] at H1
    obtain ⟨e1, e2⟩ := Geo.cen_yes hv Geo.fxV
    obtain ⟨e3, e4⟩ := Geo.cen_yes hv Geo.fyV
    have E1 := Lib.hid e1
    have E2 := Lib.hid e2
    have E3 := Lib.hid e3
    have E4 := Lib.hid e4
    have E5 := Lib.hid (Geo.errV_yes hv)
    have hsm := Geo.valid_sm hv
    have hlen := Geo.valid_len hv
    have hnz := hA ps hv
    have H2 : Hid (∀ W, Below w.heap.size w W → Calls Try.prog 73 #[.slice A ps.length c] W fun e w' => e = .returned (.int .i64 (Geo.tot Geo.fanV ps)) ∧ Below W.heap.size W w') := fun W hW => by rw [Geo.twice_eq ps (by omega)]; exact TwiceOf_any A c ps hsm hl (by omega) W (prs_keep hP hW)
    have b1 := fx_sum hsm hlen.2
    have b2 := fy_sum hsm hlen.2
    have b3 := fan_sum hsm hlen.2
    clear hP hl hv e1 e2 e3 e4 hA hsm hlen
    generalize Geo.tot Geo.fxV ps = X at *
    generalize Geo.tot Geo.fyV ps = Y at *
    generalize Geo.tot Geo.fanV ps = T at *
    have H3 : Hid (∀ W, Calls Try.prog 30 #[.int .i64 X, .int .i64 (3 * T)] W (RatPost (Geo.lowN X (3 * T)) (Geo.lowD X (3 * T)) W)) := fun W => Lowest_any X (3 * T) W b1 (by omega) (by omega)
    have H4 : Hid (∀ W, Calls Try.prog 30 #[.int .i64 Y, .int .i64 (3 * T)] W (RatPost (Geo.lowN Y (3 * T)) (Geo.lowD Y (3 * T)) W)) := fun W => Lowest_any Y (3 * T) W b2 (by omega) (by omega)
    have hw3 : IntKind.i64.wrap (3 * T) = 3 * T := IntWalk.i64_in _ (by omega)
    generalize Geo.lowN X (3 * T) = a1 at *
    generalize Geo.lowD X (3 * T) = a2 at *
    generalize Geo.lowN Y (3 * T) = a3 at *
    generalize Geo.lowD Y (3 * T) = a4 at *
    clear b1 b2 hnz
    obtain ⟨b31, b32⟩ := b3
    go_enter Try.func42, Try.ntmps42
    go_wp2_with fail
    have bA0 := (BoxS.new w 28 #[.int .i64 0, .int .i64 0]).alloc (.cells #[.int .i64 0, .int .i64 0] 28)
    have bC0 := BoxS.new (w.alloc (.cells #[.int .i64 0, .int .i64 0] 28)) 28 #[.int .i64 0, .int .i64 0]
    have hB0 : Below w.heap.size w ((w.alloc (.cells #[.int .i64 0, .int .i64 0] 28)).alloc (.cells #[.int .i64 0, .int .i64 0] 28)) := by (repeat' (first | (with_reducible exact Below.refl _ _) | (with_reducible assumption) | (with_reducible refine Below.alloc ?_ ?_ _) | (with_reducible refine below_drewN ?_ _) | (with_reducible refine Below.drew ?_) | (with_reducible refine Below.setCell ?_ ?_ _) | go_size))
    rw [World.size_alloc] at bC0
    generalize World.alloc _ _ = w0 at *
    refine (H1.out _ hB0).mono ?_
    rintro e w1 ⟨rfl, hb1⟩
    have bA1 := bA0.below hb1
    have bC1 := bC0.below hb1
    have hB1 : Below w.heap.size w w1 := hB0.trans (hb1.mono hB0.size)
    clear hb1
    go_wp2_with fail
    refine (H2.out _ hB1).mono ?_
    rintro e w2 ⟨rfl, hb2⟩
    have bA2 := bA1.below hb2
    have bC2 := bC1.below hb2
    have hB2 : Below w.heap.size w w2 := hB1.trans (hb2.mono hB1.size)
    clear hb2
    go_wp2_with fail
    refine (H3.out _).mono ?_
    rintro e w3 ⟨rfl, hb3⟩
    have bA3 := bA2.below hb3
    have bC3 := bC2.below hb3
    have hB3 : Below w.heap.size w w3 := hB2.trans (hb3.mono hB2.size)
    clear hb3
    go_wp2_with fail
    refine (H4.out _).mono ?_
    rintro e w4 ⟨rfl, hb4⟩
    have bA4 := bA3.below hb4
    have bC4 := bC3.below hb4
    have hB4 : Below w.heap.size w w4 := hB3.trans (hb4.mono hB3.size)
    clear hb4
    obtain ⟨p0, p1⟩ := boxS2 bA4
    obtain ⟨p2, p3⟩ := boxS2 bC4
    have f0 := bA4.frozen 0
    have f1 := bA4.frozen 1
    have f2 := bC4.frozen 0
    have f3 := bC4.frozen 1
    go_wp2_with fail
    have k0 : ((((w4.setCell ⟨w.heap.size, 0, none⟩ (.int .i64 a1)).setCell ⟨w.heap.size, 1, none⟩ (.int .i64 a2)).setCell ⟨w.heap.size + 1, 0, none⟩ (.int .i64 a3)).setCell ⟨w.heap.size + 1, 1, none⟩ (.int .i64 a4)).cell? ⟨w.heap.size, 0, none⟩ = some (.int .i64 a1) := cs_other (by simp) (cs_other (by simp) (cs_other (by simp) (cs_same p0)))
    have k1 : ((((w4.setCell ⟨w.heap.size, 0, none⟩ (.int .i64 a1)).setCell ⟨w.heap.size, 1, none⟩ (.int .i64 a2)).setCell ⟨w.heap.size + 1, 0, none⟩ (.int .i64 a3)).setCell ⟨w.heap.size + 1, 1, none⟩ (.int .i64 a4)).cell? ⟨w.heap.size, 1, none⟩ = some (.int .i64 a2) := cs_other (by simp) (cs_other (by simp) (cs_same (cs_other (by simp) p1)))
    have k2 : ((((w4.setCell ⟨w.heap.size, 0, none⟩ (.int .i64 a1)).setCell ⟨w.heap.size, 1, none⟩ (.int .i64 a2)).setCell ⟨w.heap.size + 1, 0, none⟩ (.int .i64 a3)).setCell ⟨w.heap.size + 1, 1, none⟩ (.int .i64 a4)).cell? ⟨w.heap.size + 1, 0, none⟩ = some (.int .i64 a3) := cs_other (by simp) (cs_same (cs_other (by simp) (cs_other (by simp) p2)))
    have k3 : ((((w4.setCell ⟨w.heap.size, 0, none⟩ (.int .i64 a1)).setCell ⟨w.heap.size, 1, none⟩ (.int .i64 a2)).setCell ⟨w.heap.size + 1, 0, none⟩ (.int .i64 a3)).setCell ⟨w.heap.size + 1, 1, none⟩ (.int .i64 a4)).cell? ⟨w.heap.size + 1, 1, none⟩ = some (.int .i64 a4) := cs_same (cs_other (by simp) (cs_other (by simp) (cs_other (by simp) p3)))
    exact bodyPost_ret (v := .tuple #[.agg #[.int .i64 a1, .int .i64 a2], .agg #[.int .i64 a3, .int .i64 a4], .int .i64 0]) (by simp [results, Try.results42, go_sem, k0, k1, k2, k3]) rfl ⟨ret_cen E1.out.symm E2.out.symm E3.out.symm E4.out.symm E5.out.symm, by have := hB4.size; (repeat' (first | (with_reducible exact Below.refl _ _) | (with_reducible assumption) | (with_reducible refine Below.alloc ?_ ?_ _) | (with_reducible refine Below.drew ?_) | (with_reducible refine Below.setCell ?_ ?_ _) | go_size | (exact (by simp)) | omega))⟩
end Go.Proofs.Ytkfnngcphcfbjaa
