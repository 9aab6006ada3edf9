/- Wheels: the law WheelsMore (P3.12). -/
import Derived.Test.YtecmlakcpgkfbaaMoreX
import Derived.Test.YtecmlakcpgkfbaaOneW
namespace Go.Proofs.Ytecmlakcpgkfbaa
open Go.RowKit
attribute [local go_sem] run_min5 run_max5
set_option maxRecDepth 100000 in
set_option maxHeartbeats 8000000 in
theorem More_early (d : Wh.Desk) (x : Wh.Wk) (xr xs xk xv xg : Int) (A : Option Addr) (c : Nat) (w : World) (RB : Bool) (hno : RB = true → min5 xr xs xk xv xg < 0 ∨ 10 < max5 xr xs xk xv xg)
    (HRD : Hid (∀ W, Below w.heap.size w W → Calls Try.prog 34 #[.agg (whV d), .slice A d.ws.length c] W (BoolPost RB W))) :
    Calls Try.prog 6 #[.agg (whV d), .slice A d.ws.length c, .agg #[.int .i64 x.1, .int .i64 x.2.1, .int .i64 x.2.2.1, .int .i64 x.2.2.2.1, .int .i64 x.2.2.2.2, .int .i64 xr, .int .i64 xs, .int .i64 xk, .int .i64 xv, .int .i64 xg]] w (BoolPost true w) := by
  have HWK : Hid (∀ W, Calls Try.prog 13 #[] W (BoolPost true W)) := works_any
  cases RB
  · clear hno
    obtain ⟨full, read, slip, skew, circ, glo, ghi, wrn, ws⟩ := d
    obtain ⟨x1, x2, x3, x4, x5⟩ := x
    unfold whV at *
    dsimp only at *
    go_enter Try.func6, Try.ntmps6
    go_wp2_with fail
    have bS1 := (BoxS.new w 25 #[.int .i64 full, .int .i64 read, .int .i64 slip, .int .i64 skew, .int .i64 circ, .int .i64 glo, .int .i64 ghi, .int .i64 wrn]).alloc (.cells #[.int .i64 x1, .int .i64 x2, .int .i64 x3, .int .i64 x4, .int .i64 x5, .int .i64 xr, .int .i64 xs, .int .i64 xk, .int .i64 xv, .int .i64 xg] 56)
    have bX1 := BoxS.new (w.alloc (.cells #[.int .i64 full, .int .i64 read, .int .i64 slip, .int .i64 skew, .int .i64 circ, .int .i64 glo, .int .i64 ghi, .int .i64 wrn] 25)) 56 #[.int .i64 x1, .int .i64 x2, .int .i64 x3, .int .i64 x4, .int .i64 x5, .int .i64 xr, .int .i64 xs, .int .i64 xk, .int .i64 xv, .int .i64 xg]
    rw [World.size_alloc] at bX1
    have hB1 : Below w.heap.size w ((w.alloc (.cells #[.int .i64 full, .int .i64 read, .int .i64 slip, .int .i64 skew, .int .i64 circ, .int .i64 glo, .int .i64 ghi, .int .i64 wrn] 25)).alloc (.cells #[.int .i64 x1, .int .i64 x2, .int .i64 x3, .int .i64 x4, .int .i64 x5, .int .i64 xr, .int .i64 xs, .int .i64 xk, .int .i64 xv, .int .i64 xg] 56)) := by (repeat' (first | (with_reducible exact Below.refl _ _) | (with_reducible assumption) | (with_reducible refine Below.alloc ?_ ?_ _) | (with_reducible refine Below.drew ?_) | (with_reducible refine Below.setCell ?_ ?_ _) | go_size | (exact (by simp)) | omega))
    generalize World.alloc (World.alloc w _) _ = w1 at *
    have cs0 : w1.cell? ⟨w.heap.size, 0, none⟩ = some (.int .i64 full) := bS1.cell 0 rfl
    have cs1 : w1.cell? ⟨w.heap.size, 1, none⟩ = some (.int .i64 read) := bS1.cell 1 rfl
    have cs2 : w1.cell? ⟨w.heap.size, 2, none⟩ = some (.int .i64 slip) := bS1.cell 2 rfl
    have cs3 : w1.cell? ⟨w.heap.size, 3, none⟩ = some (.int .i64 skew) := bS1.cell 3 rfl
    have cs4 : w1.cell? ⟨w.heap.size, 4, none⟩ = some (.int .i64 circ) := bS1.cell 4 rfl
    have cs5 : w1.cell? ⟨w.heap.size, 5, none⟩ = some (.int .i64 glo) := bS1.cell 5 rfl
    have cs6 : w1.cell? ⟨w.heap.size, 6, none⟩ = some (.int .i64 ghi) := bS1.cell 6 rfl
    have cs7 : w1.cell? ⟨w.heap.size, 7, none⟩ = some (.int .i64 wrn) := bS1.cell 7 rfl
    have lS1 := bS1.lt
    have cx0 : w1.cell? ⟨w.heap.size + 1, 0, none⟩ = some (.int .i64 x1) := bX1.cell 0 rfl
    have cx1 : w1.cell? ⟨w.heap.size + 1, 1, none⟩ = some (.int .i64 x2) := bX1.cell 1 rfl
    have cx2 : w1.cell? ⟨w.heap.size + 1, 2, none⟩ = some (.int .i64 x3) := bX1.cell 2 rfl
    have cx3 : w1.cell? ⟨w.heap.size + 1, 3, none⟩ = some (.int .i64 x4) := bX1.cell 3 rfl
    have cx4 : w1.cell? ⟨w.heap.size + 1, 4, none⟩ = some (.int .i64 x5) := bX1.cell 4 rfl
    have cx5 : w1.cell? ⟨w.heap.size + 1, 5, none⟩ = some (.int .i64 xr) := bX1.cell 5 rfl
    have cx6 : w1.cell? ⟨w.heap.size + 1, 6, none⟩ = some (.int .i64 xs) := bX1.cell 6 rfl
    have cx7 : w1.cell? ⟨w.heap.size + 1, 7, none⟩ = some (.int .i64 xk) := bX1.cell 7 rfl
    have cx8 : w1.cell? ⟨w.heap.size + 1, 8, none⟩ = some (.int .i64 xv) := bX1.cell 8 rfl
    have cx9 : w1.cell? ⟨w.heap.size + 1, 9, none⟩ = some (.int .i64 xg) := bX1.cell 9 rfl
    have lX1 := bX1.lt
    go_wp2_with fail
    refine (HRD.out _ hB1).mono ?_
    rintro e w2 ⟨rfl, hb2⟩
    have bS2 := bS1.below hb2
    have bX2 := bX1.below hb2
    have hB2 := hB1.trans (hb2.mono hB1.size)
    clear cs0 cs1 cs2 cs3 cs4 cs5 cs6 cs7 lS1 cx0 cx1 cx2 cx3 cx4 cx5 cx6 cx7 cx8 cx9 lX1 bS1 bX1 hB1 hb2
    have cs0 : w2.cell? ⟨w.heap.size, 0, none⟩ = some (.int .i64 full) := bS2.cell 0 rfl
    have cs1 : w2.cell? ⟨w.heap.size, 1, none⟩ = some (.int .i64 read) := bS2.cell 1 rfl
    have cs2 : w2.cell? ⟨w.heap.size, 2, none⟩ = some (.int .i64 slip) := bS2.cell 2 rfl
    have cs3 : w2.cell? ⟨w.heap.size, 3, none⟩ = some (.int .i64 skew) := bS2.cell 3 rfl
    have cs4 : w2.cell? ⟨w.heap.size, 4, none⟩ = some (.int .i64 circ) := bS2.cell 4 rfl
    have cs5 : w2.cell? ⟨w.heap.size, 5, none⟩ = some (.int .i64 glo) := bS2.cell 5 rfl
    have cs6 : w2.cell? ⟨w.heap.size, 6, none⟩ = some (.int .i64 ghi) := bS2.cell 6 rfl
    have cs7 : w2.cell? ⟨w.heap.size, 7, none⟩ = some (.int .i64 wrn) := bS2.cell 7 rfl
    have lS2 := bS2.lt
    have cx0 : w2.cell? ⟨w.heap.size + 1, 0, none⟩ = some (.int .i64 x1) := bX2.cell 0 rfl
    have cx1 : w2.cell? ⟨w.heap.size + 1, 1, none⟩ = some (.int .i64 x2) := bX2.cell 1 rfl
    have cx2 : w2.cell? ⟨w.heap.size + 1, 2, none⟩ = some (.int .i64 x3) := bX2.cell 2 rfl
    have cx3 : w2.cell? ⟨w.heap.size + 1, 3, none⟩ = some (.int .i64 x4) := bX2.cell 3 rfl
    have cx4 : w2.cell? ⟨w.heap.size + 1, 4, none⟩ = some (.int .i64 x5) := bX2.cell 4 rfl
    have cx5 : w2.cell? ⟨w.heap.size + 1, 5, none⟩ = some (.int .i64 xr) := bX2.cell 5 rfl
    have cx6 : w2.cell? ⟨w.heap.size + 1, 6, none⟩ = some (.int .i64 xs) := bX2.cell 6 rfl
    have cx7 : w2.cell? ⟨w.heap.size + 1, 7, none⟩ = some (.int .i64 xk) := bX2.cell 7 rfl
    have cx8 : w2.cell? ⟨w.heap.size + 1, 8, none⟩ = some (.int .i64 xv) := bX2.cell 8 rfl
    have cx9 : w2.cell? ⟨w.heap.size + 1, 9, none⟩ = some (.int .i64 xg) := bX2.cell 9 rfl
    have lX2 := bX2.lt
    go_wp2_with fail
    refine (HWK.out _).mono ?_
    rintro e wz ⟨rfl, hbz⟩
    have hBz := hB2.trans (hbz.mono hB2.size)
    go_wp2_with fail
    go_returns
    exact ⟨rfl, hBz⟩
  · by_cases h1 : min5 xr xs xk xv xg < 0
    · have q0a : decide (min5 xr xs xk xv xg < 0) = true := decide_eq_true h1
      clear hno h1
      obtain ⟨full, read, slip, skew, circ, glo, ghi, wrn, ws⟩ := d
      obtain ⟨x1, x2, x3, x4, x5⟩ := x
      unfold whV at *
      dsimp only at *
      go_enter Try.func6, Try.ntmps6
      go_wp2_with fail
      have bS1 := (BoxS.new w 25 #[.int .i64 full, .int .i64 read, .int .i64 slip, .int .i64 skew, .int .i64 circ, .int .i64 glo, .int .i64 ghi, .int .i64 wrn]).alloc (.cells #[.int .i64 x1, .int .i64 x2, .int .i64 x3, .int .i64 x4, .int .i64 x5, .int .i64 xr, .int .i64 xs, .int .i64 xk, .int .i64 xv, .int .i64 xg] 56)
      have bX1 := BoxS.new (w.alloc (.cells #[.int .i64 full, .int .i64 read, .int .i64 slip, .int .i64 skew, .int .i64 circ, .int .i64 glo, .int .i64 ghi, .int .i64 wrn] 25)) 56 #[.int .i64 x1, .int .i64 x2, .int .i64 x3, .int .i64 x4, .int .i64 x5, .int .i64 xr, .int .i64 xs, .int .i64 xk, .int .i64 xv, .int .i64 xg]
      rw [World.size_alloc] at bX1
      have hB1 : Below w.heap.size w ((w.alloc (.cells #[.int .i64 full, .int .i64 read, .int .i64 slip, .int .i64 skew, .int .i64 circ, .int .i64 glo, .int .i64 ghi, .int .i64 wrn] 25)).alloc (.cells #[.int .i64 x1, .int .i64 x2, .int .i64 x3, .int .i64 x4, .int .i64 x5, .int .i64 xr, .int .i64 xs, .int .i64 xk, .int .i64 xv, .int .i64 xg] 56)) := by (repeat' (first | (with_reducible exact Below.refl _ _) | (with_reducible assumption) | (with_reducible refine Below.alloc ?_ ?_ _) | (with_reducible refine Below.drew ?_) | (with_reducible refine Below.setCell ?_ ?_ _) | go_size | (exact (by simp)) | omega))
      generalize World.alloc (World.alloc w _) _ = w1 at *
      have cs0 : w1.cell? ⟨w.heap.size, 0, none⟩ = some (.int .i64 full) := bS1.cell 0 rfl
      have cs1 : w1.cell? ⟨w.heap.size, 1, none⟩ = some (.int .i64 read) := bS1.cell 1 rfl
      have cs2 : w1.cell? ⟨w.heap.size, 2, none⟩ = some (.int .i64 slip) := bS1.cell 2 rfl
      have cs3 : w1.cell? ⟨w.heap.size, 3, none⟩ = some (.int .i64 skew) := bS1.cell 3 rfl
      have cs4 : w1.cell? ⟨w.heap.size, 4, none⟩ = some (.int .i64 circ) := bS1.cell 4 rfl
      have cs5 : w1.cell? ⟨w.heap.size, 5, none⟩ = some (.int .i64 glo) := bS1.cell 5 rfl
      have cs6 : w1.cell? ⟨w.heap.size, 6, none⟩ = some (.int .i64 ghi) := bS1.cell 6 rfl
      have cs7 : w1.cell? ⟨w.heap.size, 7, none⟩ = some (.int .i64 wrn) := bS1.cell 7 rfl
      have lS1 := bS1.lt
      have cx0 : w1.cell? ⟨w.heap.size + 1, 0, none⟩ = some (.int .i64 x1) := bX1.cell 0 rfl
      have cx1 : w1.cell? ⟨w.heap.size + 1, 1, none⟩ = some (.int .i64 x2) := bX1.cell 1 rfl
      have cx2 : w1.cell? ⟨w.heap.size + 1, 2, none⟩ = some (.int .i64 x3) := bX1.cell 2 rfl
      have cx3 : w1.cell? ⟨w.heap.size + 1, 3, none⟩ = some (.int .i64 x4) := bX1.cell 3 rfl
      have cx4 : w1.cell? ⟨w.heap.size + 1, 4, none⟩ = some (.int .i64 x5) := bX1.cell 4 rfl
      have cx5 : w1.cell? ⟨w.heap.size + 1, 5, none⟩ = some (.int .i64 xr) := bX1.cell 5 rfl
      have cx6 : w1.cell? ⟨w.heap.size + 1, 6, none⟩ = some (.int .i64 xs) := bX1.cell 6 rfl
      have cx7 : w1.cell? ⟨w.heap.size + 1, 7, none⟩ = some (.int .i64 xk) := bX1.cell 7 rfl
      have cx8 : w1.cell? ⟨w.heap.size + 1, 8, none⟩ = some (.int .i64 xv) := bX1.cell 8 rfl
      have cx9 : w1.cell? ⟨w.heap.size + 1, 9, none⟩ = some (.int .i64 xg) := bX1.cell 9 rfl
      have lX1 := bX1.lt
      go_wp2_with fail
      refine (HRD.out _ hB1).mono ?_
      rintro e w2 ⟨rfl, hb2⟩
      have bS2 := bS1.below hb2
      have bX2 := bX1.below hb2
      have hB2 := hB1.trans (hb2.mono hB1.size)
      clear cs0 cs1 cs2 cs3 cs4 cs5 cs6 cs7 lS1 cx0 cx1 cx2 cx3 cx4 cx5 cx6 cx7 cx8 cx9 lX1 bS1 bX1 hB1 hb2
      have cs0 : w2.cell? ⟨w.heap.size, 0, none⟩ = some (.int .i64 full) := bS2.cell 0 rfl
      have cs1 : w2.cell? ⟨w.heap.size, 1, none⟩ = some (.int .i64 read) := bS2.cell 1 rfl
      have cs2 : w2.cell? ⟨w.heap.size, 2, none⟩ = some (.int .i64 slip) := bS2.cell 2 rfl
      have cs3 : w2.cell? ⟨w.heap.size, 3, none⟩ = some (.int .i64 skew) := bS2.cell 3 rfl
      have cs4 : w2.cell? ⟨w.heap.size, 4, none⟩ = some (.int .i64 circ) := bS2.cell 4 rfl
      have cs5 : w2.cell? ⟨w.heap.size, 5, none⟩ = some (.int .i64 glo) := bS2.cell 5 rfl
      have cs6 : w2.cell? ⟨w.heap.size, 6, none⟩ = some (.int .i64 ghi) := bS2.cell 6 rfl
      have cs7 : w2.cell? ⟨w.heap.size, 7, none⟩ = some (.int .i64 wrn) := bS2.cell 7 rfl
      have lS2 := bS2.lt
      have cx0 : w2.cell? ⟨w.heap.size + 1, 0, none⟩ = some (.int .i64 x1) := bX2.cell 0 rfl
      have cx1 : w2.cell? ⟨w.heap.size + 1, 1, none⟩ = some (.int .i64 x2) := bX2.cell 1 rfl
      have cx2 : w2.cell? ⟨w.heap.size + 1, 2, none⟩ = some (.int .i64 x3) := bX2.cell 2 rfl
      have cx3 : w2.cell? ⟨w.heap.size + 1, 3, none⟩ = some (.int .i64 x4) := bX2.cell 3 rfl
      have cx4 : w2.cell? ⟨w.heap.size + 1, 4, none⟩ = some (.int .i64 x5) := bX2.cell 4 rfl
      have cx5 : w2.cell? ⟨w.heap.size + 1, 5, none⟩ = some (.int .i64 xr) := bX2.cell 5 rfl
      have cx6 : w2.cell? ⟨w.heap.size + 1, 6, none⟩ = some (.int .i64 xs) := bX2.cell 6 rfl
      have cx7 : w2.cell? ⟨w.heap.size + 1, 7, none⟩ = some (.int .i64 xk) := bX2.cell 7 rfl
      have cx8 : w2.cell? ⟨w.heap.size + 1, 8, none⟩ = some (.int .i64 xv) := bX2.cell 8 rfl
      have cx9 : w2.cell? ⟨w.heap.size + 1, 9, none⟩ = some (.int .i64 xg) := bX2.cell 9 rfl
      have lX2 := bX2.lt
      go_wp2_with fail
      refine (HWK.out _).mono ?_
      rintro e wz ⟨rfl, hbz⟩
      have hBz := hB2.trans (hbz.mono hB2.size)
      go_wp2_with fail
      go_returns
      exact ⟨rfl, hBz⟩
    · have q0a : decide (min5 xr xs xk xv xg < 0) = false := decide_eq_false h1
      have q0b : decide (10 < max5 xr xs xk xv xg) = true := decide_eq_true ((hno rfl).resolve_left h1)
      clear hno h1
      obtain ⟨full, read, slip, skew, circ, glo, ghi, wrn, ws⟩ := d
      obtain ⟨x1, x2, x3, x4, x5⟩ := x
      unfold whV at *
      dsimp only at *
      go_enter Try.func6, Try.ntmps6
      go_wp2_with fail
      have bS1 := (BoxS.new w 25 #[.int .i64 full, .int .i64 read, .int .i64 slip, .int .i64 skew, .int .i64 circ, .int .i64 glo, .int .i64 ghi, .int .i64 wrn]).alloc (.cells #[.int .i64 x1, .int .i64 x2, .int .i64 x3, .int .i64 x4, .int .i64 x5, .int .i64 xr, .int .i64 xs, .int .i64 xk, .int .i64 xv, .int .i64 xg] 56)
      have bX1 := BoxS.new (w.alloc (.cells #[.int .i64 full, .int .i64 read, .int .i64 slip, .int .i64 skew, .int .i64 circ, .int .i64 glo, .int .i64 ghi, .int .i64 wrn] 25)) 56 #[.int .i64 x1, .int .i64 x2, .int .i64 x3, .int .i64 x4, .int .i64 x5, .int .i64 xr, .int .i64 xs, .int .i64 xk, .int .i64 xv, .int .i64 xg]
      rw [World.size_alloc] at bX1
      have hB1 : Below w.heap.size w ((w.alloc (.cells #[.int .i64 full, .int .i64 read, .int .i64 slip, .int .i64 skew, .int .i64 circ, .int .i64 glo, .int .i64 ghi, .int .i64 wrn] 25)).alloc (.cells #[.int .i64 x1, .int .i64 x2, .int .i64 x3, .int .i64 x4, .int .i64 x5, .int .i64 xr, .int .i64 xs, .int .i64 xk, .int .i64 xv, .int .i64 xg] 56)) := by (repeat' (first | (with_reducible exact Below.refl _ _) | (with_reducible assumption) | (with_reducible refine Below.alloc ?_ ?_ _) | (with_reducible refine Below.drew ?_) | (with_reducible refine Below.setCell ?_ ?_ _) | go_size | (exact (by simp)) | omega))
      generalize World.alloc (World.alloc w _) _ = w1 at *
      have cs0 : w1.cell? ⟨w.heap.size, 0, none⟩ = some (.int .i64 full) := bS1.cell 0 rfl
      have cs1 : w1.cell? ⟨w.heap.size, 1, none⟩ = some (.int .i64 read) := bS1.cell 1 rfl
      have cs2 : w1.cell? ⟨w.heap.size, 2, none⟩ = some (.int .i64 slip) := bS1.cell 2 rfl
      have cs3 : w1.cell? ⟨w.heap.size, 3, none⟩ = some (.int .i64 skew) := bS1.cell 3 rfl
      have cs4 : w1.cell? ⟨w.heap.size, 4, none⟩ = some (.int .i64 circ) := bS1.cell 4 rfl
      have cs5 : w1.cell? ⟨w.heap.size, 5, none⟩ = some (.int .i64 glo) := bS1.cell 5 rfl
      have cs6 : w1.cell? ⟨w.heap.size, 6, none⟩ = some (.int .i64 ghi) := bS1.cell 6 rfl
      have cs7 : w1.cell? ⟨w.heap.size, 7, none⟩ = some (.int .i64 wrn) := bS1.cell 7 rfl
      have lS1 := bS1.lt
      have cx0 : w1.cell? ⟨w.heap.size + 1, 0, none⟩ = some (.int .i64 x1) := bX1.cell 0 rfl
      have cx1 : w1.cell? ⟨w.heap.size + 1, 1, none⟩ = some (.int .i64 x2) := bX1.cell 1 rfl
      have cx2 : w1.cell? ⟨w.heap.size + 1, 2, none⟩ = some (.int .i64 x3) := bX1.cell 2 rfl
      have cx3 : w1.cell? ⟨w.heap.size + 1, 3, none⟩ = some (.int .i64 x4) := bX1.cell 3 rfl
      have cx4 : w1.cell? ⟨w.heap.size + 1, 4, none⟩ = some (.int .i64 x5) := bX1.cell 4 rfl
      have cx5 : w1.cell? ⟨w.heap.size + 1, 5, none⟩ = some (.int .i64 xr) := bX1.cell 5 rfl
      have cx6 : w1.cell? ⟨w.heap.size + 1, 6, none⟩ = some (.int .i64 xs) := bX1.cell 6 rfl
      have cx7 : w1.cell? ⟨w.heap.size + 1, 7, none⟩ = some (.int .i64 xk) := bX1.cell 7 rfl
      have cx8 : w1.cell? ⟨w.heap.size + 1, 8, none⟩ = some (.int .i64 xv) := bX1.cell 8 rfl
      have cx9 : w1.cell? ⟨w.heap.size + 1, 9, none⟩ = some (.int .i64 xg) := bX1.cell 9 rfl
      have lX1 := bX1.lt
      go_wp2_with fail
      refine (HRD.out _ hB1).mono ?_
      rintro e w2 ⟨rfl, hb2⟩
      have bS2 := bS1.below hb2
      have bX2 := bX1.below hb2
      have hB2 := hB1.trans (hb2.mono hB1.size)
      clear cs0 cs1 cs2 cs3 cs4 cs5 cs6 cs7 lS1 cx0 cx1 cx2 cx3 cx4 cx5 cx6 cx7 cx8 cx9 lX1 bS1 bX1 hB1 hb2
      have cs0 : w2.cell? ⟨w.heap.size, 0, none⟩ = some (.int .i64 full) := bS2.cell 0 rfl
      have cs1 : w2.cell? ⟨w.heap.size, 1, none⟩ = some (.int .i64 read) := bS2.cell 1 rfl
      have cs2 : w2.cell? ⟨w.heap.size, 2, none⟩ = some (.int .i64 slip) := bS2.cell 2 rfl
      have cs3 : w2.cell? ⟨w.heap.size, 3, none⟩ = some (.int .i64 skew) := bS2.cell 3 rfl
      have cs4 : w2.cell? ⟨w.heap.size, 4, none⟩ = some (.int .i64 circ) := bS2.cell 4 rfl
      have cs5 : w2.cell? ⟨w.heap.size, 5, none⟩ = some (.int .i64 glo) := bS2.cell 5 rfl
      have cs6 : w2.cell? ⟨w.heap.size, 6, none⟩ = some (.int .i64 ghi) := bS2.cell 6 rfl
      have cs7 : w2.cell? ⟨w.heap.size, 7, none⟩ = some (.int .i64 wrn) := bS2.cell 7 rfl
      have lS2 := bS2.lt
      have cx0 : w2.cell? ⟨w.heap.size + 1, 0, none⟩ = some (.int .i64 x1) := bX2.cell 0 rfl
      have cx1 : w2.cell? ⟨w.heap.size + 1, 1, none⟩ = some (.int .i64 x2) := bX2.cell 1 rfl
      have cx2 : w2.cell? ⟨w.heap.size + 1, 2, none⟩ = some (.int .i64 x3) := bX2.cell 2 rfl
      have cx3 : w2.cell? ⟨w.heap.size + 1, 3, none⟩ = some (.int .i64 x4) := bX2.cell 3 rfl
      have cx4 : w2.cell? ⟨w.heap.size + 1, 4, none⟩ = some (.int .i64 x5) := bX2.cell 4 rfl
      have cx5 : w2.cell? ⟨w.heap.size + 1, 5, none⟩ = some (.int .i64 xr) := bX2.cell 5 rfl
      have cx6 : w2.cell? ⟨w.heap.size + 1, 6, none⟩ = some (.int .i64 xs) := bX2.cell 6 rfl
      have cx7 : w2.cell? ⟨w.heap.size + 1, 7, none⟩ = some (.int .i64 xk) := bX2.cell 7 rfl
      have cx8 : w2.cell? ⟨w.heap.size + 1, 8, none⟩ = some (.int .i64 xv) := bX2.cell 8 rfl
      have cx9 : w2.cell? ⟨w.heap.size + 1, 9, none⟩ = some (.int .i64 xg) := bX2.cell 9 rfl
      have lX2 := bX2.lt
      go_wp2_with fail
      refine (HWK.out _).mono ?_
      rintro e wz ⟨rfl, hbz⟩
      have hBz := hB2.trans (hbz.mono hB2.size)
      go_wp2_with fail
      go_returns
      exact ⟨rfl, hBz⟩
theorem More_any (d : Wh.Desk) (x : Wh.Wk) (xr xs xk xv xg : Int) (A : Option Addr) (c : Nat) (w : World) (hl : d.ws.length ≤ 1000000000) (hg : Wks w w.heap.size A d.ws) :
    Calls Try.prog 6 #[.agg (whV d), .slice A d.ws.length c, .agg #[.int .i64 x.1, .int .i64 x.2.1, .int .i64 x.2.2.1, .int .i64 x.2.2.2.1, .int .i64 x.2.2.2.2, .int .i64 xr, .int .i64 xs, .int .i64 xk, .int .i64 xv, .int .i64 xg]] w (BoolPost true w) := by
  have HRD : Hid (∀ W, Below w.heap.size w W → Calls Try.prog 34 #[.agg (whV d), .slice A d.ws.length c] W (BoolPost (Wh.readyB d) W)) := fun W hW => ready3_any d A c W hl ((hg.keep hW).wider hW.size)
  by_cases hno : Wh.readyB d = true → min5 xr xs xk xv xg < 0 ∨ 10 < max5 xr xs xk xv xg
  · exact More_early d x xr xs xk xv xg A c w _ hno HRD
  have hr : Wh.readyB d = true := Classical.byContradiction fun h => hno fun h2 => absurd h2 h
  have hmm : ¬ (min5 xr xs xk xv xg < 0 ∨ 10 < max5 xr xs xk xv xg) := fun h => hno fun _ => h
  have q0a : decide (min5 xr xs xk xv xg < 0) = false := decide_eq_false fun h => hmm (.inl h)
  have q0b : decide (10 < max5 xr xs xk xv xg) = false := decide_eq_false fun h => hmm (.inr h)
  have hb : (0 ≤ xr ∧ xr ≤ 10) ∧ (0 ≤ xs ∧ xs ≤ 10) ∧ (0 ≤ xk ∧ xk ≤ 10) ∧ (0 ≤ xv ∧ xv ≤ 10) ∧ (0 ≤ xg ∧ xg ≤ 10) := by
    unfold min5 max5 at hmm
    omega
  obtain ⟨hok, hsp, hl4⟩ := Wh.ready_ok' hr
  have hd := Wh.ok_of hok
  rw [hr] at HRD
  have r1 := hd.r1
  have r2 := hd.r2
  have s1 := hd.s1
  have s2 := hd.s2
  have k1 := hd.k1
  have k2 := hd.k2
  have g1 := hd.g1
  have g2 := hd.g2
  have g3 := hd.g3
  have w1 := hd.w1
  have w2 := hd.w2
  have v1 : IntKind.i64.wrap (d.read + xr) = d.read + xr := IntWalk.i64_in _ (by omega)
  have v2 : IntKind.i64.wrap (d.slip + xs) = d.slip + xs := IntWalk.i64_in _ (by omega)
  have v3 : IntKind.i64.wrap (d.skew + xk) = d.skew + xk := IntWalk.i64_in _ (by omega)
  have v4 : IntKind.i64.wrap (d.wr + xv) = d.wr + xv := IntWalk.i64_in _ (by omega)
  have v5 : IntKind.i64.wrap (d.glo - xg) = d.glo - xg := IntWalk.i64_in _ (by omega)
  have v6 : IntKind.i64.wrap (d.ghi + xg) = d.ghi + xg := IntWalk.i64_in _ (by omega)
  have HWK : Hid (∀ W, Calls Try.prog 13 #[] W (BoolPost true W)) := works_any
  have kn : ∀ e : Int, e = 0 ∨ e = 3 → ∀ W, Calls Try.prog 35 #[.int .i64 e] W fun e w' => e = .returned (.bool true) ∧ w' = W := fun e he W => by
    have := isKnown3_any e W
    rw [show (decide (e = 0) || decide (e = 3)) = true from by rcases he with h | h <;> rw [h] <;> rfl] at this
    exact this
  have HMN : Hid (∀ W, Below w.heap.size w W → Calls Try.prog 18 #[.agg (whV d), .slice A d.ws.length c] W (TwoPost (Wh.manyV d) (Wh.spE d) W)) := fun W hW => Many_any d A c W hl ((hg.keep hW).wider hW.size)
  have HBD : Hid (∀ W, Below w.heap.size w W → Calls Try.prog 23 #[.agg (whV d), .slice A d.ws.length c] W (BoundPost (Wh.boundV d) (Wh.spE d) W)) := fun W hW => Bound_any d A c W hl ((hg.keep hW).wider hW.size)
  have HAR : Hid (∀ W, Below w.heap.size w W → Calls Try.prog 20 #[.agg (whV d), .slice A d.ws.length c] W (IntsEPost (Wh.areasV d) (Wh.spE d) W)) := fun W hW => Areas_any d A c W hl ((hg.keep hW).wider hW.size)
  have hla := Wh.areas_span hok hsp
  have lp : (Wh.pushD d x).ws.length = d.ws.length + 1 := by unfold Wh.pushD; simp
  have hlp : (Wh.pushD d x).ws.length ≤ 1000000000 := by omega
  have HRP : Hid (∀ A' c' W, Wks W W.heap.size A' (d.ws ++ [x]) → Calls Try.prog 34 #[.agg (whV d), .slice A' (d.ws.length + 1) c'] W (BoolPost (Wh.readyB (Wh.pushD d x)) W)) := fun A' c' W hW => by
    have := ready3_any (Wh.pushD d x) A' c' W hlp hW
    rw [lp] at this
    exact this
  have HMP : Hid (∀ A' c' W, Wks W W.heap.size A' (d.ws ++ [x]) → Calls Try.prog 18 #[.agg (whV d), .slice A' (d.ws.length + 1) c'] W (TwoPost (Wh.manyV (Wh.pushD d x)) (Wh.spE (Wh.pushD d x)) W)) := fun A' c' W hW => by
    have := Many_any (Wh.pushD d x) A' c' W hlp hW
    rw [lp] at this
    exact this
  have HBP : Hid (∀ A' c' W, Wks W W.heap.size A' (d.ws ++ [x]) → Calls Try.prog 23 #[.agg (whV d), .slice A' (d.ws.length + 1) c'] W (BoundPost (Wh.boundV (Wh.pushD d x)) (Wh.spE (Wh.pushD d x)) W)) := fun A' c' W hW => by
    have := Bound_any (Wh.pushD d x) A' c' W hlp hW
    rw [lp] at this
    exact this
  have HRO : Hid (∀ W, Below w.heap.size w W → Calls Try.prog 34 #[.agg (whV (Wh.moreD d xr xs xk xv xg)), .slice A d.ws.length c] W (BoolPost (Wh.readyB (Wh.moreD d xr xs xk xv xg)) W)) := fun W hW => ready3_any (Wh.moreD d xr xs xk xv xg) A c W hl ((hg.keep hW).wider hW.size)
  have HAO : Hid (Wh.readyB (Wh.moreD d xr xs xk xv xg) = true → ∀ W, Below w.heap.size w W → Calls Try.prog 20 #[.agg (whV (Wh.moreD d xr xs xk xv xg)), .slice A d.ws.length c] W (IntsEPost (Wh.areasV (Wh.moreD d xr xs xk xv xg)) (Wh.spE (Wh.moreD d xr xs xk xv xg)) W)) := fun _ W hW => Areas_any (Wh.moreD d xr xs xk xv xg) A c W hl ((hg.keep hW).wider hW.size)
  rcases Wh.sp_or hok with h0 | h0
  · have HSB : Hid (Wh.readyB (Wh.moreD d xr xs xk xv xg) = true → Wh.spE (Wh.moreD d xr xs xk xv xg) = 0 ∧ (Wh.areasV (Wh.moreD d xr xs xk xv xg)).length ≤ 100 ∧ (∀ y ∈ Wh.areasV d, y ∈ Wh.areasV (Wh.moreD d xr xs xk xv xg)) ∧ (Wh.areasV d).length ≤ (Wh.areasV (Wh.moreD d xr xs xk xv xg)).length) := fun h => by
      obtain ⟨ho1, ho2, _⟩ := Wh.ready_ok' h
      have hsub := Wh.more_sub hd hb.1.1 hb.2.1.1 hb.2.2.1.1 hb.2.2.2.1.1 hb.2.2.2.2.1 (Wh.ok_of ho1)
      exact ⟨Wh.sub_sp ho1 hsub h0, Wh.areas_span ho1 ho2, Wh.sub_areas ho1 hsub h0⟩
    have HKN := Lib.hid (kn 0 (.inl rfl))
    rw [h0] at HMN HBD HAR
    cases hrp : Wh.readyB (Wh.pushD d x)
    · rw [hrp] at HRP
      exact More_0F _ _ _ _ _ _ _ _ d.ws A c _ _ _ _ _ xr xs xk xv xg w (Wh.areasV d) (Wh.areasV (Wh.moreD d xr xs xk xv xg)) (Wh.manyV d) (Wh.spE (Wh.moreD d xr xs xk xv xg)) (Wh.boundV d) (Wh.readyB (Wh.moreD d xr xs xk xv xg)) (Lib.hid hg) (by omega) q0a q0b (decide_eq_false (by omega)) hla v1 v2 v3 v4 v5 v6 HWK HRD HMN HBD HAR HKN HRP HRO HAO HSB
    · rw [hrp] at HRP
      have hop := (Wh.ready_ok' hrp).1
      have hsubp : ∀ t ∈ Wh.truthsL (Wh.pushD d x), t ∈ Wh.truthsL d := fun t ht => (Wh.truths_push hd (Wh.ok_of hop) ht).1
      rcases Wh.sp_or hop with hp | hp
      · have HKP := Lib.hid (kn 0 (.inl rfl))
        rw [hp] at HMP HBP
        have p1 := Wh.push_many hok hop hp
        obtain ⟨p2, p3, p4⟩ := Wh.sub_bound hok hsubp hp
        have m1 : decide (Wh.manyV d < Wh.manyV (Wh.pushD d x)) = false := decide_eq_false (by omega)
        have m2 : decide ((Wh.boundV (Wh.pushD d x)).1 < (Wh.boundV d).1) = false := decide_eq_false (by omega)
        have m3 : decide ((Wh.boundV d).2 < (Wh.boundV (Wh.pushD d x)).2) = false := decide_eq_false (by omega)
        have m4 : decide ((Wh.boundV (Wh.pushD d x)).2 < (Wh.boundV (Wh.pushD d x)).1) = false := decide_eq_false (by omega)
        exact More_00 _ _ _ _ _ _ _ _ d.ws A c _ _ _ _ _ xr xs xk xv xg w (Wh.areasV d) (Wh.areasV (Wh.moreD d xr xs xk xv xg)) (Wh.manyV d) (Wh.manyV (Wh.pushD d x)) (Wh.spE (Wh.moreD d xr xs xk xv xg)) (Wh.boundV d) (Wh.boundV (Wh.pushD d x)) (Wh.readyB (Wh.moreD d xr xs xk xv xg)) (Lib.hid hg) (by omega) q0a q0b (decide_eq_false (by omega)) hla v1 v2 v3 v4 v5 v6 HWK HRD HMN HBD HAR HKN HRP HMP HBP HKP m1 m2 m3 m4 HRO HAO HSB
      · have HKP := Lib.hid (kn 3 (.inr rfl))
        rw [hp] at HMP HBP
        exact More_03 _ _ _ _ _ _ _ _ d.ws A c _ _ _ _ _ xr xs xk xv xg w (Wh.areasV d) (Wh.areasV (Wh.moreD d xr xs xk xv xg)) (Wh.manyV d) (Wh.manyV (Wh.pushD d x)) (Wh.spE (Wh.moreD d xr xs xk xv xg)) (Wh.boundV d) (Wh.boundV (Wh.pushD d x)) (Wh.readyB (Wh.moreD d xr xs xk xv xg)) (Lib.hid hg) (by omega) q0a q0b (decide_eq_false (by omega)) hla v1 v2 v3 v4 v5 v6 HWK HRD HMN HBD HAR HKN HRP HMP HBP HKP HRO HAO HSB
  · have HKN := Lib.hid (kn 3 (.inr rfl))
    rw [h0] at HMN HBD HAR
    cases hrp : Wh.readyB (Wh.pushD d x)
    · rw [hrp] at HRP
      exact More_3F _ _ _ _ _ _ _ _ d.ws A c _ _ _ _ _ xr xs xk xv xg w (Wh.areasV d) (Wh.areasV (Wh.moreD d xr xs xk xv xg)) (Wh.manyV d) (Wh.spE (Wh.moreD d xr xs xk xv xg)) (Wh.boundV d) (Wh.readyB (Wh.moreD d xr xs xk xv xg)) (Lib.hid hg) (by omega) q0a q0b (decide_eq_false (by omega)) hla v1 v2 v3 v4 v5 v6 HWK HRD HMN HBD HAR HKN HRP HRO HAO
    · rw [hrp] at HRP
      have hop := (Wh.ready_ok' hrp).1
      have hsubp : ∀ t ∈ Wh.truthsL (Wh.pushD d x), t ∈ Wh.truthsL d := fun t ht => (Wh.truths_push hd (Wh.ok_of hop) ht).1
      rcases Wh.sp_or hop with hp | hp
      · have := Wh.sub_sp hok hsubp hp
        omega
      · have HKP := Lib.hid (kn 3 (.inr rfl))
        rw [hp] at HMP HBP
        exact More_33 _ _ _ _ _ _ _ _ d.ws A c _ _ _ _ _ xr xs xk xv xg w (Wh.areasV d) (Wh.areasV (Wh.moreD d xr xs xk xv xg)) (Wh.manyV d) (Wh.manyV (Wh.pushD d x)) (Wh.spE (Wh.moreD d xr xs xk xv xg)) (Wh.boundV d) (Wh.boundV (Wh.pushD d x)) (Wh.readyB (Wh.moreD d xr xs xk xv xg)) (Lib.hid hg) (by omega) q0a q0b (decide_eq_false (by omega)) hla v1 v2 v3 v4 v5 v6 HWK HRD HMN HBD HAR HKN HRP HMP HBP HKP HRO HAO
theorem More_all (d : Wh.Desk) (x : Wh.Wk) (xr xs xk xv xg : Int) (A : Option Addr) (c : Nat) (w : World) (hg : Wks w w.heap.size A d.ws) :
    Calls Try.prog 6 #[.agg (whV d), .slice A d.ws.length c, .agg #[.int .i64 x.1, .int .i64 x.2.1, .int .i64 x.2.2.1, .int .i64 x.2.2.2.1, .int .i64 x.2.2.2.2, .int .i64 xr, .int .i64 xs, .int .i64 xk, .int .i64 xv, .int .i64 xg]] w (BoolPost true w) := by
  by_cases h40 : 40 < d.ws.length
  · exact More_early d x xr xs xk xv xg A c w false (fun h => by cases h) (fun W _ => ready3_long d A c W h40)
  · exact More_any d x xr xs xk xv xg A c w (by omega) hg
section
open Go.ChangeShapes Go.WideShapes Go.ChangeAt Go.RowKit Go.Joins Go.Deep
variable {H : Type} {enc : TypeId × Value → H} {w : World} {base : Nat} {spare : Nat → Bool} {held : Bool} {r : Reach} {b0 : Nat} {v : Value} {d : DataW H} {p : List MemPlace}
set_option maxRecDepth 100000 in
theorem open_More (hv : Value.okWide Try.prog w r b0 56 v) (h : DataW.Trod enc Try.prog w base spare held 56 v d p) :
    ∃ x1 x2 x3 x4 x5 xr xs xk xv xg : Int, v = .agg #[.int .i64 x1, .int .i64 x2, .int .i64 x3, .int .i64 x4, .int .i64 x5, .int .i64 xr, .int .i64 xs, .int .i64 xk, .int .i64 xv, .int .i64 xg] := by
  obtain ⟨cs, rfl, hsz⟩ := okWide_struct Try.underlying56 hv
  obtain ⟨l⟩ := cs
  match l, hsz.trans (by kernel_rfl : Try.prog.cellsOf 56 = 10) with
  | [c0, c1, c2, c3, c4, c5, c6, c7, c8, c9], _ =>
    obtain ⟨fuel, hf⟩ := h
    obtain ⟨xs, n, _, hx, _, hlen, hg⟩ := DataW.trod_struct Try.underlying56 hf
    match xs, hlen with
    | [y0, y1, y2, y3, y4, y5], _ =>
      have g0 := hg 0 _ rfl
      have g1 := hg 1 _ rfl
      have g2 := hg 2 _ rfl
      have g3 := hg 3 _ rfl
      have g4 := hg 4 _ rfl
      have g5 := hg 5 _ rfl
      simp [Value.cells, cells_int4, cells_wk5] at g0 g1 g2 g3 g4 g5
      obtain ⟨⟨q1, q2, q3, q4, q5⟩, e0, e1, e2, e3, e4⟩ := trod_wk_cells g0
      dsimp only at e0 e1 e2 e3 e4
      obtain ⟨f1, e5, rfl, _⟩ := DataW.trod_int Try.underlying3 g1
      obtain ⟨f2, e6, rfl, _⟩ := DataW.trod_int Try.underlying3 g2
      obtain ⟨f3, e7, rfl, _⟩ := DataW.trod_int Try.underlying3 g3
      obtain ⟨f4, e8, rfl, _⟩ := DataW.trod_int Try.underlying3 g4
      obtain ⟨f5, e9, rfl, _⟩ := DataW.trod_int Try.underlying3 g5
      simp at e5 e6 e7 e8 e9
      subst e0 e1 e2 e3 e4 e5 e6 e7 e8 e9
      exact ⟨q1, q2, q3, q4, q5, f1, f2, f3, f4, f5, rfl⟩
end
theorem lawMore_walk (f1 f2 f3 f4 f5 f6 f7 f8 : Int) (A : Option Addr) (c : Nat) (ws : List Wh.Wk) (x1 x2 x3 x4 x5 xr xs xk xv xg : Int) (w : World) (_hl : ws.length ≤ maxLen) (hg : Wks w w.heap.size A ws) :
    Calls Try.prog 6 #[.agg #[.int .i64 f1, .int .i64 f2, .int .i64 f3, .int .i64 f4, .int .i64 f5, .int .i64 f6, .int .i64 f7, .int .i64 f8], .slice A ws.length c, .agg #[.int .i64 x1, .int .i64 x2, .int .i64 x3, .int .i64 x4, .int .i64 x5, .int .i64 xr, .int .i64 xs, .int .i64 xk, .int .i64 xv, .int .i64 xg]] w fun e w' => e = .returned (.bool true) ∧ Below w.heap.size w w' := More_all ⟨f1, f2, f3, f4, f5, f6, f7, f8, ws⟩ (x1, x2, x3, x4, x5) xr xs xk xv xg A c w hg

open Go.ChangeShapes Go.WideShapes Go.ChangeAt Go.RowKit Go.Joins

set_option maxRecDepth 100000 in
theorem more3_lifted (os : Os) (started : os.Started) (H : Type) (enc : TypeId × Value → H) :
    ReturnsInHanded {} Try.checked os 6 .any (Rows.wheelsMoreSpec.pre6 enc Try.prog Try.f6 Rows.wheelsMoreRow.domain false) (Rows.wheelsMoreSpec.post enc Try.prog Try.f6 false true false false) := by
  refine returnsInHanded_of_change (C := Try.checked) own started (by kernel_rfl) Try.func6
    (ChangeSpec.witness6 (enc := enc) (C := Try.checked) false ⟨#[], #[.agg #[.int .i64 0, .int .i64 0, .int .i64 0, .int .i64 0, .int .i64 0, .int .i64 0, .int .i64 0, .int .i64 0], .slice none 0 0, .agg #[.int .i64 0, .int .i64 0, .int .i64 0, .int .i64 0, .int .i64 0, .int .i64 0, .int .i64 0, .int .i64 0, .int .i64 0, .int .i64 0]], []⟩ 8 (by kernel_rfl) (by kernel_rfl) (by kernel_rfl) (by kernel_rfl)) ?_
  intro W base args ds gs before hval0 hW hcnd _
  have hval : ∀ (j : Nat) t v, Try.f6.params[j]? = some t → args[j]? = some v → Value.okWide Try.prog W .any base t v := hval0
  have hW' := hW
  obtain ⟨p, q, hA0, hV, rfl, hfz, hnd⟩ := hW
  have hA : DataW.TrodAll enc Try.prog W 0 (fun _ => true) true Try.f6.params.toList args.toList ds p := hA0
  rw [Try.params6] at hA hval
  obtain ⟨v0, v1, v2, d0, d1, d2, p0, p1, p2, rfl, rfl, rfl, h0, h1, h2⟩ := trodAll_three hA
  obtain ⟨rfl, rfl⟩ := trodVars_none hV
  obtain ⟨f1, f2, f3, f4, f5, f6, f7, f8, rfl⟩ := open_Wheel (hval 0 25 v0 rfl rfl) h0
  obtain ⟨A, c, ws, rfl, hg_ws, hl_ws, hc_ws⟩ := open_Walks (hval 1 26 v1 rfl rfl) h1
  obtain ⟨x1, x2, x3, x4, x5, xr, xs, xk, xv, xg, rfl⟩ := open_More (hval 2 56 v2 rfl rfl) h2
  refine (lawMore_walk f1 f2 f3 f4 f5 f6 f7 f8 A c ws x1 x2 x3 x4 x5 xr xs xk xv xg W hl_ws hg_ws).mono fun e W' ⟨he, hb⟩ => ?_
  subst he
  exact ⟨_, rfl, law_post hW' rfl rfl (by intro t ht; have : t = 25 ∨ t = 26 ∨ t = 56 := (by rw [Try.params6] at ht; simpa using ht); rcases this with rfl | rfl | rfl <;> exact ⟨by kernel_rfl, of_decide_eq_true (by kernel_rfl)⟩) rfl rfl rfl hb⟩

theorem more3_holds : Rows.WheelsMoreSaid :=
  OpenClaim.holds_of_wide 6 Try.f6 rfl rfl rfl rfl rfl rfl rfl ⟨rfl, rfl, rfl, rfl, rfl⟩ rfl rfl rfl rfl rfl (by kernel_rfl) Try.func6 (by kernel_rfl)
    (of_decide_eq_true (by kernel_rfl)) (by unfold Func.isWrapper; rw [if_neg (of_decide_eq_false (by kernel_rfl))]; exact ⟨rfl, rfl⟩)
    (fun os started H enc _ => more3_lifted os started H enc)
end Go.Proofs.Ytecmlakcpgkfbaa
