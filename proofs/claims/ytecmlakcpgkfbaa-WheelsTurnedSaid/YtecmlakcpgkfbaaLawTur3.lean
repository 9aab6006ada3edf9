/- Wheels: the law WheelsTurned (P3.14). -/
import Derived.Test.YtecmlakcpgkfbaaTurW3
namespace Go.Proofs.Ytecmlakcpgkfbaa
open Go.RowKit
set_option maxRecDepth 100000 in
set_option maxHeartbeats 8000000 in
theorem Turned_early (d : Wh.Desk) (yw yb yf : Int) (A : Option Addr) (c : Nat) (w : World) (RB : Bool) (hno : RB = true → ¬ ((0 ≤ yb ∧ yb ≤ 10000) ∧ 0 ≤ yf ∧ yf ≤ 100))
    (HRD : Hid (∀ W, Below w.heap.size w W → Calls Try.prog 34 #[.agg (whV d), .slice A d.ws.length c] W (BoolPost RB W))) :
    Calls Try.prog 8 #[.agg (whV d), .slice A d.ws.length c, .agg #[.int .i64 yw, .int .i64 yb, .int .i64 yf]] w (BoolPost true w) := by
  have HWK : Hid (∀ W, Calls Try.prog 13 #[] W (BoolPost true W)) := works_any
  cases RB
  · clear hno
    obtain ⟨full, read, slip, skew, circ, glo, ghi, wrn, ws⟩ := d
    unfold whV at *
    dsimp only at *
    go_enter Try.func8, Try.ntmps8
    go_wp2_with fail
    have bS1 := (BoxS.new w 25 #[.int .i64 full, .int .i64 read, .int .i64 slip, .int .i64 skew, .int .i64 circ, .int .i64 glo, .int .i64 ghi, .int .i64 wrn]).alloc (.cells #[.int .i64 yw, .int .i64 yb, .int .i64 yf] 59)
    have bX1 := BoxS.new (w.alloc (.cells #[.int .i64 full, .int .i64 read, .int .i64 slip, .int .i64 skew, .int .i64 circ, .int .i64 glo, .int .i64 ghi, .int .i64 wrn] 25)) 59 #[.int .i64 yw, .int .i64 yb, .int .i64 yf]
    rw [World.size_alloc] at bX1
    have hB1 : Below w.heap.size w ((w.alloc (.cells #[.int .i64 full, .int .i64 read, .int .i64 slip, .int .i64 skew, .int .i64 circ, .int .i64 glo, .int .i64 ghi, .int .i64 wrn] 25)).alloc (.cells #[.int .i64 yw, .int .i64 yb, .int .i64 yf] 59)) := by (repeat' (first | (with_reducible exact Below.refl _ _) | (with_reducible assumption) | (with_reducible refine Below.alloc ?_ ?_ _) | (with_reducible refine Below.drew ?_) | (with_reducible refine Below.setCell ?_ ?_ _) | go_size | (exact (by simp)) | omega))
    generalize World.alloc (World.alloc w _) _ = w1 at *
    have cs0 : w1.cell? ⟨w.heap.size, 0, none⟩ = some (.int .i64 full) := bS1.cell 0 rfl
    have cs1 : w1.cell? ⟨w.heap.size, 1, none⟩ = some (.int .i64 read) := bS1.cell 1 rfl
    have cs2 : w1.cell? ⟨w.heap.size, 2, none⟩ = some (.int .i64 slip) := bS1.cell 2 rfl
    have cs3 : w1.cell? ⟨w.heap.size, 3, none⟩ = some (.int .i64 skew) := bS1.cell 3 rfl
    have cs4 : w1.cell? ⟨w.heap.size, 4, none⟩ = some (.int .i64 circ) := bS1.cell 4 rfl
    have cs5 : w1.cell? ⟨w.heap.size, 5, none⟩ = some (.int .i64 glo) := bS1.cell 5 rfl
    have cs6 : w1.cell? ⟨w.heap.size, 6, none⟩ = some (.int .i64 ghi) := bS1.cell 6 rfl
    have cs7 : w1.cell? ⟨w.heap.size, 7, none⟩ = some (.int .i64 wrn) := bS1.cell 7 rfl
    have lS1 := bS1.lt
    have cx0 : w1.cell? ⟨w.heap.size + 1, 0, none⟩ = some (.int .i64 yw) := bX1.cell 0 rfl
    have cx1 : w1.cell? ⟨w.heap.size + 1, 1, none⟩ = some (.int .i64 yb) := bX1.cell 1 rfl
    have cx2 : w1.cell? ⟨w.heap.size + 1, 2, none⟩ = some (.int .i64 yf) := bX1.cell 2 rfl
    have lX1 := bX1.lt
    go_wp2_with fail
    refine (HRD.out _ hB1).mono ?_
    rintro e w2 ⟨rfl, hb2⟩
    have bS2 := bS1.below hb2
    have bX2 := bX1.below hb2
    have hB2 := hB1.trans (hb2.mono hB1.size)
    clear cs0 cs1 cs2 cs3 cs4 cs5 cs6 cs7 lS1 cx0 cx1 cx2 lX1 bS1 bX1 hB1 hb2
    have cs0 : w2.cell? ⟨w.heap.size, 0, none⟩ = some (.int .i64 full) := bS2.cell 0 rfl
    have cs1 : w2.cell? ⟨w.heap.size, 1, none⟩ = some (.int .i64 read) := bS2.cell 1 rfl
    have cs2 : w2.cell? ⟨w.heap.size, 2, none⟩ = some (.int .i64 slip) := bS2.cell 2 rfl
    have cs3 : w2.cell? ⟨w.heap.size, 3, none⟩ = some (.int .i64 skew) := bS2.cell 3 rfl
    have cs4 : w2.cell? ⟨w.heap.size, 4, none⟩ = some (.int .i64 circ) := bS2.cell 4 rfl
    have cs5 : w2.cell? ⟨w.heap.size, 5, none⟩ = some (.int .i64 glo) := bS2.cell 5 rfl
    have cs6 : w2.cell? ⟨w.heap.size, 6, none⟩ = some (.int .i64 ghi) := bS2.cell 6 rfl
    have cs7 : w2.cell? ⟨w.heap.size, 7, none⟩ = some (.int .i64 wrn) := bS2.cell 7 rfl
    have lS2 := bS2.lt
    have cx0 : w2.cell? ⟨w.heap.size + 1, 0, none⟩ = some (.int .i64 yw) := bX2.cell 0 rfl
    have cx1 : w2.cell? ⟨w.heap.size + 1, 1, none⟩ = some (.int .i64 yb) := bX2.cell 1 rfl
    have cx2 : w2.cell? ⟨w.heap.size + 1, 2, none⟩ = some (.int .i64 yf) := bX2.cell 2 rfl
    have lX2 := bX2.lt
    go_wp2_with fail
    refine (HWK.out _).mono ?_
    rintro e wz ⟨rfl, hbz⟩
    have hBz := hB2.trans (hbz.mono hB2.size)
    go_wp2_with fail
    go_returns
    exact ⟨rfl, hBz⟩
  · have hno2 := hno rfl
    clear hno
    by_cases h1 : yb < 0
    · have t0 : decide (yb < 0) = true := decide_eq_true h1
      clear hno2 h1
      obtain ⟨full, read, slip, skew, circ, glo, ghi, wrn, ws⟩ := d
      unfold whV at *
      dsimp only at *
      go_enter Try.func8, Try.ntmps8
      go_wp2_with fail
      have bS1 := (BoxS.new w 25 #[.int .i64 full, .int .i64 read, .int .i64 slip, .int .i64 skew, .int .i64 circ, .int .i64 glo, .int .i64 ghi, .int .i64 wrn]).alloc (.cells #[.int .i64 yw, .int .i64 yb, .int .i64 yf] 59)
      have bX1 := BoxS.new (w.alloc (.cells #[.int .i64 full, .int .i64 read, .int .i64 slip, .int .i64 skew, .int .i64 circ, .int .i64 glo, .int .i64 ghi, .int .i64 wrn] 25)) 59 #[.int .i64 yw, .int .i64 yb, .int .i64 yf]
      rw [World.size_alloc] at bX1
      have hB1 : Below w.heap.size w ((w.alloc (.cells #[.int .i64 full, .int .i64 read, .int .i64 slip, .int .i64 skew, .int .i64 circ, .int .i64 glo, .int .i64 ghi, .int .i64 wrn] 25)).alloc (.cells #[.int .i64 yw, .int .i64 yb, .int .i64 yf] 59)) := by (repeat' (first | (with_reducible exact Below.refl _ _) | (with_reducible assumption) | (with_reducible refine Below.alloc ?_ ?_ _) | (with_reducible refine Below.drew ?_) | (with_reducible refine Below.setCell ?_ ?_ _) | go_size | (exact (by simp)) | omega))
      generalize World.alloc (World.alloc w _) _ = w1 at *
      have cs0 : w1.cell? ⟨w.heap.size, 0, none⟩ = some (.int .i64 full) := bS1.cell 0 rfl
      have cs1 : w1.cell? ⟨w.heap.size, 1, none⟩ = some (.int .i64 read) := bS1.cell 1 rfl
      have cs2 : w1.cell? ⟨w.heap.size, 2, none⟩ = some (.int .i64 slip) := bS1.cell 2 rfl
      have cs3 : w1.cell? ⟨w.heap.size, 3, none⟩ = some (.int .i64 skew) := bS1.cell 3 rfl
      have cs4 : w1.cell? ⟨w.heap.size, 4, none⟩ = some (.int .i64 circ) := bS1.cell 4 rfl
      have cs5 : w1.cell? ⟨w.heap.size, 5, none⟩ = some (.int .i64 glo) := bS1.cell 5 rfl
      have cs6 : w1.cell? ⟨w.heap.size, 6, none⟩ = some (.int .i64 ghi) := bS1.cell 6 rfl
      have cs7 : w1.cell? ⟨w.heap.size, 7, none⟩ = some (.int .i64 wrn) := bS1.cell 7 rfl
      have lS1 := bS1.lt
      have cx0 : w1.cell? ⟨w.heap.size + 1, 0, none⟩ = some (.int .i64 yw) := bX1.cell 0 rfl
      have cx1 : w1.cell? ⟨w.heap.size + 1, 1, none⟩ = some (.int .i64 yb) := bX1.cell 1 rfl
      have cx2 : w1.cell? ⟨w.heap.size + 1, 2, none⟩ = some (.int .i64 yf) := bX1.cell 2 rfl
      have lX1 := bX1.lt
      go_wp2_with fail
      refine (HRD.out _ hB1).mono ?_
      rintro e w2 ⟨rfl, hb2⟩
      have bS2 := bS1.below hb2
      have bX2 := bX1.below hb2
      have hB2 := hB1.trans (hb2.mono hB1.size)
      clear cs0 cs1 cs2 cs3 cs4 cs5 cs6 cs7 lS1 cx0 cx1 cx2 lX1 bS1 bX1 hB1 hb2
      have cs0 : w2.cell? ⟨w.heap.size, 0, none⟩ = some (.int .i64 full) := bS2.cell 0 rfl
      have cs1 : w2.cell? ⟨w.heap.size, 1, none⟩ = some (.int .i64 read) := bS2.cell 1 rfl
      have cs2 : w2.cell? ⟨w.heap.size, 2, none⟩ = some (.int .i64 slip) := bS2.cell 2 rfl
      have cs3 : w2.cell? ⟨w.heap.size, 3, none⟩ = some (.int .i64 skew) := bS2.cell 3 rfl
      have cs4 : w2.cell? ⟨w.heap.size, 4, none⟩ = some (.int .i64 circ) := bS2.cell 4 rfl
      have cs5 : w2.cell? ⟨w.heap.size, 5, none⟩ = some (.int .i64 glo) := bS2.cell 5 rfl
      have cs6 : w2.cell? ⟨w.heap.size, 6, none⟩ = some (.int .i64 ghi) := bS2.cell 6 rfl
      have cs7 : w2.cell? ⟨w.heap.size, 7, none⟩ = some (.int .i64 wrn) := bS2.cell 7 rfl
      have lS2 := bS2.lt
      have cx0 : w2.cell? ⟨w.heap.size + 1, 0, none⟩ = some (.int .i64 yw) := bX2.cell 0 rfl
      have cx1 : w2.cell? ⟨w.heap.size + 1, 1, none⟩ = some (.int .i64 yb) := bX2.cell 1 rfl
      have cx2 : w2.cell? ⟨w.heap.size + 1, 2, none⟩ = some (.int .i64 yf) := bX2.cell 2 rfl
      have lX2 := bX2.lt
      go_wp2_with fail
      refine (HWK.out _).mono ?_
      rintro e wz ⟨rfl, hbz⟩
      have hBz := hB2.trans (hbz.mono hB2.size)
      go_wp2_with fail
      go_returns
      exact ⟨rfl, hBz⟩
    · have t0 : decide (yb < 0) = false := decide_eq_false h1
      by_cases h2 : 10000 < yb
      · have t1 : decide (10000 < yb) = true := decide_eq_true h2
        clear hno2 h1 h2
        obtain ⟨full, read, slip, skew, circ, glo, ghi, wrn, ws⟩ := d
        unfold whV at *
        dsimp only at *
        go_enter Try.func8, Try.ntmps8
        go_wp2_with fail
        have bS1 := (BoxS.new w 25 #[.int .i64 full, .int .i64 read, .int .i64 slip, .int .i64 skew, .int .i64 circ, .int .i64 glo, .int .i64 ghi, .int .i64 wrn]).alloc (.cells #[.int .i64 yw, .int .i64 yb, .int .i64 yf] 59)
        have bX1 := BoxS.new (w.alloc (.cells #[.int .i64 full, .int .i64 read, .int .i64 slip, .int .i64 skew, .int .i64 circ, .int .i64 glo, .int .i64 ghi, .int .i64 wrn] 25)) 59 #[.int .i64 yw, .int .i64 yb, .int .i64 yf]
        rw [World.size_alloc] at bX1
        have hB1 : Below w.heap.size w ((w.alloc (.cells #[.int .i64 full, .int .i64 read, .int .i64 slip, .int .i64 skew, .int .i64 circ, .int .i64 glo, .int .i64 ghi, .int .i64 wrn] 25)).alloc (.cells #[.int .i64 yw, .int .i64 yb, .int .i64 yf] 59)) := by (repeat' (first | (with_reducible exact Below.refl _ _) | (with_reducible assumption) | (with_reducible refine Below.alloc ?_ ?_ _) | (with_reducible refine Below.drew ?_) | (with_reducible refine Below.setCell ?_ ?_ _) | go_size | (exact (by simp)) | omega))
        generalize World.alloc (World.alloc w _) _ = w1 at *
        have cs0 : w1.cell? ⟨w.heap.size, 0, none⟩ = some (.int .i64 full) := bS1.cell 0 rfl
        have cs1 : w1.cell? ⟨w.heap.size, 1, none⟩ = some (.int .i64 read) := bS1.cell 1 rfl
        have cs2 : w1.cell? ⟨w.heap.size, 2, none⟩ = some (.int .i64 slip) := bS1.cell 2 rfl
        have cs3 : w1.cell? ⟨w.heap.size, 3, none⟩ = some (.int .i64 skew) := bS1.cell 3 rfl
        have cs4 : w1.cell? ⟨w.heap.size, 4, none⟩ = some (.int .i64 circ) := bS1.cell 4 rfl
        have cs5 : w1.cell? ⟨w.heap.size, 5, none⟩ = some (.int .i64 glo) := bS1.cell 5 rfl
        have cs6 : w1.cell? ⟨w.heap.size, 6, none⟩ = some (.int .i64 ghi) := bS1.cell 6 rfl
        have cs7 : w1.cell? ⟨w.heap.size, 7, none⟩ = some (.int .i64 wrn) := bS1.cell 7 rfl
        have lS1 := bS1.lt
        have cx0 : w1.cell? ⟨w.heap.size + 1, 0, none⟩ = some (.int .i64 yw) := bX1.cell 0 rfl
        have cx1 : w1.cell? ⟨w.heap.size + 1, 1, none⟩ = some (.int .i64 yb) := bX1.cell 1 rfl
        have cx2 : w1.cell? ⟨w.heap.size + 1, 2, none⟩ = some (.int .i64 yf) := bX1.cell 2 rfl
        have lX1 := bX1.lt
        go_wp2_with fail
        refine (HRD.out _ hB1).mono ?_
        rintro e w2 ⟨rfl, hb2⟩
        have bS2 := bS1.below hb2
        have bX2 := bX1.below hb2
        have hB2 := hB1.trans (hb2.mono hB1.size)
        clear cs0 cs1 cs2 cs3 cs4 cs5 cs6 cs7 lS1 cx0 cx1 cx2 lX1 bS1 bX1 hB1 hb2
        have cs0 : w2.cell? ⟨w.heap.size, 0, none⟩ = some (.int .i64 full) := bS2.cell 0 rfl
        have cs1 : w2.cell? ⟨w.heap.size, 1, none⟩ = some (.int .i64 read) := bS2.cell 1 rfl
        have cs2 : w2.cell? ⟨w.heap.size, 2, none⟩ = some (.int .i64 slip) := bS2.cell 2 rfl
        have cs3 : w2.cell? ⟨w.heap.size, 3, none⟩ = some (.int .i64 skew) := bS2.cell 3 rfl
        have cs4 : w2.cell? ⟨w.heap.size, 4, none⟩ = some (.int .i64 circ) := bS2.cell 4 rfl
        have cs5 : w2.cell? ⟨w.heap.size, 5, none⟩ = some (.int .i64 glo) := bS2.cell 5 rfl
        have cs6 : w2.cell? ⟨w.heap.size, 6, none⟩ = some (.int .i64 ghi) := bS2.cell 6 rfl
        have cs7 : w2.cell? ⟨w.heap.size, 7, none⟩ = some (.int .i64 wrn) := bS2.cell 7 rfl
        have lS2 := bS2.lt
        have cx0 : w2.cell? ⟨w.heap.size + 1, 0, none⟩ = some (.int .i64 yw) := bX2.cell 0 rfl
        have cx1 : w2.cell? ⟨w.heap.size + 1, 1, none⟩ = some (.int .i64 yb) := bX2.cell 1 rfl
        have cx2 : w2.cell? ⟨w.heap.size + 1, 2, none⟩ = some (.int .i64 yf) := bX2.cell 2 rfl
        have lX2 := bX2.lt
        go_wp2_with fail
        refine (HWK.out _).mono ?_
        rintro e wz ⟨rfl, hbz⟩
        have hBz := hB2.trans (hbz.mono hB2.size)
        go_wp2_with fail
        go_returns
        exact ⟨rfl, hBz⟩
      · have t1 : decide (10000 < yb) = false := decide_eq_false h2
        by_cases h3 : yf < 0
        · have t2 : decide (yf < 0) = true := decide_eq_true h3
          clear hno2 h1 h2 h3
          obtain ⟨full, read, slip, skew, circ, glo, ghi, wrn, ws⟩ := d
          unfold whV at *
          dsimp only at *
          go_enter Try.func8, Try.ntmps8
          go_wp2_with fail
          have bS1 := (BoxS.new w 25 #[.int .i64 full, .int .i64 read, .int .i64 slip, .int .i64 skew, .int .i64 circ, .int .i64 glo, .int .i64 ghi, .int .i64 wrn]).alloc (.cells #[.int .i64 yw, .int .i64 yb, .int .i64 yf] 59)
          have bX1 := BoxS.new (w.alloc (.cells #[.int .i64 full, .int .i64 read, .int .i64 slip, .int .i64 skew, .int .i64 circ, .int .i64 glo, .int .i64 ghi, .int .i64 wrn] 25)) 59 #[.int .i64 yw, .int .i64 yb, .int .i64 yf]
          rw [World.size_alloc] at bX1
          have hB1 : Below w.heap.size w ((w.alloc (.cells #[.int .i64 full, .int .i64 read, .int .i64 slip, .int .i64 skew, .int .i64 circ, .int .i64 glo, .int .i64 ghi, .int .i64 wrn] 25)).alloc (.cells #[.int .i64 yw, .int .i64 yb, .int .i64 yf] 59)) := by (repeat' (first | (with_reducible exact Below.refl _ _) | (with_reducible assumption) | (with_reducible refine Below.alloc ?_ ?_ _) | (with_reducible refine Below.drew ?_) | (with_reducible refine Below.setCell ?_ ?_ _) | go_size | (exact (by simp)) | omega))
          generalize World.alloc (World.alloc w _) _ = w1 at *
          have cs0 : w1.cell? ⟨w.heap.size, 0, none⟩ = some (.int .i64 full) := bS1.cell 0 rfl
          have cs1 : w1.cell? ⟨w.heap.size, 1, none⟩ = some (.int .i64 read) := bS1.cell 1 rfl
          have cs2 : w1.cell? ⟨w.heap.size, 2, none⟩ = some (.int .i64 slip) := bS1.cell 2 rfl
          have cs3 : w1.cell? ⟨w.heap.size, 3, none⟩ = some (.int .i64 skew) := bS1.cell 3 rfl
          have cs4 : w1.cell? ⟨w.heap.size, 4, none⟩ = some (.int .i64 circ) := bS1.cell 4 rfl
          have cs5 : w1.cell? ⟨w.heap.size, 5, none⟩ = some (.int .i64 glo) := bS1.cell 5 rfl
          have cs6 : w1.cell? ⟨w.heap.size, 6, none⟩ = some (.int .i64 ghi) := bS1.cell 6 rfl
          have cs7 : w1.cell? ⟨w.heap.size, 7, none⟩ = some (.int .i64 wrn) := bS1.cell 7 rfl
          have lS1 := bS1.lt
          have cx0 : w1.cell? ⟨w.heap.size + 1, 0, none⟩ = some (.int .i64 yw) := bX1.cell 0 rfl
          have cx1 : w1.cell? ⟨w.heap.size + 1, 1, none⟩ = some (.int .i64 yb) := bX1.cell 1 rfl
          have cx2 : w1.cell? ⟨w.heap.size + 1, 2, none⟩ = some (.int .i64 yf) := bX1.cell 2 rfl
          have lX1 := bX1.lt
          go_wp2_with fail
          refine (HRD.out _ hB1).mono ?_
          rintro e w2 ⟨rfl, hb2⟩
          have bS2 := bS1.below hb2
          have bX2 := bX1.below hb2
          have hB2 := hB1.trans (hb2.mono hB1.size)
          clear cs0 cs1 cs2 cs3 cs4 cs5 cs6 cs7 lS1 cx0 cx1 cx2 lX1 bS1 bX1 hB1 hb2
          have cs0 : w2.cell? ⟨w.heap.size, 0, none⟩ = some (.int .i64 full) := bS2.cell 0 rfl
          have cs1 : w2.cell? ⟨w.heap.size, 1, none⟩ = some (.int .i64 read) := bS2.cell 1 rfl
          have cs2 : w2.cell? ⟨w.heap.size, 2, none⟩ = some (.int .i64 slip) := bS2.cell 2 rfl
          have cs3 : w2.cell? ⟨w.heap.size, 3, none⟩ = some (.int .i64 skew) := bS2.cell 3 rfl
          have cs4 : w2.cell? ⟨w.heap.size, 4, none⟩ = some (.int .i64 circ) := bS2.cell 4 rfl
          have cs5 : w2.cell? ⟨w.heap.size, 5, none⟩ = some (.int .i64 glo) := bS2.cell 5 rfl
          have cs6 : w2.cell? ⟨w.heap.size, 6, none⟩ = some (.int .i64 ghi) := bS2.cell 6 rfl
          have cs7 : w2.cell? ⟨w.heap.size, 7, none⟩ = some (.int .i64 wrn) := bS2.cell 7 rfl
          have lS2 := bS2.lt
          have cx0 : w2.cell? ⟨w.heap.size + 1, 0, none⟩ = some (.int .i64 yw) := bX2.cell 0 rfl
          have cx1 : w2.cell? ⟨w.heap.size + 1, 1, none⟩ = some (.int .i64 yb) := bX2.cell 1 rfl
          have cx2 : w2.cell? ⟨w.heap.size + 1, 2, none⟩ = some (.int .i64 yf) := bX2.cell 2 rfl
          have lX2 := bX2.lt
          go_wp2_with fail
          refine (HWK.out _).mono ?_
          rintro e wz ⟨rfl, hbz⟩
          have hBz := hB2.trans (hbz.mono hB2.size)
          go_wp2_with fail
          go_returns
          exact ⟨rfl, hBz⟩
        · have t2 : decide (yf < 0) = false := decide_eq_false h3
          have t3 : decide (100 < yf) = true := decide_eq_true (by omega)
          clear hno2 h1 h2 h3
          obtain ⟨full, read, slip, skew, circ, glo, ghi, wrn, ws⟩ := d
          unfold whV at *
          dsimp only at *
          go_enter Try.func8, Try.ntmps8
          go_wp2_with fail
          have bS1 := (BoxS.new w 25 #[.int .i64 full, .int .i64 read, .int .i64 slip, .int .i64 skew, .int .i64 circ, .int .i64 glo, .int .i64 ghi, .int .i64 wrn]).alloc (.cells #[.int .i64 yw, .int .i64 yb, .int .i64 yf] 59)
          have bX1 := BoxS.new (w.alloc (.cells #[.int .i64 full, .int .i64 read, .int .i64 slip, .int .i64 skew, .int .i64 circ, .int .i64 glo, .int .i64 ghi, .int .i64 wrn] 25)) 59 #[.int .i64 yw, .int .i64 yb, .int .i64 yf]
          rw [World.size_alloc] at bX1
          have hB1 : Below w.heap.size w ((w.alloc (.cells #[.int .i64 full, .int .i64 read, .int .i64 slip, .int .i64 skew, .int .i64 circ, .int .i64 glo, .int .i64 ghi, .int .i64 wrn] 25)).alloc (.cells #[.int .i64 yw, .int .i64 yb, .int .i64 yf] 59)) := by (repeat' (first | (with_reducible exact Below.refl _ _) | (with_reducible assumption) | (with_reducible refine Below.alloc ?_ ?_ _) | (with_reducible refine Below.drew ?_) | (with_reducible refine Below.setCell ?_ ?_ _) | go_size | (exact (by simp)) | omega))
          generalize World.alloc (World.alloc w _) _ = w1 at *
          have cs0 : w1.cell? ⟨w.heap.size, 0, none⟩ = some (.int .i64 full) := bS1.cell 0 rfl
          have cs1 : w1.cell? ⟨w.heap.size, 1, none⟩ = some (.int .i64 read) := bS1.cell 1 rfl
          have cs2 : w1.cell? ⟨w.heap.size, 2, none⟩ = some (.int .i64 slip) := bS1.cell 2 rfl
          have cs3 : w1.cell? ⟨w.heap.size, 3, none⟩ = some (.int .i64 skew) := bS1.cell 3 rfl
          have cs4 : w1.cell? ⟨w.heap.size, 4, none⟩ = some (.int .i64 circ) := bS1.cell 4 rfl
          have cs5 : w1.cell? ⟨w.heap.size, 5, none⟩ = some (.int .i64 glo) := bS1.cell 5 rfl
          have cs6 : w1.cell? ⟨w.heap.size, 6, none⟩ = some (.int .i64 ghi) := bS1.cell 6 rfl
          have cs7 : w1.cell? ⟨w.heap.size, 7, none⟩ = some (.int .i64 wrn) := bS1.cell 7 rfl
          have lS1 := bS1.lt
          have cx0 : w1.cell? ⟨w.heap.size + 1, 0, none⟩ = some (.int .i64 yw) := bX1.cell 0 rfl
          have cx1 : w1.cell? ⟨w.heap.size + 1, 1, none⟩ = some (.int .i64 yb) := bX1.cell 1 rfl
          have cx2 : w1.cell? ⟨w.heap.size + 1, 2, none⟩ = some (.int .i64 yf) := bX1.cell 2 rfl
          have lX1 := bX1.lt
          go_wp2_with fail
          refine (HRD.out _ hB1).mono ?_
          rintro e w2 ⟨rfl, hb2⟩
          have bS2 := bS1.below hb2
          have bX2 := bX1.below hb2
          have hB2 := hB1.trans (hb2.mono hB1.size)
          clear cs0 cs1 cs2 cs3 cs4 cs5 cs6 cs7 lS1 cx0 cx1 cx2 lX1 bS1 bX1 hB1 hb2
          have cs0 : w2.cell? ⟨w.heap.size, 0, none⟩ = some (.int .i64 full) := bS2.cell 0 rfl
          have cs1 : w2.cell? ⟨w.heap.size, 1, none⟩ = some (.int .i64 read) := bS2.cell 1 rfl
          have cs2 : w2.cell? ⟨w.heap.size, 2, none⟩ = some (.int .i64 slip) := bS2.cell 2 rfl
          have cs3 : w2.cell? ⟨w.heap.size, 3, none⟩ = some (.int .i64 skew) := bS2.cell 3 rfl
          have cs4 : w2.cell? ⟨w.heap.size, 4, none⟩ = some (.int .i64 circ) := bS2.cell 4 rfl
          have cs5 : w2.cell? ⟨w.heap.size, 5, none⟩ = some (.int .i64 glo) := bS2.cell 5 rfl
          have cs6 : w2.cell? ⟨w.heap.size, 6, none⟩ = some (.int .i64 ghi) := bS2.cell 6 rfl
          have cs7 : w2.cell? ⟨w.heap.size, 7, none⟩ = some (.int .i64 wrn) := bS2.cell 7 rfl
          have lS2 := bS2.lt
          have cx0 : w2.cell? ⟨w.heap.size + 1, 0, none⟩ = some (.int .i64 yw) := bX2.cell 0 rfl
          have cx1 : w2.cell? ⟨w.heap.size + 1, 1, none⟩ = some (.int .i64 yb) := bX2.cell 1 rfl
          have cx2 : w2.cell? ⟨w.heap.size + 1, 2, none⟩ = some (.int .i64 yf) := bX2.cell 2 rfl
          have lX2 := bX2.lt
          go_wp2_with fail
          refine (HWK.out _).mono ?_
          rintro e wz ⟨rfl, hbz⟩
          have hBz := hB2.trans (hbz.mono hB2.size)
          go_wp2_with fail
          go_returns
          exact ⟨rfl, hBz⟩
theorem Turned_any (d : Wh.Desk) (yw yb yf : Int) (A : Option Addr) (c : Nat) (w : World) (hl : d.ws.length ≤ 1000000000) (hg : Wks w w.heap.size A d.ws) :
    Calls Try.prog 8 #[.agg (whV d), .slice A d.ws.length c, .agg #[.int .i64 yw, .int .i64 yb, .int .i64 yf]] w (BoolPost true w) := by
  have HRD : Hid (∀ W, Below w.heap.size w W → Calls Try.prog 34 #[.agg (whV d), .slice A d.ws.length c] W (BoolPost (Wh.readyB d) W)) := fun W hW => ready3_any d A c W hl ((hg.keep hW).wider hW.size)
  by_cases hno : Wh.readyB d = true → ¬ ((0 ≤ yb ∧ yb ≤ 10000) ∧ 0 ≤ yf ∧ yf ≤ 100)
  · exact Turned_early d yw yb yf A c w _ hno HRD
  have hr : Wh.readyB d = true := Classical.byContradiction fun h => hno fun h2 => absurd h2 h
  have hb : (0 ≤ yb ∧ yb ≤ 10000) ∧ 0 ≤ yf ∧ yf ≤ 100 := Classical.byContradiction fun h => hno fun _ => h
  obtain ⟨hok, _, hl4⟩ := Wh.ready_ok' hr
  have hd := Wh.ok_of hok
  rw [hr] at HRD
  have HWK : Hid (∀ W, Calls Try.prog 13 #[] W (BoolPost true W)) := works_any
  have k1 := fun W (hW : Below w.heap.size w W) => (hg.keep hW).wider hW.size
  exact Turned_core d.full d.read d.slip d.skew d.circ d.glo d.ghi d.wr yw yb yf yf.toNat (show yf = (yf.toNat : Int) by omega) d.ws A c w (Wh.bkL d.ws) (Wh.ltL d.full yb yw d.ws) (Wh.tnL yf.toNat d.ws.length d.ws) (Lib.hid hg) (by omega) ⟨hd.f1, hd.f2⟩ hb.1 hb.2
    (decide_eq_false (by omega)) (decide_eq_false (by omega)) (decide_eq_false (by omega)) (decide_eq_false (by omega)) HWK HRD (by unfold Hid; rfl) (by unfold Hid; rfl) (by unfold Hid; rfl)
    (fun k _ => Wh.bkL_succ d.ws k) (fun k _ h => Wh.ltL_yes d.full yb yw d.ws k h) (fun k _ h => Wh.ltL_no d.full yb yw d.ws k h) (fun k _ => Wh.tnL_succ yf.toNat d.ws.length d.ws k) (Wh.ok_sm hok)
    (Wh.bkL_len _ _) (Wh.ltL_len _ _ _ _ _) (Wh.tnL_len _ _ _ _)
    (fun A' c' W hW hC => alike_yes d _ A A' c c' W hl (Wh.bkL_len _ _) (Wh.back_same hok) (k1 W hW) hC)
    (fun A' c' W hW hC => alike_yes d _ A A' c c' W hl (Wh.ltL_len _ _ _ _ _) (Wh.later_same hok yb yw) (k1 W hW) hC)
    (fun A' c' W hW hC => alike_yes d _ A A' c c' W hl (Wh.tnL_len _ _ _ _) (Wh.turn_same hok yf.toNat) (k1 W hW) hC)
theorem Turned_all (d : Wh.Desk) (yw yb yf : Int) (A : Option Addr) (c : Nat) (w : World) (hg : Wks w w.heap.size A d.ws) :
    Calls Try.prog 8 #[.agg (whV d), .slice A d.ws.length c, .agg #[.int .i64 yw, .int .i64 yb, .int .i64 yf]] w (BoolPost true w) := by
  by_cases h40 : 40 < d.ws.length
  · exact Turned_early d yw yb yf A c w false (fun h => by cases h) (fun W _ => ready3_long d A c W h40)
  · exact Turned_any d yw yb yf A c w (by omega) hg
section
open Go.ChangeShapes Go.WideShapes Go.ChangeAt Go.RowKit Go.Joins Go.Deep
variable {H : Type} {enc : TypeId × Value → H} {w : World} {base : Nat} {spare : Nat → Bool} {held : Bool} {r : Reach} {b0 : Nat} {v : Value} {d : DataW H} {p : List MemPlace}
set_option maxRecDepth 100000 in
theorem open_Turn (hv : Value.okWide Try.prog w r b0 59 v) (h : DataW.Trod enc Try.prog w base spare held 59 v d p) :
    ∃ x1 x2 x3 : Int, v = .agg #[.int .i64 x1, .int .i64 x2, .int .i64 x3] := by
  obtain ⟨cs, rfl, hsz⟩ := okWide_struct Try.underlying59 hv
  obtain ⟨l⟩ := cs
  match l, hsz.trans (by kernel_rfl : Try.prog.cellsOf 59 = 3) with
  | [c0, c1, c2], _ =>
    obtain ⟨fuel, hf⟩ := h
    obtain ⟨xs, n, _, hx, _, hlen, hg⟩ := DataW.trod_struct Try.underlying59 hf
    match xs, hlen with
    | [y0, y1, y2], _ =>
      have g0 := hg 0 _ rfl
      have g1 := hg 1 _ rfl
      have g2 := hg 2 _ rfl
      simp [Value.cells, cells_int4] at g0 g1 g2
      obtain ⟨f1, e1, rfl, _⟩ := DataW.trod_int Try.underlying3 g0
      obtain ⟨f2, e2, rfl, _⟩ := DataW.trod_int Try.underlying3 g1
      obtain ⟨f3, e3, rfl, _⟩ := DataW.trod_int Try.underlying3 g2
      simp at e1 e2 e3
      subst e1 e2 e3
      exact ⟨f1, f2, f3, rfl⟩
end
theorem lawTurned_walk (f1 f2 f3 f4 f5 f6 f7 f8 : Int) (A : Option Addr) (c : Nat) (ws : List Wh.Wk) (yw yb yf : Int) (w : World) (_hl : ws.length ≤ maxLen) (hg : Wks w w.heap.size A ws) :
    Calls Try.prog 8 #[.agg #[.int .i64 f1, .int .i64 f2, .int .i64 f3, .int .i64 f4, .int .i64 f5, .int .i64 f6, .int .i64 f7, .int .i64 f8], .slice A ws.length c, .agg #[.int .i64 yw, .int .i64 yb, .int .i64 yf]] w fun e w' => e = .returned (.bool true) ∧ Below w.heap.size w w' := Turned_all ⟨f1, f2, f3, f4, f5, f6, f7, f8, ws⟩ yw yb yf A c w hg

open Go.ChangeShapes Go.WideShapes Go.ChangeAt Go.RowKit Go.Joins

set_option maxRecDepth 100000 in
theorem turned3_lifted (os : Os) (started : os.Started) (H : Type) (enc : TypeId × Value → H) :
    ReturnsInHanded {} Try.checked os 8 .any (Rows.wheelsTurnedSpec.pre6 enc Try.prog Try.f8 Rows.wheelsTurnedRow.domain false) (Rows.wheelsTurnedSpec.post enc Try.prog Try.f8 false true false false) := by
  refine returnsInHanded_of_change (C := Try.checked) own started (by kernel_rfl) Try.func8
    (ChangeSpec.witness6 (enc := enc) (C := Try.checked) false ⟨#[], #[.agg #[.int .i64 0, .int .i64 0, .int .i64 0, .int .i64 0, .int .i64 0, .int .i64 0, .int .i64 0, .int .i64 0], .slice none 0 0, .agg #[.int .i64 0, .int .i64 0, .int .i64 0]], []⟩ 8 (by kernel_rfl) (by kernel_rfl) (by kernel_rfl) (by kernel_rfl)) ?_
  intro W base args ds gs before hval0 hW hcnd _
  have hval : ∀ (j : Nat) t v, Try.f8.params[j]? = some t → args[j]? = some v → Value.okWide Try.prog W .any base t v := hval0
  have hW' := hW
  obtain ⟨p, q, hA0, hV, rfl, hfz, hnd⟩ := hW
  have hA : DataW.TrodAll enc Try.prog W 0 (fun _ => true) true Try.f8.params.toList args.toList ds p := hA0
  rw [Try.params8] at hA hval
  obtain ⟨v0, v1, v2, d0, d1, d2, p0, p1, p2, rfl, rfl, rfl, h0, h1, h2⟩ := trodAll_three hA
  obtain ⟨rfl, rfl⟩ := trodVars_none hV
  obtain ⟨f1, f2, f3, f4, f5, f6, f7, f8, rfl⟩ := open_Wheel (hval 0 25 v0 rfl rfl) h0
  obtain ⟨A, c, ws, rfl, hg_ws, hl_ws, hc_ws⟩ := open_Walks (hval 1 26 v1 rfl rfl) h1
  obtain ⟨yw, yb, yf, rfl⟩ := open_Turn (hval 2 59 v2 rfl rfl) h2
  refine (lawTurned_walk f1 f2 f3 f4 f5 f6 f7 f8 A c ws yw yb yf W hl_ws hg_ws).mono fun e W' ⟨he, hb⟩ => ?_
  subst he
  exact ⟨_, rfl, law_post hW' rfl rfl (by intro t ht; have : t = 25 ∨ t = 26 ∨ t = 59 := (by rw [Try.params8] at ht; simpa using ht); rcases this with rfl | rfl | rfl <;> exact ⟨by kernel_rfl, of_decide_eq_true (by kernel_rfl)⟩) rfl rfl rfl hb⟩

theorem turned3_holds : Rows.WheelsTurnedSaid :=
  OpenClaim.holds_of_wide 8 Try.f8 rfl rfl rfl rfl rfl rfl rfl ⟨rfl, rfl, rfl, rfl, rfl⟩ rfl rfl rfl rfl rfl (by kernel_rfl) Try.func8 (by kernel_rfl)
    (of_decide_eq_true (by kernel_rfl)) (by unfold Func.isWrapper; rw [if_neg (of_decide_eq_false (by kernel_rfl))]; exact ⟨rfl, rfl⟩)
    (fun os started H enc _ => turned3_lifted os started H enc)
end Go.Proofs.Ytecmlakcpgkfbaa
