/- Wheels: the law WheelsMore (P3.12): the walk. -/
import Derived.Test.YtecmlakcpgkfbaaStepW
import Derived.Test.YtecmlakcpgkfbaaTrQ
namespace Go.Proofs.Ytecmlakcpgkfbaa
open Go.RowKit
def BoolPost (b : Bool) (w : World) (e : Ending) (w' : World) : Prop := e = .returned (.bool b) ∧ Below w.heap.size w w'
def min5 (a b c d e : Int) : Int := min (min (min (min a b) c) d) e
def max5 (a b c d e : Int) : Int := max (max (max (max a b) c) d) e
theorem run_min5 {P : Program} (w : World) (ts : Array TypeId) (t : TypeId) (a b c d e : Int) : (Builtin.min_ ts t #[.int .i64 a, .int .i64 b, .int .i64 c, .int .i64 d, .int .i64 e]).run P w = .ok (.int .i64 (min5 a b c d e)) w := by
  have h : ∀ x y : Int, (if y < x then y else x) = min x y := fun x y => by split <;> omega
  simp [Builtin.min_, Builtin.min2, h, min5]
theorem run_max5 {P : Program} (w : World) (ts : Array TypeId) (t : TypeId) (a b c d e : Int) : (Builtin.max_ ts t #[.int .i64 a, .int .i64 b, .int .i64 c, .int .i64 d, .int .i64 e]).run P w = .ok (.int .i64 (max5 a b c d e)) w := by
  have h : ∀ x y : Int, (if y > x then y else x) = max x y := fun x y => by split <;> omega
  simp [Builtin.max_, Builtin.max2, h, max5]
attribute [local go_sem] run_min5 run_max5
set_option maxRecDepth 100000 in
set_option maxHeartbeats 16000000 in
theorem More_00 (full read slip skew circ glo ghi wrn : Int) (ws : List Wh.Wk) (A : Option Addr) (c : Nat) (x1 x2 x3 x4 x5 xr xs xk xv xg : Int) (w : World) (LA LO : List Int) (mV nV EO : Int) (sb tb : Int × Int) (RO : Bool) (HG : Hid (Wks w w.heap.size A ws)) (hl8 : ws.length ≤ 1000000)
    (q0a : decide (min5 xr xs xk xv xg < 0) = false) (q0b : decide (10 < max5 xr xs xk xv xg) = false) (q1 : decide ((100 : Int) < (LA.length : Int)) = false) (hla : LA.length ≤ 100)
    (v1 : IntKind.i64.wrap (read + xr) = read + xr) (v2 : IntKind.i64.wrap (slip + xs) = slip + xs) (v3 : IntKind.i64.wrap (skew + xk) = skew + xk) (v4 : IntKind.i64.wrap (wrn + xv) = wrn + xv) (v5 : IntKind.i64.wrap (glo - xg) = glo - xg) (v6 : IntKind.i64.wrap (ghi + xg) = ghi + xg)
    (HWK : Hid (∀ W, Calls Try.prog 13 #[] W (BoolPost true W)))
    (HRD : Hid (∀ W, Below w.heap.size w W → Calls Try.prog 34 #[.agg #[.int .i64 full, .int .i64 read, .int .i64 slip, .int .i64 skew, .int .i64 circ, .int .i64 glo, .int .i64 ghi, .int .i64 wrn], .slice A ws.length c] W (BoolPost true W)))
    (HMN : Hid (∀ W, Below w.heap.size w W → Calls Try.prog 18 #[.agg #[.int .i64 full, .int .i64 read, .int .i64 slip, .int .i64 skew, .int .i64 circ, .int .i64 glo, .int .i64 ghi, .int .i64 wrn], .slice A ws.length c] W (TwoPost mV 0 W)))
    (HBD : Hid (∀ W, Below w.heap.size w W → Calls Try.prog 23 #[.agg #[.int .i64 full, .int .i64 read, .int .i64 slip, .int .i64 skew, .int .i64 circ, .int .i64 glo, .int .i64 ghi, .int .i64 wrn], .slice A ws.length c] W (BoundPost sb 0 W)))
    (HAR : Hid (∀ W, Below w.heap.size w W → Calls Try.prog 20 #[.agg #[.int .i64 full, .int .i64 read, .int .i64 slip, .int .i64 skew, .int .i64 circ, .int .i64 glo, .int .i64 ghi, .int .i64 wrn], .slice A ws.length c] W (IntsEPost LA 0 W)))
    (HKN : Hid (∀ W, Calls Try.prog 35 #[.int .i64 0] W fun e w' => e = .returned (.bool true) ∧ w' = W))
    (HRP : Hid (∀ A' c' W, Wks W W.heap.size A' (ws ++ [(x1, x2, x3, x4, x5)]) → Calls Try.prog 34 #[.agg #[.int .i64 full, .int .i64 read, .int .i64 slip, .int .i64 skew, .int .i64 circ, .int .i64 glo, .int .i64 ghi, .int .i64 wrn], .slice A' (ws.length + 1) c'] W (BoolPost true W)))
    (HMP : Hid (∀ A' c' W, Wks W W.heap.size A' (ws ++ [(x1, x2, x3, x4, x5)]) → Calls Try.prog 18 #[.agg #[.int .i64 full, .int .i64 read, .int .i64 slip, .int .i64 skew, .int .i64 circ, .int .i64 glo, .int .i64 ghi, .int .i64 wrn], .slice A' (ws.length + 1) c'] W (TwoPost nV 0 W)))
    (HBP : Hid (∀ A' c' W, Wks W W.heap.size A' (ws ++ [(x1, x2, x3, x4, x5)]) → Calls Try.prog 23 #[.agg #[.int .i64 full, .int .i64 read, .int .i64 slip, .int .i64 skew, .int .i64 circ, .int .i64 glo, .int .i64 ghi, .int .i64 wrn], .slice A' (ws.length + 1) c'] W (BoundPost tb 0 W)))
    (HKP : Hid (∀ W, Calls Try.prog 35 #[.int .i64 0] W fun e w' => e = .returned (.bool true) ∧ w' = W))
    (m1 : decide (mV < nV) = false) (m2 : decide (tb.1 < sb.1) = false) (m3 : decide (sb.2 < tb.2) = false) (m4 : decide (tb.2 < tb.1) = false)
    (HRO : Hid (∀ W, Below w.heap.size w W → Calls Try.prog 34 #[.agg #[.int .i64 full, .int .i64 (read + xr), .int .i64 (slip + xs), .int .i64 (skew + xk), .int .i64 circ, .int .i64 (glo - xg), .int .i64 (ghi + xg), .int .i64 (wrn + xv)], .slice A ws.length c] W (BoolPost RO W)))
    (HAO : Hid (RO = true → ∀ W, Below w.heap.size w W → Calls Try.prog 20 #[.agg #[.int .i64 full, .int .i64 (read + xr), .int .i64 (slip + xs), .int .i64 (skew + xk), .int .i64 circ, .int .i64 (glo - xg), .int .i64 (ghi + xg), .int .i64 (wrn + xv)], .slice A ws.length c] W (IntsEPost LO EO W)))
    (HSB : Hid (RO = true → EO = 0 ∧ LO.length ≤ 100 ∧ (∀ y ∈ LA, y ∈ LO) ∧ LA.length ≤ LO.length)) :
    Calls Try.prog 6 #[.agg #[.int .i64 full, .int .i64 read, .int .i64 slip, .int .i64 skew, .int .i64 circ, .int .i64 glo, .int .i64 ghi, .int .i64 wrn], .slice A ws.length c, .agg #[.int .i64 x1, .int .i64 x2, .int .i64 x3, .int .i64 x4, .int .i64 x5, .int .i64 xr, .int .i64 xs, .int .i64 xk, .int .i64 xv, .int .i64 xg]] w (BoolPost true w) := by
  go_enter Try.func6, Try.ntmps6
  go_wp2_with fail
  have bS1 := (BoxS.new w 25 #[.int .i64 full, .int .i64 read, .int .i64 slip, .int .i64 skew, .int .i64 circ, .int .i64 glo, .int .i64 ghi, .int .i64 wrn]).alloc (.cells #[.int .i64 x1, .int .i64 x2, .int .i64 x3, .int .i64 x4, .int .i64 x5, .int .i64 xr, .int .i64 xs, .int .i64 xk, .int .i64 xv, .int .i64 xg] 56)
  have bX1 := BoxS.new (w.alloc (.cells #[.int .i64 full, .int .i64 read, .int .i64 slip, .int .i64 skew, .int .i64 circ, .int .i64 glo, .int .i64 ghi, .int .i64 wrn] 25)) 56 #[.int .i64 x1, .int .i64 x2, .int .i64 x3, .int .i64 x4, .int .i64 x5, .int .i64 xr, .int .i64 xs, .int .i64 xk, .int .i64 xv, .int .i64 xg]
  rw [World.size_alloc] at bX1
  have hB1 : Below w.heap.size w ((w.alloc (.cells #[.int .i64 full, .int .i64 read, .int .i64 slip, .int .i64 skew, .int .i64 circ, .int .i64 glo, .int .i64 ghi, .int .i64 wrn] 25)).alloc (.cells #[.int .i64 x1, .int .i64 x2, .int .i64 x3, .int .i64 x4, .int .i64 x5, .int .i64 xr, .int .i64 xs, .int .i64 xk, .int .i64 xv, .int .i64 xg] 56)) := by (repeat' (first | (with_reducible exact Below.refl _ _) | (with_reducible assumption) | (with_reducible refine Below.alloc ?_ ?_ _) | (with_reducible refine Below.drew ?_) | (with_reducible refine Below.setCell ?_ ?_ _) | go_size | (exact (by simp)) | omega))
  generalize World.alloc (World.alloc w _) _ = w1 at *
  have cs0 : w1.cell? ⟨w.heap.size, 0, none⟩ = some (.int .i64 full) := bS1.cell 0 rfl
  have cs1 : w1.cell? ⟨w.heap.size, 1, none⟩ = some (.int .i64 read) := bS1.cell 1 rfl
  have cs2 : w1.cell? ⟨w.heap.size, 2, none⟩ = some (.int .i64 slip) := bS1.cell 2 rfl
  have cs3 : w1.cell? ⟨w.heap.size, 3, none⟩ = some (.int .i64 skew) := bS1.cell 3 rfl
  have cs4 : w1.cell? ⟨w.heap.size, 4, none⟩ = some (.int .i64 circ) := bS1.cell 4 rfl
  have cs5 : w1.cell? ⟨w.heap.size, 5, none⟩ = some (.int .i64 glo) := bS1.cell 5 rfl
  have cs6 : w1.cell? ⟨w.heap.size, 6, none⟩ = some (.int .i64 ghi) := bS1.cell 6 rfl
  have cs7 : w1.cell? ⟨w.heap.size, 7, none⟩ = some (.int .i64 wrn) := bS1.cell 7 rfl
  have lS1 := bS1.lt
  have cx0 : w1.cell? ⟨w.heap.size + 1, 0, none⟩ = some (.int .i64 x1) := bX1.cell 0 rfl
  have cx1 : w1.cell? ⟨w.heap.size + 1, 1, none⟩ = some (.int .i64 x2) := bX1.cell 1 rfl
  have cx2 : w1.cell? ⟨w.heap.size + 1, 2, none⟩ = some (.int .i64 x3) := bX1.cell 2 rfl
  have cx3 : w1.cell? ⟨w.heap.size + 1, 3, none⟩ = some (.int .i64 x4) := bX1.cell 3 rfl
  have cx4 : w1.cell? ⟨w.heap.size + 1, 4, none⟩ = some (.int .i64 x5) := bX1.cell 4 rfl
  have cx5 : w1.cell? ⟨w.heap.size + 1, 5, none⟩ = some (.int .i64 xr) := bX1.cell 5 rfl
  have cx6 : w1.cell? ⟨w.heap.size + 1, 6, none⟩ = some (.int .i64 xs) := bX1.cell 6 rfl
  have cx7 : w1.cell? ⟨w.heap.size + 1, 7, none⟩ = some (.int .i64 xk) := bX1.cell 7 rfl
  have cx8 : w1.cell? ⟨w.heap.size + 1, 8, none⟩ = some (.int .i64 xv) := bX1.cell 8 rfl
  have cx9 : w1.cell? ⟨w.heap.size + 1, 9, none⟩ = some (.int .i64 xg) := bX1.cell 9 rfl
  have lX1 := bX1.lt
  go_wp2_with fail
  refine (HRD.out _ hB1).mono ?_
  rintro e w2 ⟨rfl, hb2⟩
  have bS2 := bS1.below hb2
  have bX2 := bX1.below hb2
  have hB2 := hB1.trans (hb2.mono hB1.size)
  clear cs0 cs1 cs2 cs3 cs4 cs5 cs6 cs7 lS1 cx0 cx1 cx2 cx3 cx4 cx5 cx6 cx7 cx8 cx9 lX1 bS1 bX1 hB1 hb2
  have cs0 : w2.cell? ⟨w.heap.size, 0, none⟩ = some (.int .i64 full) := bS2.cell 0 rfl
  have cs1 : w2.cell? ⟨w.heap.size, 1, none⟩ = some (.int .i64 read) := bS2.cell 1 rfl
  have cs2 : w2.cell? ⟨w.heap.size, 2, none⟩ = some (.int .i64 slip) := bS2.cell 2 rfl
  have cs3 : w2.cell? ⟨w.heap.size, 3, none⟩ = some (.int .i64 skew) := bS2.cell 3 rfl
  have cs4 : w2.cell? ⟨w.heap.size, 4, none⟩ = some (.int .i64 circ) := bS2.cell 4 rfl
  have cs5 : w2.cell? ⟨w.heap.size, 5, none⟩ = some (.int .i64 glo) := bS2.cell 5 rfl
  have cs6 : w2.cell? ⟨w.heap.size, 6, none⟩ = some (.int .i64 ghi) := bS2.cell 6 rfl
  have cs7 : w2.cell? ⟨w.heap.size, 7, none⟩ = some (.int .i64 wrn) := bS2.cell 7 rfl
  have lS2 := bS2.lt
  have cx0 : w2.cell? ⟨w.heap.size + 1, 0, none⟩ = some (.int .i64 x1) := bX2.cell 0 rfl
  have cx1 : w2.cell? ⟨w.heap.size + 1, 1, none⟩ = some (.int .i64 x2) := bX2.cell 1 rfl
  have cx2 : w2.cell? ⟨w.heap.size + 1, 2, none⟩ = some (.int .i64 x3) := bX2.cell 2 rfl
  have cx3 : w2.cell? ⟨w.heap.size + 1, 3, none⟩ = some (.int .i64 x4) := bX2.cell 3 rfl
  have cx4 : w2.cell? ⟨w.heap.size + 1, 4, none⟩ = some (.int .i64 x5) := bX2.cell 4 rfl
  have cx5 : w2.cell? ⟨w.heap.size + 1, 5, none⟩ = some (.int .i64 xr) := bX2.cell 5 rfl
  have cx6 : w2.cell? ⟨w.heap.size + 1, 6, none⟩ = some (.int .i64 xs) := bX2.cell 6 rfl
  have cx7 : w2.cell? ⟨w.heap.size + 1, 7, none⟩ = some (.int .i64 xk) := bX2.cell 7 rfl
  have cx8 : w2.cell? ⟨w.heap.size + 1, 8, none⟩ = some (.int .i64 xv) := bX2.cell 8 rfl
  have cx9 : w2.cell? ⟨w.heap.size + 1, 9, none⟩ = some (.int .i64 xg) := bX2.cell 9 rfl
  have lX2 := bX2.lt
  go_wp2_with fail
  refine (HMN.out _ hB2).mono ?_
  rintro e w3 ⟨rfl, hb3⟩
  have bS3 := bS2.below hb3
  have bX3 := bX2.below hb3
  have hB3 := hB2.trans (hb3.mono hB2.size)
  clear cs0 cs1 cs2 cs3 cs4 cs5 cs6 cs7 lS2 cx0 cx1 cx2 cx3 cx4 cx5 cx6 cx7 cx8 cx9 lX2 bS2 bX2 hB2 hb3
  have cs0 : w3.cell? ⟨w.heap.size, 0, none⟩ = some (.int .i64 full) := bS3.cell 0 rfl
  have cs1 : w3.cell? ⟨w.heap.size, 1, none⟩ = some (.int .i64 read) := bS3.cell 1 rfl
  have cs2 : w3.cell? ⟨w.heap.size, 2, none⟩ = some (.int .i64 slip) := bS3.cell 2 rfl
  have cs3 : w3.cell? ⟨w.heap.size, 3, none⟩ = some (.int .i64 skew) := bS3.cell 3 rfl
  have cs4 : w3.cell? ⟨w.heap.size, 4, none⟩ = some (.int .i64 circ) := bS3.cell 4 rfl
  have cs5 : w3.cell? ⟨w.heap.size, 5, none⟩ = some (.int .i64 glo) := bS3.cell 5 rfl
  have cs6 : w3.cell? ⟨w.heap.size, 6, none⟩ = some (.int .i64 ghi) := bS3.cell 6 rfl
  have cs7 : w3.cell? ⟨w.heap.size, 7, none⟩ = some (.int .i64 wrn) := bS3.cell 7 rfl
  have lS3 := bS3.lt
  have cx0 : w3.cell? ⟨w.heap.size + 1, 0, none⟩ = some (.int .i64 x1) := bX3.cell 0 rfl
  have cx1 : w3.cell? ⟨w.heap.size + 1, 1, none⟩ = some (.int .i64 x2) := bX3.cell 1 rfl
  have cx2 : w3.cell? ⟨w.heap.size + 1, 2, none⟩ = some (.int .i64 x3) := bX3.cell 2 rfl
  have cx3 : w3.cell? ⟨w.heap.size + 1, 3, none⟩ = some (.int .i64 x4) := bX3.cell 3 rfl
  have cx4 : w3.cell? ⟨w.heap.size + 1, 4, none⟩ = some (.int .i64 x5) := bX3.cell 4 rfl
  have cx5 : w3.cell? ⟨w.heap.size + 1, 5, none⟩ = some (.int .i64 xr) := bX3.cell 5 rfl
  have cx6 : w3.cell? ⟨w.heap.size + 1, 6, none⟩ = some (.int .i64 xs) := bX3.cell 6 rfl
  have cx7 : w3.cell? ⟨w.heap.size + 1, 7, none⟩ = some (.int .i64 xk) := bX3.cell 7 rfl
  have cx8 : w3.cell? ⟨w.heap.size + 1, 8, none⟩ = some (.int .i64 xv) := bX3.cell 8 rfl
  have cx9 : w3.cell? ⟨w.heap.size + 1, 9, none⟩ = some (.int .i64 xg) := bX3.cell 9 rfl
  have lX3 := bX3.lt
  go_wp2_with fail
  refine (HBD.out _ hB3).mono ?_
  rintro e w4 ⟨rfl, hb4⟩
  have bS4 := bS3.below hb4
  have bX4 := bX3.below hb4
  have hB4 := hB3.trans (hb4.mono hB3.size)
  clear cs0 cs1 cs2 cs3 cs4 cs5 cs6 cs7 lS3 cx0 cx1 cx2 cx3 cx4 cx5 cx6 cx7 cx8 cx9 lX3 bS3 bX3 hB3 hb4
  have cs0 : w4.cell? ⟨w.heap.size, 0, none⟩ = some (.int .i64 full) := bS4.cell 0 rfl
  have cs1 : w4.cell? ⟨w.heap.size, 1, none⟩ = some (.int .i64 read) := bS4.cell 1 rfl
  have cs2 : w4.cell? ⟨w.heap.size, 2, none⟩ = some (.int .i64 slip) := bS4.cell 2 rfl
  have cs3 : w4.cell? ⟨w.heap.size, 3, none⟩ = some (.int .i64 skew) := bS4.cell 3 rfl
  have cs4 : w4.cell? ⟨w.heap.size, 4, none⟩ = some (.int .i64 circ) := bS4.cell 4 rfl
  have cs5 : w4.cell? ⟨w.heap.size, 5, none⟩ = some (.int .i64 glo) := bS4.cell 5 rfl
  have cs6 : w4.cell? ⟨w.heap.size, 6, none⟩ = some (.int .i64 ghi) := bS4.cell 6 rfl
  have cs7 : w4.cell? ⟨w.heap.size, 7, none⟩ = some (.int .i64 wrn) := bS4.cell 7 rfl
  have lS4 := bS4.lt
  have cx0 : w4.cell? ⟨w.heap.size + 1, 0, none⟩ = some (.int .i64 x1) := bX4.cell 0 rfl
  have cx1 : w4.cell? ⟨w.heap.size + 1, 1, none⟩ = some (.int .i64 x2) := bX4.cell 1 rfl
  have cx2 : w4.cell? ⟨w.heap.size + 1, 2, none⟩ = some (.int .i64 x3) := bX4.cell 2 rfl
  have cx3 : w4.cell? ⟨w.heap.size + 1, 3, none⟩ = some (.int .i64 x4) := bX4.cell 3 rfl
  have cx4 : w4.cell? ⟨w.heap.size + 1, 4, none⟩ = some (.int .i64 x5) := bX4.cell 4 rfl
  have cx5 : w4.cell? ⟨w.heap.size + 1, 5, none⟩ = some (.int .i64 xr) := bX4.cell 5 rfl
  have cx6 : w4.cell? ⟨w.heap.size + 1, 6, none⟩ = some (.int .i64 xs) := bX4.cell 6 rfl
  have cx7 : w4.cell? ⟨w.heap.size + 1, 7, none⟩ = some (.int .i64 xk) := bX4.cell 7 rfl
  have cx8 : w4.cell? ⟨w.heap.size + 1, 8, none⟩ = some (.int .i64 xv) := bX4.cell 8 rfl
  have cx9 : w4.cell? ⟨w.heap.size + 1, 9, none⟩ = some (.int .i64 xg) := bX4.cell 9 rfl
  have lX4 := bX4.lt
  go_upto_region 5 with fail
  have bV5n := BoxS.new w4 23 #[.int .i64 sb.1, .int .i64 sb.2]
  have hbx : Below w4.heap.size w4 (w4.alloc (.cells #[.int .i64 sb.1, .int .i64 sb.2] 23)) := (Below.refl _ _).alloc (Nat.le_refl _) _
  have bS5 := bS4.below hbx
  have bX5 := bX4.below hbx
  have hB5 := hB4.trans (hbx.mono hB4.size)
  obtain ⟨BV, hBe⟩ : ∃ B, B = w4.heap.size := ⟨_, rfl⟩
  have kV : w.heap.size + 1 < BV := by have := bX4.lt; omega
  rw [← hBe] at bV5n ⊢
  have bV5 := bV5n
  clear cs0 cs1 cs2 cs3 cs4 cs5 cs6 cs7 lS4 cx0 cx1 cx2 cx3 cx4 cx5 cx6 cx7 cx8 cx9 lX4 bS4 bX4 hB4 hbx hBe bV5n
  generalize World.alloc w4 _ = w5 at *
  have kV2 : w.heap.size < BV := by omega
  have cs0 : w5.cell? ⟨w.heap.size, 0, none⟩ = some (.int .i64 full) := bS5.cell 0 rfl
  have cs1 : w5.cell? ⟨w.heap.size, 1, none⟩ = some (.int .i64 read) := bS5.cell 1 rfl
  have cs2 : w5.cell? ⟨w.heap.size, 2, none⟩ = some (.int .i64 slip) := bS5.cell 2 rfl
  have cs3 : w5.cell? ⟨w.heap.size, 3, none⟩ = some (.int .i64 skew) := bS5.cell 3 rfl
  have cs4 : w5.cell? ⟨w.heap.size, 4, none⟩ = some (.int .i64 circ) := bS5.cell 4 rfl
  have cs5 : w5.cell? ⟨w.heap.size, 5, none⟩ = some (.int .i64 glo) := bS5.cell 5 rfl
  have cs6 : w5.cell? ⟨w.heap.size, 6, none⟩ = some (.int .i64 ghi) := bS5.cell 6 rfl
  have cs7 : w5.cell? ⟨w.heap.size, 7, none⟩ = some (.int .i64 wrn) := bS5.cell 7 rfl
  have lS5 := bS5.lt
  have cx0 : w5.cell? ⟨w.heap.size + 1, 0, none⟩ = some (.int .i64 x1) := bX5.cell 0 rfl
  have cx1 : w5.cell? ⟨w.heap.size + 1, 1, none⟩ = some (.int .i64 x2) := bX5.cell 1 rfl
  have cx2 : w5.cell? ⟨w.heap.size + 1, 2, none⟩ = some (.int .i64 x3) := bX5.cell 2 rfl
  have cx3 : w5.cell? ⟨w.heap.size + 1, 3, none⟩ = some (.int .i64 x4) := bX5.cell 3 rfl
  have cx4 : w5.cell? ⟨w.heap.size + 1, 4, none⟩ = some (.int .i64 x5) := bX5.cell 4 rfl
  have cx5 : w5.cell? ⟨w.heap.size + 1, 5, none⟩ = some (.int .i64 xr) := bX5.cell 5 rfl
  have cx6 : w5.cell? ⟨w.heap.size + 1, 6, none⟩ = some (.int .i64 xs) := bX5.cell 6 rfl
  have cx7 : w5.cell? ⟨w.heap.size + 1, 7, none⟩ = some (.int .i64 xk) := bX5.cell 7 rfl
  have cx8 : w5.cell? ⟨w.heap.size + 1, 8, none⟩ = some (.int .i64 xv) := bX5.cell 8 rfl
  have cx9 : w5.cell? ⟨w.heap.size + 1, 9, none⟩ = some (.int .i64 xg) := bX5.cell 9 rfl
  have lX5 := bX5.lt
  have cv0 : w5.cell? ⟨BV, 0, none⟩ = some (.int .i64 sb.1) := bV5.cell 0 rfl
  have cv1 : w5.cell? ⟨BV, 1, none⟩ = some (.int .i64 sb.2) := bV5.cell 1 rfl
  have lV5 := bV5.lt
  go_wp2_with fail
  refine (HAR.out _ hB5).mono ?_
  rintro e w6 ⟨v6, rfl, hv6, hb6⟩
  obtain ⟨ALA, cLA, rfl⟩ := ints_form hv6.out
  have bS6 := bS5.below hb6
  have bX6 := bX5.below hb6
  have bV6 := bV5.below hb6
  have hB6 := hB5.trans (hb6.mono hB5.size)
  clear cs0 cs1 cs2 cs3 cs4 cs5 cs6 cs7 lS5 cx0 cx1 cx2 cx3 cx4 cx5 cx6 cx7 cx8 cx9 lX5 cv0 cv1 lV5 bS5 bX5 bV5 hB5 hb6
  have LA6 : Hid (Ints w6 w6.heap.size (.slice ALA LA.length cLA) LA) := hv6
  clear hv6
  have cs0 : w6.cell? ⟨w.heap.size, 0, none⟩ = some (.int .i64 full) := bS6.cell 0 rfl
  have cs1 : w6.cell? ⟨w.heap.size, 1, none⟩ = some (.int .i64 read) := bS6.cell 1 rfl
  have cs2 : w6.cell? ⟨w.heap.size, 2, none⟩ = some (.int .i64 slip) := bS6.cell 2 rfl
  have cs3 : w6.cell? ⟨w.heap.size, 3, none⟩ = some (.int .i64 skew) := bS6.cell 3 rfl
  have cs4 : w6.cell? ⟨w.heap.size, 4, none⟩ = some (.int .i64 circ) := bS6.cell 4 rfl
  have cs5 : w6.cell? ⟨w.heap.size, 5, none⟩ = some (.int .i64 glo) := bS6.cell 5 rfl
  have cs6 : w6.cell? ⟨w.heap.size, 6, none⟩ = some (.int .i64 ghi) := bS6.cell 6 rfl
  have cs7 : w6.cell? ⟨w.heap.size, 7, none⟩ = some (.int .i64 wrn) := bS6.cell 7 rfl
  have lS6 := bS6.lt
  have cx0 : w6.cell? ⟨w.heap.size + 1, 0, none⟩ = some (.int .i64 x1) := bX6.cell 0 rfl
  have cx1 : w6.cell? ⟨w.heap.size + 1, 1, none⟩ = some (.int .i64 x2) := bX6.cell 1 rfl
  have cx2 : w6.cell? ⟨w.heap.size + 1, 2, none⟩ = some (.int .i64 x3) := bX6.cell 2 rfl
  have cx3 : w6.cell? ⟨w.heap.size + 1, 3, none⟩ = some (.int .i64 x4) := bX6.cell 3 rfl
  have cx4 : w6.cell? ⟨w.heap.size + 1, 4, none⟩ = some (.int .i64 x5) := bX6.cell 4 rfl
  have cx5 : w6.cell? ⟨w.heap.size + 1, 5, none⟩ = some (.int .i64 xr) := bX6.cell 5 rfl
  have cx6 : w6.cell? ⟨w.heap.size + 1, 6, none⟩ = some (.int .i64 xs) := bX6.cell 6 rfl
  have cx7 : w6.cell? ⟨w.heap.size + 1, 7, none⟩ = some (.int .i64 xk) := bX6.cell 7 rfl
  have cx8 : w6.cell? ⟨w.heap.size + 1, 8, none⟩ = some (.int .i64 xv) := bX6.cell 8 rfl
  have cx9 : w6.cell? ⟨w.heap.size + 1, 9, none⟩ = some (.int .i64 xg) := bX6.cell 9 rfl
  have lX6 := bX6.lt
  have cv0 : w6.cell? ⟨BV, 0, none⟩ = some (.int .i64 sb.1) := bV6.cell 0 rfl
  have cv1 : w6.cell? ⟨BV, 1, none⟩ = some (.int .i64 sb.2) := bV6.cell 1 rfl
  have lV6 := bV6.lt
  go_wp2_with fail
  refine (HKN.out _).mono ?_
  rintro e wq ⟨rfl, hq⟩
  have hq := hq.symm
  subst hq
  go_upto_region 8 with fail
  refine (wpIn_wide (n := 4)).1 ?_
  have hmo : Try.prog.follows .mixedOrders = true := by kernel_rfl
  have q0 : Below w6.heap.size w6 w6.drew := (Below.refl _ _).drew
  have KC : Hid (∀ W', Below w6.heap.size w6 W' → W'.cell? ⟨w.heap.size + 1, 0, none⟩ = some (.int .i64 x1) ∧ W'.cell? ⟨w.heap.size + 1, 1, none⟩ = some (.int .i64 x2) ∧ W'.cell? ⟨w.heap.size + 1, 2, none⟩ = some (.int .i64 x3) ∧ W'.cell? ⟨w.heap.size + 1, 3, none⟩ = some (.int .i64 x4) ∧ W'.cell? ⟨w.heap.size + 1, 4, none⟩ = some (.int .i64 x5)) := fun W' h => ⟨(bX6.below h).cell 0 rfl, (bX6.below h).cell 1 rfl, (bX6.below h).cell 2 rfl, (bX6.below h).cell 3 rfl, (bX6.below h).cell 4 rfl⟩
  have hWp : Wks w6.drew w6.drew.heap.size A ws := by
    have h1 := hB6.drew
    exact (HG.out.keep h1).wider h1.size
  refine wpIn_region_held (fun W' => Below w6.heap.size w6 W') 40 hmo ?_
  refine wpHeldIn_take (i := 1) (v := ?_) (plain_of (by kernel_rfl)) rfl (by kernel_rfl) (fun _ _ _ h => h) (yieldsSoIn_of (by kernel_rfl) ?_ (fun _ => rfl)) q0 ?_; rotate_left; focus (intro wq hw; clear hw; go_simp; try (with_reducible rfl))
  refine wpHeldIn_take (i := 3) (v := ?_) (plain_of (by kernel_rfl)) rfl (by kernel_rfl) (fun _ _ _ h => h) (yieldsSoIn_of (by kernel_rfl) ?_ (fun _ => rfl)) q0 ?_; rotate_left; focus (intro wq hw; clear hw; go_simp; try (with_reducible rfl))
  refine wpHeldIn_take (i := 4) (v := ?_) (plain_of (by kernel_rfl)) rfl (by kernel_rfl) (fun _ _ _ h => h) (yieldsSoIn_of (by kernel_rfl) ?_ (fun _ => rfl)) q0 ?_; rotate_left; focus (intro wq hw; have kq := KC.out wq hw; clear hw; go_simp; try (with_reducible rfl))
  refine wpHeldIn_pushw 0 2 5 6 90 92 95 96 91 94 (f0 := 1) (x1, x2, x3, x4, x5) rfl rfl rfl rfl rfl rfl rfl rfl rfl rfl rfl rfl rfl (by kernel_rfl) rfl (by kernel_rfl) (by decide) (by decide) ⟨of_decide_eq_true (by kernel_rfl), of_decide_eq_true (by kernel_rfl), of_decide_eq_true (by kernel_rfl)⟩ rfl rfl hWp hl8 q0 ?_
  intro u91 u92 u93 AP cP w7 hkP q8
  go_simp
  refine wpHeldIn_take (i := 7) (v := ?_) (plain_of (by kernel_rfl)) rfl (by kernel_rfl) (fun _ _ _ h => h) (yieldsSoIn_of (by kernel_rfl) ?_ (fun _ => rfl)) q8 ?_; rotate_left; focus (intro wq hw; clear hw; go_simp; try (with_reducible rfl))
  refine wpHeldIn_done (by kernel_rfl) ?_ _
  go_simp
  have PW7 : Hid (Wks w7 w7.heap.size AP (ws ++ [(x1, x2, x3, x4, x5)])) := hkP
  have bS7 := bS6.below q8
  have bX7 := bX6.below q8
  have bV7 := bV6.below q8
  have hB7 := hB6.trans (q8.mono hB6.size)
  have LA7 : Hid (Ints w7 w7.heap.size (.slice ALA LA.length cLA) LA) := (LA6.out.keep q8).more q8.size
  clear cs0 cs1 cs2 cs3 cs4 cs5 cs6 cs7 lS6 cx0 cx1 cx2 cx3 cx4 cx5 cx6 cx7 cx8 cx9 lX6 cv0 cv1 lV6 bS6 bX6 bV6 LA6 hB6 q8 q0 KC hWp hkP hmo
  have cs0 : w7.cell? ⟨w.heap.size, 0, none⟩ = some (.int .i64 full) := bS7.cell 0 rfl
  have cs1 : w7.cell? ⟨w.heap.size, 1, none⟩ = some (.int .i64 read) := bS7.cell 1 rfl
  have cs2 : w7.cell? ⟨w.heap.size, 2, none⟩ = some (.int .i64 slip) := bS7.cell 2 rfl
  have cs3 : w7.cell? ⟨w.heap.size, 3, none⟩ = some (.int .i64 skew) := bS7.cell 3 rfl
  have cs4 : w7.cell? ⟨w.heap.size, 4, none⟩ = some (.int .i64 circ) := bS7.cell 4 rfl
  have cs5 : w7.cell? ⟨w.heap.size, 5, none⟩ = some (.int .i64 glo) := bS7.cell 5 rfl
  have cs6 : w7.cell? ⟨w.heap.size, 6, none⟩ = some (.int .i64 ghi) := bS7.cell 6 rfl
  have cs7 : w7.cell? ⟨w.heap.size, 7, none⟩ = some (.int .i64 wrn) := bS7.cell 7 rfl
  have lS7 := bS7.lt
  have cx0 : w7.cell? ⟨w.heap.size + 1, 0, none⟩ = some (.int .i64 x1) := bX7.cell 0 rfl
  have cx1 : w7.cell? ⟨w.heap.size + 1, 1, none⟩ = some (.int .i64 x2) := bX7.cell 1 rfl
  have cx2 : w7.cell? ⟨w.heap.size + 1, 2, none⟩ = some (.int .i64 x3) := bX7.cell 2 rfl
  have cx3 : w7.cell? ⟨w.heap.size + 1, 3, none⟩ = some (.int .i64 x4) := bX7.cell 3 rfl
  have cx4 : w7.cell? ⟨w.heap.size + 1, 4, none⟩ = some (.int .i64 x5) := bX7.cell 4 rfl
  have cx5 : w7.cell? ⟨w.heap.size + 1, 5, none⟩ = some (.int .i64 xr) := bX7.cell 5 rfl
  have cx6 : w7.cell? ⟨w.heap.size + 1, 6, none⟩ = some (.int .i64 xs) := bX7.cell 6 rfl
  have cx7 : w7.cell? ⟨w.heap.size + 1, 7, none⟩ = some (.int .i64 xk) := bX7.cell 7 rfl
  have cx8 : w7.cell? ⟨w.heap.size + 1, 8, none⟩ = some (.int .i64 xv) := bX7.cell 8 rfl
  have cx9 : w7.cell? ⟨w.heap.size + 1, 9, none⟩ = some (.int .i64 xg) := bX7.cell 9 rfl
  have lX7 := bX7.lt
  have cv0 : w7.cell? ⟨BV, 0, none⟩ = some (.int .i64 sb.1) := bV7.cell 0 rfl
  have cv1 : w7.cell? ⟨BV, 1, none⟩ = some (.int .i64 sb.2) := bV7.cell 1 rfl
  have lV7 := bV7.lt
  go_wp2_with fail
  refine (HRP.out _ _ _ PW7.out).mono ?_
  rintro e w8 ⟨rfl, hb8⟩
  have bS8 := bS7.below hb8
  have bX8 := bX7.below hb8
  have bV8 := bV7.below hb8
  have hB8 := hB7.trans (hb8.mono hB7.size)
  have LA8 : Hid (Ints w8 w8.heap.size (.slice ALA LA.length cLA) LA) := (LA7.out.keep hb8).more hb8.size
  have PW8 : Hid (Wks w8 w8.heap.size AP (ws ++ [(x1, x2, x3, x4, x5)])) := (PW7.out.keep hb8).wider hb8.size
  clear cs0 cs1 cs2 cs3 cs4 cs5 cs6 cs7 lS7 cx0 cx1 cx2 cx3 cx4 cx5 cx6 cx7 cx8 cx9 lX7 cv0 cv1 lV7 bS7 bX7 bV7 LA7 PW7 hB7 hb8
  have cs0 : w8.cell? ⟨w.heap.size, 0, none⟩ = some (.int .i64 full) := bS8.cell 0 rfl
  have cs1 : w8.cell? ⟨w.heap.size, 1, none⟩ = some (.int .i64 read) := bS8.cell 1 rfl
  have cs2 : w8.cell? ⟨w.heap.size, 2, none⟩ = some (.int .i64 slip) := bS8.cell 2 rfl
  have cs3 : w8.cell? ⟨w.heap.size, 3, none⟩ = some (.int .i64 skew) := bS8.cell 3 rfl
  have cs4 : w8.cell? ⟨w.heap.size, 4, none⟩ = some (.int .i64 circ) := bS8.cell 4 rfl
  have cs5 : w8.cell? ⟨w.heap.size, 5, none⟩ = some (.int .i64 glo) := bS8.cell 5 rfl
  have cs6 : w8.cell? ⟨w.heap.size, 6, none⟩ = some (.int .i64 ghi) := bS8.cell 6 rfl
  have cs7 : w8.cell? ⟨w.heap.size, 7, none⟩ = some (.int .i64 wrn) := bS8.cell 7 rfl
  have lS8 := bS8.lt
  have cx0 : w8.cell? ⟨w.heap.size + 1, 0, none⟩ = some (.int .i64 x1) := bX8.cell 0 rfl
  have cx1 : w8.cell? ⟨w.heap.size + 1, 1, none⟩ = some (.int .i64 x2) := bX8.cell 1 rfl
  have cx2 : w8.cell? ⟨w.heap.size + 1, 2, none⟩ = some (.int .i64 x3) := bX8.cell 2 rfl
  have cx3 : w8.cell? ⟨w.heap.size + 1, 3, none⟩ = some (.int .i64 x4) := bX8.cell 3 rfl
  have cx4 : w8.cell? ⟨w.heap.size + 1, 4, none⟩ = some (.int .i64 x5) := bX8.cell 4 rfl
  have cx5 : w8.cell? ⟨w.heap.size + 1, 5, none⟩ = some (.int .i64 xr) := bX8.cell 5 rfl
  have cx6 : w8.cell? ⟨w.heap.size + 1, 6, none⟩ = some (.int .i64 xs) := bX8.cell 6 rfl
  have cx7 : w8.cell? ⟨w.heap.size + 1, 7, none⟩ = some (.int .i64 xk) := bX8.cell 7 rfl
  have cx8 : w8.cell? ⟨w.heap.size + 1, 8, none⟩ = some (.int .i64 xv) := bX8.cell 8 rfl
  have cx9 : w8.cell? ⟨w.heap.size + 1, 9, none⟩ = some (.int .i64 xg) := bX8.cell 9 rfl
  have lX8 := bX8.lt
  have cv0 : w8.cell? ⟨BV, 0, none⟩ = some (.int .i64 sb.1) := bV8.cell 0 rfl
  have cv1 : w8.cell? ⟨BV, 1, none⟩ = some (.int .i64 sb.2) := bV8.cell 1 rfl
  have lV8 := bV8.lt
  go_wp2_with fail
  refine (HMP.out _ _ _ PW8.out).mono ?_
  rintro e w9 ⟨rfl, hb9⟩
  have bS9 := bS8.below hb9
  have bX9 := bX8.below hb9
  have bV9 := bV8.below hb9
  have hB9 := hB8.trans (hb9.mono hB8.size)
  have LA9 : Hid (Ints w9 w9.heap.size (.slice ALA LA.length cLA) LA) := (LA8.out.keep hb9).more hb9.size
  have PW9 : Hid (Wks w9 w9.heap.size AP (ws ++ [(x1, x2, x3, x4, x5)])) := (PW8.out.keep hb9).wider hb9.size
  clear cs0 cs1 cs2 cs3 cs4 cs5 cs6 cs7 lS8 cx0 cx1 cx2 cx3 cx4 cx5 cx6 cx7 cx8 cx9 lX8 cv0 cv1 lV8 bS8 bX8 bV8 LA8 PW8 hB8 hb9
  have cs0 : w9.cell? ⟨w.heap.size, 0, none⟩ = some (.int .i64 full) := bS9.cell 0 rfl
  have cs1 : w9.cell? ⟨w.heap.size, 1, none⟩ = some (.int .i64 read) := bS9.cell 1 rfl
  have cs2 : w9.cell? ⟨w.heap.size, 2, none⟩ = some (.int .i64 slip) := bS9.cell 2 rfl
  have cs3 : w9.cell? ⟨w.heap.size, 3, none⟩ = some (.int .i64 skew) := bS9.cell 3 rfl
  have cs4 : w9.cell? ⟨w.heap.size, 4, none⟩ = some (.int .i64 circ) := bS9.cell 4 rfl
  have cs5 : w9.cell? ⟨w.heap.size, 5, none⟩ = some (.int .i64 glo) := bS9.cell 5 rfl
  have cs6 : w9.cell? ⟨w.heap.size, 6, none⟩ = some (.int .i64 ghi) := bS9.cell 6 rfl
  have cs7 : w9.cell? ⟨w.heap.size, 7, none⟩ = some (.int .i64 wrn) := bS9.cell 7 rfl
  have lS9 := bS9.lt
  have cx0 : w9.cell? ⟨w.heap.size + 1, 0, none⟩ = some (.int .i64 x1) := bX9.cell 0 rfl
  have cx1 : w9.cell? ⟨w.heap.size + 1, 1, none⟩ = some (.int .i64 x2) := bX9.cell 1 rfl
  have cx2 : w9.cell? ⟨w.heap.size + 1, 2, none⟩ = some (.int .i64 x3) := bX9.cell 2 rfl
  have cx3 : w9.cell? ⟨w.heap.size + 1, 3, none⟩ = some (.int .i64 x4) := bX9.cell 3 rfl
  have cx4 : w9.cell? ⟨w.heap.size + 1, 4, none⟩ = some (.int .i64 x5) := bX9.cell 4 rfl
  have cx5 : w9.cell? ⟨w.heap.size + 1, 5, none⟩ = some (.int .i64 xr) := bX9.cell 5 rfl
  have cx6 : w9.cell? ⟨w.heap.size + 1, 6, none⟩ = some (.int .i64 xs) := bX9.cell 6 rfl
  have cx7 : w9.cell? ⟨w.heap.size + 1, 7, none⟩ = some (.int .i64 xk) := bX9.cell 7 rfl
  have cx8 : w9.cell? ⟨w.heap.size + 1, 8, none⟩ = some (.int .i64 xv) := bX9.cell 8 rfl
  have cx9 : w9.cell? ⟨w.heap.size + 1, 9, none⟩ = some (.int .i64 xg) := bX9.cell 9 rfl
  have lX9 := bX9.lt
  have cv0 : w9.cell? ⟨BV, 0, none⟩ = some (.int .i64 sb.1) := bV9.cell 0 rfl
  have cv1 : w9.cell? ⟨BV, 1, none⟩ = some (.int .i64 sb.2) := bV9.cell 1 rfl
  have lV9 := bV9.lt
  go_wp2_with fail
  refine (HBP.out _ _ _ PW9.out).mono ?_
  rintro e w10 ⟨rfl, hb10⟩
  have bS10 := bS9.below hb10
  have bX10 := bX9.below hb10
  have bV10 := bV9.below hb10
  have hB10 := hB9.trans (hb10.mono hB9.size)
  have LA10 : Hid (Ints w10 w10.heap.size (.slice ALA LA.length cLA) LA) := (LA9.out.keep hb10).more hb10.size
  have PW10 : Hid (Wks w10 w10.heap.size AP (ws ++ [(x1, x2, x3, x4, x5)])) := (PW9.out.keep hb10).wider hb10.size
  clear cs0 cs1 cs2 cs3 cs4 cs5 cs6 cs7 lS9 cx0 cx1 cx2 cx3 cx4 cx5 cx6 cx7 cx8 cx9 lX9 cv0 cv1 lV9 bS9 bX9 bV9 LA9 PW9 hB9 hb10
  have cs0 : w10.cell? ⟨w.heap.size, 0, none⟩ = some (.int .i64 full) := bS10.cell 0 rfl
  have cs1 : w10.cell? ⟨w.heap.size, 1, none⟩ = some (.int .i64 read) := bS10.cell 1 rfl
  have cs2 : w10.cell? ⟨w.heap.size, 2, none⟩ = some (.int .i64 slip) := bS10.cell 2 rfl
  have cs3 : w10.cell? ⟨w.heap.size, 3, none⟩ = some (.int .i64 skew) := bS10.cell 3 rfl
  have cs4 : w10.cell? ⟨w.heap.size, 4, none⟩ = some (.int .i64 circ) := bS10.cell 4 rfl
  have cs5 : w10.cell? ⟨w.heap.size, 5, none⟩ = some (.int .i64 glo) := bS10.cell 5 rfl
  have cs6 : w10.cell? ⟨w.heap.size, 6, none⟩ = some (.int .i64 ghi) := bS10.cell 6 rfl
  have cs7 : w10.cell? ⟨w.heap.size, 7, none⟩ = some (.int .i64 wrn) := bS10.cell 7 rfl
  have lS10 := bS10.lt
  have cx0 : w10.cell? ⟨w.heap.size + 1, 0, none⟩ = some (.int .i64 x1) := bX10.cell 0 rfl
  have cx1 : w10.cell? ⟨w.heap.size + 1, 1, none⟩ = some (.int .i64 x2) := bX10.cell 1 rfl
  have cx2 : w10.cell? ⟨w.heap.size + 1, 2, none⟩ = some (.int .i64 x3) := bX10.cell 2 rfl
  have cx3 : w10.cell? ⟨w.heap.size + 1, 3, none⟩ = some (.int .i64 x4) := bX10.cell 3 rfl
  have cx4 : w10.cell? ⟨w.heap.size + 1, 4, none⟩ = some (.int .i64 x5) := bX10.cell 4 rfl
  have cx5 : w10.cell? ⟨w.heap.size + 1, 5, none⟩ = some (.int .i64 xr) := bX10.cell 5 rfl
  have cx6 : w10.cell? ⟨w.heap.size + 1, 6, none⟩ = some (.int .i64 xs) := bX10.cell 6 rfl
  have cx7 : w10.cell? ⟨w.heap.size + 1, 7, none⟩ = some (.int .i64 xk) := bX10.cell 7 rfl
  have cx8 : w10.cell? ⟨w.heap.size + 1, 8, none⟩ = some (.int .i64 xv) := bX10.cell 8 rfl
  have cx9 : w10.cell? ⟨w.heap.size + 1, 9, none⟩ = some (.int .i64 xg) := bX10.cell 9 rfl
  have lX10 := bX10.lt
  have cv0 : w10.cell? ⟨BV, 0, none⟩ = some (.int .i64 sb.1) := bV10.cell 0 rfl
  have cv1 : w10.cell? ⟨BV, 1, none⟩ = some (.int .i64 sb.2) := bV10.cell 1 rfl
  have lV10 := bV10.lt
  go_upto_region 12 with fail
  have bU11n := BoxS.new w10 23 #[.int .i64 tb.1, .int .i64 tb.2]
  have hbx : Below w10.heap.size w10 (w10.alloc (.cells #[.int .i64 tb.1, .int .i64 tb.2] 23)) := (Below.refl _ _).alloc (Nat.le_refl _) _
  have bS11 := bS10.below hbx
  have bX11 := bX10.below hbx
  have bV11 := bV10.below hbx
  have hB11 := hB10.trans (hbx.mono hB10.size)
  have LA11 : Hid (Ints (w10.alloc (.cells #[.int .i64 tb.1, .int .i64 tb.2] 23)) (w10.alloc (.cells #[.int .i64 tb.1, .int .i64 tb.2] 23)).heap.size (.slice ALA LA.length cLA) LA) := (LA10.out.keep hbx).more hbx.size
  have PW11 : Hid (Wks (w10.alloc (.cells #[.int .i64 tb.1, .int .i64 tb.2] 23)) (w10.alloc (.cells #[.int .i64 tb.1, .int .i64 tb.2] 23)).heap.size AP (ws ++ [(x1, x2, x3, x4, x5)])) := (PW10.out.keep hbx).wider hbx.size
  obtain ⟨BU, hBe⟩ : ∃ B, B = w10.heap.size := ⟨_, rfl⟩
  have kU : BV < BU := by have := bV10.lt; omega
  rw [← hBe] at bU11n ⊢
  have bU11 := bU11n
  clear cs0 cs1 cs2 cs3 cs4 cs5 cs6 cs7 lS10 cx0 cx1 cx2 cx3 cx4 cx5 cx6 cx7 cx8 cx9 lX10 cv0 cv1 lV10 bS10 bX10 bV10 LA10 PW10 hB10 hbx hBe bU11n
  generalize World.alloc w10 _ = w11 at *
  have kU2 : w.heap.size < BU := by omega
  have cs0 : w11.cell? ⟨w.heap.size, 0, none⟩ = some (.int .i64 full) := bS11.cell 0 rfl
  have cs1 : w11.cell? ⟨w.heap.size, 1, none⟩ = some (.int .i64 read) := bS11.cell 1 rfl
  have cs2 : w11.cell? ⟨w.heap.size, 2, none⟩ = some (.int .i64 slip) := bS11.cell 2 rfl
  have cs3 : w11.cell? ⟨w.heap.size, 3, none⟩ = some (.int .i64 skew) := bS11.cell 3 rfl
  have cs4 : w11.cell? ⟨w.heap.size, 4, none⟩ = some (.int .i64 circ) := bS11.cell 4 rfl
  have cs5 : w11.cell? ⟨w.heap.size, 5, none⟩ = some (.int .i64 glo) := bS11.cell 5 rfl
  have cs6 : w11.cell? ⟨w.heap.size, 6, none⟩ = some (.int .i64 ghi) := bS11.cell 6 rfl
  have cs7 : w11.cell? ⟨w.heap.size, 7, none⟩ = some (.int .i64 wrn) := bS11.cell 7 rfl
  have lS11 := bS11.lt
  have cx0 : w11.cell? ⟨w.heap.size + 1, 0, none⟩ = some (.int .i64 x1) := bX11.cell 0 rfl
  have cx1 : w11.cell? ⟨w.heap.size + 1, 1, none⟩ = some (.int .i64 x2) := bX11.cell 1 rfl
  have cx2 : w11.cell? ⟨w.heap.size + 1, 2, none⟩ = some (.int .i64 x3) := bX11.cell 2 rfl
  have cx3 : w11.cell? ⟨w.heap.size + 1, 3, none⟩ = some (.int .i64 x4) := bX11.cell 3 rfl
  have cx4 : w11.cell? ⟨w.heap.size + 1, 4, none⟩ = some (.int .i64 x5) := bX11.cell 4 rfl
  have cx5 : w11.cell? ⟨w.heap.size + 1, 5, none⟩ = some (.int .i64 xr) := bX11.cell 5 rfl
  have cx6 : w11.cell? ⟨w.heap.size + 1, 6, none⟩ = some (.int .i64 xs) := bX11.cell 6 rfl
  have cx7 : w11.cell? ⟨w.heap.size + 1, 7, none⟩ = some (.int .i64 xk) := bX11.cell 7 rfl
  have cx8 : w11.cell? ⟨w.heap.size + 1, 8, none⟩ = some (.int .i64 xv) := bX11.cell 8 rfl
  have cx9 : w11.cell? ⟨w.heap.size + 1, 9, none⟩ = some (.int .i64 xg) := bX11.cell 9 rfl
  have lX11 := bX11.lt
  have cv0 : w11.cell? ⟨BV, 0, none⟩ = some (.int .i64 sb.1) := bV11.cell 0 rfl
  have cv1 : w11.cell? ⟨BV, 1, none⟩ = some (.int .i64 sb.2) := bV11.cell 1 rfl
  have lV11 := bV11.lt
  have cu0 : w11.cell? ⟨BU, 0, none⟩ = some (.int .i64 tb.1) := bU11.cell 0 rfl
  have cu1 : w11.cell? ⟨BU, 1, none⟩ = some (.int .i64 tb.2) := bU11.cell 1 rfl
  have lU11 := bU11.lt
  go_wp2_with fail
  refine (HKP.out _).mono ?_
  rintro e wq ⟨rfl, hq⟩
  have hq := hq.symm
  subst hq
  go_upto_region 15 with fail
  clear bV11
  clear bU11
  clear PW11
  have hC11 : Below w11.heap.size w11 w11 := Below.refl _ _
  have bO12n := BoxS.new w11 25 #[.int .i64 full, .int .i64 read, .int .i64 slip, .int .i64 skew, .int .i64 circ, .int .i64 glo, .int .i64 ghi, .int .i64 wrn]
  have hbx : Below w11.heap.size w11 (w11.alloc (.cells #[.int .i64 full, .int .i64 read, .int .i64 slip, .int .i64 skew, .int .i64 circ, .int .i64 glo, .int .i64 ghi, .int .i64 wrn] 25)) := (Below.refl _ _).alloc (Nat.le_refl _) _
  have bS12 := bS11.below hbx
  have bX12 := bX11.below hbx
  have hB12 := hB11.trans (hbx.mono hB11.size)
  have hC12 := hC11.trans (hbx.mono hC11.size)
  obtain ⟨BO, hBe⟩ : ∃ B, B = w11.heap.size := ⟨_, rfl⟩
  have kOc : w11.heap.size ≤ BO := Nat.le_of_eq hBe.symm
  have kO : w.heap.size + 1 < BO := by have := bX11.lt; omega
  rw [← hBe] at bO12n ⊢
  have bO12 := bO12n
  clear cs0 cs1 cs2 cs3 cs4 cs5 cs6 cs7 lS11 cx0 cx1 cx2 cx3 cx4 cx5 cx6 cx7 cx8 cx9 lX11 cv0 cv1 lV11 cu0 cu1 lU11 bS11 bX11 hB11 hC11 hbx hBe bO12n
  generalize World.alloc w11 _ = w12 at *
  have kO2 : w.heap.size < BO := by omega
  have cs0 : w12.cell? ⟨w.heap.size, 0, none⟩ = some (.int .i64 full) := bS12.cell 0 rfl
  have cs1 : w12.cell? ⟨w.heap.size, 1, none⟩ = some (.int .i64 read) := bS12.cell 1 rfl
  have cs2 : w12.cell? ⟨w.heap.size, 2, none⟩ = some (.int .i64 slip) := bS12.cell 2 rfl
  have cs3 : w12.cell? ⟨w.heap.size, 3, none⟩ = some (.int .i64 skew) := bS12.cell 3 rfl
  have cs4 : w12.cell? ⟨w.heap.size, 4, none⟩ = some (.int .i64 circ) := bS12.cell 4 rfl
  have cs5 : w12.cell? ⟨w.heap.size, 5, none⟩ = some (.int .i64 glo) := bS12.cell 5 rfl
  have cs6 : w12.cell? ⟨w.heap.size, 6, none⟩ = some (.int .i64 ghi) := bS12.cell 6 rfl
  have cs7 : w12.cell? ⟨w.heap.size, 7, none⟩ = some (.int .i64 wrn) := bS12.cell 7 rfl
  have lS12 := bS12.lt
  have cx0 : w12.cell? ⟨w.heap.size + 1, 0, none⟩ = some (.int .i64 x1) := bX12.cell 0 rfl
  have cx1 : w12.cell? ⟨w.heap.size + 1, 1, none⟩ = some (.int .i64 x2) := bX12.cell 1 rfl
  have cx2 : w12.cell? ⟨w.heap.size + 1, 2, none⟩ = some (.int .i64 x3) := bX12.cell 2 rfl
  have cx3 : w12.cell? ⟨w.heap.size + 1, 3, none⟩ = some (.int .i64 x4) := bX12.cell 3 rfl
  have cx4 : w12.cell? ⟨w.heap.size + 1, 4, none⟩ = some (.int .i64 x5) := bX12.cell 4 rfl
  have cx5 : w12.cell? ⟨w.heap.size + 1, 5, none⟩ = some (.int .i64 xr) := bX12.cell 5 rfl
  have cx6 : w12.cell? ⟨w.heap.size + 1, 6, none⟩ = some (.int .i64 xs) := bX12.cell 6 rfl
  have cx7 : w12.cell? ⟨w.heap.size + 1, 7, none⟩ = some (.int .i64 xk) := bX12.cell 7 rfl
  have cx8 : w12.cell? ⟨w.heap.size + 1, 8, none⟩ = some (.int .i64 xv) := bX12.cell 8 rfl
  have cx9 : w12.cell? ⟨w.heap.size + 1, 9, none⟩ = some (.int .i64 xg) := bX12.cell 9 rfl
  have lX12 := bX12.lt
  have co0 : w12.cell? ⟨BO, 0, none⟩ = some (.int .i64 full) := bO12.cell 0 rfl
  have co1 : w12.cell? ⟨BO, 1, none⟩ = some (.int .i64 read) := bO12.cell 1 rfl
  have co2 : w12.cell? ⟨BO, 2, none⟩ = some (.int .i64 slip) := bO12.cell 2 rfl
  have co3 : w12.cell? ⟨BO, 3, none⟩ = some (.int .i64 skew) := bO12.cell 3 rfl
  have co4 : w12.cell? ⟨BO, 4, none⟩ = some (.int .i64 circ) := bO12.cell 4 rfl
  have co5 : w12.cell? ⟨BO, 5, none⟩ = some (.int .i64 glo) := bO12.cell 5 rfl
  have co6 : w12.cell? ⟨BO, 6, none⟩ = some (.int .i64 ghi) := bO12.cell 6 rfl
  have co7 : w12.cell? ⟨BO, 7, none⟩ = some (.int .i64 wrn) := bO12.cell 7 rfl
  have lO12 := bO12.lt
  have fzo1 := bO12.frozen 1
  go_upto_region 16 with fail
  have bS13 : BoxS (w12.setCell ⟨BO, 1, none⟩ (.int .i64 (read + xr))) (w.heap.size) 25 #[.int .i64 full, .int .i64 read, .int .i64 slip, .int .i64 skew, .int .i64 circ, .int .i64 glo, .int .i64 ghi, .int .i64 wrn] := (bS12.away (by omega) _ _)
  have bX13 : BoxS (w12.setCell ⟨BO, 1, none⟩ (.int .i64 (read + xr))) (w.heap.size + 1) 56 #[.int .i64 x1, .int .i64 x2, .int .i64 x3, .int .i64 x4, .int .i64 x5, .int .i64 xr, .int .i64 xs, .int .i64 xk, .int .i64 xv, .int .i64 xg] := (bX12.away (by omega) _ _)
  have bO13 : BoxS (w12.setCell ⟨BO, 1, none⟩ (.int .i64 (read + xr))) BO 25 #[.int .i64 full, .int .i64 (read + xr), .int .i64 slip, .int .i64 skew, .int .i64 circ, .int .i64 glo, .int .i64 ghi, .int .i64 wrn] := (bO12.put9 1 (.int .i64 (read + xr)))
  have hB13 : Below w.heap.size w (w12.setCell ⟨BO, 1, none⟩ (.int .i64 (read + xr))) := by have := hB12; (repeat' (first | (with_reducible exact Below.refl _ _) | (with_reducible assumption) | (with_reducible refine Below.alloc ?_ ?_ _) | (with_reducible refine Below.drew ?_) | (with_reducible refine Below.setCell ?_ ?_ _) | go_size | (exact (by simp)) | omega))
  have hC13 : Below w11.heap.size w11 (w12.setCell ⟨BO, 1, none⟩ (.int .i64 (read + xr))) := by have := hC12; (repeat' (first | (with_reducible exact Below.refl _ _) | (with_reducible assumption) | (with_reducible refine Below.alloc ?_ ?_ _) | (with_reducible refine Below.drew ?_) | (with_reducible refine Below.setCell ?_ ?_ _) | go_size | (exact (by simp)) | omega))
  clear cs0 cs1 cs2 cs3 cs4 cs5 cs6 cs7 lS12 cx0 cx1 cx2 cx3 cx4 cx5 cx6 cx7 cx8 cx9 lX12 co0 co1 co2 co3 co4 co5 co6 co7 lO12 fzo1 bS12 bX12 bO12 hB12 hC12
  generalize World.setCell w12 _ _ = w13 at *
  have cs0 : w13.cell? ⟨w.heap.size, 0, none⟩ = some (.int .i64 full) := bS13.cell 0 rfl
  have cs1 : w13.cell? ⟨w.heap.size, 1, none⟩ = some (.int .i64 read) := bS13.cell 1 rfl
  have cs2 : w13.cell? ⟨w.heap.size, 2, none⟩ = some (.int .i64 slip) := bS13.cell 2 rfl
  have cs3 : w13.cell? ⟨w.heap.size, 3, none⟩ = some (.int .i64 skew) := bS13.cell 3 rfl
  have cs4 : w13.cell? ⟨w.heap.size, 4, none⟩ = some (.int .i64 circ) := bS13.cell 4 rfl
  have cs5 : w13.cell? ⟨w.heap.size, 5, none⟩ = some (.int .i64 glo) := bS13.cell 5 rfl
  have cs6 : w13.cell? ⟨w.heap.size, 6, none⟩ = some (.int .i64 ghi) := bS13.cell 6 rfl
  have cs7 : w13.cell? ⟨w.heap.size, 7, none⟩ = some (.int .i64 wrn) := bS13.cell 7 rfl
  have lS13 := bS13.lt
  have cx0 : w13.cell? ⟨w.heap.size + 1, 0, none⟩ = some (.int .i64 x1) := bX13.cell 0 rfl
  have cx1 : w13.cell? ⟨w.heap.size + 1, 1, none⟩ = some (.int .i64 x2) := bX13.cell 1 rfl
  have cx2 : w13.cell? ⟨w.heap.size + 1, 2, none⟩ = some (.int .i64 x3) := bX13.cell 2 rfl
  have cx3 : w13.cell? ⟨w.heap.size + 1, 3, none⟩ = some (.int .i64 x4) := bX13.cell 3 rfl
  have cx4 : w13.cell? ⟨w.heap.size + 1, 4, none⟩ = some (.int .i64 x5) := bX13.cell 4 rfl
  have cx5 : w13.cell? ⟨w.heap.size + 1, 5, none⟩ = some (.int .i64 xr) := bX13.cell 5 rfl
  have cx6 : w13.cell? ⟨w.heap.size + 1, 6, none⟩ = some (.int .i64 xs) := bX13.cell 6 rfl
  have cx7 : w13.cell? ⟨w.heap.size + 1, 7, none⟩ = some (.int .i64 xk) := bX13.cell 7 rfl
  have cx8 : w13.cell? ⟨w.heap.size + 1, 8, none⟩ = some (.int .i64 xv) := bX13.cell 8 rfl
  have cx9 : w13.cell? ⟨w.heap.size + 1, 9, none⟩ = some (.int .i64 xg) := bX13.cell 9 rfl
  have lX13 := bX13.lt
  have co0 : w13.cell? ⟨BO, 0, none⟩ = some (.int .i64 full) := bO13.cell 0 rfl
  have co1 : w13.cell? ⟨BO, 1, none⟩ = some (.int .i64 (read + xr)) := bO13.cell 1 rfl
  have co2 : w13.cell? ⟨BO, 2, none⟩ = some (.int .i64 slip) := bO13.cell 2 rfl
  have co3 : w13.cell? ⟨BO, 3, none⟩ = some (.int .i64 skew) := bO13.cell 3 rfl
  have co4 : w13.cell? ⟨BO, 4, none⟩ = some (.int .i64 circ) := bO13.cell 4 rfl
  have co5 : w13.cell? ⟨BO, 5, none⟩ = some (.int .i64 glo) := bO13.cell 5 rfl
  have co6 : w13.cell? ⟨BO, 6, none⟩ = some (.int .i64 ghi) := bO13.cell 6 rfl
  have co7 : w13.cell? ⟨BO, 7, none⟩ = some (.int .i64 wrn) := bO13.cell 7 rfl
  have lO13 := bO13.lt
  have fzo2 := bO13.frozen 2
  go_upto_region 17 with fail
  have bS14 : BoxS (w13.setCell ⟨BO, 2, none⟩ (.int .i64 (slip + xs))) (w.heap.size) 25 #[.int .i64 full, .int .i64 read, .int .i64 slip, .int .i64 skew, .int .i64 circ, .int .i64 glo, .int .i64 ghi, .int .i64 wrn] := (bS13.away (by omega) _ _)
  have bX14 : BoxS (w13.setCell ⟨BO, 2, none⟩ (.int .i64 (slip + xs))) (w.heap.size + 1) 56 #[.int .i64 x1, .int .i64 x2, .int .i64 x3, .int .i64 x4, .int .i64 x5, .int .i64 xr, .int .i64 xs, .int .i64 xk, .int .i64 xv, .int .i64 xg] := (bX13.away (by omega) _ _)
  have bO14 : BoxS (w13.setCell ⟨BO, 2, none⟩ (.int .i64 (slip + xs))) BO 25 #[.int .i64 full, .int .i64 (read + xr), .int .i64 (slip + xs), .int .i64 skew, .int .i64 circ, .int .i64 glo, .int .i64 ghi, .int .i64 wrn] := (bO13.put9 2 (.int .i64 (slip + xs)))
  have hB14 : Below w.heap.size w (w13.setCell ⟨BO, 2, none⟩ (.int .i64 (slip + xs))) := by have := hB13; (repeat' (first | (with_reducible exact Below.refl _ _) | (with_reducible assumption) | (with_reducible refine Below.alloc ?_ ?_ _) | (with_reducible refine Below.drew ?_) | (with_reducible refine Below.setCell ?_ ?_ _) | go_size | (exact (by simp)) | omega))
  have hC14 : Below w11.heap.size w11 (w13.setCell ⟨BO, 2, none⟩ (.int .i64 (slip + xs))) := by have := hC13; (repeat' (first | (with_reducible exact Below.refl _ _) | (with_reducible assumption) | (with_reducible refine Below.alloc ?_ ?_ _) | (with_reducible refine Below.drew ?_) | (with_reducible refine Below.setCell ?_ ?_ _) | go_size | (exact (by simp)) | omega))
  clear cs0 cs1 cs2 cs3 cs4 cs5 cs6 cs7 lS13 cx0 cx1 cx2 cx3 cx4 cx5 cx6 cx7 cx8 cx9 lX13 co0 co1 co2 co3 co4 co5 co6 co7 lO13 fzo2 bS13 bX13 bO13 hB13 hC13
  generalize World.setCell w13 _ _ = w14 at *
  have cs0 : w14.cell? ⟨w.heap.size, 0, none⟩ = some (.int .i64 full) := bS14.cell 0 rfl
  have cs1 : w14.cell? ⟨w.heap.size, 1, none⟩ = some (.int .i64 read) := bS14.cell 1 rfl
  have cs2 : w14.cell? ⟨w.heap.size, 2, none⟩ = some (.int .i64 slip) := bS14.cell 2 rfl
  have cs3 : w14.cell? ⟨w.heap.size, 3, none⟩ = some (.int .i64 skew) := bS14.cell 3 rfl
  have cs4 : w14.cell? ⟨w.heap.size, 4, none⟩ = some (.int .i64 circ) := bS14.cell 4 rfl
  have cs5 : w14.cell? ⟨w.heap.size, 5, none⟩ = some (.int .i64 glo) := bS14.cell 5 rfl
  have cs6 : w14.cell? ⟨w.heap.size, 6, none⟩ = some (.int .i64 ghi) := bS14.cell 6 rfl
  have cs7 : w14.cell? ⟨w.heap.size, 7, none⟩ = some (.int .i64 wrn) := bS14.cell 7 rfl
  have lS14 := bS14.lt
  have cx0 : w14.cell? ⟨w.heap.size + 1, 0, none⟩ = some (.int .i64 x1) := bX14.cell 0 rfl
  have cx1 : w14.cell? ⟨w.heap.size + 1, 1, none⟩ = some (.int .i64 x2) := bX14.cell 1 rfl
  have cx2 : w14.cell? ⟨w.heap.size + 1, 2, none⟩ = some (.int .i64 x3) := bX14.cell 2 rfl
  have cx3 : w14.cell? ⟨w.heap.size + 1, 3, none⟩ = some (.int .i64 x4) := bX14.cell 3 rfl
  have cx4 : w14.cell? ⟨w.heap.size + 1, 4, none⟩ = some (.int .i64 x5) := bX14.cell 4 rfl
  have cx5 : w14.cell? ⟨w.heap.size + 1, 5, none⟩ = some (.int .i64 xr) := bX14.cell 5 rfl
  have cx6 : w14.cell? ⟨w.heap.size + 1, 6, none⟩ = some (.int .i64 xs) := bX14.cell 6 rfl
  have cx7 : w14.cell? ⟨w.heap.size + 1, 7, none⟩ = some (.int .i64 xk) := bX14.cell 7 rfl
  have cx8 : w14.cell? ⟨w.heap.size + 1, 8, none⟩ = some (.int .i64 xv) := bX14.cell 8 rfl
  have cx9 : w14.cell? ⟨w.heap.size + 1, 9, none⟩ = some (.int .i64 xg) := bX14.cell 9 rfl
  have lX14 := bX14.lt
  have co0 : w14.cell? ⟨BO, 0, none⟩ = some (.int .i64 full) := bO14.cell 0 rfl
  have co1 : w14.cell? ⟨BO, 1, none⟩ = some (.int .i64 (read + xr)) := bO14.cell 1 rfl
  have co2 : w14.cell? ⟨BO, 2, none⟩ = some (.int .i64 (slip + xs)) := bO14.cell 2 rfl
  have co3 : w14.cell? ⟨BO, 3, none⟩ = some (.int .i64 skew) := bO14.cell 3 rfl
  have co4 : w14.cell? ⟨BO, 4, none⟩ = some (.int .i64 circ) := bO14.cell 4 rfl
  have co5 : w14.cell? ⟨BO, 5, none⟩ = some (.int .i64 glo) := bO14.cell 5 rfl
  have co6 : w14.cell? ⟨BO, 6, none⟩ = some (.int .i64 ghi) := bO14.cell 6 rfl
  have co7 : w14.cell? ⟨BO, 7, none⟩ = some (.int .i64 wrn) := bO14.cell 7 rfl
  have lO14 := bO14.lt
  have fzo3 := bO14.frozen 3
  go_upto_region 18 with fail
  have bS15 : BoxS (w14.setCell ⟨BO, 3, none⟩ (.int .i64 (skew + xk))) (w.heap.size) 25 #[.int .i64 full, .int .i64 read, .int .i64 slip, .int .i64 skew, .int .i64 circ, .int .i64 glo, .int .i64 ghi, .int .i64 wrn] := (bS14.away (by omega) _ _)
  have bX15 : BoxS (w14.setCell ⟨BO, 3, none⟩ (.int .i64 (skew + xk))) (w.heap.size + 1) 56 #[.int .i64 x1, .int .i64 x2, .int .i64 x3, .int .i64 x4, .int .i64 x5, .int .i64 xr, .int .i64 xs, .int .i64 xk, .int .i64 xv, .int .i64 xg] := (bX14.away (by omega) _ _)
  have bO15 : BoxS (w14.setCell ⟨BO, 3, none⟩ (.int .i64 (skew + xk))) BO 25 #[.int .i64 full, .int .i64 (read + xr), .int .i64 (slip + xs), .int .i64 (skew + xk), .int .i64 circ, .int .i64 glo, .int .i64 ghi, .int .i64 wrn] := (bO14.put9 3 (.int .i64 (skew + xk)))
  have hB15 : Below w.heap.size w (w14.setCell ⟨BO, 3, none⟩ (.int .i64 (skew + xk))) := by have := hB14; (repeat' (first | (with_reducible exact Below.refl _ _) | (with_reducible assumption) | (with_reducible refine Below.alloc ?_ ?_ _) | (with_reducible refine Below.drew ?_) | (with_reducible refine Below.setCell ?_ ?_ _) | go_size | (exact (by simp)) | omega))
  have hC15 : Below w11.heap.size w11 (w14.setCell ⟨BO, 3, none⟩ (.int .i64 (skew + xk))) := by have := hC14; (repeat' (first | (with_reducible exact Below.refl _ _) | (with_reducible assumption) | (with_reducible refine Below.alloc ?_ ?_ _) | (with_reducible refine Below.drew ?_) | (with_reducible refine Below.setCell ?_ ?_ _) | go_size | (exact (by simp)) | omega))
  clear cs0 cs1 cs2 cs3 cs4 cs5 cs6 cs7 lS14 cx0 cx1 cx2 cx3 cx4 cx5 cx6 cx7 cx8 cx9 lX14 co0 co1 co2 co3 co4 co5 co6 co7 lO14 fzo3 bS14 bX14 bO14 hB14 hC14
  generalize World.setCell w14 _ _ = w15 at *
  have cs0 : w15.cell? ⟨w.heap.size, 0, none⟩ = some (.int .i64 full) := bS15.cell 0 rfl
  have cs1 : w15.cell? ⟨w.heap.size, 1, none⟩ = some (.int .i64 read) := bS15.cell 1 rfl
  have cs2 : w15.cell? ⟨w.heap.size, 2, none⟩ = some (.int .i64 slip) := bS15.cell 2 rfl
  have cs3 : w15.cell? ⟨w.heap.size, 3, none⟩ = some (.int .i64 skew) := bS15.cell 3 rfl
  have cs4 : w15.cell? ⟨w.heap.size, 4, none⟩ = some (.int .i64 circ) := bS15.cell 4 rfl
  have cs5 : w15.cell? ⟨w.heap.size, 5, none⟩ = some (.int .i64 glo) := bS15.cell 5 rfl
  have cs6 : w15.cell? ⟨w.heap.size, 6, none⟩ = some (.int .i64 ghi) := bS15.cell 6 rfl
  have cs7 : w15.cell? ⟨w.heap.size, 7, none⟩ = some (.int .i64 wrn) := bS15.cell 7 rfl
  have lS15 := bS15.lt
  have cx0 : w15.cell? ⟨w.heap.size + 1, 0, none⟩ = some (.int .i64 x1) := bX15.cell 0 rfl
  have cx1 : w15.cell? ⟨w.heap.size + 1, 1, none⟩ = some (.int .i64 x2) := bX15.cell 1 rfl
  have cx2 : w15.cell? ⟨w.heap.size + 1, 2, none⟩ = some (.int .i64 x3) := bX15.cell 2 rfl
  have cx3 : w15.cell? ⟨w.heap.size + 1, 3, none⟩ = some (.int .i64 x4) := bX15.cell 3 rfl
  have cx4 : w15.cell? ⟨w.heap.size + 1, 4, none⟩ = some (.int .i64 x5) := bX15.cell 4 rfl
  have cx5 : w15.cell? ⟨w.heap.size + 1, 5, none⟩ = some (.int .i64 xr) := bX15.cell 5 rfl
  have cx6 : w15.cell? ⟨w.heap.size + 1, 6, none⟩ = some (.int .i64 xs) := bX15.cell 6 rfl
  have cx7 : w15.cell? ⟨w.heap.size + 1, 7, none⟩ = some (.int .i64 xk) := bX15.cell 7 rfl
  have cx8 : w15.cell? ⟨w.heap.size + 1, 8, none⟩ = some (.int .i64 xv) := bX15.cell 8 rfl
  have cx9 : w15.cell? ⟨w.heap.size + 1, 9, none⟩ = some (.int .i64 xg) := bX15.cell 9 rfl
  have lX15 := bX15.lt
  have co0 : w15.cell? ⟨BO, 0, none⟩ = some (.int .i64 full) := bO15.cell 0 rfl
  have co1 : w15.cell? ⟨BO, 1, none⟩ = some (.int .i64 (read + xr)) := bO15.cell 1 rfl
  have co2 : w15.cell? ⟨BO, 2, none⟩ = some (.int .i64 (slip + xs)) := bO15.cell 2 rfl
  have co3 : w15.cell? ⟨BO, 3, none⟩ = some (.int .i64 (skew + xk)) := bO15.cell 3 rfl
  have co4 : w15.cell? ⟨BO, 4, none⟩ = some (.int .i64 circ) := bO15.cell 4 rfl
  have co5 : w15.cell? ⟨BO, 5, none⟩ = some (.int .i64 glo) := bO15.cell 5 rfl
  have co6 : w15.cell? ⟨BO, 6, none⟩ = some (.int .i64 ghi) := bO15.cell 6 rfl
  have co7 : w15.cell? ⟨BO, 7, none⟩ = some (.int .i64 wrn) := bO15.cell 7 rfl
  have lO15 := bO15.lt
  have fzo7 := bO15.frozen 7
  go_upto_region 19 with fail
  have bS16 : BoxS (w15.setCell ⟨BO, 7, none⟩ (.int .i64 (wrn + xv))) (w.heap.size) 25 #[.int .i64 full, .int .i64 read, .int .i64 slip, .int .i64 skew, .int .i64 circ, .int .i64 glo, .int .i64 ghi, .int .i64 wrn] := (bS15.away (by omega) _ _)
  have bX16 : BoxS (w15.setCell ⟨BO, 7, none⟩ (.int .i64 (wrn + xv))) (w.heap.size + 1) 56 #[.int .i64 x1, .int .i64 x2, .int .i64 x3, .int .i64 x4, .int .i64 x5, .int .i64 xr, .int .i64 xs, .int .i64 xk, .int .i64 xv, .int .i64 xg] := (bX15.away (by omega) _ _)
  have bO16 : BoxS (w15.setCell ⟨BO, 7, none⟩ (.int .i64 (wrn + xv))) BO 25 #[.int .i64 full, .int .i64 (read + xr), .int .i64 (slip + xs), .int .i64 (skew + xk), .int .i64 circ, .int .i64 glo, .int .i64 ghi, .int .i64 (wrn + xv)] := (bO15.put9 7 (.int .i64 (wrn + xv)))
  have hB16 : Below w.heap.size w (w15.setCell ⟨BO, 7, none⟩ (.int .i64 (wrn + xv))) := by have := hB15; (repeat' (first | (with_reducible exact Below.refl _ _) | (with_reducible assumption) | (with_reducible refine Below.alloc ?_ ?_ _) | (with_reducible refine Below.drew ?_) | (with_reducible refine Below.setCell ?_ ?_ _) | go_size | (exact (by simp)) | omega))
  have hC16 : Below w11.heap.size w11 (w15.setCell ⟨BO, 7, none⟩ (.int .i64 (wrn + xv))) := by have := hC15; (repeat' (first | (with_reducible exact Below.refl _ _) | (with_reducible assumption) | (with_reducible refine Below.alloc ?_ ?_ _) | (with_reducible refine Below.drew ?_) | (with_reducible refine Below.setCell ?_ ?_ _) | go_size | (exact (by simp)) | omega))
  clear cs0 cs1 cs2 cs3 cs4 cs5 cs6 cs7 lS15 cx0 cx1 cx2 cx3 cx4 cx5 cx6 cx7 cx8 cx9 lX15 co0 co1 co2 co3 co4 co5 co6 co7 lO15 fzo7 bS15 bX15 bO15 hB15 hC15
  generalize World.setCell w15 _ _ = w16 at *
  have cs0 : w16.cell? ⟨w.heap.size, 0, none⟩ = some (.int .i64 full) := bS16.cell 0 rfl
  have cs1 : w16.cell? ⟨w.heap.size, 1, none⟩ = some (.int .i64 read) := bS16.cell 1 rfl
  have cs2 : w16.cell? ⟨w.heap.size, 2, none⟩ = some (.int .i64 slip) := bS16.cell 2 rfl
  have cs3 : w16.cell? ⟨w.heap.size, 3, none⟩ = some (.int .i64 skew) := bS16.cell 3 rfl
  have cs4 : w16.cell? ⟨w.heap.size, 4, none⟩ = some (.int .i64 circ) := bS16.cell 4 rfl
  have cs5 : w16.cell? ⟨w.heap.size, 5, none⟩ = some (.int .i64 glo) := bS16.cell 5 rfl
  have cs6 : w16.cell? ⟨w.heap.size, 6, none⟩ = some (.int .i64 ghi) := bS16.cell 6 rfl
  have cs7 : w16.cell? ⟨w.heap.size, 7, none⟩ = some (.int .i64 wrn) := bS16.cell 7 rfl
  have lS16 := bS16.lt
  have cx0 : w16.cell? ⟨w.heap.size + 1, 0, none⟩ = some (.int .i64 x1) := bX16.cell 0 rfl
  have cx1 : w16.cell? ⟨w.heap.size + 1, 1, none⟩ = some (.int .i64 x2) := bX16.cell 1 rfl
  have cx2 : w16.cell? ⟨w.heap.size + 1, 2, none⟩ = some (.int .i64 x3) := bX16.cell 2 rfl
  have cx3 : w16.cell? ⟨w.heap.size + 1, 3, none⟩ = some (.int .i64 x4) := bX16.cell 3 rfl
  have cx4 : w16.cell? ⟨w.heap.size + 1, 4, none⟩ = some (.int .i64 x5) := bX16.cell 4 rfl
  have cx5 : w16.cell? ⟨w.heap.size + 1, 5, none⟩ = some (.int .i64 xr) := bX16.cell 5 rfl
  have cx6 : w16.cell? ⟨w.heap.size + 1, 6, none⟩ = some (.int .i64 xs) := bX16.cell 6 rfl
  have cx7 : w16.cell? ⟨w.heap.size + 1, 7, none⟩ = some (.int .i64 xk) := bX16.cell 7 rfl
  have cx8 : w16.cell? ⟨w.heap.size + 1, 8, none⟩ = some (.int .i64 xv) := bX16.cell 8 rfl
  have cx9 : w16.cell? ⟨w.heap.size + 1, 9, none⟩ = some (.int .i64 xg) := bX16.cell 9 rfl
  have lX16 := bX16.lt
  have co0 : w16.cell? ⟨BO, 0, none⟩ = some (.int .i64 full) := bO16.cell 0 rfl
  have co1 : w16.cell? ⟨BO, 1, none⟩ = some (.int .i64 (read + xr)) := bO16.cell 1 rfl
  have co2 : w16.cell? ⟨BO, 2, none⟩ = some (.int .i64 (slip + xs)) := bO16.cell 2 rfl
  have co3 : w16.cell? ⟨BO, 3, none⟩ = some (.int .i64 (skew + xk)) := bO16.cell 3 rfl
  have co4 : w16.cell? ⟨BO, 4, none⟩ = some (.int .i64 circ) := bO16.cell 4 rfl
  have co5 : w16.cell? ⟨BO, 5, none⟩ = some (.int .i64 glo) := bO16.cell 5 rfl
  have co6 : w16.cell? ⟨BO, 6, none⟩ = some (.int .i64 ghi) := bO16.cell 6 rfl
  have co7 : w16.cell? ⟨BO, 7, none⟩ = some (.int .i64 (wrn + xv)) := bO16.cell 7 rfl
  have lO16 := bO16.lt
  have fzo5 := bO16.frozen 5
  have fzo6 := bO16.frozen 6
  go_upto_region 20 with fail
  have bS17 : BoxS ((w16.setCell ⟨BO, 5, none⟩ (.int .i64 (glo - xg))).setCell ⟨BO, 6, none⟩ (.int .i64 (ghi + xg))) (w.heap.size) 25 #[.int .i64 full, .int .i64 read, .int .i64 slip, .int .i64 skew, .int .i64 circ, .int .i64 glo, .int .i64 ghi, .int .i64 wrn] := ((bS16.away (by omega) _ _).away (by omega) _ _)
  have bX17 : BoxS ((w16.setCell ⟨BO, 5, none⟩ (.int .i64 (glo - xg))).setCell ⟨BO, 6, none⟩ (.int .i64 (ghi + xg))) (w.heap.size + 1) 56 #[.int .i64 x1, .int .i64 x2, .int .i64 x3, .int .i64 x4, .int .i64 x5, .int .i64 xr, .int .i64 xs, .int .i64 xk, .int .i64 xv, .int .i64 xg] := ((bX16.away (by omega) _ _).away (by omega) _ _)
  have bO17 : BoxS ((w16.setCell ⟨BO, 5, none⟩ (.int .i64 (glo - xg))).setCell ⟨BO, 6, none⟩ (.int .i64 (ghi + xg))) BO 25 #[.int .i64 full, .int .i64 (read + xr), .int .i64 (slip + xs), .int .i64 (skew + xk), .int .i64 circ, .int .i64 (glo - xg), .int .i64 (ghi + xg), .int .i64 (wrn + xv)] := ((bO16.put9 5 (.int .i64 (glo - xg))).put9 6 (.int .i64 (ghi + xg)))
  have hB17 : Below w.heap.size w ((w16.setCell ⟨BO, 5, none⟩ (.int .i64 (glo - xg))).setCell ⟨BO, 6, none⟩ (.int .i64 (ghi + xg))) := by have := hB16; (repeat' (first | (with_reducible exact Below.refl _ _) | (with_reducible assumption) | (with_reducible refine Below.alloc ?_ ?_ _) | (with_reducible refine Below.drew ?_) | (with_reducible refine Below.setCell ?_ ?_ _) | go_size | (exact (by simp)) | omega))
  have hC17 : Below w11.heap.size w11 ((w16.setCell ⟨BO, 5, none⟩ (.int .i64 (glo - xg))).setCell ⟨BO, 6, none⟩ (.int .i64 (ghi + xg))) := by have := hC16; (repeat' (first | (with_reducible exact Below.refl _ _) | (with_reducible assumption) | (with_reducible refine Below.alloc ?_ ?_ _) | (with_reducible refine Below.drew ?_) | (with_reducible refine Below.setCell ?_ ?_ _) | go_size | (exact (by simp)) | omega))
  clear cs0 cs1 cs2 cs3 cs4 cs5 cs6 cs7 lS16 cx0 cx1 cx2 cx3 cx4 cx5 cx6 cx7 cx8 cx9 lX16 co0 co1 co2 co3 co4 co5 co6 co7 lO16 fzo5 fzo6 bS16 bX16 bO16 hB16 hC16
  generalize World.setCell (World.setCell w16 _ _) _ _ = w17 at *
  have cs0 : w17.cell? ⟨w.heap.size, 0, none⟩ = some (.int .i64 full) := bS17.cell 0 rfl
  have cs1 : w17.cell? ⟨w.heap.size, 1, none⟩ = some (.int .i64 read) := bS17.cell 1 rfl
  have cs2 : w17.cell? ⟨w.heap.size, 2, none⟩ = some (.int .i64 slip) := bS17.cell 2 rfl
  have cs3 : w17.cell? ⟨w.heap.size, 3, none⟩ = some (.int .i64 skew) := bS17.cell 3 rfl
  have cs4 : w17.cell? ⟨w.heap.size, 4, none⟩ = some (.int .i64 circ) := bS17.cell 4 rfl
  have cs5 : w17.cell? ⟨w.heap.size, 5, none⟩ = some (.int .i64 glo) := bS17.cell 5 rfl
  have cs6 : w17.cell? ⟨w.heap.size, 6, none⟩ = some (.int .i64 ghi) := bS17.cell 6 rfl
  have cs7 : w17.cell? ⟨w.heap.size, 7, none⟩ = some (.int .i64 wrn) := bS17.cell 7 rfl
  have lS17 := bS17.lt
  have cx0 : w17.cell? ⟨w.heap.size + 1, 0, none⟩ = some (.int .i64 x1) := bX17.cell 0 rfl
  have cx1 : w17.cell? ⟨w.heap.size + 1, 1, none⟩ = some (.int .i64 x2) := bX17.cell 1 rfl
  have cx2 : w17.cell? ⟨w.heap.size + 1, 2, none⟩ = some (.int .i64 x3) := bX17.cell 2 rfl
  have cx3 : w17.cell? ⟨w.heap.size + 1, 3, none⟩ = some (.int .i64 x4) := bX17.cell 3 rfl
  have cx4 : w17.cell? ⟨w.heap.size + 1, 4, none⟩ = some (.int .i64 x5) := bX17.cell 4 rfl
  have cx5 : w17.cell? ⟨w.heap.size + 1, 5, none⟩ = some (.int .i64 xr) := bX17.cell 5 rfl
  have cx6 : w17.cell? ⟨w.heap.size + 1, 6, none⟩ = some (.int .i64 xs) := bX17.cell 6 rfl
  have cx7 : w17.cell? ⟨w.heap.size + 1, 7, none⟩ = some (.int .i64 xk) := bX17.cell 7 rfl
  have cx8 : w17.cell? ⟨w.heap.size + 1, 8, none⟩ = some (.int .i64 xv) := bX17.cell 8 rfl
  have cx9 : w17.cell? ⟨w.heap.size + 1, 9, none⟩ = some (.int .i64 xg) := bX17.cell 9 rfl
  have lX17 := bX17.lt
  have co0 : w17.cell? ⟨BO, 0, none⟩ = some (.int .i64 full) := bO17.cell 0 rfl
  have co1 : w17.cell? ⟨BO, 1, none⟩ = some (.int .i64 (read + xr)) := bO17.cell 1 rfl
  have co2 : w17.cell? ⟨BO, 2, none⟩ = some (.int .i64 (slip + xs)) := bO17.cell 2 rfl
  have co3 : w17.cell? ⟨BO, 3, none⟩ = some (.int .i64 (skew + xk)) := bO17.cell 3 rfl
  have co4 : w17.cell? ⟨BO, 4, none⟩ = some (.int .i64 circ) := bO17.cell 4 rfl
  have co5 : w17.cell? ⟨BO, 5, none⟩ = some (.int .i64 (glo - xg)) := bO17.cell 5 rfl
  have co6 : w17.cell? ⟨BO, 6, none⟩ = some (.int .i64 (ghi + xg)) := bO17.cell 6 rfl
  have co7 : w17.cell? ⟨BO, 7, none⟩ = some (.int .i64 (wrn + xv)) := bO17.cell 7 rfl
  have lO17 := bO17.lt
  go_wp2_with fail
  have LA17 : Hid (Ints w17 w17.heap.size (.slice ALA LA.length cLA) LA) := (LA11.out.keep hC17).more hC17.size
  clear hC17 LA11
  refine (HRO.out _ hB17).mono ?_
  rintro e w18 ⟨rfl, hb18⟩
  have bS18 := bS17.below hb18
  have bX18 := bX17.below hb18
  have bO18 := bO17.below hb18
  have hB18 := hB17.trans (hb18.mono hB17.size)
  have LA18 : Hid (Ints w18 w18.heap.size (.slice ALA LA.length cLA) LA) := (LA17.out.keep hb18).more hb18.size
  clear cs0 cs1 cs2 cs3 cs4 cs5 cs6 cs7 lS17 cx0 cx1 cx2 cx3 cx4 cx5 cx6 cx7 cx8 cx9 lX17 co0 co1 co2 co3 co4 co5 co6 co7 lO17 bS17 bX17 bO17 LA17 hB17 hb18
  have cs0 : w18.cell? ⟨w.heap.size, 0, none⟩ = some (.int .i64 full) := bS18.cell 0 rfl
  have cs1 : w18.cell? ⟨w.heap.size, 1, none⟩ = some (.int .i64 read) := bS18.cell 1 rfl
  have cs2 : w18.cell? ⟨w.heap.size, 2, none⟩ = some (.int .i64 slip) := bS18.cell 2 rfl
  have cs3 : w18.cell? ⟨w.heap.size, 3, none⟩ = some (.int .i64 skew) := bS18.cell 3 rfl
  have cs4 : w18.cell? ⟨w.heap.size, 4, none⟩ = some (.int .i64 circ) := bS18.cell 4 rfl
  have cs5 : w18.cell? ⟨w.heap.size, 5, none⟩ = some (.int .i64 glo) := bS18.cell 5 rfl
  have cs6 : w18.cell? ⟨w.heap.size, 6, none⟩ = some (.int .i64 ghi) := bS18.cell 6 rfl
  have cs7 : w18.cell? ⟨w.heap.size, 7, none⟩ = some (.int .i64 wrn) := bS18.cell 7 rfl
  have lS18 := bS18.lt
  have cx0 : w18.cell? ⟨w.heap.size + 1, 0, none⟩ = some (.int .i64 x1) := bX18.cell 0 rfl
  have cx1 : w18.cell? ⟨w.heap.size + 1, 1, none⟩ = some (.int .i64 x2) := bX18.cell 1 rfl
  have cx2 : w18.cell? ⟨w.heap.size + 1, 2, none⟩ = some (.int .i64 x3) := bX18.cell 2 rfl
  have cx3 : w18.cell? ⟨w.heap.size + 1, 3, none⟩ = some (.int .i64 x4) := bX18.cell 3 rfl
  have cx4 : w18.cell? ⟨w.heap.size + 1, 4, none⟩ = some (.int .i64 x5) := bX18.cell 4 rfl
  have cx5 : w18.cell? ⟨w.heap.size + 1, 5, none⟩ = some (.int .i64 xr) := bX18.cell 5 rfl
  have cx6 : w18.cell? ⟨w.heap.size + 1, 6, none⟩ = some (.int .i64 xs) := bX18.cell 6 rfl
  have cx7 : w18.cell? ⟨w.heap.size + 1, 7, none⟩ = some (.int .i64 xk) := bX18.cell 7 rfl
  have cx8 : w18.cell? ⟨w.heap.size + 1, 8, none⟩ = some (.int .i64 xv) := bX18.cell 8 rfl
  have cx9 : w18.cell? ⟨w.heap.size + 1, 9, none⟩ = some (.int .i64 xg) := bX18.cell 9 rfl
  have lX18 := bX18.lt
  have co0 : w18.cell? ⟨BO, 0, none⟩ = some (.int .i64 full) := bO18.cell 0 rfl
  have co1 : w18.cell? ⟨BO, 1, none⟩ = some (.int .i64 (read + xr)) := bO18.cell 1 rfl
  have co2 : w18.cell? ⟨BO, 2, none⟩ = some (.int .i64 (slip + xs)) := bO18.cell 2 rfl
  have co3 : w18.cell? ⟨BO, 3, none⟩ = some (.int .i64 (skew + xk)) := bO18.cell 3 rfl
  have co4 : w18.cell? ⟨BO, 4, none⟩ = some (.int .i64 circ) := bO18.cell 4 rfl
  have co5 : w18.cell? ⟨BO, 5, none⟩ = some (.int .i64 (glo - xg)) := bO18.cell 5 rfl
  have co6 : w18.cell? ⟨BO, 6, none⟩ = some (.int .i64 (ghi + xg)) := bO18.cell 6 rfl
  have co7 : w18.cell? ⟨BO, 7, none⟩ = some (.int .i64 (wrn + xv)) := bO18.cell 7 rfl
  have lO18 := bO18.lt
  cases RO with
  | false =>
    go_wp2_with fail
    refine (HWK.out _).mono ?_
    rintro e wz ⟨rfl, hbz⟩
    have hBz := hB18.trans (hbz.mono hB18.size)
    go_wp2_with fail
    go_returns
    exact ⟨rfl, hBz⟩
  | true =>
    go_wp2_with fail
    obtain ⟨hE0, n1, n2, n3⟩ := HSB.out (by trivial)
    have r9 : decide ((LO.length : Int) ≤ 100) = true := decide_eq_true (by omega)
    have HS2 := Lib.hid n2
    clear n2
    have HAO2 := Lib.hid (HAO.out (by trivial))
    rw [hE0] at HAO2
    refine (HAO2.out _ hB18).mono ?_
    rintro e w19 ⟨v19, rfl, hv19, hb19⟩
    obtain ⟨ALO, cLO, rfl⟩ := ints_form hv19.out
    have bS19 := bS18.below hb19
    have bX19 := bX18.below hb19
    have bO19 := bO18.below hb19
    have hB19 := hB18.trans (hb19.mono hB18.size)
    have LA19 : Hid (Ints w19 w19.heap.size (.slice ALA LA.length cLA) LA) := (LA18.out.keep hb19).more hb19.size
    clear cs0 cs1 cs2 cs3 cs4 cs5 cs6 cs7 lS18 cx0 cx1 cx2 cx3 cx4 cx5 cx6 cx7 cx8 cx9 lX18 co0 co1 co2 co3 co4 co5 co6 co7 lO18 bS18 bX18 bO18 LA18 hB18 hb19
    have LO19 : Hid (Ints w19 w19.heap.size (.slice ALO LO.length cLO) LO) := hv19
    clear hv19
    have cs0 : w19.cell? ⟨w.heap.size, 0, none⟩ = some (.int .i64 full) := bS19.cell 0 rfl
    have cs1 : w19.cell? ⟨w.heap.size, 1, none⟩ = some (.int .i64 read) := bS19.cell 1 rfl
    have cs2 : w19.cell? ⟨w.heap.size, 2, none⟩ = some (.int .i64 slip) := bS19.cell 2 rfl
    have cs3 : w19.cell? ⟨w.heap.size, 3, none⟩ = some (.int .i64 skew) := bS19.cell 3 rfl
    have cs4 : w19.cell? ⟨w.heap.size, 4, none⟩ = some (.int .i64 circ) := bS19.cell 4 rfl
    have cs5 : w19.cell? ⟨w.heap.size, 5, none⟩ = some (.int .i64 glo) := bS19.cell 5 rfl
    have cs6 : w19.cell? ⟨w.heap.size, 6, none⟩ = some (.int .i64 ghi) := bS19.cell 6 rfl
    have cs7 : w19.cell? ⟨w.heap.size, 7, none⟩ = some (.int .i64 wrn) := bS19.cell 7 rfl
    have lS19 := bS19.lt
    have cx0 : w19.cell? ⟨w.heap.size + 1, 0, none⟩ = some (.int .i64 x1) := bX19.cell 0 rfl
    have cx1 : w19.cell? ⟨w.heap.size + 1, 1, none⟩ = some (.int .i64 x2) := bX19.cell 1 rfl
    have cx2 : w19.cell? ⟨w.heap.size + 1, 2, none⟩ = some (.int .i64 x3) := bX19.cell 2 rfl
    have cx3 : w19.cell? ⟨w.heap.size + 1, 3, none⟩ = some (.int .i64 x4) := bX19.cell 3 rfl
    have cx4 : w19.cell? ⟨w.heap.size + 1, 4, none⟩ = some (.int .i64 x5) := bX19.cell 4 rfl
    have cx5 : w19.cell? ⟨w.heap.size + 1, 5, none⟩ = some (.int .i64 xr) := bX19.cell 5 rfl
    have cx6 : w19.cell? ⟨w.heap.size + 1, 6, none⟩ = some (.int .i64 xs) := bX19.cell 6 rfl
    have cx7 : w19.cell? ⟨w.heap.size + 1, 7, none⟩ = some (.int .i64 xk) := bX19.cell 7 rfl
    have cx8 : w19.cell? ⟨w.heap.size + 1, 8, none⟩ = some (.int .i64 xv) := bX19.cell 8 rfl
    have cx9 : w19.cell? ⟨w.heap.size + 1, 9, none⟩ = some (.int .i64 xg) := bX19.cell 9 rfl
    have lX19 := bX19.lt
    have co0 : w19.cell? ⟨BO, 0, none⟩ = some (.int .i64 full) := bO19.cell 0 rfl
    have co1 : w19.cell? ⟨BO, 1, none⟩ = some (.int .i64 (read + xr)) := bO19.cell 1 rfl
    have co2 : w19.cell? ⟨BO, 2, none⟩ = some (.int .i64 (slip + xs)) := bO19.cell 2 rfl
    have co3 : w19.cell? ⟨BO, 3, none⟩ = some (.int .i64 (skew + xk)) := bO19.cell 3 rfl
    have co4 : w19.cell? ⟨BO, 4, none⟩ = some (.int .i64 circ) := bO19.cell 4 rfl
    have co5 : w19.cell? ⟨BO, 5, none⟩ = some (.int .i64 (glo - xg)) := bO19.cell 5 rfl
    have co6 : w19.cell? ⟨BO, 6, none⟩ = some (.int .i64 (ghi + xg)) := bO19.cell 6 rfl
    have co7 : w19.cell? ⟨BO, 7, none⟩ = some (.int .i64 (wrn + xv)) := bO19.cell 7 rfl
    have lO19 := bO19.lt
    go_wp2_with fail
    refine (subset3_yes _ LA _ LO _ LA19.out LO19.out (by omega) (by omega) HS2.out n3).mono ?_
    rintro e w20 ⟨rfl, hb20⟩
    have bS20 := bS19.below hb20
    have bX20 := bX19.below hb20
    have bO20 := bO19.below hb20
    have hB20 := hB19.trans (hb20.mono hB19.size)
    have LA20 : Hid (Ints w20 w20.heap.size (.slice ALA LA.length cLA) LA) := (LA19.out.keep hb20).more hb20.size
    have LO20 : Hid (Ints w20 w20.heap.size (.slice ALO LO.length cLO) LO) := (LO19.out.keep hb20).more hb20.size
    clear cs0 cs1 cs2 cs3 cs4 cs5 cs6 cs7 lS19 cx0 cx1 cx2 cx3 cx4 cx5 cx6 cx7 cx8 cx9 lX19 co0 co1 co2 co3 co4 co5 co6 co7 lO19 bS19 bX19 bO19 LA19 LO19 hB19 hb20
    have cs0 : w20.cell? ⟨w.heap.size, 0, none⟩ = some (.int .i64 full) := bS20.cell 0 rfl
    have cs1 : w20.cell? ⟨w.heap.size, 1, none⟩ = some (.int .i64 read) := bS20.cell 1 rfl
    have cs2 : w20.cell? ⟨w.heap.size, 2, none⟩ = some (.int .i64 slip) := bS20.cell 2 rfl
    have cs3 : w20.cell? ⟨w.heap.size, 3, none⟩ = some (.int .i64 skew) := bS20.cell 3 rfl
    have cs4 : w20.cell? ⟨w.heap.size, 4, none⟩ = some (.int .i64 circ) := bS20.cell 4 rfl
    have cs5 : w20.cell? ⟨w.heap.size, 5, none⟩ = some (.int .i64 glo) := bS20.cell 5 rfl
    have cs6 : w20.cell? ⟨w.heap.size, 6, none⟩ = some (.int .i64 ghi) := bS20.cell 6 rfl
    have cs7 : w20.cell? ⟨w.heap.size, 7, none⟩ = some (.int .i64 wrn) := bS20.cell 7 rfl
    have lS20 := bS20.lt
    have cx0 : w20.cell? ⟨w.heap.size + 1, 0, none⟩ = some (.int .i64 x1) := bX20.cell 0 rfl
    have cx1 : w20.cell? ⟨w.heap.size + 1, 1, none⟩ = some (.int .i64 x2) := bX20.cell 1 rfl
    have cx2 : w20.cell? ⟨w.heap.size + 1, 2, none⟩ = some (.int .i64 x3) := bX20.cell 2 rfl
    have cx3 : w20.cell? ⟨w.heap.size + 1, 3, none⟩ = some (.int .i64 x4) := bX20.cell 3 rfl
    have cx4 : w20.cell? ⟨w.heap.size + 1, 4, none⟩ = some (.int .i64 x5) := bX20.cell 4 rfl
    have cx5 : w20.cell? ⟨w.heap.size + 1, 5, none⟩ = some (.int .i64 xr) := bX20.cell 5 rfl
    have cx6 : w20.cell? ⟨w.heap.size + 1, 6, none⟩ = some (.int .i64 xs) := bX20.cell 6 rfl
    have cx7 : w20.cell? ⟨w.heap.size + 1, 7, none⟩ = some (.int .i64 xk) := bX20.cell 7 rfl
    have cx8 : w20.cell? ⟨w.heap.size + 1, 8, none⟩ = some (.int .i64 xv) := bX20.cell 8 rfl
    have cx9 : w20.cell? ⟨w.heap.size + 1, 9, none⟩ = some (.int .i64 xg) := bX20.cell 9 rfl
    have lX20 := bX20.lt
    have co0 : w20.cell? ⟨BO, 0, none⟩ = some (.int .i64 full) := bO20.cell 0 rfl
    have co1 : w20.cell? ⟨BO, 1, none⟩ = some (.int .i64 (read + xr)) := bO20.cell 1 rfl
    have co2 : w20.cell? ⟨BO, 2, none⟩ = some (.int .i64 (slip + xs)) := bO20.cell 2 rfl
    have co3 : w20.cell? ⟨BO, 3, none⟩ = some (.int .i64 (skew + xk)) := bO20.cell 3 rfl
    have co4 : w20.cell? ⟨BO, 4, none⟩ = some (.int .i64 circ) := bO20.cell 4 rfl
    have co5 : w20.cell? ⟨BO, 5, none⟩ = some (.int .i64 (glo - xg)) := bO20.cell 5 rfl
    have co6 : w20.cell? ⟨BO, 6, none⟩ = some (.int .i64 (ghi + xg)) := bO20.cell 6 rfl
    have co7 : w20.cell? ⟨BO, 7, none⟩ = some (.int .i64 (wrn + xv)) := bO20.cell 7 rfl
    have lO20 := bO20.lt
    go_wp2_with fail
    refine (HWK.out _).mono ?_
    rintro e wz ⟨rfl, hbz⟩
    have hBz := hB20.trans (hbz.mono hB20.size)
    go_wp2_with fail
    go_returns
    exact ⟨rfl, hBz⟩
set_option maxRecDepth 100000 in
set_option maxHeartbeats 16000000 in
theorem More_0F (full read slip skew circ glo ghi wrn : Int) (ws : List Wh.Wk) (A : Option Addr) (c : Nat) (x1 x2 x3 x4 x5 xr xs xk xv xg : Int) (w : World) (LA LO : List Int) (mV EO : Int) (sb : Int × Int) (RO : Bool) (HG : Hid (Wks w w.heap.size A ws)) (hl8 : ws.length ≤ 1000000)
    (q0a : decide (min5 xr xs xk xv xg < 0) = false) (q0b : decide (10 < max5 xr xs xk xv xg) = false) (q1 : decide ((100 : Int) < (LA.length : Int)) = false) (hla : LA.length ≤ 100)
    (v1 : IntKind.i64.wrap (read + xr) = read + xr) (v2 : IntKind.i64.wrap (slip + xs) = slip + xs) (v3 : IntKind.i64.wrap (skew + xk) = skew + xk) (v4 : IntKind.i64.wrap (wrn + xv) = wrn + xv) (v5 : IntKind.i64.wrap (glo - xg) = glo - xg) (v6 : IntKind.i64.wrap (ghi + xg) = ghi + xg)
    (HWK : Hid (∀ W, Calls Try.prog 13 #[] W (BoolPost true W)))
    (HRD : Hid (∀ W, Below w.heap.size w W → Calls Try.prog 34 #[.agg #[.int .i64 full, .int .i64 read, .int .i64 slip, .int .i64 skew, .int .i64 circ, .int .i64 glo, .int .i64 ghi, .int .i64 wrn], .slice A ws.length c] W (BoolPost true W)))
    (HMN : Hid (∀ W, Below w.heap.size w W → Calls Try.prog 18 #[.agg #[.int .i64 full, .int .i64 read, .int .i64 slip, .int .i64 skew, .int .i64 circ, .int .i64 glo, .int .i64 ghi, .int .i64 wrn], .slice A ws.length c] W (TwoPost mV 0 W)))
    (HBD : Hid (∀ W, Below w.heap.size w W → Calls Try.prog 23 #[.agg #[.int .i64 full, .int .i64 read, .int .i64 slip, .int .i64 skew, .int .i64 circ, .int .i64 glo, .int .i64 ghi, .int .i64 wrn], .slice A ws.length c] W (BoundPost sb 0 W)))
    (HAR : Hid (∀ W, Below w.heap.size w W → Calls Try.prog 20 #[.agg #[.int .i64 full, .int .i64 read, .int .i64 slip, .int .i64 skew, .int .i64 circ, .int .i64 glo, .int .i64 ghi, .int .i64 wrn], .slice A ws.length c] W (IntsEPost LA 0 W)))
    (HKN : Hid (∀ W, Calls Try.prog 35 #[.int .i64 0] W fun e w' => e = .returned (.bool true) ∧ w' = W))
    (HRP : Hid (∀ A' c' W, Wks W W.heap.size A' (ws ++ [(x1, x2, x3, x4, x5)]) → Calls Try.prog 34 #[.agg #[.int .i64 full, .int .i64 read, .int .i64 slip, .int .i64 skew, .int .i64 circ, .int .i64 glo, .int .i64 ghi, .int .i64 wrn], .slice A' (ws.length + 1) c'] W (BoolPost false W)))
    (HRO : Hid (∀ W, Below w.heap.size w W → Calls Try.prog 34 #[.agg #[.int .i64 full, .int .i64 (read + xr), .int .i64 (slip + xs), .int .i64 (skew + xk), .int .i64 circ, .int .i64 (glo - xg), .int .i64 (ghi + xg), .int .i64 (wrn + xv)], .slice A ws.length c] W (BoolPost RO W)))
    (HAO : Hid (RO = true → ∀ W, Below w.heap.size w W → Calls Try.prog 20 #[.agg #[.int .i64 full, .int .i64 (read + xr), .int .i64 (slip + xs), .int .i64 (skew + xk), .int .i64 circ, .int .i64 (glo - xg), .int .i64 (ghi + xg), .int .i64 (wrn + xv)], .slice A ws.length c] W (IntsEPost LO EO W)))
    (HSB : Hid (RO = true → EO = 0 ∧ LO.length ≤ 100 ∧ (∀ y ∈ LA, y ∈ LO) ∧ LA.length ≤ LO.length)) :
    Calls Try.prog 6 #[.agg #[.int .i64 full, .int .i64 read, .int .i64 slip, .int .i64 skew, .int .i64 circ, .int .i64 glo, .int .i64 ghi, .int .i64 wrn], .slice A ws.length c, .agg #[.int .i64 x1, .int .i64 x2, .int .i64 x3, .int .i64 x4, .int .i64 x5, .int .i64 xr, .int .i64 xs, .int .i64 xk, .int .i64 xv, .int .i64 xg]] w (BoolPost true w) := by
  go_enter Try.func6, Try.ntmps6
  go_wp2_with fail
  have bS1 := (BoxS.new w 25 #[.int .i64 full, .int .i64 read, .int .i64 slip, .int .i64 skew, .int .i64 circ, .int .i64 glo, .int .i64 ghi, .int .i64 wrn]).alloc (.cells #[.int .i64 x1, .int .i64 x2, .int .i64 x3, .int .i64 x4, .int .i64 x5, .int .i64 xr, .int .i64 xs, .int .i64 xk, .int .i64 xv, .int .i64 xg] 56)
  have bX1 := BoxS.new (w.alloc (.cells #[.int .i64 full, .int .i64 read, .int .i64 slip, .int .i64 skew, .int .i64 circ, .int .i64 glo, .int .i64 ghi, .int .i64 wrn] 25)) 56 #[.int .i64 x1, .int .i64 x2, .int .i64 x3, .int .i64 x4, .int .i64 x5, .int .i64 xr, .int .i64 xs, .int .i64 xk, .int .i64 xv, .int .i64 xg]
  rw [World.size_alloc] at bX1
  have hB1 : Below w.heap.size w ((w.alloc (.cells #[.int .i64 full, .int .i64 read, .int .i64 slip, .int .i64 skew, .int .i64 circ, .int .i64 glo, .int .i64 ghi, .int .i64 wrn] 25)).alloc (.cells #[.int .i64 x1, .int .i64 x2, .int .i64 x3, .int .i64 x4, .int .i64 x5, .int .i64 xr, .int .i64 xs, .int .i64 xk, .int .i64 xv, .int .i64 xg] 56)) := by (repeat' (first | (with_reducible exact Below.refl _ _) | (with_reducible assumption) | (with_reducible refine Below.alloc ?_ ?_ _) | (with_reducible refine Below.drew ?_) | (with_reducible refine Below.setCell ?_ ?_ _) | go_size | (exact (by simp)) | omega))
  generalize World.alloc (World.alloc w _) _ = w1 at *
  have cs0 : w1.cell? ⟨w.heap.size, 0, none⟩ = some (.int .i64 full) := bS1.cell 0 rfl
  have cs1 : w1.cell? ⟨w.heap.size, 1, none⟩ = some (.int .i64 read) := bS1.cell 1 rfl
  have cs2 : w1.cell? ⟨w.heap.size, 2, none⟩ = some (.int .i64 slip) := bS1.cell 2 rfl
  have cs3 : w1.cell? ⟨w.heap.size, 3, none⟩ = some (.int .i64 skew) := bS1.cell 3 rfl
  have cs4 : w1.cell? ⟨w.heap.size, 4, none⟩ = some (.int .i64 circ) := bS1.cell 4 rfl
  have cs5 : w1.cell? ⟨w.heap.size, 5, none⟩ = some (.int .i64 glo) := bS1.cell 5 rfl
  have cs6 : w1.cell? ⟨w.heap.size, 6, none⟩ = some (.int .i64 ghi) := bS1.cell 6 rfl
  have cs7 : w1.cell? ⟨w.heap.size, 7, none⟩ = some (.int .i64 wrn) := bS1.cell 7 rfl
  have lS1 := bS1.lt
  have cx0 : w1.cell? ⟨w.heap.size + 1, 0, none⟩ = some (.int .i64 x1) := bX1.cell 0 rfl
  have cx1 : w1.cell? ⟨w.heap.size + 1, 1, none⟩ = some (.int .i64 x2) := bX1.cell 1 rfl
  have cx2 : w1.cell? ⟨w.heap.size + 1, 2, none⟩ = some (.int .i64 x3) := bX1.cell 2 rfl
  have cx3 : w1.cell? ⟨w.heap.size + 1, 3, none⟩ = some (.int .i64 x4) := bX1.cell 3 rfl
  have cx4 : w1.cell? ⟨w.heap.size + 1, 4, none⟩ = some (.int .i64 x5) := bX1.cell 4 rfl
  have cx5 : w1.cell? ⟨w.heap.size + 1, 5, none⟩ = some (.int .i64 xr) := bX1.cell 5 rfl
  have cx6 : w1.cell? ⟨w.heap.size + 1, 6, none⟩ = some (.int .i64 xs) := bX1.cell 6 rfl
  have cx7 : w1.cell? ⟨w.heap.size + 1, 7, none⟩ = some (.int .i64 xk) := bX1.cell 7 rfl
  have cx8 : w1.cell? ⟨w.heap.size + 1, 8, none⟩ = some (.int .i64 xv) := bX1.cell 8 rfl
  have cx9 : w1.cell? ⟨w.heap.size + 1, 9, none⟩ = some (.int .i64 xg) := bX1.cell 9 rfl
  have lX1 := bX1.lt
  go_wp2_with fail
  refine (HRD.out _ hB1).mono ?_
  rintro e w2 ⟨rfl, hb2⟩
  have bS2 := bS1.below hb2
  have bX2 := bX1.below hb2
  have hB2 := hB1.trans (hb2.mono hB1.size)
  clear cs0 cs1 cs2 cs3 cs4 cs5 cs6 cs7 lS1 cx0 cx1 cx2 cx3 cx4 cx5 cx6 cx7 cx8 cx9 lX1 bS1 bX1 hB1 hb2
  have cs0 : w2.cell? ⟨w.heap.size, 0, none⟩ = some (.int .i64 full) := bS2.cell 0 rfl
  have cs1 : w2.cell? ⟨w.heap.size, 1, none⟩ = some (.int .i64 read) := bS2.cell 1 rfl
  have cs2 : w2.cell? ⟨w.heap.size, 2, none⟩ = some (.int .i64 slip) := bS2.cell 2 rfl
  have cs3 : w2.cell? ⟨w.heap.size, 3, none⟩ = some (.int .i64 skew) := bS2.cell 3 rfl
  have cs4 : w2.cell? ⟨w.heap.size, 4, none⟩ = some (.int .i64 circ) := bS2.cell 4 rfl
  have cs5 : w2.cell? ⟨w.heap.size, 5, none⟩ = some (.int .i64 glo) := bS2.cell 5 rfl
  have cs6 : w2.cell? ⟨w.heap.size, 6, none⟩ = some (.int .i64 ghi) := bS2.cell 6 rfl
  have cs7 : w2.cell? ⟨w.heap.size, 7, none⟩ = some (.int .i64 wrn) := bS2.cell 7 rfl
  have lS2 := bS2.lt
  have cx0 : w2.cell? ⟨w.heap.size + 1, 0, none⟩ = some (.int .i64 x1) := bX2.cell 0 rfl
  have cx1 : w2.cell? ⟨w.heap.size + 1, 1, none⟩ = some (.int .i64 x2) := bX2.cell 1 rfl
  have cx2 : w2.cell? ⟨w.heap.size + 1, 2, none⟩ = some (.int .i64 x3) := bX2.cell 2 rfl
  have cx3 : w2.cell? ⟨w.heap.size + 1, 3, none⟩ = some (.int .i64 x4) := bX2.cell 3 rfl
  have cx4 : w2.cell? ⟨w.heap.size + 1, 4, none⟩ = some (.int .i64 x5) := bX2.cell 4 rfl
  have cx5 : w2.cell? ⟨w.heap.size + 1, 5, none⟩ = some (.int .i64 xr) := bX2.cell 5 rfl
  have cx6 : w2.cell? ⟨w.heap.size + 1, 6, none⟩ = some (.int .i64 xs) := bX2.cell 6 rfl
  have cx7 : w2.cell? ⟨w.heap.size + 1, 7, none⟩ = some (.int .i64 xk) := bX2.cell 7 rfl
  have cx8 : w2.cell? ⟨w.heap.size + 1, 8, none⟩ = some (.int .i64 xv) := bX2.cell 8 rfl
  have cx9 : w2.cell? ⟨w.heap.size + 1, 9, none⟩ = some (.int .i64 xg) := bX2.cell 9 rfl
  have lX2 := bX2.lt
  go_wp2_with fail
  refine (HMN.out _ hB2).mono ?_
  rintro e w3 ⟨rfl, hb3⟩
  have bS3 := bS2.below hb3
  have bX3 := bX2.below hb3
  have hB3 := hB2.trans (hb3.mono hB2.size)
  clear cs0 cs1 cs2 cs3 cs4 cs5 cs6 cs7 lS2 cx0 cx1 cx2 cx3 cx4 cx5 cx6 cx7 cx8 cx9 lX2 bS2 bX2 hB2 hb3
  have cs0 : w3.cell? ⟨w.heap.size, 0, none⟩ = some (.int .i64 full) := bS3.cell 0 rfl
  have cs1 : w3.cell? ⟨w.heap.size, 1, none⟩ = some (.int .i64 read) := bS3.cell 1 rfl
  have cs2 : w3.cell? ⟨w.heap.size, 2, none⟩ = some (.int .i64 slip) := bS3.cell 2 rfl
  have cs3 : w3.cell? ⟨w.heap.size, 3, none⟩ = some (.int .i64 skew) := bS3.cell 3 rfl
  have cs4 : w3.cell? ⟨w.heap.size, 4, none⟩ = some (.int .i64 circ) := bS3.cell 4 rfl
  have cs5 : w3.cell? ⟨w.heap.size, 5, none⟩ = some (.int .i64 glo) := bS3.cell 5 rfl
  have cs6 : w3.cell? ⟨w.heap.size, 6, none⟩ = some (.int .i64 ghi) := bS3.cell 6 rfl
  have cs7 : w3.cell? ⟨w.heap.size, 7, none⟩ = some (.int .i64 wrn) := bS3.cell 7 rfl
  have lS3 := bS3.lt
  have cx0 : w3.cell? ⟨w.heap.size + 1, 0, none⟩ = some (.int .i64 x1) := bX3.cell 0 rfl
  have cx1 : w3.cell? ⟨w.heap.size + 1, 1, none⟩ = some (.int .i64 x2) := bX3.cell 1 rfl
  have cx2 : w3.cell? ⟨w.heap.size + 1, 2, none⟩ = some (.int .i64 x3) := bX3.cell 2 rfl
  have cx3 : w3.cell? ⟨w.heap.size + 1, 3, none⟩ = some (.int .i64 x4) := bX3.cell 3 rfl
  have cx4 : w3.cell? ⟨w.heap.size + 1, 4, none⟩ = some (.int .i64 x5) := bX3.cell 4 rfl
  have cx5 : w3.cell? ⟨w.heap.size + 1, 5, none⟩ = some (.int .i64 xr) := bX3.cell 5 rfl
  have cx6 : w3.cell? ⟨w.heap.size + 1, 6, none⟩ = some (.int .i64 xs) := bX3.cell 6 rfl
  have cx7 : w3.cell? ⟨w.heap.size + 1, 7, none⟩ = some (.int .i64 xk) := bX3.cell 7 rfl
  have cx8 : w3.cell? ⟨w.heap.size + 1, 8, none⟩ = some (.int .i64 xv) := bX3.cell 8 rfl
  have cx9 : w3.cell? ⟨w.heap.size + 1, 9, none⟩ = some (.int .i64 xg) := bX3.cell 9 rfl
  have lX3 := bX3.lt
  go_wp2_with fail
  refine (HBD.out _ hB3).mono ?_
  rintro e w4 ⟨rfl, hb4⟩
  have bS4 := bS3.below hb4
  have bX4 := bX3.below hb4
  have hB4 := hB3.trans (hb4.mono hB3.size)
  clear cs0 cs1 cs2 cs3 cs4 cs5 cs6 cs7 lS3 cx0 cx1 cx2 cx3 cx4 cx5 cx6 cx7 cx8 cx9 lX3 bS3 bX3 hB3 hb4
  have cs0 : w4.cell? ⟨w.heap.size, 0, none⟩ = some (.int .i64 full) := bS4.cell 0 rfl
  have cs1 : w4.cell? ⟨w.heap.size, 1, none⟩ = some (.int .i64 read) := bS4.cell 1 rfl
  have cs2 : w4.cell? ⟨w.heap.size, 2, none⟩ = some (.int .i64 slip) := bS4.cell 2 rfl
  have cs3 : w4.cell? ⟨w.heap.size, 3, none⟩ = some (.int .i64 skew) := bS4.cell 3 rfl
  have cs4 : w4.cell? ⟨w.heap.size, 4, none⟩ = some (.int .i64 circ) := bS4.cell 4 rfl
  have cs5 : w4.cell? ⟨w.heap.size, 5, none⟩ = some (.int .i64 glo) := bS4.cell 5 rfl
  have cs6 : w4.cell? ⟨w.heap.size, 6, none⟩ = some (.int .i64 ghi) := bS4.cell 6 rfl
  have cs7 : w4.cell? ⟨w.heap.size, 7, none⟩ = some (.int .i64 wrn) := bS4.cell 7 rfl
  have lS4 := bS4.lt
  have cx0 : w4.cell? ⟨w.heap.size + 1, 0, none⟩ = some (.int .i64 x1) := bX4.cell 0 rfl
  have cx1 : w4.cell? ⟨w.heap.size + 1, 1, none⟩ = some (.int .i64 x2) := bX4.cell 1 rfl
  have cx2 : w4.cell? ⟨w.heap.size + 1, 2, none⟩ = some (.int .i64 x3) := bX4.cell 2 rfl
  have cx3 : w4.cell? ⟨w.heap.size + 1, 3, none⟩ = some (.int .i64 x4) := bX4.cell 3 rfl
  have cx4 : w4.cell? ⟨w.heap.size + 1, 4, none⟩ = some (.int .i64 x5) := bX4.cell 4 rfl
  have cx5 : w4.cell? ⟨w.heap.size + 1, 5, none⟩ = some (.int .i64 xr) := bX4.cell 5 rfl
  have cx6 : w4.cell? ⟨w.heap.size + 1, 6, none⟩ = some (.int .i64 xs) := bX4.cell 6 rfl
  have cx7 : w4.cell? ⟨w.heap.size + 1, 7, none⟩ = some (.int .i64 xk) := bX4.cell 7 rfl
  have cx8 : w4.cell? ⟨w.heap.size + 1, 8, none⟩ = some (.int .i64 xv) := bX4.cell 8 rfl
  have cx9 : w4.cell? ⟨w.heap.size + 1, 9, none⟩ = some (.int .i64 xg) := bX4.cell 9 rfl
  have lX4 := bX4.lt
  go_upto_region 5 with fail
  have bV5n := BoxS.new w4 23 #[.int .i64 sb.1, .int .i64 sb.2]
  have hbx : Below w4.heap.size w4 (w4.alloc (.cells #[.int .i64 sb.1, .int .i64 sb.2] 23)) := (Below.refl _ _).alloc (Nat.le_refl _) _
  have bS5 := bS4.below hbx
  have bX5 := bX4.below hbx
  have hB5 := hB4.trans (hbx.mono hB4.size)
  obtain ⟨BV, hBe⟩ : ∃ B, B = w4.heap.size := ⟨_, rfl⟩
  have kV : w.heap.size + 1 < BV := by have := bX4.lt; omega
  rw [← hBe] at bV5n ⊢
  have bV5 := bV5n
  clear cs0 cs1 cs2 cs3 cs4 cs5 cs6 cs7 lS4 cx0 cx1 cx2 cx3 cx4 cx5 cx6 cx7 cx8 cx9 lX4 bS4 bX4 hB4 hbx hBe bV5n
  generalize World.alloc w4 _ = w5 at *
  have kV2 : w.heap.size < BV := by omega
  have cs0 : w5.cell? ⟨w.heap.size, 0, none⟩ = some (.int .i64 full) := bS5.cell 0 rfl
  have cs1 : w5.cell? ⟨w.heap.size, 1, none⟩ = some (.int .i64 read) := bS5.cell 1 rfl
  have cs2 : w5.cell? ⟨w.heap.size, 2, none⟩ = some (.int .i64 slip) := bS5.cell 2 rfl
  have cs3 : w5.cell? ⟨w.heap.size, 3, none⟩ = some (.int .i64 skew) := bS5.cell 3 rfl
  have cs4 : w5.cell? ⟨w.heap.size, 4, none⟩ = some (.int .i64 circ) := bS5.cell 4 rfl
  have cs5 : w5.cell? ⟨w.heap.size, 5, none⟩ = some (.int .i64 glo) := bS5.cell 5 rfl
  have cs6 : w5.cell? ⟨w.heap.size, 6, none⟩ = some (.int .i64 ghi) := bS5.cell 6 rfl
  have cs7 : w5.cell? ⟨w.heap.size, 7, none⟩ = some (.int .i64 wrn) := bS5.cell 7 rfl
  have lS5 := bS5.lt
  have cx0 : w5.cell? ⟨w.heap.size + 1, 0, none⟩ = some (.int .i64 x1) := bX5.cell 0 rfl
  have cx1 : w5.cell? ⟨w.heap.size + 1, 1, none⟩ = some (.int .i64 x2) := bX5.cell 1 rfl
  have cx2 : w5.cell? ⟨w.heap.size + 1, 2, none⟩ = some (.int .i64 x3) := bX5.cell 2 rfl
  have cx3 : w5.cell? ⟨w.heap.size + 1, 3, none⟩ = some (.int .i64 x4) := bX5.cell 3 rfl
  have cx4 : w5.cell? ⟨w.heap.size + 1, 4, none⟩ = some (.int .i64 x5) := bX5.cell 4 rfl
  have cx5 : w5.cell? ⟨w.heap.size + 1, 5, none⟩ = some (.int .i64 xr) := bX5.cell 5 rfl
  have cx6 : w5.cell? ⟨w.heap.size + 1, 6, none⟩ = some (.int .i64 xs) := bX5.cell 6 rfl
  have cx7 : w5.cell? ⟨w.heap.size + 1, 7, none⟩ = some (.int .i64 xk) := bX5.cell 7 rfl
  have cx8 : w5.cell? ⟨w.heap.size + 1, 8, none⟩ = some (.int .i64 xv) := bX5.cell 8 rfl
  have cx9 : w5.cell? ⟨w.heap.size + 1, 9, none⟩ = some (.int .i64 xg) := bX5.cell 9 rfl
  have lX5 := bX5.lt
  have cv0 : w5.cell? ⟨BV, 0, none⟩ = some (.int .i64 sb.1) := bV5.cell 0 rfl
  have cv1 : w5.cell? ⟨BV, 1, none⟩ = some (.int .i64 sb.2) := bV5.cell 1 rfl
  have lV5 := bV5.lt
  go_wp2_with fail
  refine (HAR.out _ hB5).mono ?_
  rintro e w6 ⟨v6, rfl, hv6, hb6⟩
  obtain ⟨ALA, cLA, rfl⟩ := ints_form hv6.out
  have bS6 := bS5.below hb6
  have bX6 := bX5.below hb6
  have bV6 := bV5.below hb6
  have hB6 := hB5.trans (hb6.mono hB5.size)
  clear cs0 cs1 cs2 cs3 cs4 cs5 cs6 cs7 lS5 cx0 cx1 cx2 cx3 cx4 cx5 cx6 cx7 cx8 cx9 lX5 cv0 cv1 lV5 bS5 bX5 bV5 hB5 hb6
  have LA6 : Hid (Ints w6 w6.heap.size (.slice ALA LA.length cLA) LA) := hv6
  clear hv6
  have cs0 : w6.cell? ⟨w.heap.size, 0, none⟩ = some (.int .i64 full) := bS6.cell 0 rfl
  have cs1 : w6.cell? ⟨w.heap.size, 1, none⟩ = some (.int .i64 read) := bS6.cell 1 rfl
  have cs2 : w6.cell? ⟨w.heap.size, 2, none⟩ = some (.int .i64 slip) := bS6.cell 2 rfl
  have cs3 : w6.cell? ⟨w.heap.size, 3, none⟩ = some (.int .i64 skew) := bS6.cell 3 rfl
  have cs4 : w6.cell? ⟨w.heap.size, 4, none⟩ = some (.int .i64 circ) := bS6.cell 4 rfl
  have cs5 : w6.cell? ⟨w.heap.size, 5, none⟩ = some (.int .i64 glo) := bS6.cell 5 rfl
  have cs6 : w6.cell? ⟨w.heap.size, 6, none⟩ = some (.int .i64 ghi) := bS6.cell 6 rfl
  have cs7 : w6.cell? ⟨w.heap.size, 7, none⟩ = some (.int .i64 wrn) := bS6.cell 7 rfl
  have lS6 := bS6.lt
  have cx0 : w6.cell? ⟨w.heap.size + 1, 0, none⟩ = some (.int .i64 x1) := bX6.cell 0 rfl
  have cx1 : w6.cell? ⟨w.heap.size + 1, 1, none⟩ = some (.int .i64 x2) := bX6.cell 1 rfl
  have cx2 : w6.cell? ⟨w.heap.size + 1, 2, none⟩ = some (.int .i64 x3) := bX6.cell 2 rfl
  have cx3 : w6.cell? ⟨w.heap.size + 1, 3, none⟩ = some (.int .i64 x4) := bX6.cell 3 rfl
  have cx4 : w6.cell? ⟨w.heap.size + 1, 4, none⟩ = some (.int .i64 x5) := bX6.cell 4 rfl
  have cx5 : w6.cell? ⟨w.heap.size + 1, 5, none⟩ = some (.int .i64 xr) := bX6.cell 5 rfl
  have cx6 : w6.cell? ⟨w.heap.size + 1, 6, none⟩ = some (.int .i64 xs) := bX6.cell 6 rfl
  have cx7 : w6.cell? ⟨w.heap.size + 1, 7, none⟩ = some (.int .i64 xk) := bX6.cell 7 rfl
  have cx8 : w6.cell? ⟨w.heap.size + 1, 8, none⟩ = some (.int .i64 xv) := bX6.cell 8 rfl
  have cx9 : w6.cell? ⟨w.heap.size + 1, 9, none⟩ = some (.int .i64 xg) := bX6.cell 9 rfl
  have lX6 := bX6.lt
  have cv0 : w6.cell? ⟨BV, 0, none⟩ = some (.int .i64 sb.1) := bV6.cell 0 rfl
  have cv1 : w6.cell? ⟨BV, 1, none⟩ = some (.int .i64 sb.2) := bV6.cell 1 rfl
  have lV6 := bV6.lt
  go_wp2_with fail
  refine (HKN.out _).mono ?_
  rintro e wq ⟨rfl, hq⟩
  have hq := hq.symm
  subst hq
  go_upto_region 8 with fail
  refine (wpIn_wide (n := 4)).1 ?_
  have hmo : Try.prog.follows .mixedOrders = true := by kernel_rfl
  have q0 : Below w6.heap.size w6 w6.drew := (Below.refl _ _).drew
  have KC : Hid (∀ W', Below w6.heap.size w6 W' → W'.cell? ⟨w.heap.size + 1, 0, none⟩ = some (.int .i64 x1) ∧ W'.cell? ⟨w.heap.size + 1, 1, none⟩ = some (.int .i64 x2) ∧ W'.cell? ⟨w.heap.size + 1, 2, none⟩ = some (.int .i64 x3) ∧ W'.cell? ⟨w.heap.size + 1, 3, none⟩ = some (.int .i64 x4) ∧ W'.cell? ⟨w.heap.size + 1, 4, none⟩ = some (.int .i64 x5)) := fun W' h => ⟨(bX6.below h).cell 0 rfl, (bX6.below h).cell 1 rfl, (bX6.below h).cell 2 rfl, (bX6.below h).cell 3 rfl, (bX6.below h).cell 4 rfl⟩
  have hWp : Wks w6.drew w6.drew.heap.size A ws := by
    have h1 := hB6.drew
    exact (HG.out.keep h1).wider h1.size
  refine wpIn_region_held (fun W' => Below w6.heap.size w6 W') 40 hmo ?_
  refine wpHeldIn_take (i := 1) (v := ?_) (plain_of (by kernel_rfl)) rfl (by kernel_rfl) (fun _ _ _ h => h) (yieldsSoIn_of (by kernel_rfl) ?_ (fun _ => rfl)) q0 ?_; rotate_left; focus (intro wq hw; clear hw; go_simp; try (with_reducible rfl))
  refine wpHeldIn_take (i := 3) (v := ?_) (plain_of (by kernel_rfl)) rfl (by kernel_rfl) (fun _ _ _ h => h) (yieldsSoIn_of (by kernel_rfl) ?_ (fun _ => rfl)) q0 ?_; rotate_left; focus (intro wq hw; clear hw; go_simp; try (with_reducible rfl))
  refine wpHeldIn_take (i := 4) (v := ?_) (plain_of (by kernel_rfl)) rfl (by kernel_rfl) (fun _ _ _ h => h) (yieldsSoIn_of (by kernel_rfl) ?_ (fun _ => rfl)) q0 ?_; rotate_left; focus (intro wq hw; have kq := KC.out wq hw; clear hw; go_simp; try (with_reducible rfl))
  refine wpHeldIn_pushw 0 2 5 6 90 92 95 96 91 94 (f0 := 1) (x1, x2, x3, x4, x5) rfl rfl rfl rfl rfl rfl rfl rfl rfl rfl rfl rfl rfl (by kernel_rfl) rfl (by kernel_rfl) (by decide) (by decide) ⟨of_decide_eq_true (by kernel_rfl), of_decide_eq_true (by kernel_rfl), of_decide_eq_true (by kernel_rfl)⟩ rfl rfl hWp hl8 q0 ?_
  intro u91 u92 u93 AP cP w7 hkP q8
  go_simp
  refine wpHeldIn_take (i := 7) (v := ?_) (plain_of (by kernel_rfl)) rfl (by kernel_rfl) (fun _ _ _ h => h) (yieldsSoIn_of (by kernel_rfl) ?_ (fun _ => rfl)) q8 ?_; rotate_left; focus (intro wq hw; clear hw; go_simp; try (with_reducible rfl))
  refine wpHeldIn_done (by kernel_rfl) ?_ _
  go_simp
  have PW7 : Hid (Wks w7 w7.heap.size AP (ws ++ [(x1, x2, x3, x4, x5)])) := hkP
  have bS7 := bS6.below q8
  have bX7 := bX6.below q8
  have bV7 := bV6.below q8
  have hB7 := hB6.trans (q8.mono hB6.size)
  have LA7 : Hid (Ints w7 w7.heap.size (.slice ALA LA.length cLA) LA) := (LA6.out.keep q8).more q8.size
  clear cs0 cs1 cs2 cs3 cs4 cs5 cs6 cs7 lS6 cx0 cx1 cx2 cx3 cx4 cx5 cx6 cx7 cx8 cx9 lX6 cv0 cv1 lV6 bS6 bX6 bV6 LA6 hB6 q8 q0 KC hWp hkP hmo
  have cs0 : w7.cell? ⟨w.heap.size, 0, none⟩ = some (.int .i64 full) := bS7.cell 0 rfl
  have cs1 : w7.cell? ⟨w.heap.size, 1, none⟩ = some (.int .i64 read) := bS7.cell 1 rfl
  have cs2 : w7.cell? ⟨w.heap.size, 2, none⟩ = some (.int .i64 slip) := bS7.cell 2 rfl
  have cs3 : w7.cell? ⟨w.heap.size, 3, none⟩ = some (.int .i64 skew) := bS7.cell 3 rfl
  have cs4 : w7.cell? ⟨w.heap.size, 4, none⟩ = some (.int .i64 circ) := bS7.cell 4 rfl
  have cs5 : w7.cell? ⟨w.heap.size, 5, none⟩ = some (.int .i64 glo) := bS7.cell 5 rfl
  have cs6 : w7.cell? ⟨w.heap.size, 6, none⟩ = some (.int .i64 ghi) := bS7.cell 6 rfl
  have cs7 : w7.cell? ⟨w.heap.size, 7, none⟩ = some (.int .i64 wrn) := bS7.cell 7 rfl
  have lS7 := bS7.lt
  have cx0 : w7.cell? ⟨w.heap.size + 1, 0, none⟩ = some (.int .i64 x1) := bX7.cell 0 rfl
  have cx1 : w7.cell? ⟨w.heap.size + 1, 1, none⟩ = some (.int .i64 x2) := bX7.cell 1 rfl
  have cx2 : w7.cell? ⟨w.heap.size + 1, 2, none⟩ = some (.int .i64 x3) := bX7.cell 2 rfl
  have cx3 : w7.cell? ⟨w.heap.size + 1, 3, none⟩ = some (.int .i64 x4) := bX7.cell 3 rfl
  have cx4 : w7.cell? ⟨w.heap.size + 1, 4, none⟩ = some (.int .i64 x5) := bX7.cell 4 rfl
  have cx5 : w7.cell? ⟨w.heap.size + 1, 5, none⟩ = some (.int .i64 xr) := bX7.cell 5 rfl
  have cx6 : w7.cell? ⟨w.heap.size + 1, 6, none⟩ = some (.int .i64 xs) := bX7.cell 6 rfl
  have cx7 : w7.cell? ⟨w.heap.size + 1, 7, none⟩ = some (.int .i64 xk) := bX7.cell 7 rfl
  have cx8 : w7.cell? ⟨w.heap.size + 1, 8, none⟩ = some (.int .i64 xv) := bX7.cell 8 rfl
  have cx9 : w7.cell? ⟨w.heap.size + 1, 9, none⟩ = some (.int .i64 xg) := bX7.cell 9 rfl
  have lX7 := bX7.lt
  have cv0 : w7.cell? ⟨BV, 0, none⟩ = some (.int .i64 sb.1) := bV7.cell 0 rfl
  have cv1 : w7.cell? ⟨BV, 1, none⟩ = some (.int .i64 sb.2) := bV7.cell 1 rfl
  have lV7 := bV7.lt
  go_wp2_with fail
  refine (HRP.out _ _ _ PW7.out).mono ?_
  rintro e w8 ⟨rfl, hb8⟩
  have bS8 := bS7.below hb8
  have bX8 := bX7.below hb8
  have bV8 := bV7.below hb8
  have hB8 := hB7.trans (hb8.mono hB7.size)
  have LA8 : Hid (Ints w8 w8.heap.size (.slice ALA LA.length cLA) LA) := (LA7.out.keep hb8).more hb8.size
  have PW8 : Hid (Wks w8 w8.heap.size AP (ws ++ [(x1, x2, x3, x4, x5)])) := (PW7.out.keep hb8).wider hb8.size
  clear cs0 cs1 cs2 cs3 cs4 cs5 cs6 cs7 lS7 cx0 cx1 cx2 cx3 cx4 cx5 cx6 cx7 cx8 cx9 lX7 cv0 cv1 lV7 bS7 bX7 bV7 LA7 PW7 hB7 hb8
  have cs0 : w8.cell? ⟨w.heap.size, 0, none⟩ = some (.int .i64 full) := bS8.cell 0 rfl
  have cs1 : w8.cell? ⟨w.heap.size, 1, none⟩ = some (.int .i64 read) := bS8.cell 1 rfl
  have cs2 : w8.cell? ⟨w.heap.size, 2, none⟩ = some (.int .i64 slip) := bS8.cell 2 rfl
  have cs3 : w8.cell? ⟨w.heap.size, 3, none⟩ = some (.int .i64 skew) := bS8.cell 3 rfl
  have cs4 : w8.cell? ⟨w.heap.size, 4, none⟩ = some (.int .i64 circ) := bS8.cell 4 rfl
  have cs5 : w8.cell? ⟨w.heap.size, 5, none⟩ = some (.int .i64 glo) := bS8.cell 5 rfl
  have cs6 : w8.cell? ⟨w.heap.size, 6, none⟩ = some (.int .i64 ghi) := bS8.cell 6 rfl
  have cs7 : w8.cell? ⟨w.heap.size, 7, none⟩ = some (.int .i64 wrn) := bS8.cell 7 rfl
  have lS8 := bS8.lt
  have cx0 : w8.cell? ⟨w.heap.size + 1, 0, none⟩ = some (.int .i64 x1) := bX8.cell 0 rfl
  have cx1 : w8.cell? ⟨w.heap.size + 1, 1, none⟩ = some (.int .i64 x2) := bX8.cell 1 rfl
  have cx2 : w8.cell? ⟨w.heap.size + 1, 2, none⟩ = some (.int .i64 x3) := bX8.cell 2 rfl
  have cx3 : w8.cell? ⟨w.heap.size + 1, 3, none⟩ = some (.int .i64 x4) := bX8.cell 3 rfl
  have cx4 : w8.cell? ⟨w.heap.size + 1, 4, none⟩ = some (.int .i64 x5) := bX8.cell 4 rfl
  have cx5 : w8.cell? ⟨w.heap.size + 1, 5, none⟩ = some (.int .i64 xr) := bX8.cell 5 rfl
  have cx6 : w8.cell? ⟨w.heap.size + 1, 6, none⟩ = some (.int .i64 xs) := bX8.cell 6 rfl
  have cx7 : w8.cell? ⟨w.heap.size + 1, 7, none⟩ = some (.int .i64 xk) := bX8.cell 7 rfl
  have cx8 : w8.cell? ⟨w.heap.size + 1, 8, none⟩ = some (.int .i64 xv) := bX8.cell 8 rfl
  have cx9 : w8.cell? ⟨w.heap.size + 1, 9, none⟩ = some (.int .i64 xg) := bX8.cell 9 rfl
  have lX8 := bX8.lt
  have cv0 : w8.cell? ⟨BV, 0, none⟩ = some (.int .i64 sb.1) := bV8.cell 0 rfl
  have cv1 : w8.cell? ⟨BV, 1, none⟩ = some (.int .i64 sb.2) := bV8.cell 1 rfl
  have lV8 := bV8.lt
  go_upto_region 15 with fail
  clear bV8
  clear PW8
  have hC8 : Below w8.heap.size w8 w8 := Below.refl _ _
  have bO9n := BoxS.new w8 25 #[.int .i64 full, .int .i64 read, .int .i64 slip, .int .i64 skew, .int .i64 circ, .int .i64 glo, .int .i64 ghi, .int .i64 wrn]
  have hbx : Below w8.heap.size w8 (w8.alloc (.cells #[.int .i64 full, .int .i64 read, .int .i64 slip, .int .i64 skew, .int .i64 circ, .int .i64 glo, .int .i64 ghi, .int .i64 wrn] 25)) := (Below.refl _ _).alloc (Nat.le_refl _) _
  have bS9 := bS8.below hbx
  have bX9 := bX8.below hbx
  have hB9 := hB8.trans (hbx.mono hB8.size)
  have hC9 := hC8.trans (hbx.mono hC8.size)
  obtain ⟨BO, hBe⟩ : ∃ B, B = w8.heap.size := ⟨_, rfl⟩
  have kOc : w8.heap.size ≤ BO := Nat.le_of_eq hBe.symm
  have kO : w.heap.size + 1 < BO := by have := bX8.lt; omega
  rw [← hBe] at bO9n ⊢
  have bO9 := bO9n
  clear cs0 cs1 cs2 cs3 cs4 cs5 cs6 cs7 lS8 cx0 cx1 cx2 cx3 cx4 cx5 cx6 cx7 cx8 cx9 lX8 cv0 cv1 lV8 bS8 bX8 hB8 hC8 hbx hBe bO9n
  generalize World.alloc w8 _ = w9 at *
  have kO2 : w.heap.size < BO := by omega
  have cs0 : w9.cell? ⟨w.heap.size, 0, none⟩ = some (.int .i64 full) := bS9.cell 0 rfl
  have cs1 : w9.cell? ⟨w.heap.size, 1, none⟩ = some (.int .i64 read) := bS9.cell 1 rfl
  have cs2 : w9.cell? ⟨w.heap.size, 2, none⟩ = some (.int .i64 slip) := bS9.cell 2 rfl
  have cs3 : w9.cell? ⟨w.heap.size, 3, none⟩ = some (.int .i64 skew) := bS9.cell 3 rfl
  have cs4 : w9.cell? ⟨w.heap.size, 4, none⟩ = some (.int .i64 circ) := bS9.cell 4 rfl
  have cs5 : w9.cell? ⟨w.heap.size, 5, none⟩ = some (.int .i64 glo) := bS9.cell 5 rfl
  have cs6 : w9.cell? ⟨w.heap.size, 6, none⟩ = some (.int .i64 ghi) := bS9.cell 6 rfl
  have cs7 : w9.cell? ⟨w.heap.size, 7, none⟩ = some (.int .i64 wrn) := bS9.cell 7 rfl
  have lS9 := bS9.lt
  have cx0 : w9.cell? ⟨w.heap.size + 1, 0, none⟩ = some (.int .i64 x1) := bX9.cell 0 rfl
  have cx1 : w9.cell? ⟨w.heap.size + 1, 1, none⟩ = some (.int .i64 x2) := bX9.cell 1 rfl
  have cx2 : w9.cell? ⟨w.heap.size + 1, 2, none⟩ = some (.int .i64 x3) := bX9.cell 2 rfl
  have cx3 : w9.cell? ⟨w.heap.size + 1, 3, none⟩ = some (.int .i64 x4) := bX9.cell 3 rfl
  have cx4 : w9.cell? ⟨w.heap.size + 1, 4, none⟩ = some (.int .i64 x5) := bX9.cell 4 rfl
  have cx5 : w9.cell? ⟨w.heap.size + 1, 5, none⟩ = some (.int .i64 xr) := bX9.cell 5 rfl
  have cx6 : w9.cell? ⟨w.heap.size + 1, 6, none⟩ = some (.int .i64 xs) := bX9.cell 6 rfl
  have cx7 : w9.cell? ⟨w.heap.size + 1, 7, none⟩ = some (.int .i64 xk) := bX9.cell 7 rfl
  have cx8 : w9.cell? ⟨w.heap.size + 1, 8, none⟩ = some (.int .i64 xv) := bX9.cell 8 rfl
  have cx9 : w9.cell? ⟨w.heap.size + 1, 9, none⟩ = some (.int .i64 xg) := bX9.cell 9 rfl
  have lX9 := bX9.lt
  have co0 : w9.cell? ⟨BO, 0, none⟩ = some (.int .i64 full) := bO9.cell 0 rfl
  have co1 : w9.cell? ⟨BO, 1, none⟩ = some (.int .i64 read) := bO9.cell 1 rfl
  have co2 : w9.cell? ⟨BO, 2, none⟩ = some (.int .i64 slip) := bO9.cell 2 rfl
  have co3 : w9.cell? ⟨BO, 3, none⟩ = some (.int .i64 skew) := bO9.cell 3 rfl
  have co4 : w9.cell? ⟨BO, 4, none⟩ = some (.int .i64 circ) := bO9.cell 4 rfl
  have co5 : w9.cell? ⟨BO, 5, none⟩ = some (.int .i64 glo) := bO9.cell 5 rfl
  have co6 : w9.cell? ⟨BO, 6, none⟩ = some (.int .i64 ghi) := bO9.cell 6 rfl
  have co7 : w9.cell? ⟨BO, 7, none⟩ = some (.int .i64 wrn) := bO9.cell 7 rfl
  have lO9 := bO9.lt
  have fzo1 := bO9.frozen 1
  go_upto_region 16 with fail
  have bS10 : BoxS (w9.setCell ⟨BO, 1, none⟩ (.int .i64 (read + xr))) (w.heap.size) 25 #[.int .i64 full, .int .i64 read, .int .i64 slip, .int .i64 skew, .int .i64 circ, .int .i64 glo, .int .i64 ghi, .int .i64 wrn] := (bS9.away (by omega) _ _)
  have bX10 : BoxS (w9.setCell ⟨BO, 1, none⟩ (.int .i64 (read + xr))) (w.heap.size + 1) 56 #[.int .i64 x1, .int .i64 x2, .int .i64 x3, .int .i64 x4, .int .i64 x5, .int .i64 xr, .int .i64 xs, .int .i64 xk, .int .i64 xv, .int .i64 xg] := (bX9.away (by omega) _ _)
  have bO10 : BoxS (w9.setCell ⟨BO, 1, none⟩ (.int .i64 (read + xr))) BO 25 #[.int .i64 full, .int .i64 (read + xr), .int .i64 slip, .int .i64 skew, .int .i64 circ, .int .i64 glo, .int .i64 ghi, .int .i64 wrn] := (bO9.put9 1 (.int .i64 (read + xr)))
  have hB10 : Below w.heap.size w (w9.setCell ⟨BO, 1, none⟩ (.int .i64 (read + xr))) := by have := hB9; (repeat' (first | (with_reducible exact Below.refl _ _) | (with_reducible assumption) | (with_reducible refine Below.alloc ?_ ?_ _) | (with_reducible refine Below.drew ?_) | (with_reducible refine Below.setCell ?_ ?_ _) | go_size | (exact (by simp)) | omega))
  have hC10 : Below w8.heap.size w8 (w9.setCell ⟨BO, 1, none⟩ (.int .i64 (read + xr))) := by have := hC9; (repeat' (first | (with_reducible exact Below.refl _ _) | (with_reducible assumption) | (with_reducible refine Below.alloc ?_ ?_ _) | (with_reducible refine Below.drew ?_) | (with_reducible refine Below.setCell ?_ ?_ _) | go_size | (exact (by simp)) | omega))
  clear cs0 cs1 cs2 cs3 cs4 cs5 cs6 cs7 lS9 cx0 cx1 cx2 cx3 cx4 cx5 cx6 cx7 cx8 cx9 lX9 co0 co1 co2 co3 co4 co5 co6 co7 lO9 fzo1 bS9 bX9 bO9 hB9 hC9
  generalize World.setCell w9 _ _ = w10 at *
  have cs0 : w10.cell? ⟨w.heap.size, 0, none⟩ = some (.int .i64 full) := bS10.cell 0 rfl
  have cs1 : w10.cell? ⟨w.heap.size, 1, none⟩ = some (.int .i64 read) := bS10.cell 1 rfl
  have cs2 : w10.cell? ⟨w.heap.size, 2, none⟩ = some (.int .i64 slip) := bS10.cell 2 rfl
  have cs3 : w10.cell? ⟨w.heap.size, 3, none⟩ = some (.int .i64 skew) := bS10.cell 3 rfl
  have cs4 : w10.cell? ⟨w.heap.size, 4, none⟩ = some (.int .i64 circ) := bS10.cell 4 rfl
  have cs5 : w10.cell? ⟨w.heap.size, 5, none⟩ = some (.int .i64 glo) := bS10.cell 5 rfl
  have cs6 : w10.cell? ⟨w.heap.size, 6, none⟩ = some (.int .i64 ghi) := bS10.cell 6 rfl
  have cs7 : w10.cell? ⟨w.heap.size, 7, none⟩ = some (.int .i64 wrn) := bS10.cell 7 rfl
  have lS10 := bS10.lt
  have cx0 : w10.cell? ⟨w.heap.size + 1, 0, none⟩ = some (.int .i64 x1) := bX10.cell 0 rfl
  have cx1 : w10.cell? ⟨w.heap.size + 1, 1, none⟩ = some (.int .i64 x2) := bX10.cell 1 rfl
  have cx2 : w10.cell? ⟨w.heap.size + 1, 2, none⟩ = some (.int .i64 x3) := bX10.cell 2 rfl
  have cx3 : w10.cell? ⟨w.heap.size + 1, 3, none⟩ = some (.int .i64 x4) := bX10.cell 3 rfl
  have cx4 : w10.cell? ⟨w.heap.size + 1, 4, none⟩ = some (.int .i64 x5) := bX10.cell 4 rfl
  have cx5 : w10.cell? ⟨w.heap.size + 1, 5, none⟩ = some (.int .i64 xr) := bX10.cell 5 rfl
  have cx6 : w10.cell? ⟨w.heap.size + 1, 6, none⟩ = some (.int .i64 xs) := bX10.cell 6 rfl
  have cx7 : w10.cell? ⟨w.heap.size + 1, 7, none⟩ = some (.int .i64 xk) := bX10.cell 7 rfl
  have cx8 : w10.cell? ⟨w.heap.size + 1, 8, none⟩ = some (.int .i64 xv) := bX10.cell 8 rfl
  have cx9 : w10.cell? ⟨w.heap.size + 1, 9, none⟩ = some (.int .i64 xg) := bX10.cell 9 rfl
  have lX10 := bX10.lt
  have co0 : w10.cell? ⟨BO, 0, none⟩ = some (.int .i64 full) := bO10.cell 0 rfl
  have co1 : w10.cell? ⟨BO, 1, none⟩ = some (.int .i64 (read + xr)) := bO10.cell 1 rfl
  have co2 : w10.cell? ⟨BO, 2, none⟩ = some (.int .i64 slip) := bO10.cell 2 rfl
  have co3 : w10.cell? ⟨BO, 3, none⟩ = some (.int .i64 skew) := bO10.cell 3 rfl
  have co4 : w10.cell? ⟨BO, 4, none⟩ = some (.int .i64 circ) := bO10.cell 4 rfl
  have co5 : w10.cell? ⟨BO, 5, none⟩ = some (.int .i64 glo) := bO10.cell 5 rfl
  have co6 : w10.cell? ⟨BO, 6, none⟩ = some (.int .i64 ghi) := bO10.cell 6 rfl
  have co7 : w10.cell? ⟨BO, 7, none⟩ = some (.int .i64 wrn) := bO10.cell 7 rfl
  have lO10 := bO10.lt
  have fzo2 := bO10.frozen 2
  go_upto_region 17 with fail
  have bS11 : BoxS (w10.setCell ⟨BO, 2, none⟩ (.int .i64 (slip + xs))) (w.heap.size) 25 #[.int .i64 full, .int .i64 read, .int .i64 slip, .int .i64 skew, .int .i64 circ, .int .i64 glo, .int .i64 ghi, .int .i64 wrn] := (bS10.away (by omega) _ _)
  have bX11 : BoxS (w10.setCell ⟨BO, 2, none⟩ (.int .i64 (slip + xs))) (w.heap.size + 1) 56 #[.int .i64 x1, .int .i64 x2, .int .i64 x3, .int .i64 x4, .int .i64 x5, .int .i64 xr, .int .i64 xs, .int .i64 xk, .int .i64 xv, .int .i64 xg] := (bX10.away (by omega) _ _)
  have bO11 : BoxS (w10.setCell ⟨BO, 2, none⟩ (.int .i64 (slip + xs))) BO 25 #[.int .i64 full, .int .i64 (read + xr), .int .i64 (slip + xs), .int .i64 skew, .int .i64 circ, .int .i64 glo, .int .i64 ghi, .int .i64 wrn] := (bO10.put9 2 (.int .i64 (slip + xs)))
  have hB11 : Below w.heap.size w (w10.setCell ⟨BO, 2, none⟩ (.int .i64 (slip + xs))) := by have := hB10; (repeat' (first | (with_reducible exact Below.refl _ _) | (with_reducible assumption) | (with_reducible refine Below.alloc ?_ ?_ _) | (with_reducible refine Below.drew ?_) | (with_reducible refine Below.setCell ?_ ?_ _) | go_size | (exact (by simp)) | omega))
  have hC11 : Below w8.heap.size w8 (w10.setCell ⟨BO, 2, none⟩ (.int .i64 (slip + xs))) := by have := hC10; (repeat' (first | (with_reducible exact Below.refl _ _) | (with_reducible assumption) | (with_reducible refine Below.alloc ?_ ?_ _) | (with_reducible refine Below.drew ?_) | (with_reducible refine Below.setCell ?_ ?_ _) | go_size | (exact (by simp)) | omega))
  clear cs0 cs1 cs2 cs3 cs4 cs5 cs6 cs7 lS10 cx0 cx1 cx2 cx3 cx4 cx5 cx6 cx7 cx8 cx9 lX10 co0 co1 co2 co3 co4 co5 co6 co7 lO10 fzo2 bS10 bX10 bO10 hB10 hC10
  generalize World.setCell w10 _ _ = w11 at *
  have cs0 : w11.cell? ⟨w.heap.size, 0, none⟩ = some (.int .i64 full) := bS11.cell 0 rfl
  have cs1 : w11.cell? ⟨w.heap.size, 1, none⟩ = some (.int .i64 read) := bS11.cell 1 rfl
  have cs2 : w11.cell? ⟨w.heap.size, 2, none⟩ = some (.int .i64 slip) := bS11.cell 2 rfl
  have cs3 : w11.cell? ⟨w.heap.size, 3, none⟩ = some (.int .i64 skew) := bS11.cell 3 rfl
  have cs4 : w11.cell? ⟨w.heap.size, 4, none⟩ = some (.int .i64 circ) := bS11.cell 4 rfl
  have cs5 : w11.cell? ⟨w.heap.size, 5, none⟩ = some (.int .i64 glo) := bS11.cell 5 rfl
  have cs6 : w11.cell? ⟨w.heap.size, 6, none⟩ = some (.int .i64 ghi) := bS11.cell 6 rfl
  have cs7 : w11.cell? ⟨w.heap.size, 7, none⟩ = some (.int .i64 wrn) := bS11.cell 7 rfl
  have lS11 := bS11.lt
  have cx0 : w11.cell? ⟨w.heap.size + 1, 0, none⟩ = some (.int .i64 x1) := bX11.cell 0 rfl
  have cx1 : w11.cell? ⟨w.heap.size + 1, 1, none⟩ = some (.int .i64 x2) := bX11.cell 1 rfl
  have cx2 : w11.cell? ⟨w.heap.size + 1, 2, none⟩ = some (.int .i64 x3) := bX11.cell 2 rfl
  have cx3 : w11.cell? ⟨w.heap.size + 1, 3, none⟩ = some (.int .i64 x4) := bX11.cell 3 rfl
  have cx4 : w11.cell? ⟨w.heap.size + 1, 4, none⟩ = some (.int .i64 x5) := bX11.cell 4 rfl
  have cx5 : w11.cell? ⟨w.heap.size + 1, 5, none⟩ = some (.int .i64 xr) := bX11.cell 5 rfl
  have cx6 : w11.cell? ⟨w.heap.size + 1, 6, none⟩ = some (.int .i64 xs) := bX11.cell 6 rfl
  have cx7 : w11.cell? ⟨w.heap.size + 1, 7, none⟩ = some (.int .i64 xk) := bX11.cell 7 rfl
  have cx8 : w11.cell? ⟨w.heap.size + 1, 8, none⟩ = some (.int .i64 xv) := bX11.cell 8 rfl
  have cx9 : w11.cell? ⟨w.heap.size + 1, 9, none⟩ = some (.int .i64 xg) := bX11.cell 9 rfl
  have lX11 := bX11.lt
  have co0 : w11.cell? ⟨BO, 0, none⟩ = some (.int .i64 full) := bO11.cell 0 rfl
  have co1 : w11.cell? ⟨BO, 1, none⟩ = some (.int .i64 (read + xr)) := bO11.cell 1 rfl
  have co2 : w11.cell? ⟨BO, 2, none⟩ = some (.int .i64 (slip + xs)) := bO11.cell 2 rfl
  have co3 : w11.cell? ⟨BO, 3, none⟩ = some (.int .i64 skew) := bO11.cell 3 rfl
  have co4 : w11.cell? ⟨BO, 4, none⟩ = some (.int .i64 circ) := bO11.cell 4 rfl
  have co5 : w11.cell? ⟨BO, 5, none⟩ = some (.int .i64 glo) := bO11.cell 5 rfl
  have co6 : w11.cell? ⟨BO, 6, none⟩ = some (.int .i64 ghi) := bO11.cell 6 rfl
  have co7 : w11.cell? ⟨BO, 7, none⟩ = some (.int .i64 wrn) := bO11.cell 7 rfl
  have lO11 := bO11.lt
  have fzo3 := bO11.frozen 3
  go_upto_region 18 with fail
  have bS12 : BoxS (w11.setCell ⟨BO, 3, none⟩ (.int .i64 (skew + xk))) (w.heap.size) 25 #[.int .i64 full, .int .i64 read, .int .i64 slip, .int .i64 skew, .int .i64 circ, .int .i64 glo, .int .i64 ghi, .int .i64 wrn] := (bS11.away (by omega) _ _)
  have bX12 : BoxS (w11.setCell ⟨BO, 3, none⟩ (.int .i64 (skew + xk))) (w.heap.size + 1) 56 #[.int .i64 x1, .int .i64 x2, .int .i64 x3, .int .i64 x4, .int .i64 x5, .int .i64 xr, .int .i64 xs, .int .i64 xk, .int .i64 xv, .int .i64 xg] := (bX11.away (by omega) _ _)
  have bO12 : BoxS (w11.setCell ⟨BO, 3, none⟩ (.int .i64 (skew + xk))) BO 25 #[.int .i64 full, .int .i64 (read + xr), .int .i64 (slip + xs), .int .i64 (skew + xk), .int .i64 circ, .int .i64 glo, .int .i64 ghi, .int .i64 wrn] := (bO11.put9 3 (.int .i64 (skew + xk)))
  have hB12 : Below w.heap.size w (w11.setCell ⟨BO, 3, none⟩ (.int .i64 (skew + xk))) := by have := hB11; (repeat' (first | (with_reducible exact Below.refl _ _) | (with_reducible assumption) | (with_reducible refine Below.alloc ?_ ?_ _) | (with_reducible refine Below.drew ?_) | (with_reducible refine Below.setCell ?_ ?_ _) | go_size | (exact (by simp)) | omega))
  have hC12 : Below w8.heap.size w8 (w11.setCell ⟨BO, 3, none⟩ (.int .i64 (skew + xk))) := by have := hC11; (repeat' (first | (with_reducible exact Below.refl _ _) | (with_reducible assumption) | (with_reducible refine Below.alloc ?_ ?_ _) | (with_reducible refine Below.drew ?_) | (with_reducible refine Below.setCell ?_ ?_ _) | go_size | (exact (by simp)) | omega))
  clear cs0 cs1 cs2 cs3 cs4 cs5 cs6 cs7 lS11 cx0 cx1 cx2 cx3 cx4 cx5 cx6 cx7 cx8 cx9 lX11 co0 co1 co2 co3 co4 co5 co6 co7 lO11 fzo3 bS11 bX11 bO11 hB11 hC11
  generalize World.setCell w11 _ _ = w12 at *
  have cs0 : w12.cell? ⟨w.heap.size, 0, none⟩ = some (.int .i64 full) := bS12.cell 0 rfl
  have cs1 : w12.cell? ⟨w.heap.size, 1, none⟩ = some (.int .i64 read) := bS12.cell 1 rfl
  have cs2 : w12.cell? ⟨w.heap.size, 2, none⟩ = some (.int .i64 slip) := bS12.cell 2 rfl
  have cs3 : w12.cell? ⟨w.heap.size, 3, none⟩ = some (.int .i64 skew) := bS12.cell 3 rfl
  have cs4 : w12.cell? ⟨w.heap.size, 4, none⟩ = some (.int .i64 circ) := bS12.cell 4 rfl
  have cs5 : w12.cell? ⟨w.heap.size, 5, none⟩ = some (.int .i64 glo) := bS12.cell 5 rfl
  have cs6 : w12.cell? ⟨w.heap.size, 6, none⟩ = some (.int .i64 ghi) := bS12.cell 6 rfl
  have cs7 : w12.cell? ⟨w.heap.size, 7, none⟩ = some (.int .i64 wrn) := bS12.cell 7 rfl
  have lS12 := bS12.lt
  have cx0 : w12.cell? ⟨w.heap.size + 1, 0, none⟩ = some (.int .i64 x1) := bX12.cell 0 rfl
  have cx1 : w12.cell? ⟨w.heap.size + 1, 1, none⟩ = some (.int .i64 x2) := bX12.cell 1 rfl
  have cx2 : w12.cell? ⟨w.heap.size + 1, 2, none⟩ = some (.int .i64 x3) := bX12.cell 2 rfl
  have cx3 : w12.cell? ⟨w.heap.size + 1, 3, none⟩ = some (.int .i64 x4) := bX12.cell 3 rfl
  have cx4 : w12.cell? ⟨w.heap.size + 1, 4, none⟩ = some (.int .i64 x5) := bX12.cell 4 rfl
  have cx5 : w12.cell? ⟨w.heap.size + 1, 5, none⟩ = some (.int .i64 xr) := bX12.cell 5 rfl
  have cx6 : w12.cell? ⟨w.heap.size + 1, 6, none⟩ = some (.int .i64 xs) := bX12.cell 6 rfl
  have cx7 : w12.cell? ⟨w.heap.size + 1, 7, none⟩ = some (.int .i64 xk) := bX12.cell 7 rfl
  have cx8 : w12.cell? ⟨w.heap.size + 1, 8, none⟩ = some (.int .i64 xv) := bX12.cell 8 rfl
  have cx9 : w12.cell? ⟨w.heap.size + 1, 9, none⟩ = some (.int .i64 xg) := bX12.cell 9 rfl
  have lX12 := bX12.lt
  have co0 : w12.cell? ⟨BO, 0, none⟩ = some (.int .i64 full) := bO12.cell 0 rfl
  have co1 : w12.cell? ⟨BO, 1, none⟩ = some (.int .i64 (read + xr)) := bO12.cell 1 rfl
  have co2 : w12.cell? ⟨BO, 2, none⟩ = some (.int .i64 (slip + xs)) := bO12.cell 2 rfl
  have co3 : w12.cell? ⟨BO, 3, none⟩ = some (.int .i64 (skew + xk)) := bO12.cell 3 rfl
  have co4 : w12.cell? ⟨BO, 4, none⟩ = some (.int .i64 circ) := bO12.cell 4 rfl
  have co5 : w12.cell? ⟨BO, 5, none⟩ = some (.int .i64 glo) := bO12.cell 5 rfl
  have co6 : w12.cell? ⟨BO, 6, none⟩ = some (.int .i64 ghi) := bO12.cell 6 rfl
  have co7 : w12.cell? ⟨BO, 7, none⟩ = some (.int .i64 wrn) := bO12.cell 7 rfl
  have lO12 := bO12.lt
  have fzo7 := bO12.frozen 7
  go_upto_region 19 with fail
  have bS13 : BoxS (w12.setCell ⟨BO, 7, none⟩ (.int .i64 (wrn + xv))) (w.heap.size) 25 #[.int .i64 full, .int .i64 read, .int .i64 slip, .int .i64 skew, .int .i64 circ, .int .i64 glo, .int .i64 ghi, .int .i64 wrn] := (bS12.away (by omega) _ _)
  have bX13 : BoxS (w12.setCell ⟨BO, 7, none⟩ (.int .i64 (wrn + xv))) (w.heap.size + 1) 56 #[.int .i64 x1, .int .i64 x2, .int .i64 x3, .int .i64 x4, .int .i64 x5, .int .i64 xr, .int .i64 xs, .int .i64 xk, .int .i64 xv, .int .i64 xg] := (bX12.away (by omega) _ _)
  have bO13 : BoxS (w12.setCell ⟨BO, 7, none⟩ (.int .i64 (wrn + xv))) BO 25 #[.int .i64 full, .int .i64 (read + xr), .int .i64 (slip + xs), .int .i64 (skew + xk), .int .i64 circ, .int .i64 glo, .int .i64 ghi, .int .i64 (wrn + xv)] := (bO12.put9 7 (.int .i64 (wrn + xv)))
  have hB13 : Below w.heap.size w (w12.setCell ⟨BO, 7, none⟩ (.int .i64 (wrn + xv))) := by have := hB12; (repeat' (first | (with_reducible exact Below.refl _ _) | (with_reducible assumption) | (with_reducible refine Below.alloc ?_ ?_ _) | (with_reducible refine Below.drew ?_) | (with_reducible refine Below.setCell ?_ ?_ _) | go_size | (exact (by simp)) | omega))
  have hC13 : Below w8.heap.size w8 (w12.setCell ⟨BO, 7, none⟩ (.int .i64 (wrn + xv))) := by have := hC12; (repeat' (first | (with_reducible exact Below.refl _ _) | (with_reducible assumption) | (with_reducible refine Below.alloc ?_ ?_ _) | (with_reducible refine Below.drew ?_) | (with_reducible refine Below.setCell ?_ ?_ _) | go_size | (exact (by simp)) | omega))
  clear cs0 cs1 cs2 cs3 cs4 cs5 cs6 cs7 lS12 cx0 cx1 cx2 cx3 cx4 cx5 cx6 cx7 cx8 cx9 lX12 co0 co1 co2 co3 co4 co5 co6 co7 lO12 fzo7 bS12 bX12 bO12 hB12 hC12
  generalize World.setCell w12 _ _ = w13 at *
  have cs0 : w13.cell? ⟨w.heap.size, 0, none⟩ = some (.int .i64 full) := bS13.cell 0 rfl
  have cs1 : w13.cell? ⟨w.heap.size, 1, none⟩ = some (.int .i64 read) := bS13.cell 1 rfl
  have cs2 : w13.cell? ⟨w.heap.size, 2, none⟩ = some (.int .i64 slip) := bS13.cell 2 rfl
  have cs3 : w13.cell? ⟨w.heap.size, 3, none⟩ = some (.int .i64 skew) := bS13.cell 3 rfl
  have cs4 : w13.cell? ⟨w.heap.size, 4, none⟩ = some (.int .i64 circ) := bS13.cell 4 rfl
  have cs5 : w13.cell? ⟨w.heap.size, 5, none⟩ = some (.int .i64 glo) := bS13.cell 5 rfl
  have cs6 : w13.cell? ⟨w.heap.size, 6, none⟩ = some (.int .i64 ghi) := bS13.cell 6 rfl
  have cs7 : w13.cell? ⟨w.heap.size, 7, none⟩ = some (.int .i64 wrn) := bS13.cell 7 rfl
  have lS13 := bS13.lt
  have cx0 : w13.cell? ⟨w.heap.size + 1, 0, none⟩ = some (.int .i64 x1) := bX13.cell 0 rfl
  have cx1 : w13.cell? ⟨w.heap.size + 1, 1, none⟩ = some (.int .i64 x2) := bX13.cell 1 rfl
  have cx2 : w13.cell? ⟨w.heap.size + 1, 2, none⟩ = some (.int .i64 x3) := bX13.cell 2 rfl
  have cx3 : w13.cell? ⟨w.heap.size + 1, 3, none⟩ = some (.int .i64 x4) := bX13.cell 3 rfl
  have cx4 : w13.cell? ⟨w.heap.size + 1, 4, none⟩ = some (.int .i64 x5) := bX13.cell 4 rfl
  have cx5 : w13.cell? ⟨w.heap.size + 1, 5, none⟩ = some (.int .i64 xr) := bX13.cell 5 rfl
  have cx6 : w13.cell? ⟨w.heap.size + 1, 6, none⟩ = some (.int .i64 xs) := bX13.cell 6 rfl
  have cx7 : w13.cell? ⟨w.heap.size + 1, 7, none⟩ = some (.int .i64 xk) := bX13.cell 7 rfl
  have cx8 : w13.cell? ⟨w.heap.size + 1, 8, none⟩ = some (.int .i64 xv) := bX13.cell 8 rfl
  have cx9 : w13.cell? ⟨w.heap.size + 1, 9, none⟩ = some (.int .i64 xg) := bX13.cell 9 rfl
  have lX13 := bX13.lt
  have co0 : w13.cell? ⟨BO, 0, none⟩ = some (.int .i64 full) := bO13.cell 0 rfl
  have co1 : w13.cell? ⟨BO, 1, none⟩ = some (.int .i64 (read + xr)) := bO13.cell 1 rfl
  have co2 : w13.cell? ⟨BO, 2, none⟩ = some (.int .i64 (slip + xs)) := bO13.cell 2 rfl
  have co3 : w13.cell? ⟨BO, 3, none⟩ = some (.int .i64 (skew + xk)) := bO13.cell 3 rfl
  have co4 : w13.cell? ⟨BO, 4, none⟩ = some (.int .i64 circ) := bO13.cell 4 rfl
  have co5 : w13.cell? ⟨BO, 5, none⟩ = some (.int .i64 glo) := bO13.cell 5 rfl
  have co6 : w13.cell? ⟨BO, 6, none⟩ = some (.int .i64 ghi) := bO13.cell 6 rfl
  have co7 : w13.cell? ⟨BO, 7, none⟩ = some (.int .i64 (wrn + xv)) := bO13.cell 7 rfl
  have lO13 := bO13.lt
  have fzo5 := bO13.frozen 5
  have fzo6 := bO13.frozen 6
  go_upto_region 20 with fail
  have bS14 : BoxS ((w13.setCell ⟨BO, 5, none⟩ (.int .i64 (glo - xg))).setCell ⟨BO, 6, none⟩ (.int .i64 (ghi + xg))) (w.heap.size) 25 #[.int .i64 full, .int .i64 read, .int .i64 slip, .int .i64 skew, .int .i64 circ, .int .i64 glo, .int .i64 ghi, .int .i64 wrn] := ((bS13.away (by omega) _ _).away (by omega) _ _)
  have bX14 : BoxS ((w13.setCell ⟨BO, 5, none⟩ (.int .i64 (glo - xg))).setCell ⟨BO, 6, none⟩ (.int .i64 (ghi + xg))) (w.heap.size + 1) 56 #[.int .i64 x1, .int .i64 x2, .int .i64 x3, .int .i64 x4, .int .i64 x5, .int .i64 xr, .int .i64 xs, .int .i64 xk, .int .i64 xv, .int .i64 xg] := ((bX13.away (by omega) _ _).away (by omega) _ _)
  have bO14 : BoxS ((w13.setCell ⟨BO, 5, none⟩ (.int .i64 (glo - xg))).setCell ⟨BO, 6, none⟩ (.int .i64 (ghi + xg))) BO 25 #[.int .i64 full, .int .i64 (read + xr), .int .i64 (slip + xs), .int .i64 (skew + xk), .int .i64 circ, .int .i64 (glo - xg), .int .i64 (ghi + xg), .int .i64 (wrn + xv)] := ((bO13.put9 5 (.int .i64 (glo - xg))).put9 6 (.int .i64 (ghi + xg)))
  have hB14 : Below w.heap.size w ((w13.setCell ⟨BO, 5, none⟩ (.int .i64 (glo - xg))).setCell ⟨BO, 6, none⟩ (.int .i64 (ghi + xg))) := by have := hB13; (repeat' (first | (with_reducible exact Below.refl _ _) | (with_reducible assumption) | (with_reducible refine Below.alloc ?_ ?_ _) | (with_reducible refine Below.drew ?_) | (with_reducible refine Below.setCell ?_ ?_ _) | go_size | (exact (by simp)) | omega))
  have hC14 : Below w8.heap.size w8 ((w13.setCell ⟨BO, 5, none⟩ (.int .i64 (glo - xg))).setCell ⟨BO, 6, none⟩ (.int .i64 (ghi + xg))) := by have := hC13; (repeat' (first | (with_reducible exact Below.refl _ _) | (with_reducible assumption) | (with_reducible refine Below.alloc ?_ ?_ _) | (with_reducible refine Below.drew ?_) | (with_reducible refine Below.setCell ?_ ?_ _) | go_size | (exact (by simp)) | omega))
  clear cs0 cs1 cs2 cs3 cs4 cs5 cs6 cs7 lS13 cx0 cx1 cx2 cx3 cx4 cx5 cx6 cx7 cx8 cx9 lX13 co0 co1 co2 co3 co4 co5 co6 co7 lO13 fzo5 fzo6 bS13 bX13 bO13 hB13 hC13
  generalize World.setCell (World.setCell w13 _ _) _ _ = w14 at *
  have cs0 : w14.cell? ⟨w.heap.size, 0, none⟩ = some (.int .i64 full) := bS14.cell 0 rfl
  have cs1 : w14.cell? ⟨w.heap.size, 1, none⟩ = some (.int .i64 read) := bS14.cell 1 rfl
  have cs2 : w14.cell? ⟨w.heap.size, 2, none⟩ = some (.int .i64 slip) := bS14.cell 2 rfl
  have cs3 : w14.cell? ⟨w.heap.size, 3, none⟩ = some (.int .i64 skew) := bS14.cell 3 rfl
  have cs4 : w14.cell? ⟨w.heap.size, 4, none⟩ = some (.int .i64 circ) := bS14.cell 4 rfl
  have cs5 : w14.cell? ⟨w.heap.size, 5, none⟩ = some (.int .i64 glo) := bS14.cell 5 rfl
  have cs6 : w14.cell? ⟨w.heap.size, 6, none⟩ = some (.int .i64 ghi) := bS14.cell 6 rfl
  have cs7 : w14.cell? ⟨w.heap.size, 7, none⟩ = some (.int .i64 wrn) := bS14.cell 7 rfl
  have lS14 := bS14.lt
  have cx0 : w14.cell? ⟨w.heap.size + 1, 0, none⟩ = some (.int .i64 x1) := bX14.cell 0 rfl
  have cx1 : w14.cell? ⟨w.heap.size + 1, 1, none⟩ = some (.int .i64 x2) := bX14.cell 1 rfl
  have cx2 : w14.cell? ⟨w.heap.size + 1, 2, none⟩ = some (.int .i64 x3) := bX14.cell 2 rfl
  have cx3 : w14.cell? ⟨w.heap.size + 1, 3, none⟩ = some (.int .i64 x4) := bX14.cell 3 rfl
  have cx4 : w14.cell? ⟨w.heap.size + 1, 4, none⟩ = some (.int .i64 x5) := bX14.cell 4 rfl
  have cx5 : w14.cell? ⟨w.heap.size + 1, 5, none⟩ = some (.int .i64 xr) := bX14.cell 5 rfl
  have cx6 : w14.cell? ⟨w.heap.size + 1, 6, none⟩ = some (.int .i64 xs) := bX14.cell 6 rfl
  have cx7 : w14.cell? ⟨w.heap.size + 1, 7, none⟩ = some (.int .i64 xk) := bX14.cell 7 rfl
  have cx8 : w14.cell? ⟨w.heap.size + 1, 8, none⟩ = some (.int .i64 xv) := bX14.cell 8 rfl
  have cx9 : w14.cell? ⟨w.heap.size + 1, 9, none⟩ = some (.int .i64 xg) := bX14.cell 9 rfl
  have lX14 := bX14.lt
  have co0 : w14.cell? ⟨BO, 0, none⟩ = some (.int .i64 full) := bO14.cell 0 rfl
  have co1 : w14.cell? ⟨BO, 1, none⟩ = some (.int .i64 (read + xr)) := bO14.cell 1 rfl
  have co2 : w14.cell? ⟨BO, 2, none⟩ = some (.int .i64 (slip + xs)) := bO14.cell 2 rfl
  have co3 : w14.cell? ⟨BO, 3, none⟩ = some (.int .i64 (skew + xk)) := bO14.cell 3 rfl
  have co4 : w14.cell? ⟨BO, 4, none⟩ = some (.int .i64 circ) := bO14.cell 4 rfl
  have co5 : w14.cell? ⟨BO, 5, none⟩ = some (.int .i64 (glo - xg)) := bO14.cell 5 rfl
  have co6 : w14.cell? ⟨BO, 6, none⟩ = some (.int .i64 (ghi + xg)) := bO14.cell 6 rfl
  have co7 : w14.cell? ⟨BO, 7, none⟩ = some (.int .i64 (wrn + xv)) := bO14.cell 7 rfl
  have lO14 := bO14.lt
  go_wp2_with fail
  have LA14 : Hid (Ints w14 w14.heap.size (.slice ALA LA.length cLA) LA) := (LA8.out.keep hC14).more hC14.size
  clear hC14 LA8
  refine (HRO.out _ hB14).mono ?_
  rintro e w15 ⟨rfl, hb15⟩
  have bS15 := bS14.below hb15
  have bX15 := bX14.below hb15
  have bO15 := bO14.below hb15
  have hB15 := hB14.trans (hb15.mono hB14.size)
  have LA15 : Hid (Ints w15 w15.heap.size (.slice ALA LA.length cLA) LA) := (LA14.out.keep hb15).more hb15.size
  clear cs0 cs1 cs2 cs3 cs4 cs5 cs6 cs7 lS14 cx0 cx1 cx2 cx3 cx4 cx5 cx6 cx7 cx8 cx9 lX14 co0 co1 co2 co3 co4 co5 co6 co7 lO14 bS14 bX14 bO14 LA14 hB14 hb15
  have cs0 : w15.cell? ⟨w.heap.size, 0, none⟩ = some (.int .i64 full) := bS15.cell 0 rfl
  have cs1 : w15.cell? ⟨w.heap.size, 1, none⟩ = some (.int .i64 read) := bS15.cell 1 rfl
  have cs2 : w15.cell? ⟨w.heap.size, 2, none⟩ = some (.int .i64 slip) := bS15.cell 2 rfl
  have cs3 : w15.cell? ⟨w.heap.size, 3, none⟩ = some (.int .i64 skew) := bS15.cell 3 rfl
  have cs4 : w15.cell? ⟨w.heap.size, 4, none⟩ = some (.int .i64 circ) := bS15.cell 4 rfl
  have cs5 : w15.cell? ⟨w.heap.size, 5, none⟩ = some (.int .i64 glo) := bS15.cell 5 rfl
  have cs6 : w15.cell? ⟨w.heap.size, 6, none⟩ = some (.int .i64 ghi) := bS15.cell 6 rfl
  have cs7 : w15.cell? ⟨w.heap.size, 7, none⟩ = some (.int .i64 wrn) := bS15.cell 7 rfl
  have lS15 := bS15.lt
  have cx0 : w15.cell? ⟨w.heap.size + 1, 0, none⟩ = some (.int .i64 x1) := bX15.cell 0 rfl
  have cx1 : w15.cell? ⟨w.heap.size + 1, 1, none⟩ = some (.int .i64 x2) := bX15.cell 1 rfl
  have cx2 : w15.cell? ⟨w.heap.size + 1, 2, none⟩ = some (.int .i64 x3) := bX15.cell 2 rfl
  have cx3 : w15.cell? ⟨w.heap.size + 1, 3, none⟩ = some (.int .i64 x4) := bX15.cell 3 rfl
  have cx4 : w15.cell? ⟨w.heap.size + 1, 4, none⟩ = some (.int .i64 x5) := bX15.cell 4 rfl
  have cx5 : w15.cell? ⟨w.heap.size + 1, 5, none⟩ = some (.int .i64 xr) := bX15.cell 5 rfl
  have cx6 : w15.cell? ⟨w.heap.size + 1, 6, none⟩ = some (.int .i64 xs) := bX15.cell 6 rfl
  have cx7 : w15.cell? ⟨w.heap.size + 1, 7, none⟩ = some (.int .i64 xk) := bX15.cell 7 rfl
  have cx8 : w15.cell? ⟨w.heap.size + 1, 8, none⟩ = some (.int .i64 xv) := bX15.cell 8 rfl
  have cx9 : w15.cell? ⟨w.heap.size + 1, 9, none⟩ = some (.int .i64 xg) := bX15.cell 9 rfl
  have lX15 := bX15.lt
  have co0 : w15.cell? ⟨BO, 0, none⟩ = some (.int .i64 full) := bO15.cell 0 rfl
  have co1 : w15.cell? ⟨BO, 1, none⟩ = some (.int .i64 (read + xr)) := bO15.cell 1 rfl
  have co2 : w15.cell? ⟨BO, 2, none⟩ = some (.int .i64 (slip + xs)) := bO15.cell 2 rfl
  have co3 : w15.cell? ⟨BO, 3, none⟩ = some (.int .i64 (skew + xk)) := bO15.cell 3 rfl
  have co4 : w15.cell? ⟨BO, 4, none⟩ = some (.int .i64 circ) := bO15.cell 4 rfl
  have co5 : w15.cell? ⟨BO, 5, none⟩ = some (.int .i64 (glo - xg)) := bO15.cell 5 rfl
  have co6 : w15.cell? ⟨BO, 6, none⟩ = some (.int .i64 (ghi + xg)) := bO15.cell 6 rfl
  have co7 : w15.cell? ⟨BO, 7, none⟩ = some (.int .i64 (wrn + xv)) := bO15.cell 7 rfl
  have lO15 := bO15.lt
  cases RO with
  | false =>
    go_wp2_with fail
    refine (HWK.out _).mono ?_
    rintro e wz ⟨rfl, hbz⟩
    have hBz := hB15.trans (hbz.mono hB15.size)
    go_wp2_with fail
    go_returns
    exact ⟨rfl, hBz⟩
  | true =>
    go_wp2_with fail
    obtain ⟨hE0, n1, n2, n3⟩ := HSB.out (by trivial)
    have r9 : decide ((LO.length : Int) ≤ 100) = true := decide_eq_true (by omega)
    have HS2 := Lib.hid n2
    clear n2
    have HAO2 := Lib.hid (HAO.out (by trivial))
    rw [hE0] at HAO2
    refine (HAO2.out _ hB15).mono ?_
    rintro e w16 ⟨v16, rfl, hv16, hb16⟩
    obtain ⟨ALO, cLO, rfl⟩ := ints_form hv16.out
    have bS16 := bS15.below hb16
    have bX16 := bX15.below hb16
    have bO16 := bO15.below hb16
    have hB16 := hB15.trans (hb16.mono hB15.size)
    have LA16 : Hid (Ints w16 w16.heap.size (.slice ALA LA.length cLA) LA) := (LA15.out.keep hb16).more hb16.size
    clear cs0 cs1 cs2 cs3 cs4 cs5 cs6 cs7 lS15 cx0 cx1 cx2 cx3 cx4 cx5 cx6 cx7 cx8 cx9 lX15 co0 co1 co2 co3 co4 co5 co6 co7 lO15 bS15 bX15 bO15 LA15 hB15 hb16
    have LO16 : Hid (Ints w16 w16.heap.size (.slice ALO LO.length cLO) LO) := hv16
    clear hv16
    have cs0 : w16.cell? ⟨w.heap.size, 0, none⟩ = some (.int .i64 full) := bS16.cell 0 rfl
    have cs1 : w16.cell? ⟨w.heap.size, 1, none⟩ = some (.int .i64 read) := bS16.cell 1 rfl
    have cs2 : w16.cell? ⟨w.heap.size, 2, none⟩ = some (.int .i64 slip) := bS16.cell 2 rfl
    have cs3 : w16.cell? ⟨w.heap.size, 3, none⟩ = some (.int .i64 skew) := bS16.cell 3 rfl
    have cs4 : w16.cell? ⟨w.heap.size, 4, none⟩ = some (.int .i64 circ) := bS16.cell 4 rfl
    have cs5 : w16.cell? ⟨w.heap.size, 5, none⟩ = some (.int .i64 glo) := bS16.cell 5 rfl
    have cs6 : w16.cell? ⟨w.heap.size, 6, none⟩ = some (.int .i64 ghi) := bS16.cell 6 rfl
    have cs7 : w16.cell? ⟨w.heap.size, 7, none⟩ = some (.int .i64 wrn) := bS16.cell 7 rfl
    have lS16 := bS16.lt
    have cx0 : w16.cell? ⟨w.heap.size + 1, 0, none⟩ = some (.int .i64 x1) := bX16.cell 0 rfl
    have cx1 : w16.cell? ⟨w.heap.size + 1, 1, none⟩ = some (.int .i64 x2) := bX16.cell 1 rfl
    have cx2 : w16.cell? ⟨w.heap.size + 1, 2, none⟩ = some (.int .i64 x3) := bX16.cell 2 rfl
    have cx3 : w16.cell? ⟨w.heap.size + 1, 3, none⟩ = some (.int .i64 x4) := bX16.cell 3 rfl
    have cx4 : w16.cell? ⟨w.heap.size + 1, 4, none⟩ = some (.int .i64 x5) := bX16.cell 4 rfl
    have cx5 : w16.cell? ⟨w.heap.size + 1, 5, none⟩ = some (.int .i64 xr) := bX16.cell 5 rfl
    have cx6 : w16.cell? ⟨w.heap.size + 1, 6, none⟩ = some (.int .i64 xs) := bX16.cell 6 rfl
    have cx7 : w16.cell? ⟨w.heap.size + 1, 7, none⟩ = some (.int .i64 xk) := bX16.cell 7 rfl
    have cx8 : w16.cell? ⟨w.heap.size + 1, 8, none⟩ = some (.int .i64 xv) := bX16.cell 8 rfl
    have cx9 : w16.cell? ⟨w.heap.size + 1, 9, none⟩ = some (.int .i64 xg) := bX16.cell 9 rfl
    have lX16 := bX16.lt
    have co0 : w16.cell? ⟨BO, 0, none⟩ = some (.int .i64 full) := bO16.cell 0 rfl
    have co1 : w16.cell? ⟨BO, 1, none⟩ = some (.int .i64 (read + xr)) := bO16.cell 1 rfl
    have co2 : w16.cell? ⟨BO, 2, none⟩ = some (.int .i64 (slip + xs)) := bO16.cell 2 rfl
    have co3 : w16.cell? ⟨BO, 3, none⟩ = some (.int .i64 (skew + xk)) := bO16.cell 3 rfl
    have co4 : w16.cell? ⟨BO, 4, none⟩ = some (.int .i64 circ) := bO16.cell 4 rfl
    have co5 : w16.cell? ⟨BO, 5, none⟩ = some (.int .i64 (glo - xg)) := bO16.cell 5 rfl
    have co6 : w16.cell? ⟨BO, 6, none⟩ = some (.int .i64 (ghi + xg)) := bO16.cell 6 rfl
    have co7 : w16.cell? ⟨BO, 7, none⟩ = some (.int .i64 (wrn + xv)) := bO16.cell 7 rfl
    have lO16 := bO16.lt
    go_wp2_with fail
    refine (subset3_yes _ LA _ LO _ LA16.out LO16.out (by omega) (by omega) HS2.out n3).mono ?_
    rintro e w17 ⟨rfl, hb17⟩
    have bS17 := bS16.below hb17
    have bX17 := bX16.below hb17
    have bO17 := bO16.below hb17
    have hB17 := hB16.trans (hb17.mono hB16.size)
    have LA17 : Hid (Ints w17 w17.heap.size (.slice ALA LA.length cLA) LA) := (LA16.out.keep hb17).more hb17.size
    have LO17 : Hid (Ints w17 w17.heap.size (.slice ALO LO.length cLO) LO) := (LO16.out.keep hb17).more hb17.size
    clear cs0 cs1 cs2 cs3 cs4 cs5 cs6 cs7 lS16 cx0 cx1 cx2 cx3 cx4 cx5 cx6 cx7 cx8 cx9 lX16 co0 co1 co2 co3 co4 co5 co6 co7 lO16 bS16 bX16 bO16 LA16 LO16 hB16 hb17
    have cs0 : w17.cell? ⟨w.heap.size, 0, none⟩ = some (.int .i64 full) := bS17.cell 0 rfl
    have cs1 : w17.cell? ⟨w.heap.size, 1, none⟩ = some (.int .i64 read) := bS17.cell 1 rfl
    have cs2 : w17.cell? ⟨w.heap.size, 2, none⟩ = some (.int .i64 slip) := bS17.cell 2 rfl
    have cs3 : w17.cell? ⟨w.heap.size, 3, none⟩ = some (.int .i64 skew) := bS17.cell 3 rfl
    have cs4 : w17.cell? ⟨w.heap.size, 4, none⟩ = some (.int .i64 circ) := bS17.cell 4 rfl
    have cs5 : w17.cell? ⟨w.heap.size, 5, none⟩ = some (.int .i64 glo) := bS17.cell 5 rfl
    have cs6 : w17.cell? ⟨w.heap.size, 6, none⟩ = some (.int .i64 ghi) := bS17.cell 6 rfl
    have cs7 : w17.cell? ⟨w.heap.size, 7, none⟩ = some (.int .i64 wrn) := bS17.cell 7 rfl
    have lS17 := bS17.lt
    have cx0 : w17.cell? ⟨w.heap.size + 1, 0, none⟩ = some (.int .i64 x1) := bX17.cell 0 rfl
    have cx1 : w17.cell? ⟨w.heap.size + 1, 1, none⟩ = some (.int .i64 x2) := bX17.cell 1 rfl
    have cx2 : w17.cell? ⟨w.heap.size + 1, 2, none⟩ = some (.int .i64 x3) := bX17.cell 2 rfl
    have cx3 : w17.cell? ⟨w.heap.size + 1, 3, none⟩ = some (.int .i64 x4) := bX17.cell 3 rfl
    have cx4 : w17.cell? ⟨w.heap.size + 1, 4, none⟩ = some (.int .i64 x5) := bX17.cell 4 rfl
    have cx5 : w17.cell? ⟨w.heap.size + 1, 5, none⟩ = some (.int .i64 xr) := bX17.cell 5 rfl
    have cx6 : w17.cell? ⟨w.heap.size + 1, 6, none⟩ = some (.int .i64 xs) := bX17.cell 6 rfl
    have cx7 : w17.cell? ⟨w.heap.size + 1, 7, none⟩ = some (.int .i64 xk) := bX17.cell 7 rfl
    have cx8 : w17.cell? ⟨w.heap.size + 1, 8, none⟩ = some (.int .i64 xv) := bX17.cell 8 rfl
    have cx9 : w17.cell? ⟨w.heap.size + 1, 9, none⟩ = some (.int .i64 xg) := bX17.cell 9 rfl
    have lX17 := bX17.lt
    have co0 : w17.cell? ⟨BO, 0, none⟩ = some (.int .i64 full) := bO17.cell 0 rfl
    have co1 : w17.cell? ⟨BO, 1, none⟩ = some (.int .i64 (read + xr)) := bO17.cell 1 rfl
    have co2 : w17.cell? ⟨BO, 2, none⟩ = some (.int .i64 (slip + xs)) := bO17.cell 2 rfl
    have co3 : w17.cell? ⟨BO, 3, none⟩ = some (.int .i64 (skew + xk)) := bO17.cell 3 rfl
    have co4 : w17.cell? ⟨BO, 4, none⟩ = some (.int .i64 circ) := bO17.cell 4 rfl
    have co5 : w17.cell? ⟨BO, 5, none⟩ = some (.int .i64 (glo - xg)) := bO17.cell 5 rfl
    have co6 : w17.cell? ⟨BO, 6, none⟩ = some (.int .i64 (ghi + xg)) := bO17.cell 6 rfl
    have co7 : w17.cell? ⟨BO, 7, none⟩ = some (.int .i64 (wrn + xv)) := bO17.cell 7 rfl
    have lO17 := bO17.lt
    go_wp2_with fail
    refine (HWK.out _).mono ?_
    rintro e wz ⟨rfl, hbz⟩
    have hBz := hB17.trans (hbz.mono hB17.size)
    go_wp2_with fail
    go_returns
    exact ⟨rfl, hBz⟩
end Go.Proofs.Ytecmlakcpgkfbaa
