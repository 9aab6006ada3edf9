/- Compare of two ratios exchanged has the other sign, goes on over a third ratio, and does not change where the same ratio is added to both or both are multiplied by one above 0. No condition: whatever the three ratios are. -/
import Derived.Test.YtfjcmmdfipppoaaArmsT
import Derived.Test.YtfjcmmdfipppoaaArmsLp
import Derived.Test.YtfjcmmdfipppoaaArmsS
import Derived.Test.YtfjcmmdfipppoaaArmsD
import Derived.Deep.RegionHeld3
import Derived.Deep.DeepCutAuto
namespace Go.Proofs.Ytfjcmmdfipppoaa
open Go.RowKit

theorem order_keep {w0 W w' : World} {p q : Nat} {n1 d1 n2 d2 : Int} (hS : Below w0.heap.size w0 W ∧ (W.cell? ⟨p, 0, none⟩ = some (.int .i64 n1) ∧ W.cell? ⟨p, 1, none⟩ = some (.int .i64 d1)) ∧ W.cell? ⟨q, 0, none⟩ = some (.int .i64 n2) ∧ W.cell? ⟨q, 1, none⟩ = some (.int .i64 d2)) (hp : p < w0.heap.size) (hq : q < w0.heap.size) (hb : Below W.heap.size W w') :
    Below w0.heap.size w0 w' ∧ (w'.cell? ⟨p, 0, none⟩ = some (.int .i64 n1) ∧ w'.cell? ⟨p, 1, none⟩ = some (.int .i64 d1)) ∧ w'.cell? ⟨q, 0, none⟩ = some (.int .i64 n2) ∧ w'.cell? ⟨q, 1, none⟩ = some (.int .i64 d2) := by
  obtain ⟨r, ⟨h0, h1⟩, h2, h3⟩ := hS
  have hz := r.size
  have c0 : p < W.heap.size := by omega
  have c1 : q < W.heap.size := by omega
  exact ⟨r.trans (hb.mono hz), ⟨(hb.cell c0).trans h0, (hb.cell c0).trans h1⟩, (hb.cell c1).trans h2, (hb.cell c1).trans h3⟩

set_option maxRecDepth 100000 in
set_option maxHeartbeats 16000000 in
theorem lawOrder_valid (a b c d e f : Int) (w : World) (h1 : Arm.okB a b = true) (h2 : Arm.okB c d = true) (h3 : Arm.okB e f = true) :
    Calls Try.prog 8 #[.agg #[.int .i64 a, .int .i64 b, .int .i64 c, .int .i64 d, .int .i64 e, .int .i64 f]] w fun x w' => x = .returned (.bool true) ∧ Below w.heap.size w w' := by
  have o1 := Arm.okB_true.1 h1
  have o2 := Arm.okB_true.1 h2
  have o3 := Arm.okB_true.1 h3
  have HV : Hid ((Arm.okB a b && Arm.okB c d && Arm.okB e f) = true) := by rw [h1, h2, h3]; rfl
  have mb := Arm.sgn_bd (a * d - c * b)
  have kb := Arm.sgn_bd (c * f - e * d)
  have lb := Arm.sgn_bd (a * f - e * b)
  have lt : 0 < Arm.sgn (a * d - c * b) ∨ 0 < Arm.sgn (c * f - e * d) ∨ Arm.sgn (a * f - e * b) ≤ 0 := by
    have := Arm.cmp_trans_le (a := a) (b := b) (c := c) (d := d) (e := e) (f := f) o1.1.1 o2.1.1 o3.1.1
    by_cases g : Arm.sgn (a * d - c * b) ≤ 0
    · by_cases g2 : Arm.sgn (c * f - e * d) ≤ 0
      · exact .inr (.inr (this g g2))
      · omega
    · omega
  have gt : Arm.sgn (a * d - c * b) < 0 ∨ Arm.sgn (c * f - e * d) < 0 ∨ 0 ≤ Arm.sgn (a * f - e * b) := by
    have := Arm.cmp_trans_ge (a := a) (b := b) (c := c) (d := d) (e := e) (f := f) o1.1.1 o2.1.1 o3.1.1
    by_cases g : 0 ≤ Arm.sgn (a * d - c * b)
    · by_cases g2 : 0 ≤ Arm.sgn (c * f - e * d)
      · exact .inr (.inr (this g g2))
      · omega
    · omega
  have sm := Lib.hid (Arm.cmp_same (a := a) (b := b) (c := c) (d := d) o1.1.1 o2.1.1)
  have c1 := Arm.cmpV_ok h1 h2
  have c2 := Arm.cmpV_ok h2 h1
  have c3 := Arm.cmpV_ok h2 h3
  have c4 := Arm.cmpV_ok h1 h3
  rw [Arm.cmp_swap a b c d] at c2
  have v1 := Lib.hid c1.1
  have e1 := Lib.hid c1.2
  have v2 := Lib.hid c2.1
  have e2 := Lib.hid c2.2
  have v3 := Lib.hid c3.1
  have e3 := Lib.hid c3.2
  have v4 := Lib.hid c4.1
  have e4 := Lib.hid c4.2
  have r1 := Arm.rE_ok h1 (fit_of o1)
  have r2 := Arm.rE_ok h2 (fit_of o2)
  have q1 := Arm.red_red (n := a) o1.1.1
  have q2 := Arm.red_red (n := c) o2.1.1
  have rn1 := Lib.hid r1.1
  have rd1 := Lib.hid r1.2.1
  have re1 := Lib.hid r1.2.2.1
  have rn2 := Lib.hid r2.1
  have rd2 := Lib.hid r2.2.1
  have re2 := Lib.hid r2.2.2.1
  have y1 : Hid (∀ W, Calls Try.prog 40 #[.agg #[.int .i64 (Arm.redN a b), .int .i64 (Arm.redD a b)]] W fun e w' => e = .returned (.bool true) ∧ Below W.heap.size W w') := fun W => lawReduced_yes _ _ W r1.2.2.2 q1.1 q1.2
  have y2 : Hid (∀ W, Calls Try.prog 40 #[.agg #[.int .i64 (Arm.redN c d), .int .i64 (Arm.redD c d)]] W fun e w' => e = .returned (.bool true) ∧ Below W.heap.size W w') := fun W => lawReduced_yes _ _ W r2.2.2.2 q2.1 q2.2
  have z1 : Hid (∀ W, Calls Try.prog 15 #[.agg #[.int .i64 a, .int .i64 b], .agg #[.int .i64 e, .int .i64 f]] W fun x w' => x = .returned (.tuple #[.agg #[.int .i64 (Arm.addN a b e f), .int .i64 (Arm.addD a b e f)], .int .i64 (Arm.addE a b e f)]) ∧ Below W.heap.size W w') := fun W => Add_any a b e f W
  have z2 : Hid (∀ W, Calls Try.prog 15 #[.agg #[.int .i64 c, .int .i64 d], .agg #[.int .i64 e, .int .i64 f]] W fun x w' => x = .returned (.tuple #[.agg #[.int .i64 (Arm.addN c d e f), .int .i64 (Arm.addD c d e f)], .int .i64 (Arm.addE c d e f)]) ∧ Below W.heap.size W w') := fun W => Add_any c d e f W
  have z3 : Hid (∀ W, Calls Try.prog 17 #[.agg #[.int .i64 a, .int .i64 b], .agg #[.int .i64 e, .int .i64 f]] W fun x w' => x = .returned (.tuple #[.agg #[.int .i64 (Arm.mulN a b e f), .int .i64 (Arm.mulD a b e f)], .int .i64 (Arm.mulE a b e f)]) ∧ Below W.heap.size W w') := fun W => Mul_any a b e f W
  have z4 : Hid (∀ W, Calls Try.prog 17 #[.agg #[.int .i64 c, .int .i64 d], .agg #[.int .i64 e, .int .i64 f]] W fun x w' => x = .returned (.tuple #[.agg #[.int .i64 (Arm.mulN c d e f), .int .i64 (Arm.mulD c d e f)], .int .i64 (Arm.mulE c d e f)]) ∧ Below W.heap.size W w') := fun W => Mul_any c d e f W
  have A1 := Lib.hid (Arm.order_add (a := a) (b := b) (c := c) (d := d) (e := e) (f := f) h1 h2 h3)
  have A2 := Lib.hid (fun he => Arm.order_mul (a := a) (b := b) (c := c) (d := d) (e := e) (f := f) h1 h2 h3 he)
  clear c1 c2 c3 c4 r1 r2 q1 q2 h1 h2 h3 o1 o2 o3
  generalize Arm.sgn (a * d - c * b) = m at *
  generalize Arm.sgn (c * f - e * d) = k at *
  generalize Arm.sgn (a * f - e * b) = l at *
  generalize Arm.redN a b = N1 at *
  generalize Arm.redD a b = D1 at *
  generalize Arm.redN c d = N2 at *
  generalize Arm.redD c d = D2 at *
  generalize Arm.addN a b e f = Xn1 at *
  generalize Arm.addN c d e f = Xn2 at *
  generalize Arm.addD a b e f = Xd1 at *
  generalize Arm.addD c d e f = Xd2 at *
  generalize Arm.addE a b e f = Xe1 at *
  generalize Arm.addE c d e f = Xe2 at *
  generalize Arm.mulN a b e f = Zn1 at *
  generalize Arm.mulN c d e f = Zn2 at *
  generalize Arm.mulD a b e f = Zd1 at *
  generalize Arm.mulD c d e f = Zd2 at *
  generalize Arm.mulE a b e f = Ze1 at *
  generalize Arm.mulE c d e f = Ze2 at *
  have wm : IntKind.i64.wrap (-m) = -m := IntWalk.i64_in _ (by omega)
  go_enter Try.func8, Try.ntmps8
  go_wp2_with fail
  refine (valid_any a b c d e f _).mono ?_
  rintro x w1 ⟨rfl, hb1⟩
  have hB1 : Below w.heap.size w w1 := Below.trans (by (repeat' (first | (with_reducible exact Below.refl _ _) | (with_reducible assumption) | (with_reducible refine Below.alloc ?_ ?_ _) | (with_reducible refine below_drewN ?_ _) | (with_reducible refine Below.drew ?_) | (with_reducible refine Below.setCell ?_ ?_ _) | go_size))) (hb1.mono (by first | omega | (simp; done) | (simp; omega))); have hz1 := hb1.size; try simp at hz1
  have hl1T : w.heap.size < w1.heap.size := (by omega); have hx1T0 : w1.cell? ⟨w.heap.size, 0, none⟩ = some (.int .i64 (a)) := (by rw [(hb1.cell (by first | omega | (simp; done) | (simp; omega)))]; (repeat (rw [World.cell?_alloc_lt _ _ _ (by first | omega | (simp; done) | (simp; omega))])); go_cell); have hx1T1 : w1.cell? ⟨w.heap.size, 1, none⟩ = some (.int .i64 (b)) := (by rw [(hb1.cell (by first | omega | (simp; done) | (simp; omega)))]; (repeat (rw [World.cell?_alloc_lt _ _ _ (by first | omega | (simp; done) | (simp; omega))])); go_cell); have hx1T2 : w1.cell? ⟨w.heap.size, 2, none⟩ = some (.int .i64 (c)) := (by rw [(hb1.cell (by first | omega | (simp; done) | (simp; omega)))]; (repeat (rw [World.cell?_alloc_lt _ _ _ (by first | omega | (simp; done) | (simp; omega))])); go_cell); have hx1T3 : w1.cell? ⟨w.heap.size, 3, none⟩ = some (.int .i64 (d)) := (by rw [(hb1.cell (by first | omega | (simp; done) | (simp; omega)))]; (repeat (rw [World.cell?_alloc_lt _ _ _ (by first | omega | (simp; done) | (simp; omega))])); go_cell); have hx1T4 : w1.cell? ⟨w.heap.size, 4, none⟩ = some (.int .i64 (e)) := (by rw [(hb1.cell (by first | omega | (simp; done) | (simp; omega)))]; (repeat (rw [World.cell?_alloc_lt _ _ _ (by first | omega | (simp; done) | (simp; omega))])); go_cell); have hx1T5 : w1.cell? ⟨w.heap.size, 5, none⟩ = some (.int .i64 (f)) := (by rw [(hb1.cell (by first | omega | (simp; done) | (simp; omega)))]; (repeat (rw [World.cell?_alloc_lt _ _ _ (by first | omega | (simp; done) | (simp; omega))])); go_cell)
  rw [HV.out]
  go_wp2_with fail
  refine (Compare_any a b c d _).mono ?_
  rintro x w2 ⟨rfl, hb2⟩
  have hB2 : Below w.heap.size w w2 := Below.trans (by (repeat' (first | (with_reducible exact Below.refl _ _) | (with_reducible assumption) | (with_reducible refine Below.alloc ?_ ?_ _) | (with_reducible refine below_drewN ?_ _) | (with_reducible refine Below.drew ?_) | (with_reducible refine Below.setCell ?_ ?_ _) | go_size))) (hb2.mono (by first | omega | (simp; done) | (simp; omega))); have hz2 := hb2.size; try simp at hz2
  have hl2T : w.heap.size < w2.heap.size := (by omega); have hx2T0 : w2.cell? ⟨w.heap.size, 0, none⟩ = some (.int .i64 (a)) := (by rw [(hb2.cell (by first | omega | (simp; done) | (simp; omega)))]; (repeat (rw [World.cell?_alloc_lt _ _ _ (by first | omega | (simp; done) | (simp; omega))])); go_cell); have hx2T1 : w2.cell? ⟨w.heap.size, 1, none⟩ = some (.int .i64 (b)) := (by rw [(hb2.cell (by first | omega | (simp; done) | (simp; omega)))]; (repeat (rw [World.cell?_alloc_lt _ _ _ (by first | omega | (simp; done) | (simp; omega))])); go_cell); have hx2T2 : w2.cell? ⟨w.heap.size, 2, none⟩ = some (.int .i64 (c)) := (by rw [(hb2.cell (by first | omega | (simp; done) | (simp; omega)))]; (repeat (rw [World.cell?_alloc_lt _ _ _ (by first | omega | (simp; done) | (simp; omega))])); go_cell); have hx2T3 : w2.cell? ⟨w.heap.size, 3, none⟩ = some (.int .i64 (d)) := (by rw [(hb2.cell (by first | omega | (simp; done) | (simp; omega)))]; (repeat (rw [World.cell?_alloc_lt _ _ _ (by first | omega | (simp; done) | (simp; omega))])); go_cell); have hx2T4 : w2.cell? ⟨w.heap.size, 4, none⟩ = some (.int .i64 (e)) := (by rw [(hb2.cell (by first | omega | (simp; done) | (simp; omega)))]; (repeat (rw [World.cell?_alloc_lt _ _ _ (by first | omega | (simp; done) | (simp; omega))])); go_cell); have hx2T5 : w2.cell? ⟨w.heap.size, 5, none⟩ = some (.int .i64 (f)) := (by rw [(hb2.cell (by first | omega | (simp; done) | (simp; omega)))]; (repeat (rw [World.cell?_alloc_lt _ _ _ (by first | omega | (simp; done) | (simp; omega))])); go_cell)
  rw [v1.out, e1.out]
  go_wp2_with fail
  refine (Compare_any c d a b _).mono ?_
  rintro x w3 ⟨rfl, hb3⟩
  have hB3 : Below w.heap.size w w3 := Below.trans (by (repeat' (first | (with_reducible exact Below.refl _ _) | (with_reducible assumption) | (with_reducible refine Below.alloc ?_ ?_ _) | (with_reducible refine below_drewN ?_ _) | (with_reducible refine Below.drew ?_) | (with_reducible refine Below.setCell ?_ ?_ _) | go_size))) (hb3.mono (by first | omega | (simp; done) | (simp; omega))); have hz3 := hb3.size; try simp at hz3
  have hl3T : w.heap.size < w3.heap.size := (by omega); have hx3T0 : w3.cell? ⟨w.heap.size, 0, none⟩ = some (.int .i64 (a)) := (by rw [(hb3.cell (by first | omega | (simp; done) | (simp; omega)))]; (repeat (rw [World.cell?_alloc_lt _ _ _ (by first | omega | (simp; done) | (simp; omega))])); go_cell); have hx3T1 : w3.cell? ⟨w.heap.size, 1, none⟩ = some (.int .i64 (b)) := (by rw [(hb3.cell (by first | omega | (simp; done) | (simp; omega)))]; (repeat (rw [World.cell?_alloc_lt _ _ _ (by first | omega | (simp; done) | (simp; omega))])); go_cell); have hx3T2 : w3.cell? ⟨w.heap.size, 2, none⟩ = some (.int .i64 (c)) := (by rw [(hb3.cell (by first | omega | (simp; done) | (simp; omega)))]; (repeat (rw [World.cell?_alloc_lt _ _ _ (by first | omega | (simp; done) | (simp; omega))])); go_cell); have hx3T3 : w3.cell? ⟨w.heap.size, 3, none⟩ = some (.int .i64 (d)) := (by rw [(hb3.cell (by first | omega | (simp; done) | (simp; omega)))]; (repeat (rw [World.cell?_alloc_lt _ _ _ (by first | omega | (simp; done) | (simp; omega))])); go_cell); have hx3T4 : w3.cell? ⟨w.heap.size, 4, none⟩ = some (.int .i64 (e)) := (by rw [(hb3.cell (by first | omega | (simp; done) | (simp; omega)))]; (repeat (rw [World.cell?_alloc_lt _ _ _ (by first | omega | (simp; done) | (simp; omega))])); go_cell); have hx3T5 : w3.cell? ⟨w.heap.size, 5, none⟩ = some (.int .i64 (f)) := (by rw [(hb3.cell (by first | omega | (simp; done) | (simp; omega)))]; (repeat (rw [World.cell?_alloc_lt _ _ _ (by first | omega | (simp; done) | (simp; omega))])); go_cell)
  rw [v2.out, e2.out]
  go_wp2_with fail
  refine (Compare_any c d e f _).mono ?_
  rintro x w4 ⟨rfl, hb4⟩
  have hB4 : Below w.heap.size w w4 := Below.trans (by (repeat' (first | (with_reducible exact Below.refl _ _) | (with_reducible assumption) | (with_reducible refine Below.alloc ?_ ?_ _) | (with_reducible refine below_drewN ?_ _) | (with_reducible refine Below.drew ?_) | (with_reducible refine Below.setCell ?_ ?_ _) | go_size))) (hb4.mono (by first | omega | (simp; done) | (simp; omega))); have hz4 := hb4.size; try simp at hz4
  have hl4T : w.heap.size < w4.heap.size := (by omega); have hx4T0 : w4.cell? ⟨w.heap.size, 0, none⟩ = some (.int .i64 (a)) := (by rw [(hb4.cell (by first | omega | (simp; done) | (simp; omega)))]; (repeat (rw [World.cell?_alloc_lt _ _ _ (by first | omega | (simp; done) | (simp; omega))])); go_cell); have hx4T1 : w4.cell? ⟨w.heap.size, 1, none⟩ = some (.int .i64 (b)) := (by rw [(hb4.cell (by first | omega | (simp; done) | (simp; omega)))]; (repeat (rw [World.cell?_alloc_lt _ _ _ (by first | omega | (simp; done) | (simp; omega))])); go_cell); have hx4T2 : w4.cell? ⟨w.heap.size, 2, none⟩ = some (.int .i64 (c)) := (by rw [(hb4.cell (by first | omega | (simp; done) | (simp; omega)))]; (repeat (rw [World.cell?_alloc_lt _ _ _ (by first | omega | (simp; done) | (simp; omega))])); go_cell); have hx4T3 : w4.cell? ⟨w.heap.size, 3, none⟩ = some (.int .i64 (d)) := (by rw [(hb4.cell (by first | omega | (simp; done) | (simp; omega)))]; (repeat (rw [World.cell?_alloc_lt _ _ _ (by first | omega | (simp; done) | (simp; omega))])); go_cell); have hx4T4 : w4.cell? ⟨w.heap.size, 4, none⟩ = some (.int .i64 (e)) := (by rw [(hb4.cell (by first | omega | (simp; done) | (simp; omega)))]; (repeat (rw [World.cell?_alloc_lt _ _ _ (by first | omega | (simp; done) | (simp; omega))])); go_cell); have hx4T5 : w4.cell? ⟨w.heap.size, 5, none⟩ = some (.int .i64 (f)) := (by rw [(hb4.cell (by first | omega | (simp; done) | (simp; omega)))]; (repeat (rw [World.cell?_alloc_lt _ _ _ (by first | omega | (simp; done) | (simp; omega))])); go_cell)
  rw [v3.out, e3.out]
  go_wp2_with fail
  refine (Compare_any a b e f _).mono ?_
  rintro x w5 ⟨rfl, hb5⟩
  have hB5 : Below w.heap.size w w5 := Below.trans (by (repeat' (first | (with_reducible exact Below.refl _ _) | (with_reducible assumption) | (with_reducible refine Below.alloc ?_ ?_ _) | (with_reducible refine below_drewN ?_ _) | (with_reducible refine Below.drew ?_) | (with_reducible refine Below.setCell ?_ ?_ _) | go_size))) (hb5.mono (by first | omega | (simp; done) | (simp; omega))); have hz5 := hb5.size; try simp at hz5
  have hl5T : w.heap.size < w5.heap.size := (by omega); have hx5T0 : w5.cell? ⟨w.heap.size, 0, none⟩ = some (.int .i64 (a)) := (by rw [(hb5.cell (by first | omega | (simp; done) | (simp; omega)))]; (repeat (rw [World.cell?_alloc_lt _ _ _ (by first | omega | (simp; done) | (simp; omega))])); go_cell); have hx5T1 : w5.cell? ⟨w.heap.size, 1, none⟩ = some (.int .i64 (b)) := (by rw [(hb5.cell (by first | omega | (simp; done) | (simp; omega)))]; (repeat (rw [World.cell?_alloc_lt _ _ _ (by first | omega | (simp; done) | (simp; omega))])); go_cell); have hx5T2 : w5.cell? ⟨w.heap.size, 2, none⟩ = some (.int .i64 (c)) := (by rw [(hb5.cell (by first | omega | (simp; done) | (simp; omega)))]; (repeat (rw [World.cell?_alloc_lt _ _ _ (by first | omega | (simp; done) | (simp; omega))])); go_cell); have hx5T3 : w5.cell? ⟨w.heap.size, 3, none⟩ = some (.int .i64 (d)) := (by rw [(hb5.cell (by first | omega | (simp; done) | (simp; omega)))]; (repeat (rw [World.cell?_alloc_lt _ _ _ (by first | omega | (simp; done) | (simp; omega))])); go_cell); have hx5T4 : w5.cell? ⟨w.heap.size, 4, none⟩ = some (.int .i64 (e)) := (by rw [(hb5.cell (by first | omega | (simp; done) | (simp; omega)))]; (repeat (rw [World.cell?_alloc_lt _ _ _ (by first | omega | (simp; done) | (simp; omega))])); go_cell); have hx5T5 : w5.cell? ⟨w.heap.size, 5, none⟩ = some (.int .i64 (f)) := (by rw [(hb5.cell (by first | omega | (simp; done) | (simp; omega)))]; (repeat (rw [World.cell?_alloc_lt _ _ _ (by first | omega | (simp; done) | (simp; omega))])); go_cell)
  rw [v4.out, e4.out]
  go_upto_region 7 with fail
  go_cut [110] (fun s wx => s = .bool false ∧ Below w.heap.size w wx ∧ w.heap.size < wx.heap.size ∧ wx.cell? ⟨w.heap.size, 0, none⟩ = some (.int .i64 a) ∧ wx.cell? ⟨w.heap.size, 1, none⟩ = some (.int .i64 b) ∧ wx.cell? ⟨w.heap.size, 2, none⟩ = some (.int .i64 c) ∧ wx.cell? ⟨w.heap.size, 3, none⟩ = some (.int .i64 d) ∧ wx.cell? ⟨w.heap.size, 4, none⟩ = some (.int .i64 e) ∧ wx.cell? ⟨w.heap.size, 5, none⟩ = some (.int .i64 f))
  case first => as_aux_lemma =>
    rcases (by omega : (m < 0 ∧ k ≤ 0 ∧ l ≤ 0) ∨ (m < 0 ∧ 0 < k) ∨ (0 < m ∧ 0 ≤ k ∧ 0 ≤ l) ∨ (0 < m ∧ k < 0) ∨ (m = 0 ∧ k < 0 ∧ l ≤ 0) ∨ (m = 0 ∧ k = 0 ∧ l = 0) ∨ (m = 0 ∧ 0 < k ∧ 0 ≤ l)) with hm | hm | hm | hm | ⟨hm, hk⟩ | ⟨hm, hk, hl⟩ | ⟨hm, hk⟩
    all_goals
      clear A1 A2 sm z1 z2 z3 z4 y1 y2 lt gt
      first
        | (subst hm hk hl
           clear mb kb lb wm)
        | (subst hm
           clear mb kb lb wm)
        | clear kb lb
      go_wp2_with fail
      go_meet
      exact ⟨by first | rfl | (refine congrArg Value.bool ?_; simp; done) | (refine congrArg Value.bool ?_; simp; omega), by (repeat' (first | (with_reducible exact Below.refl _ _) | (with_reducible assumption) | (with_reducible refine Below.alloc ?_ ?_ _) | (with_reducible refine below_drewN ?_ _) | (with_reducible refine Below.drew ?_) | (with_reducible refine Below.setCell ?_ ?_ _) | go_size)), by assumption, hx5T0, hx5T1, hx5T2, hx5T3, hx5T4, hx5T5⟩
  case rest =>
    obtain ⟨rfl, hBc, hlc, t0, t1, t2, t3, t4, t5⟩ := hcut
    have hzc := hBc.size
    go_wp2_with fail
    refine (Reduce_any a b _).mono ?_
    rintro x w6 ⟨rfl, hb6⟩
    have hB6 : Below w.heap.size w w6 := Below.trans (by (repeat' (first | (with_reducible exact Below.refl _ _) | (with_reducible assumption) | (with_reducible refine Below.alloc ?_ ?_ _) | (with_reducible refine below_drewN ?_ _) | (with_reducible refine Below.drew ?_) | (with_reducible refine Below.setCell ?_ ?_ _) | go_size))) (hb6.mono (by first | omega | (simp; done) | (simp; omega))); have hz6 := hb6.size; try simp at hz6
    have hl6T : w.heap.size < w6.heap.size := (by omega); have hx6T0 : w6.cell? ⟨w.heap.size, 0, none⟩ = some (.int .i64 (a)) := (by rw [(hb6.cell (by first | omega | (simp; done) | (simp; omega)))]; (repeat (rw [World.cell?_alloc_lt _ _ _ (by first | omega | (simp; done) | (simp; omega))])); go_cell); have hx6T1 : w6.cell? ⟨w.heap.size, 1, none⟩ = some (.int .i64 (b)) := (by rw [(hb6.cell (by first | omega | (simp; done) | (simp; omega)))]; (repeat (rw [World.cell?_alloc_lt _ _ _ (by first | omega | (simp; done) | (simp; omega))])); go_cell); have hx6T2 : w6.cell? ⟨w.heap.size, 2, none⟩ = some (.int .i64 (c)) := (by rw [(hb6.cell (by first | omega | (simp; done) | (simp; omega)))]; (repeat (rw [World.cell?_alloc_lt _ _ _ (by first | omega | (simp; done) | (simp; omega))])); go_cell); have hx6T3 : w6.cell? ⟨w.heap.size, 3, none⟩ = some (.int .i64 (d)) := (by rw [(hb6.cell (by first | omega | (simp; done) | (simp; omega)))]; (repeat (rw [World.cell?_alloc_lt _ _ _ (by first | omega | (simp; done) | (simp; omega))])); go_cell); have hx6T4 : w6.cell? ⟨w.heap.size, 4, none⟩ = some (.int .i64 (e)) := (by rw [(hb6.cell (by first | omega | (simp; done) | (simp; omega)))]; (repeat (rw [World.cell?_alloc_lt _ _ _ (by first | omega | (simp; done) | (simp; omega))])); go_cell); have hx6T5 : w6.cell? ⟨w.heap.size, 5, none⟩ = some (.int .i64 (f)) := (by rw [(hb6.cell (by first | omega | (simp; done) | (simp; omega)))]; (repeat (rw [World.cell?_alloc_lt _ _ _ (by first | omega | (simp; done) | (simp; omega))])); go_cell)
    rw [rn1.out, rd1.out, re1.out]
    go_wp2_with fail
    refine (Reduce_any c d _).mono ?_
    rintro x w7 ⟨rfl, hb7⟩
    have hB7 : Below w.heap.size w w7 := Below.trans (by (repeat' (first | (with_reducible exact Below.refl _ _) | (with_reducible assumption) | (with_reducible refine Below.alloc ?_ ?_ _) | (with_reducible refine below_drewN ?_ _) | (with_reducible refine Below.drew ?_) | (with_reducible refine Below.setCell ?_ ?_ _) | go_size))) (hb7.mono (by first | omega | (simp; done) | (simp; omega))); have hz7 := hb7.size; try simp at hz7
    have hl7T : w.heap.size < w7.heap.size := (by omega); have hx7T0 : w7.cell? ⟨w.heap.size, 0, none⟩ = some (.int .i64 (a)) := (by rw [(hb7.cell (by first | omega | (simp; done) | (simp; omega)))]; (repeat (rw [World.cell?_alloc_lt _ _ _ (by first | omega | (simp; done) | (simp; omega))])); go_cell); have hx7T1 : w7.cell? ⟨w.heap.size, 1, none⟩ = some (.int .i64 (b)) := (by rw [(hb7.cell (by first | omega | (simp; done) | (simp; omega)))]; (repeat (rw [World.cell?_alloc_lt _ _ _ (by first | omega | (simp; done) | (simp; omega))])); go_cell); have hx7T2 : w7.cell? ⟨w.heap.size, 2, none⟩ = some (.int .i64 (c)) := (by rw [(hb7.cell (by first | omega | (simp; done) | (simp; omega)))]; (repeat (rw [World.cell?_alloc_lt _ _ _ (by first | omega | (simp; done) | (simp; omega))])); go_cell); have hx7T3 : w7.cell? ⟨w.heap.size, 3, none⟩ = some (.int .i64 (d)) := (by rw [(hb7.cell (by first | omega | (simp; done) | (simp; omega)))]; (repeat (rw [World.cell?_alloc_lt _ _ _ (by first | omega | (simp; done) | (simp; omega))])); go_cell); have hx7T4 : w7.cell? ⟨w.heap.size, 4, none⟩ = some (.int .i64 (e)) := (by rw [(hb7.cell (by first | omega | (simp; done) | (simp; omega)))]; (repeat (rw [World.cell?_alloc_lt _ _ _ (by first | omega | (simp; done) | (simp; omega))])); go_cell); have hx7T5 : w7.cell? ⟨w.heap.size, 5, none⟩ = some (.int .i64 (f)) := (by rw [(hb7.cell (by first | omega | (simp; done) | (simp; omega)))]; (repeat (rw [World.cell?_alloc_lt _ _ _ (by first | omega | (simp; done) | (simp; omega))])); go_cell)
    have hl7A : w6.heap.size < w7.heap.size := (by omega); have hx7A0 : w7.cell? ⟨w6.heap.size, 0, none⟩ = some (.int .i64 (N1)) := (by rw [(hb7.cell (by first | omega | (simp; done) | (simp; omega)))]; (repeat (rw [World.cell?_alloc_lt _ _ _ (by first | omega | (simp; done) | (simp; omega))])); go_cell); have hx7A1 : w7.cell? ⟨w6.heap.size, 1, none⟩ = some (.int .i64 (D1)) := (by rw [(hb7.cell (by first | omega | (simp; done) | (simp; omega)))]; (repeat (rw [World.cell?_alloc_lt _ _ _ (by first | omega | (simp; done) | (simp; omega))])); go_cell)
    rw [rn2.out, rd2.out, re2.out]
    go_upto_region 11 with fail
    generalize hW : World.alloc _ _ = W
    have hBW : Below w.heap.size w W := by rw [← hW]; clear hW; (repeat' (first | (with_reducible exact Below.refl _ _) | (with_reducible assumption) | (with_reducible refine Below.alloc ?_ ?_ _) | (with_reducible refine below_drewN ?_ _) | (with_reducible refine Below.drew ?_) | (with_reducible refine Below.setCell ?_ ?_ _) | go_size))
    have hlWT : w.heap.size < W.heap.size := (by rw [← hW]; clear hW; first | omega | (simp; done) | (simp; omega)); have hxWT0 : W.cell? ⟨w.heap.size, 0, none⟩ = some (.int .i64 (a)) := (by rw [← hW]; clear hW; (repeat (rw [World.cell?_alloc_lt _ _ _ (by first | omega | (simp; done) | (simp; omega))])); go_cell); have hxWT1 : W.cell? ⟨w.heap.size, 1, none⟩ = some (.int .i64 (b)) := (by rw [← hW]; clear hW; (repeat (rw [World.cell?_alloc_lt _ _ _ (by first | omega | (simp; done) | (simp; omega))])); go_cell); have hxWT2 : W.cell? ⟨w.heap.size, 2, none⟩ = some (.int .i64 (c)) := (by rw [← hW]; clear hW; (repeat (rw [World.cell?_alloc_lt _ _ _ (by first | omega | (simp; done) | (simp; omega))])); go_cell); have hxWT3 : W.cell? ⟨w.heap.size, 3, none⟩ = some (.int .i64 (d)) := (by rw [← hW]; clear hW; (repeat (rw [World.cell?_alloc_lt _ _ _ (by first | omega | (simp; done) | (simp; omega))])); go_cell); have hxWT4 : W.cell? ⟨w.heap.size, 4, none⟩ = some (.int .i64 (e)) := (by rw [← hW]; clear hW; (repeat (rw [World.cell?_alloc_lt _ _ _ (by first | omega | (simp; done) | (simp; omega))])); go_cell); have hxWT5 : W.cell? ⟨w.heap.size, 5, none⟩ = some (.int .i64 (f)) := (by rw [← hW]; clear hW; (repeat (rw [World.cell?_alloc_lt _ _ _ (by first | omega | (simp; done) | (simp; omega))])); go_cell)
    have hlWA : w6.heap.size < W.heap.size := (by rw [← hW]; clear hW; first | omega | (simp; done) | (simp; omega)); have hxWA0 : W.cell? ⟨w6.heap.size, 0, none⟩ = some (.int .i64 (N1)) := (by rw [← hW]; clear hW; (repeat (rw [World.cell?_alloc_lt _ _ _ (by first | omega | (simp; done) | (simp; omega))])); go_cell); have hxWA1 : W.cell? ⟨w6.heap.size, 1, none⟩ = some (.int .i64 (D1)) := (by rw [← hW]; clear hW; (repeat (rw [World.cell?_alloc_lt _ _ _ (by first | omega | (simp; done) | (simp; omega))])); go_cell)
    have hlWB : w7.heap.size < W.heap.size := (by rw [← hW]; clear hW; first | omega | (simp; done) | (simp; omega)); have hxWB0 : W.cell? ⟨w7.heap.size, 0, none⟩ = some (.int .i64 (N2)) := (by rw [← hW]; clear hW; (repeat (rw [World.cell?_alloc_lt _ _ _ (by first | omega | (simp; done) | (simp; omega))])); go_cell); have hxWB1 : W.cell? ⟨w7.heap.size, 1, none⟩ = some (.int .i64 (D2)) := (by rw [← hW]; clear hW; (repeat (rw [World.cell?_alloc_lt _ _ _ (by first | omega | (simp; done) | (simp; omega))])); go_cell)
    clear hW
    go_cut [146] (fun s wx => s = .bool false ∧ Below w.heap.size w wx ∧ w.heap.size < wx.heap.size ∧ wx.cell? ⟨w.heap.size, 0, none⟩ = some (.int .i64 a) ∧ wx.cell? ⟨w.heap.size, 1, none⟩ = some (.int .i64 b) ∧ wx.cell? ⟨w.heap.size, 2, none⟩ = some (.int .i64 c) ∧ wx.cell? ⟨w.heap.size, 3, none⟩ = some (.int .i64 d) ∧ wx.cell? ⟨w.heap.size, 4, none⟩ = some (.int .i64 e) ∧ wx.cell? ⟨w.heap.size, 5, none⟩ = some (.int .i64 f))
    case first => as_aux_lemma =>
      clear A1 A2 z1 z2 z3 z4 mb kb lb lt gt wm hBc hb6 hb7 hB6 hB7 hz6 hz7 hzc
      by_cases hm : m = 0
      · obtain ⟨g1, g2⟩ := sm.out.1 hm
        subst hm g1 g2
        clear sm
        go_wp2_with fail
        refine (y1.out _).mono ?_
        rintro x w8 ⟨rfl, hb8⟩
        have hB8 : Below w.heap.size w w8 := Below.trans (by (repeat' (first | (with_reducible exact Below.refl _ _) | (with_reducible assumption) | (with_reducible refine Below.alloc ?_ ?_ _) | (with_reducible refine below_drewN ?_ _) | (with_reducible refine Below.drew ?_) | (with_reducible refine Below.setCell ?_ ?_ _) | go_size))) (hb8.mono (by first | omega | (simp; done) | (simp; omega))); have hz8 := hb8.size; try simp at hz8
        have hl8T : w.heap.size < w8.heap.size := (by omega); have hx8T0 : w8.cell? ⟨w.heap.size, 0, none⟩ = some (.int .i64 (a)) := (by rw [(hb8.cell (by first | omega | (simp; done) | (simp; omega)))]; (repeat (rw [World.cell?_alloc_lt _ _ _ (by first | omega | (simp; done) | (simp; omega))])); go_cell); have hx8T1 : w8.cell? ⟨w.heap.size, 1, none⟩ = some (.int .i64 (b)) := (by rw [(hb8.cell (by first | omega | (simp; done) | (simp; omega)))]; (repeat (rw [World.cell?_alloc_lt _ _ _ (by first | omega | (simp; done) | (simp; omega))])); go_cell); have hx8T2 : w8.cell? ⟨w.heap.size, 2, none⟩ = some (.int .i64 (c)) := (by rw [(hb8.cell (by first | omega | (simp; done) | (simp; omega)))]; (repeat (rw [World.cell?_alloc_lt _ _ _ (by first | omega | (simp; done) | (simp; omega))])); go_cell); have hx8T3 : w8.cell? ⟨w.heap.size, 3, none⟩ = some (.int .i64 (d)) := (by rw [(hb8.cell (by first | omega | (simp; done) | (simp; omega)))]; (repeat (rw [World.cell?_alloc_lt _ _ _ (by first | omega | (simp; done) | (simp; omega))])); go_cell); have hx8T4 : w8.cell? ⟨w.heap.size, 4, none⟩ = some (.int .i64 (e)) := (by rw [(hb8.cell (by first | omega | (simp; done) | (simp; omega)))]; (repeat (rw [World.cell?_alloc_lt _ _ _ (by first | omega | (simp; done) | (simp; omega))])); go_cell); have hx8T5 : w8.cell? ⟨w.heap.size, 5, none⟩ = some (.int .i64 (f)) := (by rw [(hb8.cell (by first | omega | (simp; done) | (simp; omega)))]; (repeat (rw [World.cell?_alloc_lt _ _ _ (by first | omega | (simp; done) | (simp; omega))])); go_cell)
        have hl8B : w7.heap.size < w8.heap.size := (by omega); have hx8B0 : w8.cell? ⟨w7.heap.size, 0, none⟩ = some (.int .i64 (N1)) := (by rw [(hb8.cell (by first | omega | (simp; done) | (simp; omega)))]; (repeat (rw [World.cell?_alloc_lt _ _ _ (by first | omega | (simp; done) | (simp; omega))])); go_cell); have hx8B1 : w8.cell? ⟨w7.heap.size, 1, none⟩ = some (.int .i64 (D1)) := (by rw [(hb8.cell (by first | omega | (simp; done) | (simp; omega)))]; (repeat (rw [World.cell?_alloc_lt _ _ _ (by first | omega | (simp; done) | (simp; omega))])); go_cell)
        go_wp2_with fail
        refine (y2.out _).mono ?_
        rintro x w9 ⟨rfl, hb9⟩
        have hB9 : Below w.heap.size w w9 := Below.trans (by (repeat' (first | (with_reducible exact Below.refl _ _) | (with_reducible assumption) | (with_reducible refine Below.alloc ?_ ?_ _) | (with_reducible refine below_drewN ?_ _) | (with_reducible refine Below.drew ?_) | (with_reducible refine Below.setCell ?_ ?_ _) | go_size))) (hb9.mono (by first | omega | (simp; done) | (simp; omega))); have hz9 := hb9.size; try simp at hz9
        have hl9T : w.heap.size < w9.heap.size := (by omega); have hx9T0 : w9.cell? ⟨w.heap.size, 0, none⟩ = some (.int .i64 (a)) := (by rw [(hb9.cell (by first | omega | (simp; done) | (simp; omega)))]; (repeat (rw [World.cell?_alloc_lt _ _ _ (by first | omega | (simp; done) | (simp; omega))])); go_cell); have hx9T1 : w9.cell? ⟨w.heap.size, 1, none⟩ = some (.int .i64 (b)) := (by rw [(hb9.cell (by first | omega | (simp; done) | (simp; omega)))]; (repeat (rw [World.cell?_alloc_lt _ _ _ (by first | omega | (simp; done) | (simp; omega))])); go_cell); have hx9T2 : w9.cell? ⟨w.heap.size, 2, none⟩ = some (.int .i64 (c)) := (by rw [(hb9.cell (by first | omega | (simp; done) | (simp; omega)))]; (repeat (rw [World.cell?_alloc_lt _ _ _ (by first | omega | (simp; done) | (simp; omega))])); go_cell); have hx9T3 : w9.cell? ⟨w.heap.size, 3, none⟩ = some (.int .i64 (d)) := (by rw [(hb9.cell (by first | omega | (simp; done) | (simp; omega)))]; (repeat (rw [World.cell?_alloc_lt _ _ _ (by first | omega | (simp; done) | (simp; omega))])); go_cell); have hx9T4 : w9.cell? ⟨w.heap.size, 4, none⟩ = some (.int .i64 (e)) := (by rw [(hb9.cell (by first | omega | (simp; done) | (simp; omega)))]; (repeat (rw [World.cell?_alloc_lt _ _ _ (by first | omega | (simp; done) | (simp; omega))])); go_cell); have hx9T5 : w9.cell? ⟨w.heap.size, 5, none⟩ = some (.int .i64 (f)) := (by rw [(hb9.cell (by first | omega | (simp; done) | (simp; omega)))]; (repeat (rw [World.cell?_alloc_lt _ _ _ (by first | omega | (simp; done) | (simp; omega))])); go_cell)
        go_wp2_with fail
        go_meet
        exact ⟨rfl, hB9, hl9T, hx9T0, hx9T1, hx9T2, hx9T3, hx9T4, hx9T5⟩
      · have hmb : (m == 0) = false := by simpa using hm
        have hne : ¬ (N1 = N2 ∧ D1 = D2) := fun h => hm (sm.out.2 h)
        have hnb : (N1 == N2 && D1 == D2) = false := by simpa using hne
        clear sm hm
        by_cases hN : N1 = N2
        · have hD : (D1 == D2) = false := by simpa using (fun h => hne ⟨hN, h⟩)
          subst hN
          clear hne hnb
          go_wp2_with fail
          refine (y1.out _).mono ?_
          rintro x w8 ⟨rfl, hb8⟩
          have hB8 : Below w.heap.size w w8 := Below.trans (by (repeat' (first | (with_reducible exact Below.refl _ _) | (with_reducible assumption) | (with_reducible refine Below.alloc ?_ ?_ _) | (with_reducible refine below_drewN ?_ _) | (with_reducible refine Below.drew ?_) | (with_reducible refine Below.setCell ?_ ?_ _) | go_size))) (hb8.mono (by first | omega | (simp; done) | (simp; omega))); have hz8 := hb8.size; try simp at hz8
          have hl8T : w.heap.size < w8.heap.size := (by omega); have hx8T0 : w8.cell? ⟨w.heap.size, 0, none⟩ = some (.int .i64 (a)) := (by rw [(hb8.cell (by first | omega | (simp; done) | (simp; omega)))]; (repeat (rw [World.cell?_alloc_lt _ _ _ (by first | omega | (simp; done) | (simp; omega))])); go_cell); have hx8T1 : w8.cell? ⟨w.heap.size, 1, none⟩ = some (.int .i64 (b)) := (by rw [(hb8.cell (by first | omega | (simp; done) | (simp; omega)))]; (repeat (rw [World.cell?_alloc_lt _ _ _ (by first | omega | (simp; done) | (simp; omega))])); go_cell); have hx8T2 : w8.cell? ⟨w.heap.size, 2, none⟩ = some (.int .i64 (c)) := (by rw [(hb8.cell (by first | omega | (simp; done) | (simp; omega)))]; (repeat (rw [World.cell?_alloc_lt _ _ _ (by first | omega | (simp; done) | (simp; omega))])); go_cell); have hx8T3 : w8.cell? ⟨w.heap.size, 3, none⟩ = some (.int .i64 (d)) := (by rw [(hb8.cell (by first | omega | (simp; done) | (simp; omega)))]; (repeat (rw [World.cell?_alloc_lt _ _ _ (by first | omega | (simp; done) | (simp; omega))])); go_cell); have hx8T4 : w8.cell? ⟨w.heap.size, 4, none⟩ = some (.int .i64 (e)) := (by rw [(hb8.cell (by first | omega | (simp; done) | (simp; omega)))]; (repeat (rw [World.cell?_alloc_lt _ _ _ (by first | omega | (simp; done) | (simp; omega))])); go_cell); have hx8T5 : w8.cell? ⟨w.heap.size, 5, none⟩ = some (.int .i64 (f)) := (by rw [(hb8.cell (by first | omega | (simp; done) | (simp; omega)))]; (repeat (rw [World.cell?_alloc_lt _ _ _ (by first | omega | (simp; done) | (simp; omega))])); go_cell)
          have hl8B : w7.heap.size < w8.heap.size := (by omega); have hx8B0 : w8.cell? ⟨w7.heap.size, 0, none⟩ = some (.int .i64 (N1)) := (by rw [(hb8.cell (by first | omega | (simp; done) | (simp; omega)))]; (repeat (rw [World.cell?_alloc_lt _ _ _ (by first | omega | (simp; done) | (simp; omega))])); go_cell); have hx8B1 : w8.cell? ⟨w7.heap.size, 1, none⟩ = some (.int .i64 (D2)) := (by rw [(hb8.cell (by first | omega | (simp; done) | (simp; omega)))]; (repeat (rw [World.cell?_alloc_lt _ _ _ (by first | omega | (simp; done) | (simp; omega))])); go_cell)
          go_wp2_with fail
          refine (y2.out _).mono ?_
          rintro x w9 ⟨rfl, hb9⟩
          have hB9 : Below w.heap.size w w9 := Below.trans (by (repeat' (first | (with_reducible exact Below.refl _ _) | (with_reducible assumption) | (with_reducible refine Below.alloc ?_ ?_ _) | (with_reducible refine below_drewN ?_ _) | (with_reducible refine Below.drew ?_) | (with_reducible refine Below.setCell ?_ ?_ _) | go_size))) (hb9.mono (by first | omega | (simp; done) | (simp; omega))); have hz9 := hb9.size; try simp at hz9
          have hl9T : w.heap.size < w9.heap.size := (by omega); have hx9T0 : w9.cell? ⟨w.heap.size, 0, none⟩ = some (.int .i64 (a)) := (by rw [(hb9.cell (by first | omega | (simp; done) | (simp; omega)))]; (repeat (rw [World.cell?_alloc_lt _ _ _ (by first | omega | (simp; done) | (simp; omega))])); go_cell); have hx9T1 : w9.cell? ⟨w.heap.size, 1, none⟩ = some (.int .i64 (b)) := (by rw [(hb9.cell (by first | omega | (simp; done) | (simp; omega)))]; (repeat (rw [World.cell?_alloc_lt _ _ _ (by first | omega | (simp; done) | (simp; omega))])); go_cell); have hx9T2 : w9.cell? ⟨w.heap.size, 2, none⟩ = some (.int .i64 (c)) := (by rw [(hb9.cell (by first | omega | (simp; done) | (simp; omega)))]; (repeat (rw [World.cell?_alloc_lt _ _ _ (by first | omega | (simp; done) | (simp; omega))])); go_cell); have hx9T3 : w9.cell? ⟨w.heap.size, 3, none⟩ = some (.int .i64 (d)) := (by rw [(hb9.cell (by first | omega | (simp; done) | (simp; omega)))]; (repeat (rw [World.cell?_alloc_lt _ _ _ (by first | omega | (simp; done) | (simp; omega))])); go_cell); have hx9T4 : w9.cell? ⟨w.heap.size, 4, none⟩ = some (.int .i64 (e)) := (by rw [(hb9.cell (by first | omega | (simp; done) | (simp; omega)))]; (repeat (rw [World.cell?_alloc_lt _ _ _ (by first | omega | (simp; done) | (simp; omega))])); go_cell); have hx9T5 : w9.cell? ⟨w.heap.size, 5, none⟩ = some (.int .i64 (f)) := (by rw [(hb9.cell (by first | omega | (simp; done) | (simp; omega)))]; (repeat (rw [World.cell?_alloc_lt _ _ _ (by first | omega | (simp; done) | (simp; omega))])); go_cell)
          go_wp2_with fail
          go_meet
          exact ⟨rfl, hB9, hl9T, hx9T0, hx9T1, hx9T2, hx9T3, hx9T4, hx9T5⟩
        · have hN2 : (N1 == N2) = false := by simpa using hN
          clear hne hnb hN
          go_wp2_with fail
          refine (y1.out _).mono ?_
          rintro x w8 ⟨rfl, hb8⟩
          have hB8 : Below w.heap.size w w8 := Below.trans (by (repeat' (first | (with_reducible exact Below.refl _ _) | (with_reducible assumption) | (with_reducible refine Below.alloc ?_ ?_ _) | (with_reducible refine below_drewN ?_ _) | (with_reducible refine Below.drew ?_) | (with_reducible refine Below.setCell ?_ ?_ _) | go_size))) (hb8.mono (by first | omega | (simp; done) | (simp; omega))); have hz8 := hb8.size; try simp at hz8
          have hl8T : w.heap.size < w8.heap.size := (by omega); have hx8T0 : w8.cell? ⟨w.heap.size, 0, none⟩ = some (.int .i64 (a)) := (by rw [(hb8.cell (by first | omega | (simp; done) | (simp; omega)))]; (repeat (rw [World.cell?_alloc_lt _ _ _ (by first | omega | (simp; done) | (simp; omega))])); go_cell); have hx8T1 : w8.cell? ⟨w.heap.size, 1, none⟩ = some (.int .i64 (b)) := (by rw [(hb8.cell (by first | omega | (simp; done) | (simp; omega)))]; (repeat (rw [World.cell?_alloc_lt _ _ _ (by first | omega | (simp; done) | (simp; omega))])); go_cell); have hx8T2 : w8.cell? ⟨w.heap.size, 2, none⟩ = some (.int .i64 (c)) := (by rw [(hb8.cell (by first | omega | (simp; done) | (simp; omega)))]; (repeat (rw [World.cell?_alloc_lt _ _ _ (by first | omega | (simp; done) | (simp; omega))])); go_cell); have hx8T3 : w8.cell? ⟨w.heap.size, 3, none⟩ = some (.int .i64 (d)) := (by rw [(hb8.cell (by first | omega | (simp; done) | (simp; omega)))]; (repeat (rw [World.cell?_alloc_lt _ _ _ (by first | omega | (simp; done) | (simp; omega))])); go_cell); have hx8T4 : w8.cell? ⟨w.heap.size, 4, none⟩ = some (.int .i64 (e)) := (by rw [(hb8.cell (by first | omega | (simp; done) | (simp; omega)))]; (repeat (rw [World.cell?_alloc_lt _ _ _ (by first | omega | (simp; done) | (simp; omega))])); go_cell); have hx8T5 : w8.cell? ⟨w.heap.size, 5, none⟩ = some (.int .i64 (f)) := (by rw [(hb8.cell (by first | omega | (simp; done) | (simp; omega)))]; (repeat (rw [World.cell?_alloc_lt _ _ _ (by first | omega | (simp; done) | (simp; omega))])); go_cell)
          have hl8B : w7.heap.size < w8.heap.size := (by omega); have hx8B0 : w8.cell? ⟨w7.heap.size, 0, none⟩ = some (.int .i64 (N2)) := (by rw [(hb8.cell (by first | omega | (simp; done) | (simp; omega)))]; (repeat (rw [World.cell?_alloc_lt _ _ _ (by first | omega | (simp; done) | (simp; omega))])); go_cell); have hx8B1 : w8.cell? ⟨w7.heap.size, 1, none⟩ = some (.int .i64 (D2)) := (by rw [(hb8.cell (by first | omega | (simp; done) | (simp; omega)))]; (repeat (rw [World.cell?_alloc_lt _ _ _ (by first | omega | (simp; done) | (simp; omega))])); go_cell)
          go_wp2_with fail
          refine (y2.out _).mono ?_
          rintro x w9 ⟨rfl, hb9⟩
          have hB9 : Below w.heap.size w w9 := Below.trans (by (repeat' (first | (with_reducible exact Below.refl _ _) | (with_reducible assumption) | (with_reducible refine Below.alloc ?_ ?_ _) | (with_reducible refine below_drewN ?_ _) | (with_reducible refine Below.drew ?_) | (with_reducible refine Below.setCell ?_ ?_ _) | go_size))) (hb9.mono (by first | omega | (simp; done) | (simp; omega))); have hz9 := hb9.size; try simp at hz9
          have hl9T : w.heap.size < w9.heap.size := (by omega); have hx9T0 : w9.cell? ⟨w.heap.size, 0, none⟩ = some (.int .i64 (a)) := (by rw [(hb9.cell (by first | omega | (simp; done) | (simp; omega)))]; (repeat (rw [World.cell?_alloc_lt _ _ _ (by first | omega | (simp; done) | (simp; omega))])); go_cell); have hx9T1 : w9.cell? ⟨w.heap.size, 1, none⟩ = some (.int .i64 (b)) := (by rw [(hb9.cell (by first | omega | (simp; done) | (simp; omega)))]; (repeat (rw [World.cell?_alloc_lt _ _ _ (by first | omega | (simp; done) | (simp; omega))])); go_cell); have hx9T2 : w9.cell? ⟨w.heap.size, 2, none⟩ = some (.int .i64 (c)) := (by rw [(hb9.cell (by first | omega | (simp; done) | (simp; omega)))]; (repeat (rw [World.cell?_alloc_lt _ _ _ (by first | omega | (simp; done) | (simp; omega))])); go_cell); have hx9T3 : w9.cell? ⟨w.heap.size, 3, none⟩ = some (.int .i64 (d)) := (by rw [(hb9.cell (by first | omega | (simp; done) | (simp; omega)))]; (repeat (rw [World.cell?_alloc_lt _ _ _ (by first | omega | (simp; done) | (simp; omega))])); go_cell); have hx9T4 : w9.cell? ⟨w.heap.size, 4, none⟩ = some (.int .i64 (e)) := (by rw [(hb9.cell (by first | omega | (simp; done) | (simp; omega)))]; (repeat (rw [World.cell?_alloc_lt _ _ _ (by first | omega | (simp; done) | (simp; omega))])); go_cell); have hx9T5 : w9.cell? ⟨w.heap.size, 5, none⟩ = some (.int .i64 (f)) := (by rw [(hb9.cell (by first | omega | (simp; done) | (simp; omega)))]; (repeat (rw [World.cell?_alloc_lt _ _ _ (by first | omega | (simp; done) | (simp; omega))])); go_cell)
          go_wp2_with fail
          go_meet
          exact ⟨rfl, hB9, hl9T, hx9T0, hx9T1, hx9T2, hx9T3, hx9T4, hx9T5⟩
    case rest =>
      obtain ⟨rfl, hBd, hld, u0, u1, u2, u3, u4, u5⟩ := hcut
      have hzd := hBd.size
      clear sm y1 y2 rn1 rd1 re1 rn2 rd2 re2 hBW hb6 hb7 hB6 hB7 hz6 hz7 hBc hzc hlc t0 t1 t2 t3 t4 t5
      go_wp2_with fail
      refine (z1.out _).mono ?_
      rintro x w10 ⟨rfl, hb10⟩
      have hB10 : Below w.heap.size w w10 := Below.trans (by (repeat' (first | (with_reducible exact Below.refl _ _) | (with_reducible assumption) | (with_reducible refine Below.alloc ?_ ?_ _) | (with_reducible refine below_drewN ?_ _) | (with_reducible refine Below.drew ?_) | (with_reducible refine Below.setCell ?_ ?_ _) | go_size))) (hb10.mono (by first | omega | (simp; done) | (simp; omega))); have hz10 := hb10.size; try simp at hz10
      have hl10T : w.heap.size < w10.heap.size := (by omega); have hx10T0 : w10.cell? ⟨w.heap.size, 0, none⟩ = some (.int .i64 (a)) := (by rw [(hb10.cell (by first | omega | (simp; done) | (simp; omega)))]; (repeat (rw [World.cell?_alloc_lt _ _ _ (by first | omega | (simp; done) | (simp; omega))])); go_cell); have hx10T1 : w10.cell? ⟨w.heap.size, 1, none⟩ = some (.int .i64 (b)) := (by rw [(hb10.cell (by first | omega | (simp; done) | (simp; omega)))]; (repeat (rw [World.cell?_alloc_lt _ _ _ (by first | omega | (simp; done) | (simp; omega))])); go_cell); have hx10T2 : w10.cell? ⟨w.heap.size, 2, none⟩ = some (.int .i64 (c)) := (by rw [(hb10.cell (by first | omega | (simp; done) | (simp; omega)))]; (repeat (rw [World.cell?_alloc_lt _ _ _ (by first | omega | (simp; done) | (simp; omega))])); go_cell); have hx10T3 : w10.cell? ⟨w.heap.size, 3, none⟩ = some (.int .i64 (d)) := (by rw [(hb10.cell (by first | omega | (simp; done) | (simp; omega)))]; (repeat (rw [World.cell?_alloc_lt _ _ _ (by first | omega | (simp; done) | (simp; omega))])); go_cell); have hx10T4 : w10.cell? ⟨w.heap.size, 4, none⟩ = some (.int .i64 (e)) := (by rw [(hb10.cell (by first | omega | (simp; done) | (simp; omega)))]; (repeat (rw [World.cell?_alloc_lt _ _ _ (by first | omega | (simp; done) | (simp; omega))])); go_cell); have hx10T5 : w10.cell? ⟨w.heap.size, 5, none⟩ = some (.int .i64 (f)) := (by rw [(hb10.cell (by first | omega | (simp; done) | (simp; omega)))]; (repeat (rw [World.cell?_alloc_lt _ _ _ (by first | omega | (simp; done) | (simp; omega))])); go_cell)
      go_wp2_with fail
      refine (z2.out _).mono ?_
      rintro x w11 ⟨rfl, hb11⟩
      have hB11 : Below w.heap.size w w11 := Below.trans (by (repeat' (first | (with_reducible exact Below.refl _ _) | (with_reducible assumption) | (with_reducible refine Below.alloc ?_ ?_ _) | (with_reducible refine below_drewN ?_ _) | (with_reducible refine Below.drew ?_) | (with_reducible refine Below.setCell ?_ ?_ _) | go_size))) (hb11.mono (by first | omega | (simp; done) | (simp; omega))); have hz11 := hb11.size; try simp at hz11
      have hl11T : w.heap.size < w11.heap.size := (by omega); have hx11T0 : w11.cell? ⟨w.heap.size, 0, none⟩ = some (.int .i64 (a)) := (by rw [(hb11.cell (by first | omega | (simp; done) | (simp; omega)))]; (repeat (rw [World.cell?_alloc_lt _ _ _ (by first | omega | (simp; done) | (simp; omega))])); go_cell); have hx11T1 : w11.cell? ⟨w.heap.size, 1, none⟩ = some (.int .i64 (b)) := (by rw [(hb11.cell (by first | omega | (simp; done) | (simp; omega)))]; (repeat (rw [World.cell?_alloc_lt _ _ _ (by first | omega | (simp; done) | (simp; omega))])); go_cell); have hx11T2 : w11.cell? ⟨w.heap.size, 2, none⟩ = some (.int .i64 (c)) := (by rw [(hb11.cell (by first | omega | (simp; done) | (simp; omega)))]; (repeat (rw [World.cell?_alloc_lt _ _ _ (by first | omega | (simp; done) | (simp; omega))])); go_cell); have hx11T3 : w11.cell? ⟨w.heap.size, 3, none⟩ = some (.int .i64 (d)) := (by rw [(hb11.cell (by first | omega | (simp; done) | (simp; omega)))]; (repeat (rw [World.cell?_alloc_lt _ _ _ (by first | omega | (simp; done) | (simp; omega))])); go_cell); have hx11T4 : w11.cell? ⟨w.heap.size, 4, none⟩ = some (.int .i64 (e)) := (by rw [(hb11.cell (by first | omega | (simp; done) | (simp; omega)))]; (repeat (rw [World.cell?_alloc_lt _ _ _ (by first | omega | (simp; done) | (simp; omega))])); go_cell); have hx11T5 : w11.cell? ⟨w.heap.size, 5, none⟩ = some (.int .i64 (f)) := (by rw [(hb11.cell (by first | omega | (simp; done) | (simp; omega)))]; (repeat (rw [World.cell?_alloc_lt _ _ _ (by first | omega | (simp; done) | (simp; omega))])); go_cell)
      have hl11X : w10.heap.size < w11.heap.size := (by omega); have hx11X0 : w11.cell? ⟨w10.heap.size, 0, none⟩ = some (.int .i64 (Xn1)) := (by rw [(hb11.cell (by first | omega | (simp; done) | (simp; omega)))]; (repeat (rw [World.cell?_alloc_lt _ _ _ (by first | omega | (simp; done) | (simp; omega))])); go_cell); have hx11X1 : w11.cell? ⟨w10.heap.size, 1, none⟩ = some (.int .i64 (Xd1)) := (by rw [(hb11.cell (by first | omega | (simp; done) | (simp; omega)))]; (repeat (rw [World.cell?_alloc_lt _ _ _ (by first | omega | (simp; done) | (simp; omega))])); go_cell)
      have hp11X0 : w11.frozen? ⟨w10.heap.size, 0, none⟩ = false := (by rw [(hb11.frozen (by first | omega | (simp; done) | (simp; omega)))]; first | (with_reducible assumption) | (go_simp; done) | (simp [*]; done)); have hp11X1 : w11.frozen? ⟨w10.heap.size, 1, none⟩ = false := (by rw [(hb11.frozen (by first | omega | (simp; done) | (simp; omega)))]; first | (with_reducible assumption) | (go_simp; done) | (simp [*]; done))
      go_upto_region 15 with fail
      generalize hW2 : World.alloc _ _ = W2
      have hB2 : Below w.heap.size w W2 := by rw [← hW2]; clear hW2; (repeat' (first | (with_reducible exact Below.refl _ _) | (with_reducible assumption) | (with_reducible refine Below.alloc ?_ ?_ _) | (with_reducible refine below_drewN ?_ _) | (with_reducible refine Below.drew ?_) | (with_reducible refine Below.setCell ?_ ?_ _) | go_size))
      have hlW2T : w.heap.size < W2.heap.size := (by rw [← hW2]; clear hW2; first | omega | (simp; done) | (simp; omega)); have hxW2T0 : W2.cell? ⟨w.heap.size, 0, none⟩ = some (.int .i64 (a)) := (by rw [← hW2]; clear hW2; (repeat (rw [World.cell?_alloc_lt _ _ _ (by first | omega | (simp; done) | (simp; omega))])); go_cell); have hxW2T1 : W2.cell? ⟨w.heap.size, 1, none⟩ = some (.int .i64 (b)) := (by rw [← hW2]; clear hW2; (repeat (rw [World.cell?_alloc_lt _ _ _ (by first | omega | (simp; done) | (simp; omega))])); go_cell); have hxW2T2 : W2.cell? ⟨w.heap.size, 2, none⟩ = some (.int .i64 (c)) := (by rw [← hW2]; clear hW2; (repeat (rw [World.cell?_alloc_lt _ _ _ (by first | omega | (simp; done) | (simp; omega))])); go_cell); have hxW2T3 : W2.cell? ⟨w.heap.size, 3, none⟩ = some (.int .i64 (d)) := (by rw [← hW2]; clear hW2; (repeat (rw [World.cell?_alloc_lt _ _ _ (by first | omega | (simp; done) | (simp; omega))])); go_cell); have hxW2T4 : W2.cell? ⟨w.heap.size, 4, none⟩ = some (.int .i64 (e)) := (by rw [← hW2]; clear hW2; (repeat (rw [World.cell?_alloc_lt _ _ _ (by first | omega | (simp; done) | (simp; omega))])); go_cell); have hxW2T5 : W2.cell? ⟨w.heap.size, 5, none⟩ = some (.int .i64 (f)) := (by rw [← hW2]; clear hW2; (repeat (rw [World.cell?_alloc_lt _ _ _ (by first | omega | (simp; done) | (simp; omega))])); go_cell)
      have hlW2X : w10.heap.size < W2.heap.size := (by rw [← hW2]; clear hW2; first | omega | (simp; done) | (simp; omega)); have hxW2X0 : W2.cell? ⟨w10.heap.size, 0, none⟩ = some (.int .i64 (Xn1)) := (by rw [← hW2]; clear hW2; (repeat (rw [World.cell?_alloc_lt _ _ _ (by first | omega | (simp; done) | (simp; omega))])); go_cell); have hxW2X1 : W2.cell? ⟨w10.heap.size, 1, none⟩ = some (.int .i64 (Xd1)) := (by rw [← hW2]; clear hW2; (repeat (rw [World.cell?_alloc_lt _ _ _ (by first | omega | (simp; done) | (simp; omega))])); go_cell)
      have hlW2Y : w11.heap.size < W2.heap.size := (by rw [← hW2]; clear hW2; first | omega | (simp; done) | (simp; omega)); have hxW2Y0 : W2.cell? ⟨w11.heap.size, 0, none⟩ = some (.int .i64 (Xn2)) := (by rw [← hW2]; clear hW2; (repeat (rw [World.cell?_alloc_lt _ _ _ (by first | omega | (simp; done) | (simp; omega))])); go_cell); have hxW2Y1 : W2.cell? ⟨w11.heap.size, 1, none⟩ = some (.int .i64 (Xd2)) := (by rw [← hW2]; clear hW2; (repeat (rw [World.cell?_alloc_lt _ _ _ (by first | omega | (simp; done) | (simp; omega))])); go_cell)
      have fX0 : W2.frozen? ⟨w10.heap.size, 0, none⟩ = false := by rw [← hW2]; clear hW2; rw [World.frozen?_alloc_old _ _ _ (by simp; omega)]; assumption
      have fX1 : W2.frozen? ⟨w10.heap.size, 1, none⟩ = false := by rw [← hW2]; clear hW2; rw [World.frozen?_alloc_old _ _ _ (by simp; omega)]; assumption
      have fY0 : W2.frozen? ⟨w11.heap.size, 0, none⟩ = false := by rw [← hW2]; clear hW2; first | (go_simp; done) | (simp; done) | (simp [World.frozen?_alloc_new]; done)
      have fY1 : W2.frozen? ⟨w11.heap.size, 1, none⟩ = false := by rw [← hW2]; clear hW2; first | (go_simp; done) | (simp; done) | (simp [World.frozen?_alloc_new]; done)
      clear hW2
      go_cut [168] (fun s wx => (∃ v : Bool, s = .bool v ∧ Hid (v = true → Xe1 = 0 ∧ Xe2 = 0)) ∧ wx = W2)
      case first => as_aux_lemma =>
        clear A1 A2 z3 z4 wm
        by_cases g1 : Xe1 = 0
        · subst g1
          by_cases g2 : Xe2 = 0
          · subst g2
            go_wp2_with fail
            go_meet
            exact ⟨⟨true, rfl, fun _ => ⟨rfl, rfl⟩⟩, rfl⟩
          · have g3 : (Xe2 == 0) = false := by simpa using g2
            clear g2
            go_wp2_with fail
            go_meet
            exact ⟨⟨false, rfl, fun h => by cases h⟩, rfl⟩
        · have g3 : (Xe1 == 0) = false := by simpa using g1
          clear g1
          go_wp2_with fail
          go_meet
          exact ⟨⟨false, rfl, fun h => by cases h⟩, rfl⟩
      case rest =>
        obtain ⟨⟨v, rfl, hv⟩, rfl⟩ := hcut
        go_upto_if 168 with fail
        go_cut [19] (fun s wx => Below w.heap.size w wx ∧ (w.heap.size < wx.heap.size ∧ w10.heap.size < wx.heap.size ∧ w11.heap.size < wx.heap.size) ∧ (wx.cell? ⟨w.heap.size, 0, none⟩ = some (.int .i64 a) ∧ wx.cell? ⟨w.heap.size, 1, none⟩ = some (.int .i64 b) ∧ wx.cell? ⟨w.heap.size, 2, none⟩ = some (.int .i64 c) ∧ wx.cell? ⟨w.heap.size, 3, none⟩ = some (.int .i64 d) ∧ wx.cell? ⟨w.heap.size, 4, none⟩ = some (.int .i64 e) ∧ wx.cell? ⟨w.heap.size, 5, none⟩ = some (.int .i64 f)) ∧ (wx.frozen? ⟨w10.heap.size, 0, none⟩ = false ∧ wx.frozen? ⟨w10.heap.size, 1, none⟩ = false) ∧ (wx.frozen? ⟨w11.heap.size, 0, none⟩ = false ∧ wx.frozen? ⟨w11.heap.size, 1, none⟩ = false) ∧ (wx.cell? ⟨w10.heap.size, 0, none⟩ = some (.int .i64 Xn1) ∧ wx.cell? ⟨w10.heap.size, 1, none⟩ = some (.int .i64 Xd1)) ∧ wx.cell? ⟨w11.heap.size, 0, none⟩ = some (.int .i64 Xn2) ∧ wx.cell? ⟨w11.heap.size, 1, none⟩ = some (.int .i64 Xd2))
        case first => as_aux_lemma =>
          cases v
          · go_wp2_with fail
            go_meet
            exact ⟨hB2, ⟨hlW2T, hlW2X, hlW2Y⟩, ⟨hxW2T0, hxW2T1, hxW2T2, hxW2T3, hxW2T4, hxW2T5⟩, ⟨fX0, fX1⟩, ⟨fY0, fY1⟩, ⟨hxW2X0, hxW2X1⟩, hxW2Y0, hxW2Y1⟩
          · have hc := A1.out (hv.out rfl).1 (hv.out rfl).2
            have hc1 := Lib.hid hc.1
            have hc2 := Lib.hid hc.2
            clear hc A1 A2 hv
            go_wp2_with fail
            refine (Compare_any Xn1 Xd1 Xn2 Xd2 _).mono ?_
            rintro x w12 ⟨rfl, hb12⟩
            rw [hc1.out, hc2.out]
            have hB12 : Below w.heap.size w w12 := hB2.trans (hb12.mono hB2.size)
            have hz12 := hb12.size
            go_wp2_with fail
            go_meet
            exact ⟨hB12, ⟨by omega, by omega, by omega⟩, ⟨(hb12.cell hlW2T).trans hxW2T0, (hb12.cell hlW2T).trans hxW2T1, (hb12.cell hlW2T).trans hxW2T2, (hb12.cell hlW2T).trans hxW2T3, (hb12.cell hlW2T).trans hxW2T4, (hb12.cell hlW2T).trans hxW2T5⟩, ⟨(hb12.frozen hlW2X).trans fX0, (hb12.frozen hlW2X).trans fX1⟩, ⟨(hb12.frozen hlW2Y).trans fY0, (hb12.frozen hlW2Y).trans fY1⟩, ⟨(hb12.cell hlW2X).trans hxW2X0, (hb12.cell hlW2X).trans hxW2X1⟩, (hb12.cell hlW2Y).trans hxW2Y0, (hb12.cell hlW2Y).trans hxW2Y1⟩
        case rest =>
          obtain ⟨hBe, ⟨hle, hlX, hlY⟩, ⟨u0, u1, u2, u3, u4, u5⟩, ⟨gX0, gX1⟩, ⟨gY0, gY1⟩, ⟨i0, i1⟩, i2, i3⟩ := hcut
          have hze := hBe.size
          clear hxW2X0 hxW2X1 hxW2Y0 hxW2Y1 hv hB2 hlW2T hlW2X hlW2Y fX0 fX1 fY0 fY1 hb10 hb11 hBd hld A1 z1 z2 hxW2T0 hxW2T1 hxW2T2 hxW2T3 hxW2T4 hxW2T5
          by_cases he : e ≤ 0
          · as_aux_lemma =>
            clear A2 z3 z4
            go_wp2_with fail
            refine (works_any _).mono ?_
            rintro x w13 ⟨rfl, hb13⟩
            have hB13 : Below w.heap.size w w13 := Below.trans (by (repeat' (first | (with_reducible exact Below.refl _ _) | (with_reducible assumption) | (with_reducible refine Below.alloc ?_ ?_ _) | (with_reducible refine below_drewN ?_ _) | (with_reducible refine Below.drew ?_) | (with_reducible refine Below.setCell ?_ ?_ _) | go_size))) (hb13.mono (by first | omega | (simp; done) | (simp; omega))); have hz13 := hb13.size; try simp at hz13
            go_wp2_with fail
            go_returns
            exact ⟨rfl, hB13⟩
          · as_aux_lemma =>
            have A3 := Lib.hid (A2.out (by omega))
            clear A2
            go_wp2_with fail
            refine (z3.out _).mono ?_
            rintro x w13 ⟨rfl, hb13⟩
            have hB13 : Below w.heap.size w w13 := Below.trans (by (repeat' (first | (with_reducible exact Below.refl _ _) | (with_reducible assumption) | (with_reducible refine Below.alloc ?_ ?_ _) | (with_reducible refine below_drewN ?_ _) | (with_reducible refine Below.drew ?_) | (with_reducible refine Below.setCell ?_ ?_ _) | go_size))) (hb13.mono (by first | omega | (simp; done) | (simp; omega))); have hz13 := hb13.size; try simp at hz13
            have hl13T : w.heap.size < w13.heap.size := (by omega); have hx13T0 : w13.cell? ⟨w.heap.size, 0, none⟩ = some (.int .i64 (a)) := (by rw [(hb13.cell (by first | omega | (simp; done) | (simp; omega)))]; (repeat (rw [World.cell?_alloc_lt _ _ _ (by first | omega | (simp; done) | (simp; omega))])); go_cell); have hx13T1 : w13.cell? ⟨w.heap.size, 1, none⟩ = some (.int .i64 (b)) := (by rw [(hb13.cell (by first | omega | (simp; done) | (simp; omega)))]; (repeat (rw [World.cell?_alloc_lt _ _ _ (by first | omega | (simp; done) | (simp; omega))])); go_cell); have hx13T2 : w13.cell? ⟨w.heap.size, 2, none⟩ = some (.int .i64 (c)) := (by rw [(hb13.cell (by first | omega | (simp; done) | (simp; omega)))]; (repeat (rw [World.cell?_alloc_lt _ _ _ (by first | omega | (simp; done) | (simp; omega))])); go_cell); have hx13T3 : w13.cell? ⟨w.heap.size, 3, none⟩ = some (.int .i64 (d)) := (by rw [(hb13.cell (by first | omega | (simp; done) | (simp; omega)))]; (repeat (rw [World.cell?_alloc_lt _ _ _ (by first | omega | (simp; done) | (simp; omega))])); go_cell); have hx13T4 : w13.cell? ⟨w.heap.size, 4, none⟩ = some (.int .i64 (e)) := (by rw [(hb13.cell (by first | omega | (simp; done) | (simp; omega)))]; (repeat (rw [World.cell?_alloc_lt _ _ _ (by first | omega | (simp; done) | (simp; omega))])); go_cell); have hx13T5 : w13.cell? ⟨w.heap.size, 5, none⟩ = some (.int .i64 (f)) := (by rw [(hb13.cell (by first | omega | (simp; done) | (simp; omega)))]; (repeat (rw [World.cell?_alloc_lt _ _ _ (by first | omega | (simp; done) | (simp; omega))])); go_cell)
            have hl13X : w10.heap.size < w13.heap.size := (by omega); have hx13X0 : w13.cell? ⟨w10.heap.size, 0, none⟩ = some (.int .i64 (Xn1)) := (by rw [(hb13.cell (by first | omega | (simp; done) | (simp; omega)))]; (repeat (rw [World.cell?_alloc_lt _ _ _ (by first | omega | (simp; done) | (simp; omega))])); go_cell); have hx13X1 : w13.cell? ⟨w10.heap.size, 1, none⟩ = some (.int .i64 (Xd1)) := (by rw [(hb13.cell (by first | omega | (simp; done) | (simp; omega)))]; (repeat (rw [World.cell?_alloc_lt _ _ _ (by first | omega | (simp; done) | (simp; omega))])); go_cell)
            have hl13Y : w11.heap.size < w13.heap.size := (by omega); have hx13Y0 : w13.cell? ⟨w11.heap.size, 0, none⟩ = some (.int .i64 (Xn2)) := (by rw [(hb13.cell (by first | omega | (simp; done) | (simp; omega)))]; (repeat (rw [World.cell?_alloc_lt _ _ _ (by first | omega | (simp; done) | (simp; omega))])); go_cell); have hx13Y1 : w13.cell? ⟨w11.heap.size, 1, none⟩ = some (.int .i64 (Xd2)) := (by rw [(hb13.cell (by first | omega | (simp; done) | (simp; omega)))]; (repeat (rw [World.cell?_alloc_lt _ _ _ (by first | omega | (simp; done) | (simp; omega))])); go_cell)
            have hp13X0 : w13.frozen? ⟨w10.heap.size, 0, none⟩ = false := (by rw [(hb13.frozen (by first | omega | (simp; done) | (simp; omega)))]; first | (with_reducible assumption) | (go_simp; done) | (simp [*]; done)); have hp13X1 : w13.frozen? ⟨w10.heap.size, 1, none⟩ = false := (by rw [(hb13.frozen (by first | omega | (simp; done) | (simp; omega)))]; first | (with_reducible assumption) | (go_simp; done) | (simp [*]; done))
            have hp13Y0 : w13.frozen? ⟨w11.heap.size, 0, none⟩ = false := (by rw [(hb13.frozen (by first | omega | (simp; done) | (simp; omega)))]; first | (with_reducible assumption) | (go_simp; done) | (simp [*]; done)); have hp13Y1 : w13.frozen? ⟨w11.heap.size, 1, none⟩ = false := (by rw [(hb13.frozen (by first | omega | (simp; done) | (simp; omega)))]; first | (with_reducible assumption) | (go_simp; done) | (simp [*]; done))
            go_wp2_with fail
            refine (z4.out _).mono ?_
            rintro x w14 ⟨rfl, hb14⟩
            have hB14 : Below w.heap.size w w14 := Below.trans (by (repeat' (first | (with_reducible exact Below.refl _ _) | (with_reducible assumption) | (with_reducible refine Below.alloc ?_ ?_ _) | (with_reducible refine below_drewN ?_ _) | (with_reducible refine Below.drew ?_) | (with_reducible refine Below.setCell ?_ ?_ _) | go_size))) (hb14.mono (by first | omega | (simp; done) | (simp; omega))); have hz14 := hb14.size; try simp at hz14
            have hl14T : w.heap.size < w14.heap.size := (by omega); have hx14T0 : w14.cell? ⟨w.heap.size, 0, none⟩ = some (.int .i64 (a)) := (by rw [(hb14.cell (by first | omega | (simp; done) | (simp; omega)))]; (repeat (rw [World.cell?_alloc_lt _ _ _ (by first | omega | (simp; done) | (simp; omega))])); go_cell); have hx14T1 : w14.cell? ⟨w.heap.size, 1, none⟩ = some (.int .i64 (b)) := (by rw [(hb14.cell (by first | omega | (simp; done) | (simp; omega)))]; (repeat (rw [World.cell?_alloc_lt _ _ _ (by first | omega | (simp; done) | (simp; omega))])); go_cell); have hx14T2 : w14.cell? ⟨w.heap.size, 2, none⟩ = some (.int .i64 (c)) := (by rw [(hb14.cell (by first | omega | (simp; done) | (simp; omega)))]; (repeat (rw [World.cell?_alloc_lt _ _ _ (by first | omega | (simp; done) | (simp; omega))])); go_cell); have hx14T3 : w14.cell? ⟨w.heap.size, 3, none⟩ = some (.int .i64 (d)) := (by rw [(hb14.cell (by first | omega | (simp; done) | (simp; omega)))]; (repeat (rw [World.cell?_alloc_lt _ _ _ (by first | omega | (simp; done) | (simp; omega))])); go_cell); have hx14T4 : w14.cell? ⟨w.heap.size, 4, none⟩ = some (.int .i64 (e)) := (by rw [(hb14.cell (by first | omega | (simp; done) | (simp; omega)))]; (repeat (rw [World.cell?_alloc_lt _ _ _ (by first | omega | (simp; done) | (simp; omega))])); go_cell); have hx14T5 : w14.cell? ⟨w.heap.size, 5, none⟩ = some (.int .i64 (f)) := (by rw [(hb14.cell (by first | omega | (simp; done) | (simp; omega)))]; (repeat (rw [World.cell?_alloc_lt _ _ _ (by first | omega | (simp; done) | (simp; omega))])); go_cell)
            have hl14X : w10.heap.size < w14.heap.size := (by omega); have hx14X0 : w14.cell? ⟨w10.heap.size, 0, none⟩ = some (.int .i64 (Zn1)) := (by rw [(hb14.cell (by first | omega | (simp; done) | (simp; omega)))]; (repeat (rw [World.cell?_alloc_lt _ _ _ (by first | omega | (simp; done) | (simp; omega))])); go_cell); have hx14X1 : w14.cell? ⟨w10.heap.size, 1, none⟩ = some (.int .i64 (Zd1)) := (by rw [(hb14.cell (by first | omega | (simp; done) | (simp; omega)))]; (repeat (rw [World.cell?_alloc_lt _ _ _ (by first | omega | (simp; done) | (simp; omega))])); go_cell)
            have hl14Y : w11.heap.size < w14.heap.size := (by omega); have hx14Y0 : w14.cell? ⟨w11.heap.size, 0, none⟩ = some (.int .i64 (Xn2)) := (by rw [(hb14.cell (by first | omega | (simp; done) | (simp; omega)))]; (repeat (rw [World.cell?_alloc_lt _ _ _ (by first | omega | (simp; done) | (simp; omega))])); go_cell); have hx14Y1 : w14.cell? ⟨w11.heap.size, 1, none⟩ = some (.int .i64 (Xd2)) := (by rw [(hb14.cell (by first | omega | (simp; done) | (simp; omega)))]; (repeat (rw [World.cell?_alloc_lt _ _ _ (by first | omega | (simp; done) | (simp; omega))])); go_cell)
            have hp14Y0 : w14.frozen? ⟨w11.heap.size, 0, none⟩ = false := (by rw [(hb14.frozen (by first | omega | (simp; done) | (simp; omega)))]; first | (with_reducible assumption) | (go_simp; done) | (simp [*]; done)); have hp14Y1 : w14.frozen? ⟨w11.heap.size, 1, none⟩ = false := (by rw [(hb14.frozen (by first | omega | (simp; done) | (simp; omega)))]; first | (with_reducible assumption) | (go_simp; done) | (simp [*]; done))
            by_cases g1 : Ze1 = 0
            · subst g1
              by_cases g2 : Ze2 = 0
              · subst g2
                have hc := A3.out rfl rfl
                have hc1 := Lib.hid hc.1
                have hc2 := Lib.hid hc.2
                clear hc A3
                go_wp2_with fail
                refine (Compare_any Zn1 Zd1 Zn2 Zd2 _).mono ?_
                rintro x w15 ⟨rfl, hb15⟩
                have hB15 : Below w.heap.size w w15 := Below.trans (by (repeat' (first | (with_reducible exact Below.refl _ _) | (with_reducible assumption) | (with_reducible refine Below.alloc ?_ ?_ _) | (with_reducible refine below_drewN ?_ _) | (with_reducible refine Below.drew ?_) | (with_reducible refine Below.setCell ?_ ?_ _) | go_size))) (hb15.mono (by first | omega | (simp; done) | (simp; omega))); have hz15 := hb15.size; try simp at hz15
                rw [hc1.out, hc2.out]
                go_wp2_with fail
                refine (works_any _).mono ?_
                rintro x w16 ⟨rfl, hb16⟩
                have hB16 : Below w.heap.size w w16 := Below.trans (by (repeat' (first | (with_reducible exact Below.refl _ _) | (with_reducible assumption) | (with_reducible refine Below.alloc ?_ ?_ _) | (with_reducible refine below_drewN ?_ _) | (with_reducible refine Below.drew ?_) | (with_reducible refine Below.setCell ?_ ?_ _) | go_size))) (hb16.mono (by first | omega | (simp; done) | (simp; omega))); have hz16 := hb16.size; try simp at hz16
                go_wp2_with fail
                go_returns
                exact ⟨rfl, hB16⟩
              · have g3 : (Ze2 == 0) = false := by simpa using g2
                clear g2 A3
                go_wp2_with fail
                refine (works_any _).mono ?_
                rintro x w15 ⟨rfl, hb15⟩
                have hB15 : Below w.heap.size w w15 := Below.trans (by (repeat' (first | (with_reducible exact Below.refl _ _) | (with_reducible assumption) | (with_reducible refine Below.alloc ?_ ?_ _) | (with_reducible refine below_drewN ?_ _) | (with_reducible refine Below.drew ?_) | (with_reducible refine Below.setCell ?_ ?_ _) | go_size))) (hb15.mono (by first | omega | (simp; done) | (simp; omega))); have hz15 := hb15.size; try simp at hz15
                go_wp2_with fail
                go_returns
                exact ⟨rfl, hB15⟩
            · have g3 : (Ze1 == 0) = false := by simpa using g1
              clear g1 A3
              go_wp2_with fail
              refine (works_any _).mono ?_
              rintro x w15 ⟨rfl, hb15⟩
              have hB15 : Below w.heap.size w w15 := Below.trans (by (repeat' (first | (with_reducible exact Below.refl _ _) | (with_reducible assumption) | (with_reducible refine Below.alloc ?_ ?_ _) | (with_reducible refine below_drewN ?_ _) | (with_reducible refine Below.drew ?_) | (with_reducible refine Below.setCell ?_ ?_ _) | go_size))) (hb15.mono (by first | omega | (simp; done) | (simp; omega))); have hz15 := hb15.size; try simp at hz15
              go_wp2_with fail
              go_returns
              exact ⟨rfl, hB15⟩
end Go.Proofs.Ytfjcmmdfipppoaa
