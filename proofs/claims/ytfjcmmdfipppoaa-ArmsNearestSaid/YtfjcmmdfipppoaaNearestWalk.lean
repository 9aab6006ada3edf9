/- Best of package arms is reduced, with a Den that is at most the number, and no other ratio with such a Den is nearer; with a greater number it is not farther; it is the ratio itself if its reduced Den is at most the number; that of the ratio with the other sign is as near. No condition: whatever the arguments are. -/
import Derived.Test.YtfjcmmdfipppoaaArmsW
import Derived.Test.YtfjcmmdfipppoaaArmsS
import Derived.Test.YtfjcmmdfipppoaaArmsT
import Derived.Deep.DeepCutAuto
namespace Go.Proofs.Ytfjcmmdfipppoaa
open Go.RowKit
set_option maxRecDepth 100000 in
set_option maxHeartbeats 16000000 in
theorem lawNearest_valid (n d M K a b : Int) (w : World) (hok : Arm.ok n d) (h1 : 1 ≤ M) (h2 : M ≤ 1000) (h3 : 0 ≤ K) (h4 : K ≤ 1000) :
    Calls Try.prog 9 #[.agg #[.int .i64 n, .int .i64 d], .agg #[.int .i64 M, .int .i64 K], .agg #[.int .i64 a, .int .i64 b]] w fun x w' => x = .returned (.bool true) ∧ Below w.heap.size w w' := by
  have HO := Lib.hid (Arm.okB_true.2 hok)
  have OR := Lib.hid hok
  have ON : Hid (Arm.ok (-n) d) := by unfold Arm.ok at *; exact ⟨hok.1, by omega⟩
  have n1 := hok.2.1
  have n2 := hok.2.2
  have d1 := hok.1.1
  have d2 := hok.1.2
  clear hok
  go_enter Try.func9, Try.ntmps9
  go_wp2_with fail
  refine (IsRatio_any n d _).mono ?_
  rintro x w1 ⟨rfl, hb1⟩
  have hB1 : Below w.heap.size w w1 := Below.trans (by (repeat' (first | (with_reducible exact Below.refl _ _) | (with_reducible assumption) | (with_reducible refine Below.alloc ?_ ?_ _) | (with_reducible refine below_drewN ?_ _) | (with_reducible refine Below.drew ?_) | (with_reducible refine Below.setCell ?_ ?_ _) | go_size))) (hb1.mono (by first | omega | (simp; done) | (simp; omega))); have hz1 := hb1.size; try simp at hz1
  have hl1R : w.heap.size < w1.heap.size := (by omega); have hx1R0 : w1.cell? ⟨w.heap.size, 0, none⟩ = some (.int .i64 (n)) := (by rw [(hb1.cell (by first | omega | (simp; done) | (simp; omega)))]; (repeat (rw [World.cell?_alloc_lt _ _ _ (by first | omega | (simp; done) | (simp; omega))])); go_cell); have hx1R1 : w1.cell? ⟨w.heap.size, 1, none⟩ = some (.int .i64 (d)) := (by rw [(hb1.cell (by first | omega | (simp; done) | (simp; omega)))]; (repeat (rw [World.cell?_alloc_lt _ _ _ (by first | omega | (simp; done) | (simp; omega))])); go_cell)
  have hl1M : w.heap.size + 1 < w1.heap.size := (by omega); have hx1M0 : w1.cell? ⟨w.heap.size + 1, 0, none⟩ = some (.int .i64 (M)) := (by rw [(hb1.cell (by first | omega | (simp; done) | (simp; omega)))]; (repeat (rw [World.cell?_alloc_lt _ _ _ (by first | omega | (simp; done) | (simp; omega))])); go_cell); have hx1M1 : w1.cell? ⟨w.heap.size + 1, 1, none⟩ = some (.int .i64 (K)) := (by rw [(hb1.cell (by first | omega | (simp; done) | (simp; omega)))]; (repeat (rw [World.cell?_alloc_lt _ _ _ (by first | omega | (simp; done) | (simp; omega))])); go_cell)
  have hl1O : w.heap.size + 1 + 1 < w1.heap.size := (by omega); have hx1O0 : w1.cell? ⟨w.heap.size + 1 + 1, 0, none⟩ = some (.int .i64 (a)) := (by rw [(hb1.cell (by first | omega | (simp; done) | (simp; omega)))]; (repeat (rw [World.cell?_alloc_lt _ _ _ (by first | omega | (simp; done) | (simp; omega))])); go_cell); have hx1O1 : w1.cell? ⟨w.heap.size + 1 + 1, 1, none⟩ = some (.int .i64 (b)) := (by rw [(hb1.cell (by first | omega | (simp; done) | (simp; omega)))]; (repeat (rw [World.cell?_alloc_lt _ _ _ (by first | omega | (simp; done) | (simp; omega))])); go_cell)
  rw [HO.out]
  go_wp2_with fail
  refine (Best_some n d M _ OR.out (by omega) (by omega)).mono ?_
  rintro x w2 ⟨p1, q1, rfl, hI2, hb2⟩
  have hB2 : Below w.heap.size w w2 := Below.trans (by (repeat' (first | (with_reducible exact Below.refl _ _) | (with_reducible assumption) | (with_reducible refine Below.alloc ?_ ?_ _) | (with_reducible refine below_drewN ?_ _) | (with_reducible refine Below.drew ?_) | (with_reducible refine Below.setCell ?_ ?_ _) | go_size))) (hb2.mono (by first | omega | (simp; done) | (simp; omega))); have hz2 := hb2.size; try simp at hz2
  have hl2R : w.heap.size < w2.heap.size := (by omega); have hx2R0 : w2.cell? ⟨w.heap.size, 0, none⟩ = some (.int .i64 (n)) := (by rw [(hb2.cell (by first | omega | (simp; done) | (simp; omega)))]; (repeat (rw [World.cell?_alloc_lt _ _ _ (by first | omega | (simp; done) | (simp; omega))])); go_cell); have hx2R1 : w2.cell? ⟨w.heap.size, 1, none⟩ = some (.int .i64 (d)) := (by rw [(hb2.cell (by first | omega | (simp; done) | (simp; omega)))]; (repeat (rw [World.cell?_alloc_lt _ _ _ (by first | omega | (simp; done) | (simp; omega))])); go_cell)
  have hl2M : w.heap.size + 1 < w2.heap.size := (by omega); have hx2M0 : w2.cell? ⟨w.heap.size + 1, 0, none⟩ = some (.int .i64 (M)) := (by rw [(hb2.cell (by first | omega | (simp; done) | (simp; omega)))]; (repeat (rw [World.cell?_alloc_lt _ _ _ (by first | omega | (simp; done) | (simp; omega))])); go_cell); have hx2M1 : w2.cell? ⟨w.heap.size + 1, 1, none⟩ = some (.int .i64 (K)) := (by rw [(hb2.cell (by first | omega | (simp; done) | (simp; omega)))]; (repeat (rw [World.cell?_alloc_lt _ _ _ (by first | omega | (simp; done) | (simp; omega))])); go_cell)
  have hl2O : w.heap.size + 1 + 1 < w2.heap.size := (by omega); have hx2O0 : w2.cell? ⟨w.heap.size + 1 + 1, 0, none⟩ = some (.int .i64 (a)) := (by rw [(hb2.cell (by first | omega | (simp; done) | (simp; omega)))]; (repeat (rw [World.cell?_alloc_lt _ _ _ (by first | omega | (simp; done) | (simp; omega))])); go_cell); have hx2O1 : w2.cell? ⟨w.heap.size + 1 + 1, 1, none⟩ = some (.int .i64 (b)) := (by rw [(hb2.cell (by first | omega | (simp; done) | (simp; omega)))]; (repeat (rw [World.cell?_alloc_lt _ _ _ (by first | omega | (simp; done) | (simp; omega))])); go_cell)
  have HI2 := Lib.hid hI2
  have qa2 := hI2.q1
  have qb2 := hI2.qM
  have HOK2 := Lib.hid (hI2.ok OR.out (by omega))
  have pa2 := HOK2.out.2.1
  have pb2 := HOK2.out.2.2
  have y2 : Hid (∀ W, Calls Try.prog 40 #[.agg #[.int .i64 p1, .int .i64 q1]] W fun e w' => e = .returned (.bool true) ∧ Below W.heap.size W w') := fun W => lawReduced_yes _ _ W (Arm.okB_true.2 HOK2.out) hI2.red.1 hI2.red.2
  clear hI2
  go_wp2_with fail
  refine (Best_some n d (M + K) _ OR.out (by omega) (by omega)).mono ?_
  rintro x w3 ⟨p2, q2, rfl, hI3, hb3⟩
  have hB3 : Below w.heap.size w w3 := Below.trans (by (repeat' (first | (with_reducible exact Below.refl _ _) | (with_reducible assumption) | (with_reducible refine Below.alloc ?_ ?_ _) | (with_reducible refine below_drewN ?_ _) | (with_reducible refine Below.drew ?_) | (with_reducible refine Below.setCell ?_ ?_ _) | go_size))) (hb3.mono (by first | omega | (simp; done) | (simp; omega))); have hz3 := hb3.size; try simp at hz3
  have hl3R : w.heap.size < w3.heap.size := (by omega); have hx3R0 : w3.cell? ⟨w.heap.size, 0, none⟩ = some (.int .i64 (n)) := (by rw [(hb3.cell (by first | omega | (simp; done) | (simp; omega)))]; (repeat (rw [World.cell?_alloc_lt _ _ _ (by first | omega | (simp; done) | (simp; omega))])); go_cell); have hx3R1 : w3.cell? ⟨w.heap.size, 1, none⟩ = some (.int .i64 (d)) := (by rw [(hb3.cell (by first | omega | (simp; done) | (simp; omega)))]; (repeat (rw [World.cell?_alloc_lt _ _ _ (by first | omega | (simp; done) | (simp; omega))])); go_cell)
  have hl3M : w.heap.size + 1 < w3.heap.size := (by omega); have hx3M0 : w3.cell? ⟨w.heap.size + 1, 0, none⟩ = some (.int .i64 (M)) := (by rw [(hb3.cell (by first | omega | (simp; done) | (simp; omega)))]; (repeat (rw [World.cell?_alloc_lt _ _ _ (by first | omega | (simp; done) | (simp; omega))])); go_cell); have hx3M1 : w3.cell? ⟨w.heap.size + 1, 1, none⟩ = some (.int .i64 (K)) := (by rw [(hb3.cell (by first | omega | (simp; done) | (simp; omega)))]; (repeat (rw [World.cell?_alloc_lt _ _ _ (by first | omega | (simp; done) | (simp; omega))])); go_cell)
  have hl3O : w.heap.size + 1 + 1 < w3.heap.size := (by omega); have hx3O0 : w3.cell? ⟨w.heap.size + 1 + 1, 0, none⟩ = some (.int .i64 (a)) := (by rw [(hb3.cell (by first | omega | (simp; done) | (simp; omega)))]; (repeat (rw [World.cell?_alloc_lt _ _ _ (by first | omega | (simp; done) | (simp; omega))])); go_cell); have hx3O1 : w3.cell? ⟨w.heap.size + 1 + 1, 1, none⟩ = some (.int .i64 (b)) := (by rw [(hb3.cell (by first | omega | (simp; done) | (simp; omega)))]; (repeat (rw [World.cell?_alloc_lt _ _ _ (by first | omega | (simp; done) | (simp; omega))])); go_cell)
  have hl3A : w2.heap.size < w3.heap.size := (by omega); have hx3A0 : w3.cell? ⟨w2.heap.size, 0, none⟩ = some (.int .i64 (p1)) := (by rw [(hb3.cell (by first | omega | (simp; done) | (simp; omega)))]; (repeat (rw [World.cell?_alloc_lt _ _ _ (by first | omega | (simp; done) | (simp; omega))])); go_cell); have hx3A1 : w3.cell? ⟨w2.heap.size, 1, none⟩ = some (.int .i64 (q1)) := (by rw [(hb3.cell (by first | omega | (simp; done) | (simp; omega)))]; (repeat (rw [World.cell?_alloc_lt _ _ _ (by first | omega | (simp; done) | (simp; omega))])); go_cell)
  have HI3 := Lib.hid hI3
  have qa3 := hI3.q1
  have qb3 := hI3.qM
  have HOK3 := Lib.hid (hI3.ok OR.out (by omega))
  have pa3 := HOK3.out.2.1
  have pb3 := HOK3.out.2.2
  have y3 : Hid (∀ W, Calls Try.prog 40 #[.agg #[.int .i64 p2, .int .i64 q2]] W fun e w' => e = .returned (.bool true) ∧ Below W.heap.size W w') := fun W => lawReduced_yes _ _ W (Arm.okB_true.2 HOK3.out) hI3.red.1 hI3.red.2
  clear hI3
  go_wp2_with fail
  refine (Best_some (-n) d M _ ON.out (by omega) (by omega)).mono ?_
  rintro x w4 ⟨p3, q3, rfl, hI4, hb4⟩
  have hB4 : Below w.heap.size w w4 := Below.trans (by (repeat' (first | (with_reducible exact Below.refl _ _) | (with_reducible assumption) | (with_reducible refine Below.alloc ?_ ?_ _) | (with_reducible refine below_drewN ?_ _) | (with_reducible refine Below.drew ?_) | (with_reducible refine Below.setCell ?_ ?_ _) | go_size))) (hb4.mono (by first | omega | (simp; done) | (simp; omega))); have hz4 := hb4.size; try simp at hz4
  have hl4R : w.heap.size < w4.heap.size := (by omega); have hx4R0 : w4.cell? ⟨w.heap.size, 0, none⟩ = some (.int .i64 (n)) := (by rw [(hb4.cell (by first | omega | (simp; done) | (simp; omega)))]; (repeat (rw [World.cell?_alloc_lt _ _ _ (by first | omega | (simp; done) | (simp; omega))])); go_cell); have hx4R1 : w4.cell? ⟨w.heap.size, 1, none⟩ = some (.int .i64 (d)) := (by rw [(hb4.cell (by first | omega | (simp; done) | (simp; omega)))]; (repeat (rw [World.cell?_alloc_lt _ _ _ (by first | omega | (simp; done) | (simp; omega))])); go_cell)
  have hl4M : w.heap.size + 1 < w4.heap.size := (by omega); have hx4M0 : w4.cell? ⟨w.heap.size + 1, 0, none⟩ = some (.int .i64 (M)) := (by rw [(hb4.cell (by first | omega | (simp; done) | (simp; omega)))]; (repeat (rw [World.cell?_alloc_lt _ _ _ (by first | omega | (simp; done) | (simp; omega))])); go_cell); have hx4M1 : w4.cell? ⟨w.heap.size + 1, 1, none⟩ = some (.int .i64 (K)) := (by rw [(hb4.cell (by first | omega | (simp; done) | (simp; omega)))]; (repeat (rw [World.cell?_alloc_lt _ _ _ (by first | omega | (simp; done) | (simp; omega))])); go_cell)
  have hl4O : w.heap.size + 1 + 1 < w4.heap.size := (by omega); have hx4O0 : w4.cell? ⟨w.heap.size + 1 + 1, 0, none⟩ = some (.int .i64 (a)) := (by rw [(hb4.cell (by first | omega | (simp; done) | (simp; omega)))]; (repeat (rw [World.cell?_alloc_lt _ _ _ (by first | omega | (simp; done) | (simp; omega))])); go_cell); have hx4O1 : w4.cell? ⟨w.heap.size + 1 + 1, 1, none⟩ = some (.int .i64 (b)) := (by rw [(hb4.cell (by first | omega | (simp; done) | (simp; omega)))]; (repeat (rw [World.cell?_alloc_lt _ _ _ (by first | omega | (simp; done) | (simp; omega))])); go_cell)
  have hl4A : w2.heap.size < w4.heap.size := (by omega); have hx4A0 : w4.cell? ⟨w2.heap.size, 0, none⟩ = some (.int .i64 (p1)) := (by rw [(hb4.cell (by first | omega | (simp; done) | (simp; omega)))]; (repeat (rw [World.cell?_alloc_lt _ _ _ (by first | omega | (simp; done) | (simp; omega))])); go_cell); have hx4A1 : w4.cell? ⟨w2.heap.size, 1, none⟩ = some (.int .i64 (q1)) := (by rw [(hb4.cell (by first | omega | (simp; done) | (simp; omega)))]; (repeat (rw [World.cell?_alloc_lt _ _ _ (by first | omega | (simp; done) | (simp; omega))])); go_cell)
  have hl4B : w3.heap.size < w4.heap.size := (by omega); have hx4B0 : w4.cell? ⟨w3.heap.size, 0, none⟩ = some (.int .i64 (p2)) := (by rw [(hb4.cell (by first | omega | (simp; done) | (simp; omega)))]; (repeat (rw [World.cell?_alloc_lt _ _ _ (by first | omega | (simp; done) | (simp; omega))])); go_cell); have hx4B1 : w4.cell? ⟨w3.heap.size, 1, none⟩ = some (.int .i64 (q2)) := (by rw [(hb4.cell (by first | omega | (simp; done) | (simp; omega)))]; (repeat (rw [World.cell?_alloc_lt _ _ _ (by first | omega | (simp; done) | (simp; omega))])); go_cell)
  have HI4 := Lib.hid hI4
  have qa4 := hI4.q1
  have qb4 := hI4.qM
  have HOK4 := Lib.hid (hI4.ok ON.out (by omega))
  have pa4 := HOK4.out.2.1
  have pb4 := HOK4.out.2.2
  have y4 : Hid (∀ W, Calls Try.prog 40 #[.agg #[.int .i64 p3, .int .i64 q3]] W fun e w' => e = .returned (.bool true) ∧ Below W.heap.size W w') := fun W => lawReduced_yes _ _ W (Arm.okB_true.2 HOK4.out) hI4.red.1 hI4.red.2
  clear hI4
  go_wp2_with fail
  refine (y2.out _).mono ?_
  rintro x w5 ⟨rfl, hb5⟩
  have hB5 : Below w.heap.size w w5 := Below.trans (by (repeat' (first | (with_reducible exact Below.refl _ _) | (with_reducible assumption) | (with_reducible refine Below.alloc ?_ ?_ _) | (with_reducible refine below_drewN ?_ _) | (with_reducible refine Below.drew ?_) | (with_reducible refine Below.setCell ?_ ?_ _) | go_size))) (hb5.mono (by first | omega | (simp; done) | (simp; omega))); have hz5 := hb5.size; try simp at hz5
  have hl5R : w.heap.size < w5.heap.size := (by omega); have hx5R0 : w5.cell? ⟨w.heap.size, 0, none⟩ = some (.int .i64 (n)) := (by rw [(hb5.cell (by first | omega | (simp; done) | (simp; omega)))]; (repeat (rw [World.cell?_alloc_lt _ _ _ (by first | omega | (simp; done) | (simp; omega))])); go_cell); have hx5R1 : w5.cell? ⟨w.heap.size, 1, none⟩ = some (.int .i64 (d)) := (by rw [(hb5.cell (by first | omega | (simp; done) | (simp; omega)))]; (repeat (rw [World.cell?_alloc_lt _ _ _ (by first | omega | (simp; done) | (simp; omega))])); go_cell)
  have hl5M : w.heap.size + 1 < w5.heap.size := (by omega); have hx5M0 : w5.cell? ⟨w.heap.size + 1, 0, none⟩ = some (.int .i64 (M)) := (by rw [(hb5.cell (by first | omega | (simp; done) | (simp; omega)))]; (repeat (rw [World.cell?_alloc_lt _ _ _ (by first | omega | (simp; done) | (simp; omega))])); go_cell); have hx5M1 : w5.cell? ⟨w.heap.size + 1, 1, none⟩ = some (.int .i64 (K)) := (by rw [(hb5.cell (by first | omega | (simp; done) | (simp; omega)))]; (repeat (rw [World.cell?_alloc_lt _ _ _ (by first | omega | (simp; done) | (simp; omega))])); go_cell)
  have hl5O : w.heap.size + 1 + 1 < w5.heap.size := (by omega); have hx5O0 : w5.cell? ⟨w.heap.size + 1 + 1, 0, none⟩ = some (.int .i64 (a)) := (by rw [(hb5.cell (by first | omega | (simp; done) | (simp; omega)))]; (repeat (rw [World.cell?_alloc_lt _ _ _ (by first | omega | (simp; done) | (simp; omega))])); go_cell); have hx5O1 : w5.cell? ⟨w.heap.size + 1 + 1, 1, none⟩ = some (.int .i64 (b)) := (by rw [(hb5.cell (by first | omega | (simp; done) | (simp; omega)))]; (repeat (rw [World.cell?_alloc_lt _ _ _ (by first | omega | (simp; done) | (simp; omega))])); go_cell)
  have hl5A : w2.heap.size < w5.heap.size := (by omega); have hx5A0 : w5.cell? ⟨w2.heap.size, 0, none⟩ = some (.int .i64 (p1)) := (by rw [(hb5.cell (by first | omega | (simp; done) | (simp; omega)))]; (repeat (rw [World.cell?_alloc_lt _ _ _ (by first | omega | (simp; done) | (simp; omega))])); go_cell); have hx5A1 : w5.cell? ⟨w2.heap.size, 1, none⟩ = some (.int .i64 (q1)) := (by rw [(hb5.cell (by first | omega | (simp; done) | (simp; omega)))]; (repeat (rw [World.cell?_alloc_lt _ _ _ (by first | omega | (simp; done) | (simp; omega))])); go_cell)
  have hl5B : w3.heap.size < w5.heap.size := (by omega); have hx5B0 : w5.cell? ⟨w3.heap.size, 0, none⟩ = some (.int .i64 (p2)) := (by rw [(hb5.cell (by first | omega | (simp; done) | (simp; omega)))]; (repeat (rw [World.cell?_alloc_lt _ _ _ (by first | omega | (simp; done) | (simp; omega))])); go_cell); have hx5B1 : w5.cell? ⟨w3.heap.size, 1, none⟩ = some (.int .i64 (q2)) := (by rw [(hb5.cell (by first | omega | (simp; done) | (simp; omega)))]; (repeat (rw [World.cell?_alloc_lt _ _ _ (by first | omega | (simp; done) | (simp; omega))])); go_cell)
  have hl5C : w4.heap.size < w5.heap.size := (by omega); have hx5C0 : w5.cell? ⟨w4.heap.size, 0, none⟩ = some (.int .i64 (p3)) := (by rw [(hb5.cell (by first | omega | (simp; done) | (simp; omega)))]; (repeat (rw [World.cell?_alloc_lt _ _ _ (by first | omega | (simp; done) | (simp; omega))])); go_cell); have hx5C1 : w5.cell? ⟨w4.heap.size, 1, none⟩ = some (.int .i64 (q3)) := (by rw [(hb5.cell (by first | omega | (simp; done) | (simp; omega)))]; (repeat (rw [World.cell?_alloc_lt _ _ _ (by first | omega | (simp; done) | (simp; omega))])); go_cell)
  go_wp2_with fail
  refine (y3.out _).mono ?_
  rintro x w6 ⟨rfl, hb6⟩
  have hB6 : Below w.heap.size w w6 := Below.trans (by (repeat' (first | (with_reducible exact Below.refl _ _) | (with_reducible assumption) | (with_reducible refine Below.alloc ?_ ?_ _) | (with_reducible refine below_drewN ?_ _) | (with_reducible refine Below.drew ?_) | (with_reducible refine Below.setCell ?_ ?_ _) | go_size))) (hb6.mono (by first | omega | (simp; done) | (simp; omega))); have hz6 := hb6.size; try simp at hz6
  have hl6R : w.heap.size < w6.heap.size := (by omega); have hx6R0 : w6.cell? ⟨w.heap.size, 0, none⟩ = some (.int .i64 (n)) := (by rw [(hb6.cell (by first | omega | (simp; done) | (simp; omega)))]; (repeat (rw [World.cell?_alloc_lt _ _ _ (by first | omega | (simp; done) | (simp; omega))])); go_cell); have hx6R1 : w6.cell? ⟨w.heap.size, 1, none⟩ = some (.int .i64 (d)) := (by rw [(hb6.cell (by first | omega | (simp; done) | (simp; omega)))]; (repeat (rw [World.cell?_alloc_lt _ _ _ (by first | omega | (simp; done) | (simp; omega))])); go_cell)
  have hl6M : w.heap.size + 1 < w6.heap.size := (by omega); have hx6M0 : w6.cell? ⟨w.heap.size + 1, 0, none⟩ = some (.int .i64 (M)) := (by rw [(hb6.cell (by first | omega | (simp; done) | (simp; omega)))]; (repeat (rw [World.cell?_alloc_lt _ _ _ (by first | omega | (simp; done) | (simp; omega))])); go_cell); have hx6M1 : w6.cell? ⟨w.heap.size + 1, 1, none⟩ = some (.int .i64 (K)) := (by rw [(hb6.cell (by first | omega | (simp; done) | (simp; omega)))]; (repeat (rw [World.cell?_alloc_lt _ _ _ (by first | omega | (simp; done) | (simp; omega))])); go_cell)
  have hl6O : w.heap.size + 1 + 1 < w6.heap.size := (by omega); have hx6O0 : w6.cell? ⟨w.heap.size + 1 + 1, 0, none⟩ = some (.int .i64 (a)) := (by rw [(hb6.cell (by first | omega | (simp; done) | (simp; omega)))]; (repeat (rw [World.cell?_alloc_lt _ _ _ (by first | omega | (simp; done) | (simp; omega))])); go_cell); have hx6O1 : w6.cell? ⟨w.heap.size + 1 + 1, 1, none⟩ = some (.int .i64 (b)) := (by rw [(hb6.cell (by first | omega | (simp; done) | (simp; omega)))]; (repeat (rw [World.cell?_alloc_lt _ _ _ (by first | omega | (simp; done) | (simp; omega))])); go_cell)
  have hl6A : w2.heap.size < w6.heap.size := (by omega); have hx6A0 : w6.cell? ⟨w2.heap.size, 0, none⟩ = some (.int .i64 (p1)) := (by rw [(hb6.cell (by first | omega | (simp; done) | (simp; omega)))]; (repeat (rw [World.cell?_alloc_lt _ _ _ (by first | omega | (simp; done) | (simp; omega))])); go_cell); have hx6A1 : w6.cell? ⟨w2.heap.size, 1, none⟩ = some (.int .i64 (q1)) := (by rw [(hb6.cell (by first | omega | (simp; done) | (simp; omega)))]; (repeat (rw [World.cell?_alloc_lt _ _ _ (by first | omega | (simp; done) | (simp; omega))])); go_cell)
  have hl6B : w3.heap.size < w6.heap.size := (by omega); have hx6B0 : w6.cell? ⟨w3.heap.size, 0, none⟩ = some (.int .i64 (p2)) := (by rw [(hb6.cell (by first | omega | (simp; done) | (simp; omega)))]; (repeat (rw [World.cell?_alloc_lt _ _ _ (by first | omega | (simp; done) | (simp; omega))])); go_cell); have hx6B1 : w6.cell? ⟨w3.heap.size, 1, none⟩ = some (.int .i64 (q2)) := (by rw [(hb6.cell (by first | omega | (simp; done) | (simp; omega)))]; (repeat (rw [World.cell?_alloc_lt _ _ _ (by first | omega | (simp; done) | (simp; omega))])); go_cell)
  have hl6C : w4.heap.size < w6.heap.size := (by omega); have hx6C0 : w6.cell? ⟨w4.heap.size, 0, none⟩ = some (.int .i64 (p3)) := (by rw [(hb6.cell (by first | omega | (simp; done) | (simp; omega)))]; (repeat (rw [World.cell?_alloc_lt _ _ _ (by first | omega | (simp; done) | (simp; omega))])); go_cell); have hx6C1 : w6.cell? ⟨w4.heap.size, 1, none⟩ = some (.int .i64 (q3)) := (by rw [(hb6.cell (by first | omega | (simp; done) | (simp; omega)))]; (repeat (rw [World.cell?_alloc_lt _ _ _ (by first | omega | (simp; done) | (simp; omega))])); go_cell)
  go_wp2_with fail
  refine (y4.out _).mono ?_
  rintro x w7 ⟨rfl, hb7⟩
  have hB7 : Below w.heap.size w w7 := Below.trans (by (repeat' (first | (with_reducible exact Below.refl _ _) | (with_reducible assumption) | (with_reducible refine Below.alloc ?_ ?_ _) | (with_reducible refine below_drewN ?_ _) | (with_reducible refine Below.drew ?_) | (with_reducible refine Below.setCell ?_ ?_ _) | go_size))) (hb7.mono (by first | omega | (simp; done) | (simp; omega))); have hz7 := hb7.size; try simp at hz7
  have hl7R : w.heap.size < w7.heap.size := (by omega); have hx7R0 : w7.cell? ⟨w.heap.size, 0, none⟩ = some (.int .i64 (n)) := (by rw [(hb7.cell (by first | omega | (simp; done) | (simp; omega)))]; (repeat (rw [World.cell?_alloc_lt _ _ _ (by first | omega | (simp; done) | (simp; omega))])); go_cell); have hx7R1 : w7.cell? ⟨w.heap.size, 1, none⟩ = some (.int .i64 (d)) := (by rw [(hb7.cell (by first | omega | (simp; done) | (simp; omega)))]; (repeat (rw [World.cell?_alloc_lt _ _ _ (by first | omega | (simp; done) | (simp; omega))])); go_cell)
  have hl7M : w.heap.size + 1 < w7.heap.size := (by omega); have hx7M0 : w7.cell? ⟨w.heap.size + 1, 0, none⟩ = some (.int .i64 (M)) := (by rw [(hb7.cell (by first | omega | (simp; done) | (simp; omega)))]; (repeat (rw [World.cell?_alloc_lt _ _ _ (by first | omega | (simp; done) | (simp; omega))])); go_cell); have hx7M1 : w7.cell? ⟨w.heap.size + 1, 1, none⟩ = some (.int .i64 (K)) := (by rw [(hb7.cell (by first | omega | (simp; done) | (simp; omega)))]; (repeat (rw [World.cell?_alloc_lt _ _ _ (by first | omega | (simp; done) | (simp; omega))])); go_cell)
  have hl7O : w.heap.size + 1 + 1 < w7.heap.size := (by omega); have hx7O0 : w7.cell? ⟨w.heap.size + 1 + 1, 0, none⟩ = some (.int .i64 (a)) := (by rw [(hb7.cell (by first | omega | (simp; done) | (simp; omega)))]; (repeat (rw [World.cell?_alloc_lt _ _ _ (by first | omega | (simp; done) | (simp; omega))])); go_cell); have hx7O1 : w7.cell? ⟨w.heap.size + 1 + 1, 1, none⟩ = some (.int .i64 (b)) := (by rw [(hb7.cell (by first | omega | (simp; done) | (simp; omega)))]; (repeat (rw [World.cell?_alloc_lt _ _ _ (by first | omega | (simp; done) | (simp; omega))])); go_cell)
  have hl7A : w2.heap.size < w7.heap.size := (by omega); have hx7A0 : w7.cell? ⟨w2.heap.size, 0, none⟩ = some (.int .i64 (p1)) := (by rw [(hb7.cell (by first | omega | (simp; done) | (simp; omega)))]; (repeat (rw [World.cell?_alloc_lt _ _ _ (by first | omega | (simp; done) | (simp; omega))])); go_cell); have hx7A1 : w7.cell? ⟨w2.heap.size, 1, none⟩ = some (.int .i64 (q1)) := (by rw [(hb7.cell (by first | omega | (simp; done) | (simp; omega)))]; (repeat (rw [World.cell?_alloc_lt _ _ _ (by first | omega | (simp; done) | (simp; omega))])); go_cell)
  have hl7B : w3.heap.size < w7.heap.size := (by omega); have hx7B0 : w7.cell? ⟨w3.heap.size, 0, none⟩ = some (.int .i64 (p2)) := (by rw [(hb7.cell (by first | omega | (simp; done) | (simp; omega)))]; (repeat (rw [World.cell?_alloc_lt _ _ _ (by first | omega | (simp; done) | (simp; omega))])); go_cell); have hx7B1 : w7.cell? ⟨w3.heap.size, 1, none⟩ = some (.int .i64 (q2)) := (by rw [(hb7.cell (by first | omega | (simp; done) | (simp; omega)))]; (repeat (rw [World.cell?_alloc_lt _ _ _ (by first | omega | (simp; done) | (simp; omega))])); go_cell)
  have hl7C : w4.heap.size < w7.heap.size := (by omega); have hx7C0 : w7.cell? ⟨w4.heap.size, 0, none⟩ = some (.int .i64 (p3)) := (by rw [(hb7.cell (by first | omega | (simp; done) | (simp; omega)))]; (repeat (rw [World.cell?_alloc_lt _ _ _ (by first | omega | (simp; done) | (simp; omega))])); go_cell); have hx7C1 : w7.cell? ⟨w4.heap.size, 1, none⟩ = some (.int .i64 (q3)) := (by rw [(hb7.cell (by first | omega | (simp; done) | (simp; omega)))]; (repeat (rw [World.cell?_alloc_lt _ _ _ (by first | omega | (simp; done) | (simp; omega))])); go_cell)
  clear y2 y3 y4 hb2 hb3 hb4 hb5 hb6 hB2 hB3 hB4 hB5 hB6
  have HOKb : Hid (Arm.ok (-p3) q3) := by have := HOK4.out; unfold Arm.ok at *; exact ⟨this.1, by omega⟩
  have x1 := Lib.hid (Nearer_no HOK2.out HOK3.out OR.out (Best.near_no HI3.out (by omega) (by omega)))
  have x2 := Lib.hid (Nearer_no HOK2.out HOKb.out OR.out (Best.near_no_neg HI4.out (by omega) (by omega)))
  have x3 := Lib.hid (Nearer_no HOKb.out HOK2.out OR.out (Best.near_no HI2.out (by omega) (by omega)))
  have x4 : Hid (Arm.ok a b → b ≤ M → ∀ w, Calls Try.prog 42 #[.agg #[.int .i64 a, .int .i64 b], .agg #[.int .i64 p1, .int .i64 q1], .agg #[.int .i64 n, .int .i64 d]] w fun e w' => e = .returned (.bool false) ∧ Below w.heap.size w w') := fun h h' => Nearer_no h HOK2.out OR.out (Best.near_no HI2.out h.1.1 h')
  have x5 : Hid (∀ W, Calls Try.prog 43 #[.agg #[.int .i64 n, .int .i64 d]] W fun e w' => e = .returned (.agg #[.int .i64 (Arm.redN n d), .int .i64 (Arm.redD n d)]) ∧ Below W.heap.size W w') := fun W => refReduced_any n d W (by omega) (by omega) (by omega) (by omega)
  have x6 : Hid (Arm.redD n d ≤ M → p1 = Arm.redN n d ∧ q1 = Arm.redD n d) := fun h => Best.own_best HI2.out (by omega) h
  generalize Arm.redN n d = N at *
  generalize Arm.redD n d = D at *
  clear HI2 HI3 HI4 HOK2 HOK3 HOK4 HOKb
  go_wp2_with fail
  refine (x1.out _).mono ?_
  rintro x w8 ⟨rfl, hb8⟩
  have hB8 : Below w.heap.size w w8 := Below.trans (by (repeat' (first | (with_reducible exact Below.refl _ _) | (with_reducible assumption) | (with_reducible refine Below.alloc ?_ ?_ _) | (with_reducible refine below_drewN ?_ _) | (with_reducible refine Below.drew ?_) | (with_reducible refine Below.setCell ?_ ?_ _) | go_size))) (hb8.mono (by first | omega | (simp; done) | (simp; omega))); have hz8 := hb8.size; try simp at hz8
  have hl8R : w.heap.size < w8.heap.size := (by omega); have hx8R0 : w8.cell? ⟨w.heap.size, 0, none⟩ = some (.int .i64 (n)) := (by rw [(hb8.cell (by first | omega | (simp; done) | (simp; omega)))]; (repeat (rw [World.cell?_alloc_lt _ _ _ (by first | omega | (simp; done) | (simp; omega))])); go_cell); have hx8R1 : w8.cell? ⟨w.heap.size, 1, none⟩ = some (.int .i64 (d)) := (by rw [(hb8.cell (by first | omega | (simp; done) | (simp; omega)))]; (repeat (rw [World.cell?_alloc_lt _ _ _ (by first | omega | (simp; done) | (simp; omega))])); go_cell)
  have hl8M : w.heap.size + 1 < w8.heap.size := (by omega); have hx8M0 : w8.cell? ⟨w.heap.size + 1, 0, none⟩ = some (.int .i64 (M)) := (by rw [(hb8.cell (by first | omega | (simp; done) | (simp; omega)))]; (repeat (rw [World.cell?_alloc_lt _ _ _ (by first | omega | (simp; done) | (simp; omega))])); go_cell); have hx8M1 : w8.cell? ⟨w.heap.size + 1, 1, none⟩ = some (.int .i64 (K)) := (by rw [(hb8.cell (by first | omega | (simp; done) | (simp; omega)))]; (repeat (rw [World.cell?_alloc_lt _ _ _ (by first | omega | (simp; done) | (simp; omega))])); go_cell)
  have hl8O : w.heap.size + 1 + 1 < w8.heap.size := (by omega); have hx8O0 : w8.cell? ⟨w.heap.size + 1 + 1, 0, none⟩ = some (.int .i64 (a)) := (by rw [(hb8.cell (by first | omega | (simp; done) | (simp; omega)))]; (repeat (rw [World.cell?_alloc_lt _ _ _ (by first | omega | (simp; done) | (simp; omega))])); go_cell); have hx8O1 : w8.cell? ⟨w.heap.size + 1 + 1, 1, none⟩ = some (.int .i64 (b)) := (by rw [(hb8.cell (by first | omega | (simp; done) | (simp; omega)))]; (repeat (rw [World.cell?_alloc_lt _ _ _ (by first | omega | (simp; done) | (simp; omega))])); go_cell)
  have hl8A : w2.heap.size < w8.heap.size := (by omega); have hx8A0 : w8.cell? ⟨w2.heap.size, 0, none⟩ = some (.int .i64 (p1)) := (by rw [(hb8.cell (by first | omega | (simp; done) | (simp; omega)))]; (repeat (rw [World.cell?_alloc_lt _ _ _ (by first | omega | (simp; done) | (simp; omega))])); go_cell); have hx8A1 : w8.cell? ⟨w2.heap.size, 1, none⟩ = some (.int .i64 (q1)) := (by rw [(hb8.cell (by first | omega | (simp; done) | (simp; omega)))]; (repeat (rw [World.cell?_alloc_lt _ _ _ (by first | omega | (simp; done) | (simp; omega))])); go_cell)
  have hl8B : w3.heap.size < w8.heap.size := (by omega); have hx8B0 : w8.cell? ⟨w3.heap.size, 0, none⟩ = some (.int .i64 (p2)) := (by rw [(hb8.cell (by first | omega | (simp; done) | (simp; omega)))]; (repeat (rw [World.cell?_alloc_lt _ _ _ (by first | omega | (simp; done) | (simp; omega))])); go_cell); have hx8B1 : w8.cell? ⟨w3.heap.size, 1, none⟩ = some (.int .i64 (q2)) := (by rw [(hb8.cell (by first | omega | (simp; done) | (simp; omega)))]; (repeat (rw [World.cell?_alloc_lt _ _ _ (by first | omega | (simp; done) | (simp; omega))])); go_cell)
  have hl8C : w4.heap.size < w8.heap.size := (by omega); have hx8C0 : w8.cell? ⟨w4.heap.size, 0, none⟩ = some (.int .i64 (p3)) := (by rw [(hb8.cell (by first | omega | (simp; done) | (simp; omega)))]; (repeat (rw [World.cell?_alloc_lt _ _ _ (by first | omega | (simp; done) | (simp; omega))])); go_cell); have hx8C1 : w8.cell? ⟨w4.heap.size, 1, none⟩ = some (.int .i64 (q3)) := (by rw [(hb8.cell (by first | omega | (simp; done) | (simp; omega)))]; (repeat (rw [World.cell?_alloc_lt _ _ _ (by first | omega | (simp; done) | (simp; omega))])); go_cell)
  have hl8E : w7.heap.size < w8.heap.size := (by omega); have hx8E0 : w8.cell? ⟨w7.heap.size, 0, none⟩ = some (.int .i64 (-p3)) := (by rw [(hb8.cell (by first | omega | (simp; done) | (simp; omega)))]; (repeat (rw [World.cell?_alloc_lt _ _ _ (by first | omega | (simp; done) | (simp; omega))])); go_cell); have hx8E1 : w8.cell? ⟨w7.heap.size, 1, none⟩ = some (.int .i64 (q3)) := (by rw [(hb8.cell (by first | omega | (simp; done) | (simp; omega)))]; (repeat (rw [World.cell?_alloc_lt _ _ _ (by first | omega | (simp; done) | (simp; omega))])); go_cell)
  go_wp2_with fail
  refine (x2.out _).mono ?_
  rintro x w9 ⟨rfl, hb9⟩
  have hB9 : Below w.heap.size w w9 := Below.trans (by (repeat' (first | (with_reducible exact Below.refl _ _) | (with_reducible assumption) | (with_reducible refine Below.alloc ?_ ?_ _) | (with_reducible refine below_drewN ?_ _) | (with_reducible refine Below.drew ?_) | (with_reducible refine Below.setCell ?_ ?_ _) | go_size))) (hb9.mono (by first | omega | (simp; done) | (simp; omega))); have hz9 := hb9.size; try simp at hz9
  have hl9R : w.heap.size < w9.heap.size := (by omega); have hx9R0 : w9.cell? ⟨w.heap.size, 0, none⟩ = some (.int .i64 (n)) := (by rw [(hb9.cell (by first | omega | (simp; done) | (simp; omega)))]; (repeat (rw [World.cell?_alloc_lt _ _ _ (by first | omega | (simp; done) | (simp; omega))])); go_cell); have hx9R1 : w9.cell? ⟨w.heap.size, 1, none⟩ = some (.int .i64 (d)) := (by rw [(hb9.cell (by first | omega | (simp; done) | (simp; omega)))]; (repeat (rw [World.cell?_alloc_lt _ _ _ (by first | omega | (simp; done) | (simp; omega))])); go_cell)
  have hl9M : w.heap.size + 1 < w9.heap.size := (by omega); have hx9M0 : w9.cell? ⟨w.heap.size + 1, 0, none⟩ = some (.int .i64 (M)) := (by rw [(hb9.cell (by first | omega | (simp; done) | (simp; omega)))]; (repeat (rw [World.cell?_alloc_lt _ _ _ (by first | omega | (simp; done) | (simp; omega))])); go_cell); have hx9M1 : w9.cell? ⟨w.heap.size + 1, 1, none⟩ = some (.int .i64 (K)) := (by rw [(hb9.cell (by first | omega | (simp; done) | (simp; omega)))]; (repeat (rw [World.cell?_alloc_lt _ _ _ (by first | omega | (simp; done) | (simp; omega))])); go_cell)
  have hl9O : w.heap.size + 1 + 1 < w9.heap.size := (by omega); have hx9O0 : w9.cell? ⟨w.heap.size + 1 + 1, 0, none⟩ = some (.int .i64 (a)) := (by rw [(hb9.cell (by first | omega | (simp; done) | (simp; omega)))]; (repeat (rw [World.cell?_alloc_lt _ _ _ (by first | omega | (simp; done) | (simp; omega))])); go_cell); have hx9O1 : w9.cell? ⟨w.heap.size + 1 + 1, 1, none⟩ = some (.int .i64 (b)) := (by rw [(hb9.cell (by first | omega | (simp; done) | (simp; omega)))]; (repeat (rw [World.cell?_alloc_lt _ _ _ (by first | omega | (simp; done) | (simp; omega))])); go_cell)
  have hl9A : w2.heap.size < w9.heap.size := (by omega); have hx9A0 : w9.cell? ⟨w2.heap.size, 0, none⟩ = some (.int .i64 (p1)) := (by rw [(hb9.cell (by first | omega | (simp; done) | (simp; omega)))]; (repeat (rw [World.cell?_alloc_lt _ _ _ (by first | omega | (simp; done) | (simp; omega))])); go_cell); have hx9A1 : w9.cell? ⟨w2.heap.size, 1, none⟩ = some (.int .i64 (q1)) := (by rw [(hb9.cell (by first | omega | (simp; done) | (simp; omega)))]; (repeat (rw [World.cell?_alloc_lt _ _ _ (by first | omega | (simp; done) | (simp; omega))])); go_cell)
  have hl9C : w4.heap.size < w9.heap.size := (by omega); have hx9C0 : w9.cell? ⟨w4.heap.size, 0, none⟩ = some (.int .i64 (p3)) := (by rw [(hb9.cell (by first | omega | (simp; done) | (simp; omega)))]; (repeat (rw [World.cell?_alloc_lt _ _ _ (by first | omega | (simp; done) | (simp; omega))])); go_cell); have hx9C1 : w9.cell? ⟨w4.heap.size, 1, none⟩ = some (.int .i64 (q3)) := (by rw [(hb9.cell (by first | omega | (simp; done) | (simp; omega)))]; (repeat (rw [World.cell?_alloc_lt _ _ _ (by first | omega | (simp; done) | (simp; omega))])); go_cell)
  have hl9E : w7.heap.size < w9.heap.size := (by omega); have hx9E0 : w9.cell? ⟨w7.heap.size, 0, none⟩ = some (.int .i64 (-p3)) := (by rw [(hb9.cell (by first | omega | (simp; done) | (simp; omega)))]; (repeat (rw [World.cell?_alloc_lt _ _ _ (by first | omega | (simp; done) | (simp; omega))])); go_cell); have hx9E1 : w9.cell? ⟨w7.heap.size, 1, none⟩ = some (.int .i64 (q3)) := (by rw [(hb9.cell (by first | omega | (simp; done) | (simp; omega)))]; (repeat (rw [World.cell?_alloc_lt _ _ _ (by first | omega | (simp; done) | (simp; omega))])); go_cell)
  go_wp2_with fail
  refine (x3.out _).mono ?_
  rintro x w10 ⟨rfl, hb10⟩
  have hB10 : Below w.heap.size w w10 := Below.trans (by (repeat' (first | (with_reducible exact Below.refl _ _) | (with_reducible assumption) | (with_reducible refine Below.alloc ?_ ?_ _) | (with_reducible refine below_drewN ?_ _) | (with_reducible refine Below.drew ?_) | (with_reducible refine Below.setCell ?_ ?_ _) | go_size))) (hb10.mono (by first | omega | (simp; done) | (simp; omega))); have hz10 := hb10.size; try simp at hz10
  have hl10R : w.heap.size < w10.heap.size := (by omega); have hx10R0 : w10.cell? ⟨w.heap.size, 0, none⟩ = some (.int .i64 (n)) := (by rw [(hb10.cell (by first | omega | (simp; done) | (simp; omega)))]; (repeat (rw [World.cell?_alloc_lt _ _ _ (by first | omega | (simp; done) | (simp; omega))])); go_cell); have hx10R1 : w10.cell? ⟨w.heap.size, 1, none⟩ = some (.int .i64 (d)) := (by rw [(hb10.cell (by first | omega | (simp; done) | (simp; omega)))]; (repeat (rw [World.cell?_alloc_lt _ _ _ (by first | omega | (simp; done) | (simp; omega))])); go_cell)
  have hl10M : w.heap.size + 1 < w10.heap.size := (by omega); have hx10M0 : w10.cell? ⟨w.heap.size + 1, 0, none⟩ = some (.int .i64 (M)) := (by rw [(hb10.cell (by first | omega | (simp; done) | (simp; omega)))]; (repeat (rw [World.cell?_alloc_lt _ _ _ (by first | omega | (simp; done) | (simp; omega))])); go_cell); have hx10M1 : w10.cell? ⟨w.heap.size + 1, 1, none⟩ = some (.int .i64 (K)) := (by rw [(hb10.cell (by first | omega | (simp; done) | (simp; omega)))]; (repeat (rw [World.cell?_alloc_lt _ _ _ (by first | omega | (simp; done) | (simp; omega))])); go_cell)
  have hl10O : w.heap.size + 1 + 1 < w10.heap.size := (by omega); have hx10O0 : w10.cell? ⟨w.heap.size + 1 + 1, 0, none⟩ = some (.int .i64 (a)) := (by rw [(hb10.cell (by first | omega | (simp; done) | (simp; omega)))]; (repeat (rw [World.cell?_alloc_lt _ _ _ (by first | omega | (simp; done) | (simp; omega))])); go_cell); have hx10O1 : w10.cell? ⟨w.heap.size + 1 + 1, 1, none⟩ = some (.int .i64 (b)) := (by rw [(hb10.cell (by first | omega | (simp; done) | (simp; omega)))]; (repeat (rw [World.cell?_alloc_lt _ _ _ (by first | omega | (simp; done) | (simp; omega))])); go_cell)
  have hl10A : w2.heap.size < w10.heap.size := (by omega); have hx10A0 : w10.cell? ⟨w2.heap.size, 0, none⟩ = some (.int .i64 (p1)) := (by rw [(hb10.cell (by first | omega | (simp; done) | (simp; omega)))]; (repeat (rw [World.cell?_alloc_lt _ _ _ (by first | omega | (simp; done) | (simp; omega))])); go_cell); have hx10A1 : w10.cell? ⟨w2.heap.size, 1, none⟩ = some (.int .i64 (q1)) := (by rw [(hb10.cell (by first | omega | (simp; done) | (simp; omega)))]; (repeat (rw [World.cell?_alloc_lt _ _ _ (by first | omega | (simp; done) | (simp; omega))])); go_cell)
  clear x1 x2 x3 hb7 hb8 hb9 hB7 hB8 hB9
  go_wp2_with fail
  refine (x5.out _).mono ?_
  rintro x w11 ⟨rfl, hb11⟩
  have hB11 : Below w.heap.size w w11 := Below.trans (by (repeat' (first | (with_reducible exact Below.refl _ _) | (with_reducible assumption) | (with_reducible refine Below.alloc ?_ ?_ _) | (with_reducible refine below_drewN ?_ _) | (with_reducible refine Below.drew ?_) | (with_reducible refine Below.setCell ?_ ?_ _) | go_size))) (hb11.mono (by first | omega | (simp; done) | (simp; omega))); have hz11 := hb11.size; try simp at hz11
  have hl11R : w.heap.size < w11.heap.size := (by omega); have hx11R0 : w11.cell? ⟨w.heap.size, 0, none⟩ = some (.int .i64 (n)) := (by rw [(hb11.cell (by first | omega | (simp; done) | (simp; omega)))]; (repeat (rw [World.cell?_alloc_lt _ _ _ (by first | omega | (simp; done) | (simp; omega))])); go_cell); have hx11R1 : w11.cell? ⟨w.heap.size, 1, none⟩ = some (.int .i64 (d)) := (by rw [(hb11.cell (by first | omega | (simp; done) | (simp; omega)))]; (repeat (rw [World.cell?_alloc_lt _ _ _ (by first | omega | (simp; done) | (simp; omega))])); go_cell)
  have hl11M : w.heap.size + 1 < w11.heap.size := (by omega); have hx11M0 : w11.cell? ⟨w.heap.size + 1, 0, none⟩ = some (.int .i64 (M)) := (by rw [(hb11.cell (by first | omega | (simp; done) | (simp; omega)))]; (repeat (rw [World.cell?_alloc_lt _ _ _ (by first | omega | (simp; done) | (simp; omega))])); go_cell); have hx11M1 : w11.cell? ⟨w.heap.size + 1, 1, none⟩ = some (.int .i64 (K)) := (by rw [(hb11.cell (by first | omega | (simp; done) | (simp; omega)))]; (repeat (rw [World.cell?_alloc_lt _ _ _ (by first | omega | (simp; done) | (simp; omega))])); go_cell)
  have hl11O : w.heap.size + 1 + 1 < w11.heap.size := (by omega); have hx11O0 : w11.cell? ⟨w.heap.size + 1 + 1, 0, none⟩ = some (.int .i64 (a)) := (by rw [(hb11.cell (by first | omega | (simp; done) | (simp; omega)))]; (repeat (rw [World.cell?_alloc_lt _ _ _ (by first | omega | (simp; done) | (simp; omega))])); go_cell); have hx11O1 : w11.cell? ⟨w.heap.size + 1 + 1, 1, none⟩ = some (.int .i64 (b)) := (by rw [(hb11.cell (by first | omega | (simp; done) | (simp; omega)))]; (repeat (rw [World.cell?_alloc_lt _ _ _ (by first | omega | (simp; done) | (simp; omega))])); go_cell)
  have hl11A : w2.heap.size < w11.heap.size := (by omega); have hx11A0 : w11.cell? ⟨w2.heap.size, 0, none⟩ = some (.int .i64 (p1)) := (by rw [(hb11.cell (by first | omega | (simp; done) | (simp; omega)))]; (repeat (rw [World.cell?_alloc_lt _ _ _ (by first | omega | (simp; done) | (simp; omega))])); go_cell); have hx11A1 : w11.cell? ⟨w2.heap.size, 1, none⟩ = some (.int .i64 (q1)) := (by rw [(hb11.cell (by first | omega | (simp; done) | (simp; omega)))]; (repeat (rw [World.cell?_alloc_lt _ _ _ (by first | omega | (simp; done) | (simp; omega))])); go_cell)
  clear x5 hb10 hB10
  go_upto_region 12 with fail
  generalize hW : World.alloc _ _ = W
  have hBW : Below w.heap.size w W := by rw [← hW]; clear hW; (repeat' (first | (with_reducible exact Below.refl _ _) | (with_reducible assumption) | (with_reducible refine Below.alloc ?_ ?_ _) | (with_reducible refine below_drewN ?_ _) | (with_reducible refine Below.drew ?_) | (with_reducible refine Below.setCell ?_ ?_ _) | go_size))
  have hlWR : w.heap.size < W.heap.size := (by rw [← hW]; clear hW; first | omega | (simp; done) | (simp; omega)); have hxWR0 : W.cell? ⟨w.heap.size, 0, none⟩ = some (.int .i64 (n)) := (by rw [← hW]; clear hW; (repeat (rw [World.cell?_alloc_lt _ _ _ (by first | omega | (simp; done) | (simp; omega))])); go_cell); have hxWR1 : W.cell? ⟨w.heap.size, 1, none⟩ = some (.int .i64 (d)) := (by rw [← hW]; clear hW; (repeat (rw [World.cell?_alloc_lt _ _ _ (by first | omega | (simp; done) | (simp; omega))])); go_cell)
  have hlWM : w.heap.size + 1 < W.heap.size := (by rw [← hW]; clear hW; first | omega | (simp; done) | (simp; omega)); have hxWM0 : W.cell? ⟨w.heap.size + 1, 0, none⟩ = some (.int .i64 (M)) := (by rw [← hW]; clear hW; (repeat (rw [World.cell?_alloc_lt _ _ _ (by first | omega | (simp; done) | (simp; omega))])); go_cell); have hxWM1 : W.cell? ⟨w.heap.size + 1, 1, none⟩ = some (.int .i64 (K)) := (by rw [← hW]; clear hW; (repeat (rw [World.cell?_alloc_lt _ _ _ (by first | omega | (simp; done) | (simp; omega))])); go_cell)
  have hlWO : w.heap.size + 1 + 1 < W.heap.size := (by rw [← hW]; clear hW; first | omega | (simp; done) | (simp; omega)); have hxWO0 : W.cell? ⟨w.heap.size + 1 + 1, 0, none⟩ = some (.int .i64 (a)) := (by rw [← hW]; clear hW; (repeat (rw [World.cell?_alloc_lt _ _ _ (by first | omega | (simp; done) | (simp; omega))])); go_cell); have hxWO1 : W.cell? ⟨w.heap.size + 1 + 1, 1, none⟩ = some (.int .i64 (b)) := (by rw [← hW]; clear hW; (repeat (rw [World.cell?_alloc_lt _ _ _ (by first | omega | (simp; done) | (simp; omega))])); go_cell)
  have hlWA : w2.heap.size < W.heap.size := (by rw [← hW]; clear hW; first | omega | (simp; done) | (simp; omega)); have hxWA0 : W.cell? ⟨w2.heap.size, 0, none⟩ = some (.int .i64 (p1)) := (by rw [← hW]; clear hW; (repeat (rw [World.cell?_alloc_lt _ _ _ (by first | omega | (simp; done) | (simp; omega))])); go_cell); have hxWA1 : W.cell? ⟨w2.heap.size, 1, none⟩ = some (.int .i64 (q1)) := (by rw [← hW]; clear hW; (repeat (rw [World.cell?_alloc_lt _ _ _ (by first | omega | (simp; done) | (simp; omega))])); go_cell)
  have hlWN : w11.heap.size < W.heap.size := (by rw [← hW]; clear hW; first | omega | (simp; done) | (simp; omega)); have hxWN0 : W.cell? ⟨w11.heap.size, 0, none⟩ = some (.int .i64 (N)) := (by rw [← hW]; clear hW; (repeat (rw [World.cell?_alloc_lt _ _ _ (by first | omega | (simp; done) | (simp; omega))])); go_cell); have hxWN1 : W.cell? ⟨w11.heap.size, 1, none⟩ = some (.int .i64 (D)) := (by rw [← hW]; clear hW; (repeat (rw [World.cell?_alloc_lt _ _ _ (by first | omega | (simp; done) | (simp; omega))])); go_cell)
  clear hW hb11 hB11
  go_cut [150] (fun s wx => s = .bool false ∧ wx = W)
  case first => as_aux_lemma =>
    clear x4
    by_cases hD : D ≤ M
    · obtain ⟨rfl, rfl⟩ := x6.out hD
      go_wp2_with fail
      go_meet
      exact ⟨rfl, rfl⟩
    · clear x6
      go_wp2_with fail
      go_meet
      exact ⟨rfl, rfl⟩
  case rest =>
  obtain ⟨rfl, rfl⟩ := hcut
  clear x6
  go_wp2_with fail
  refine (IsRatio_any a b _).mono ?_
  rintro x w12 ⟨rfl, hb12⟩
  have hB12 : Below w.heap.size w w12 := Below.trans (by (repeat' (first | (with_reducible exact Below.refl _ _) | (with_reducible assumption) | (with_reducible refine Below.alloc ?_ ?_ _) | (with_reducible refine below_drewN ?_ _) | (with_reducible refine Below.drew ?_) | (with_reducible refine Below.setCell ?_ ?_ _) | go_size))) (hb12.mono (by first | omega | (simp; done) | (simp; omega))); have hz12 := hb12.size; try simp at hz12
  have hl12R : w.heap.size < w12.heap.size := (by omega); have hx12R0 : w12.cell? ⟨w.heap.size, 0, none⟩ = some (.int .i64 (n)) := (by rw [(hb12.cell (by first | omega | (simp; done) | (simp; omega)))]; (repeat (rw [World.cell?_alloc_lt _ _ _ (by first | omega | (simp; done) | (simp; omega))])); go_cell); have hx12R1 : w12.cell? ⟨w.heap.size, 1, none⟩ = some (.int .i64 (d)) := (by rw [(hb12.cell (by first | omega | (simp; done) | (simp; omega)))]; (repeat (rw [World.cell?_alloc_lt _ _ _ (by first | omega | (simp; done) | (simp; omega))])); go_cell)
  have hl12M : w.heap.size + 1 < w12.heap.size := (by omega); have hx12M0 : w12.cell? ⟨w.heap.size + 1, 0, none⟩ = some (.int .i64 (M)) := (by rw [(hb12.cell (by first | omega | (simp; done) | (simp; omega)))]; (repeat (rw [World.cell?_alloc_lt _ _ _ (by first | omega | (simp; done) | (simp; omega))])); go_cell); have hx12M1 : w12.cell? ⟨w.heap.size + 1, 1, none⟩ = some (.int .i64 (K)) := (by rw [(hb12.cell (by first | omega | (simp; done) | (simp; omega)))]; (repeat (rw [World.cell?_alloc_lt _ _ _ (by first | omega | (simp; done) | (simp; omega))])); go_cell)
  have hl12O : w.heap.size + 1 + 1 < w12.heap.size := (by omega); have hx12O0 : w12.cell? ⟨w.heap.size + 1 + 1, 0, none⟩ = some (.int .i64 (a)) := (by rw [(hb12.cell (by first | omega | (simp; done) | (simp; omega)))]; (repeat (rw [World.cell?_alloc_lt _ _ _ (by first | omega | (simp; done) | (simp; omega))])); go_cell); have hx12O1 : w12.cell? ⟨w.heap.size + 1 + 1, 1, none⟩ = some (.int .i64 (b)) := (by rw [(hb12.cell (by first | omega | (simp; done) | (simp; omega)))]; (repeat (rw [World.cell?_alloc_lt _ _ _ (by first | omega | (simp; done) | (simp; omega))])); go_cell)
  have hl12A : w2.heap.size < w12.heap.size := (by omega); have hx12A0 : w12.cell? ⟨w2.heap.size, 0, none⟩ = some (.int .i64 (p1)) := (by rw [(hb12.cell (by first | omega | (simp; done) | (simp; omega)))]; (repeat (rw [World.cell?_alloc_lt _ _ _ (by first | omega | (simp; done) | (simp; omega))])); go_cell); have hx12A1 : w12.cell? ⟨w2.heap.size, 1, none⟩ = some (.int .i64 (q1)) := (by rw [(hb12.cell (by first | omega | (simp; done) | (simp; omega)))]; (repeat (rw [World.cell?_alloc_lt _ _ _ (by first | omega | (simp; done) | (simp; omega))])); go_cell)
  cases hob : Arm.okB a b
  · go_wp2_with fail
    refine (works_any _).mono ?_
    rintro x w60 ⟨rfl, hb60⟩
    have hB60 : Below w.heap.size w w60 := Below.trans (by (repeat' (first | (with_reducible exact Below.refl _ _) | (with_reducible assumption) | (with_reducible refine Below.alloc ?_ ?_ _) | (with_reducible refine below_drewN ?_ _) | (with_reducible refine Below.drew ?_) | (with_reducible refine Below.setCell ?_ ?_ _) | go_size))) (hb60.mono (by first | omega | (simp; done) | (simp; omega))); have hz60 := hb60.size; try simp at hz60
    go_wp2_with fail
    go_returns
    exact ⟨rfl, by (repeat' (first | (with_reducible exact Below.refl _ _) | (with_reducible assumption) | (with_reducible refine Below.alloc ?_ ?_ _) | (with_reducible refine below_drewN ?_ _) | (with_reducible refine Below.drew ?_) | (with_reducible refine Below.setCell ?_ ?_ _) | go_size))⟩
  · have HOB := Lib.hid (Arm.okB_true.1 hob)
    have ha := (Arm.okB_true.1 hob).1
    have ha' := (Arm.okB_true.1 hob).2
    by_cases hbM : b ≤ M
    · have x7 := Lib.hid (x4.out HOB.out hbM)
      clear x4 hob
      go_wp2_with fail
      refine (x7.out _).mono ?_
      rintro x w13 ⟨rfl, hb13⟩
      have hB13 : Below w.heap.size w w13 := Below.trans (by (repeat' (first | (with_reducible exact Below.refl _ _) | (with_reducible assumption) | (with_reducible refine Below.alloc ?_ ?_ _) | (with_reducible refine below_drewN ?_ _) | (with_reducible refine Below.drew ?_) | (with_reducible refine Below.setCell ?_ ?_ _) | go_size))) (hb13.mono (by first | omega | (simp; done) | (simp; omega))); have hz13 := hb13.size; try simp at hz13
      go_wp2_with fail
      refine (works_any _).mono ?_
      rintro x w60 ⟨rfl, hb60⟩
      have hB60 : Below w.heap.size w w60 := Below.trans (by (repeat' (first | (with_reducible exact Below.refl _ _) | (with_reducible assumption) | (with_reducible refine Below.alloc ?_ ?_ _) | (with_reducible refine below_drewN ?_ _) | (with_reducible refine Below.drew ?_) | (with_reducible refine Below.setCell ?_ ?_ _) | go_size))) (hb60.mono (by first | omega | (simp; done) | (simp; omega))); have hz60 := hb60.size; try simp at hz60
      go_wp2_with fail
      go_returns
      exact ⟨rfl, by (repeat' (first | (with_reducible exact Below.refl _ _) | (with_reducible assumption) | (with_reducible refine Below.alloc ?_ ?_ _) | (with_reducible refine below_drewN ?_ _) | (with_reducible refine Below.drew ?_) | (with_reducible refine Below.setCell ?_ ?_ _) | go_size))⟩
    · clear x4 hob
      go_wp2_with fail
      refine (works_any _).mono ?_
      rintro x w60 ⟨rfl, hb60⟩
      have hB60 : Below w.heap.size w w60 := Below.trans (by (repeat' (first | (with_reducible exact Below.refl _ _) | (with_reducible assumption) | (with_reducible refine Below.alloc ?_ ?_ _) | (with_reducible refine below_drewN ?_ _) | (with_reducible refine Below.drew ?_) | (with_reducible refine Below.setCell ?_ ?_ _) | go_size))) (hb60.mono (by first | omega | (simp; done) | (simp; omega))); have hz60 := hb60.size; try simp at hz60
      go_wp2_with fail
      go_returns
      exact ⟨rfl, by (repeat' (first | (with_reducible exact Below.refl _ _) | (with_reducible assumption) | (with_reducible refine Below.alloc ?_ ?_ _) | (with_reducible refine below_drewN ?_ _) | (with_reducible refine Below.drew ?_) | (with_reducible refine Below.setCell ?_ ?_ _) | go_size))⟩
set_option maxRecDepth 100000 in
set_option maxHeartbeats 4000000 in
theorem lawNearest_walk (n d M K a b : Int) (w : World) :
    Calls Try.prog 9 #[.agg #[.int .i64 n, .int .i64 d], .agg #[.int .i64 M, .int .i64 K], .agg #[.int .i64 a, .int .i64 b]] w fun x w' => x = .returned (.bool true) ∧ Below w.heap.size w w' := by
  by_cases hg : Arm.okB n d = true ∧ (1 ≤ M ∧ M ≤ 1000) ∧ (0 ≤ K ∧ K ≤ 1000)
  · exact lawNearest_valid n d M K a b w (Arm.okB_true.1 hg.1) hg.2.1.1 hg.2.1.2 hg.2.2.1 hg.2.2.2
  · cases hok : Arm.okB n d
    · have HO := Lib.hid hok
      clear hok hg
      go_enter Try.func9, Try.ntmps9
      go_wp2_with fail
      refine (IsRatio_any n d _).mono ?_
      rintro x w1 ⟨rfl, hb1⟩
      have hB1 : Below w.heap.size w w1 := Below.trans (by (repeat' (first | (with_reducible exact Below.refl _ _) | (with_reducible assumption) | (with_reducible refine Below.alloc ?_ ?_ _) | (with_reducible refine below_drewN ?_ _) | (with_reducible refine Below.drew ?_) | (with_reducible refine Below.setCell ?_ ?_ _) | go_size))) (hb1.mono (by first | omega | (simp; done) | (simp; omega))); have hz1 := hb1.size; try simp at hz1
      rw [HO.out]
      go_wp2_with fail
      refine (works_any _).mono ?_
      rintro x w60 ⟨rfl, hb60⟩
      have hB60 : Below w.heap.size w w60 := Below.trans (by (repeat' (first | (with_reducible exact Below.refl _ _) | (with_reducible assumption) | (with_reducible refine Below.alloc ?_ ?_ _) | (with_reducible refine below_drewN ?_ _) | (with_reducible refine Below.drew ?_) | (with_reducible refine Below.setCell ?_ ?_ _) | go_size))) (hb60.mono (by first | omega | (simp; done) | (simp; omega))); have hz60 := hb60.size; try simp at hz60
      go_wp2_with fail
      go_returns
      exact ⟨rfl, by (repeat' (first | (with_reducible exact Below.refl _ _) | (with_reducible assumption) | (with_reducible refine Below.alloc ?_ ?_ _) | (with_reducible refine below_drewN ?_ _) | (with_reducible refine Below.drew ?_) | (with_reducible refine Below.setCell ?_ ?_ _) | go_size))⟩
    · have HO := Lib.hid hok
      have hg2 : M < 1 ∨ 1000 < M ∨ K < 0 ∨ 1000 < K := by
        by_cases g1 : 1 ≤ M ∧ M ≤ 1000
        · by_cases g2 : 0 ≤ K ∧ K ≤ 1000
          · exact absurd ⟨hok, g1, g2⟩ hg
          · omega
        · omega
      clear hok hg
      go_enter Try.func9, Try.ntmps9
      go_wp2_with fail
      refine (IsRatio_any n d _).mono ?_
      rintro x w1 ⟨rfl, hb1⟩
      have hB1 : Below w.heap.size w w1 := Below.trans (by (repeat' (first | (with_reducible exact Below.refl _ _) | (with_reducible assumption) | (with_reducible refine Below.alloc ?_ ?_ _) | (with_reducible refine below_drewN ?_ _) | (with_reducible refine Below.drew ?_) | (with_reducible refine Below.setCell ?_ ?_ _) | go_size))) (hb1.mono (by first | omega | (simp; done) | (simp; omega))); have hz1 := hb1.size; try simp at hz1
      have hl1M : w.heap.size + 1 < w1.heap.size := (by omega); have hx1M0 : w1.cell? ⟨w.heap.size + 1, 0, none⟩ = some (.int .i64 (M)) := (by rw [(hb1.cell (by first | omega | (simp; done) | (simp; omega)))]; (repeat (rw [World.cell?_alloc_lt _ _ _ (by first | omega | (simp; done) | (simp; omega))])); go_cell); have hx1M1 : w1.cell? ⟨w.heap.size + 1, 1, none⟩ = some (.int .i64 (K)) := (by rw [(hb1.cell (by first | omega | (simp; done) | (simp; omega)))]; (repeat (rw [World.cell?_alloc_lt _ _ _ (by first | omega | (simp; done) | (simp; omega))])); go_cell)
      rw [HO.out]
      go_wp2_with fail
      all_goals first
        | (exfalso; omega)
        | (refine (works_any _).mono ?_
           rintro x w60 ⟨rfl, hb60⟩
           have hB60 : Below w.heap.size w w60 := Below.trans (by (repeat' (first | (with_reducible exact Below.refl _ _) | (with_reducible assumption) | (with_reducible refine Below.alloc ?_ ?_ _) | (with_reducible refine below_drewN ?_ _) | (with_reducible refine Below.drew ?_) | (with_reducible refine Below.setCell ?_ ?_ _) | go_size))) (hb60.mono (by first | omega | (simp; done) | (simp; omega))); have hz60 := hb60.size; try simp at hz60
           go_wp2_with fail
           go_returns
           exact ⟨rfl, by (repeat' (first | (with_reducible exact Below.refl _ _) | (with_reducible assumption) | (with_reducible refine Below.alloc ?_ ?_ _) | (with_reducible refine below_drewN ?_ _) | (with_reducible refine Below.drew ?_) | (with_reducible refine Below.setCell ?_ ?_ _) | go_size))⟩)
end Go.Proofs.Ytfjcmmdfipppoaa
