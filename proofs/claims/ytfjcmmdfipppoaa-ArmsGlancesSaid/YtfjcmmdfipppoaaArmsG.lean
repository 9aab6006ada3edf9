/- Contracts of Value, Set, Off and Scale of package arms. -/
import Derived.Test.YtfjcmmdfipppoaaArmsF
namespace Go.Proofs.Ytfjcmmdfipppoaa
open Go.RowKit

set_option maxHeartbeats 1000000 in
theorem wishNearest_any (u v r s lo hi a b sc : Int) (w : World) (h1 : Arm.armP u v r s lo hi) (h2 : Arm.ok a b) (h3 : 1 ≤ a) (h4 : 1 ≤ sc) (h5 : sc ≤ 100) :
    Calls Try.prog 73 #[.agg #[.int .i64 u, .int .i64 v, .int .i64 r, .int .i64 s, .int .i64 lo, .int .i64 hi, .int .i64 a, .int .i64 b, .int .i64 sc]] w
      fun e w' => e = .returned (.int .i64 (Arm.near (Arm.scT v s a) (Arm.scB u r b sc) lo hi)) ∧ Below w.heap.size w w' := by
  have H1 := Lib.hid h1
  have m1 := Arm.mul_pos_bd h1.1.1.1 h1.1.1.2 h1.2.1.1.1 h1.2.1.1.2
  have m2 := Arm.mul_pos_bd h1.1.2.1 h1.1.2.2 h1.2.1.2.1 h1.2.1.2.2
  have m3 := Arm.mul_pos_bd h3 h2.2.2 m2.1 m2.2
  have m4 := Arm.mul_pos_bd h2.1.1 h2.1.2 m1.1 m1.2
  have m5 := Arm.mul_pos_bd m4.1 m4.2 h4 h5
  have m6 := Arm.mul_pos_bd m5.1 m5.2 h4 h5
  unfold Arm.ok at h2
  unfold Arm.armP at h1
  go_enter Try.func73, Try.ntmps73
  go_wp2_with fail
  refine (oneStep_any u v r s lo hi _ H1.out).mono ?_
  rintro e w1 ⟨rfl, hb1⟩
  have hB1 : Below w.heap.size w w1 := Below.trans (by (repeat' (first | (with_reducible exact Below.refl _ _) | (with_reducible assumption) | (with_reducible refine Below.alloc ?_ ?_ _) | (with_reducible refine below_drewN ?_ _) | (with_reducible refine Below.drew ?_) | (with_reducible refine Below.setCell ?_ ?_ _) | go_size))) (hb1.mono (by first | omega | (simp; done) | (simp; omega))); have hz1 := hb1.size; try simp at hz1
  have hl1a : w.heap.size < w1.heap.size := (by omega); have hx1a0 : w1.cell? ⟨w.heap.size, 0, none⟩ = some (.int .i64 (u)) := (by rw [(hb1.cell (by first | omega | (simp; done) | (simp; omega)))]; (repeat (rw [World.cell?_alloc_lt _ _ _ (by first | omega | (simp; done) | (simp; omega))])); go_cell); have hx1a1 : w1.cell? ⟨w.heap.size, 1, none⟩ = some (.int .i64 (v)) := (by rw [(hb1.cell (by first | omega | (simp; done) | (simp; omega)))]; (repeat (rw [World.cell?_alloc_lt _ _ _ (by first | omega | (simp; done) | (simp; omega))])); go_cell); have hx1a2 : w1.cell? ⟨w.heap.size, 2, none⟩ = some (.int .i64 (r)) := (by rw [(hb1.cell (by first | omega | (simp; done) | (simp; omega)))]; (repeat (rw [World.cell?_alloc_lt _ _ _ (by first | omega | (simp; done) | (simp; omega))])); go_cell); have hx1a3 : w1.cell? ⟨w.heap.size, 3, none⟩ = some (.int .i64 (s)) := (by rw [(hb1.cell (by first | omega | (simp; done) | (simp; omega)))]; (repeat (rw [World.cell?_alloc_lt _ _ _ (by first | omega | (simp; done) | (simp; omega))])); go_cell); have hx1a4 : w1.cell? ⟨w.heap.size, 4, none⟩ = some (.int .i64 (lo)) := (by rw [(hb1.cell (by first | omega | (simp; done) | (simp; omega)))]; (repeat (rw [World.cell?_alloc_lt _ _ _ (by first | omega | (simp; done) | (simp; omega))])); go_cell); have hx1a5 : w1.cell? ⟨w.heap.size, 5, none⟩ = some (.int .i64 (hi)) := (by rw [(hb1.cell (by first | omega | (simp; done) | (simp; omega)))]; (repeat (rw [World.cell?_alloc_lt _ _ _ (by first | omega | (simp; done) | (simp; omega))])); go_cell); have hx1a6 : w1.cell? ⟨w.heap.size, 6, none⟩ = some (.int .i64 (a)) := (by rw [(hb1.cell (by first | omega | (simp; done) | (simp; omega)))]; (repeat (rw [World.cell?_alloc_lt _ _ _ (by first | omega | (simp; done) | (simp; omega))])); go_cell); have hx1a7 : w1.cell? ⟨w.heap.size, 7, none⟩ = some (.int .i64 (b)) := (by rw [(hb1.cell (by first | omega | (simp; done) | (simp; omega)))]; (repeat (rw [World.cell?_alloc_lt _ _ _ (by first | omega | (simp; done) | (simp; omega))])); go_cell); have hx1a8 : w1.cell? ⟨w.heap.size, 8, none⟩ = some (.int .i64 (sc)) := (by rw [(hb1.cell (by first | omega | (simp; done) | (simp; omega)))]; (repeat (rw [World.cell?_alloc_lt _ _ _ (by first | omega | (simp; done) | (simp; omega))])); go_cell)
  have hd := Int.ediv_nonneg (a := a * (v * s)) (b := b * (u * r) * sc * sc) (by omega) (by omega)
  have hd' := Int.ediv_le_self (a := a * (v * s)) (b * (u * r) * sc * sc) (by omega)
  have he := Int.emod_nonneg (a * (v * s)) (b := b * (u * r) * sc * sc) (by omega)
  have he' := Int.emod_lt_of_pos (a * (v * s)) (b := b * (u * r) * sc * sc) (by omega)
  have hne : ¬ (b * (u * r) * sc * sc = 0) := by omega
  go_wp2_with fail
  all_goals go_returns
  all_goals refine ⟨ret_i ?_, by (repeat' (first | (with_reducible exact Below.refl _ _) | (with_reducible assumption) | (with_reducible refine Below.alloc ?_ ?_ _) | (with_reducible refine below_drewN ?_ _) | (with_reducible refine Below.drew ?_) | (with_reducible refine Below.setCell ?_ ?_ _) | go_size))⟩
  all_goals unfold Arm.near Arm.scT Arm.scB
  all_goals first | (rw [if_pos (by omega)]; omega) | (rw [if_neg (by omega)]; omega)

set_option maxHeartbeats 1000000 in
theorem wishOff_any (u v r s lo hi a b sc n : Int) (w : World) (h1 : Arm.armP u v r s lo hi) (h2 : Arm.ok a b) (h3 : 1 ≤ a) (h4 : lo ≤ n ∧ n ≤ hi) :
    Calls Try.prog 72 #[.agg #[.int .i64 u, .int .i64 v, .int .i64 r, .int .i64 s, .int .i64 lo, .int .i64 hi, .int .i64 a, .int .i64 b, .int .i64 sc], .int .i64 n] w
      fun e w' => e = .returned (.tuple #[.agg #[.int .i64 (Arm.sN (Arm.farN u v r s a b n) (a * (v * s))), .int .i64 (Arm.sD (Arm.farN u v r s a b n) (a * (v * s)))], .int .i64 (Arm.sE (Arm.farN u v r s a b n) (a * (v * s)))]) ∧ Below w.heap.size w w' := by
  have H1 := Lib.hid h1
  have m1 := Arm.mul_pos_bd h1.1.1.1 h1.1.1.2 h1.2.1.1.1 h1.2.1.1.2
  have m2 := Arm.mul_pos_bd h1.1.2.1 h1.1.2.2 h1.2.1.2.1 h1.2.1.2.2
  have m3 := Arm.mul_pos_bd h3 h2.2.2 m2.1 m2.2
  have m4 := Arm.mul_pos_bd (a := n) (x := 10000) (by have := h1.2.2; omega) (by have := h1.2.2; omega) m1.1 m1.2
  have m5 := Arm.mul_pos_bd m4.1 m4.2 h2.1.1 h2.1.2
  unfold Arm.ok at h2
  unfold Arm.armP at h1
  go_enter Try.func72, Try.ntmps72
  go_wp2_with fail
  refine (oneStep_any u v r s lo hi _ H1.out).mono ?_
  rintro e w1 ⟨rfl, hb1⟩
  have hB1 : Below w.heap.size w w1 := Below.trans (by (repeat' (first | (with_reducible exact Below.refl _ _) | (with_reducible assumption) | (with_reducible refine Below.alloc ?_ ?_ _) | (with_reducible refine below_drewN ?_ _) | (with_reducible refine Below.drew ?_) | (with_reducible refine Below.setCell ?_ ?_ _) | go_size))) (hb1.mono (by first | omega | (simp; done) | (simp; omega))); have hz1 := hb1.size; try simp at hz1
  have hl1a : w.heap.size < w1.heap.size := (by omega); have hx1a0 : w1.cell? ⟨w.heap.size, 0, none⟩ = some (.int .i64 (u)) := (by rw [(hb1.cell (by first | omega | (simp; done) | (simp; omega)))]; (repeat (rw [World.cell?_alloc_lt _ _ _ (by first | omega | (simp; done) | (simp; omega))])); go_cell); have hx1a1 : w1.cell? ⟨w.heap.size, 1, none⟩ = some (.int .i64 (v)) := (by rw [(hb1.cell (by first | omega | (simp; done) | (simp; omega)))]; (repeat (rw [World.cell?_alloc_lt _ _ _ (by first | omega | (simp; done) | (simp; omega))])); go_cell); have hx1a2 : w1.cell? ⟨w.heap.size, 2, none⟩ = some (.int .i64 (r)) := (by rw [(hb1.cell (by first | omega | (simp; done) | (simp; omega)))]; (repeat (rw [World.cell?_alloc_lt _ _ _ (by first | omega | (simp; done) | (simp; omega))])); go_cell); have hx1a3 : w1.cell? ⟨w.heap.size, 3, none⟩ = some (.int .i64 (s)) := (by rw [(hb1.cell (by first | omega | (simp; done) | (simp; omega)))]; (repeat (rw [World.cell?_alloc_lt _ _ _ (by first | omega | (simp; done) | (simp; omega))])); go_cell); have hx1a4 : w1.cell? ⟨w.heap.size, 4, none⟩ = some (.int .i64 (lo)) := (by rw [(hb1.cell (by first | omega | (simp; done) | (simp; omega)))]; (repeat (rw [World.cell?_alloc_lt _ _ _ (by first | omega | (simp; done) | (simp; omega))])); go_cell); have hx1a5 : w1.cell? ⟨w.heap.size, 5, none⟩ = some (.int .i64 (hi)) := (by rw [(hb1.cell (by first | omega | (simp; done) | (simp; omega)))]; (repeat (rw [World.cell?_alloc_lt _ _ _ (by first | omega | (simp; done) | (simp; omega))])); go_cell); have hx1a6 : w1.cell? ⟨w.heap.size, 6, none⟩ = some (.int .i64 (a)) := (by rw [(hb1.cell (by first | omega | (simp; done) | (simp; omega)))]; (repeat (rw [World.cell?_alloc_lt _ _ _ (by first | omega | (simp; done) | (simp; omega))])); go_cell); have hx1a7 : w1.cell? ⟨w.heap.size, 7, none⟩ = some (.int .i64 (b)) := (by rw [(hb1.cell (by first | omega | (simp; done) | (simp; omega)))]; (repeat (rw [World.cell?_alloc_lt _ _ _ (by first | omega | (simp; done) | (simp; omega))])); go_cell); have hx1a8 : w1.cell? ⟨w.heap.size, 8, none⟩ = some (.int .i64 (sc)) := (by rw [(hb1.cell (by first | omega | (simp; done) | (simp; omega)))]; (repeat (rw [World.cell?_alloc_lt _ _ _ (by first | omega | (simp; done) | (simp; omega))])); go_cell)
  have hl1r : w.heap.size + 1 < w1.heap.size := (by omega); have hx1r0 : w1.cell? ⟨w.heap.size + 1, 0, none⟩ = some (.int .i64 (0)) := (by rw [(hb1.cell (by first | omega | (simp; done) | (simp; omega)))]; (repeat (rw [World.cell?_alloc_lt _ _ _ (by first | omega | (simp; done) | (simp; omega))])); go_cell); have hx1r1 : w1.cell? ⟨w.heap.size + 1, 1, none⟩ = some (.int .i64 (0)) := (by rw [(hb1.cell (by first | omega | (simp; done) | (simp; omega)))]; (repeat (rw [World.cell?_alloc_lt _ _ _ (by first | omega | (simp; done) | (simp; omega))])); go_cell)
  have hp1r0 : w1.frozen? ⟨w.heap.size + 1, 0, none⟩ = false := (by rw [(hb1.frozen (by first | omega | (simp; done) | (simp; omega)))]; first | (with_reducible assumption) | (go_simp; done) | (simp [*]; done)); have hp1r1 : w1.frozen? ⟨w.heap.size + 1, 1, none⟩ = false := (by rw [(hb1.frozen (by first | omega | (simp; done) | (simp; omega)))]; first | (with_reducible assumption) | (go_simp; done) | (simp [*]; done))
  go_wp2_with fail
  refine (withoutSign_any _ _ (by omega) (by omega)).mono ?_
  rintro e w2 ⟨rfl, rfl⟩
  go_wp2_with fail
  refine (reduced_any _ _ _ (by omega) (by omega) (by omega) (by omega)).mono ?_
  rintro e w2 ⟨rfl, hb2⟩
  have hB2 : Below w.heap.size w w2 := Below.trans (by (repeat' (first | (with_reducible exact Below.refl _ _) | (with_reducible assumption) | (with_reducible refine Below.alloc ?_ ?_ _) | (with_reducible refine below_drewN ?_ _) | (with_reducible refine Below.drew ?_) | (with_reducible refine Below.setCell ?_ ?_ _) | go_size))) (hb2.mono (by first | omega | (simp; done) | (simp; omega))); have hz2 := hb2.size; try simp at hz2
  have hl2r : w.heap.size + 1 < w2.heap.size := (by omega); have hx2r0 : w2.cell? ⟨w.heap.size + 1, 0, none⟩ = some (.int .i64 (0)) := (by rw [(hb2.cell (by first | omega | (simp; done) | (simp; omega)))]; (repeat (rw [World.cell?_alloc_lt _ _ _ (by first | omega | (simp; done) | (simp; omega))])); go_cell); have hx2r1 : w2.cell? ⟨w.heap.size + 1, 1, none⟩ = some (.int .i64 (0)) := (by rw [(hb2.cell (by first | omega | (simp; done) | (simp; omega)))]; (repeat (rw [World.cell?_alloc_lt _ _ _ (by first | omega | (simp; done) | (simp; omega))])); go_cell)
  have hp2r0 : w2.frozen? ⟨w.heap.size + 1, 0, none⟩ = false := (by rw [(hb2.frozen (by first | omega | (simp; done) | (simp; omega)))]; first | (with_reducible assumption) | (go_simp; done) | (simp [*]; done)); have hp2r1 : w2.frozen? ⟨w.heap.size + 1, 1, none⟩ = false := (by rw [(hb2.frozen (by first | omega | (simp; done) | (simp; omega)))]; first | (with_reducible assumption) | (go_simp; done) | (simp [*]; done))
  go_wp2_with fail
  refine ret_rat (b := w.heap.size + 1) (by rfl) rfl rfl (by (repeat (rw [World.cell?_alloc_lt _ _ _ (by first | omega | (simp; done) | (simp; omega))])); go_cell) (by (repeat (rw [World.cell?_alloc_lt _ _ _ (by first | omega | (simp; done) | (simp; omega))])); go_cell) rfl ?_
  exact ⟨rfl, by (repeat' (first | (with_reducible exact Below.refl _ _) | (with_reducible assumption) | (with_reducible refine Below.alloc ?_ ?_ _) | (with_reducible refine below_drewN ?_ _) | (with_reducible refine Below.drew ?_) | (with_reducible refine Below.setCell ?_ ?_ _) | go_size))⟩

theorem inB_one : inB 1 1 100 = true := by decide

set_option maxHeartbeats 1000000 in
theorem Scale_any (u v r s lo hi sc a b : Int) (w : World) :
    Calls Try.prog 31 #[.agg #[.int .i64 u, .int .i64 v, .int .i64 r, .int .i64 s, .int .i64 lo, .int .i64 hi], .int .i64 sc, .agg #[.int .i64 a, .int .i64 b]] w
      fun e w' => e = .returned (.tuple #[.int .i64 (Arm.scV u v r s lo hi a b sc (inB sc 1 100)), .int .i64 (Arm.cE u v r s lo hi a b (inB sc 1 100))]) ∧ Below w.heap.size w w' := by
  by_cases hz : Arm.cE u v r s lo hi a b (inB sc 1 100) = 0
  · have HH := Lib.hid (Arm.cE_zero.1 hz)
    have HV : Hid (Arm.scV u v r s lo hi a b sc (inB sc 1 100) = Arm.near (Arm.scT v s a) (Arm.scB u r b sc) lo hi) := by unfold Arm.scV; rw [if_pos hz]; rfl
    have HZ := Lib.hid hz
    clear hz
    go_enter Try.func31, Try.ntmps31
    go_wp2_with fail
    refine (wishCheck_any u v r s lo hi a b sc _).mono ?_
    rintro e w1 ⟨rfl, hb1⟩
    have hB1 : Below w.heap.size w w1 := Below.trans (by (repeat' (first | (with_reducible exact Below.refl _ _) | (with_reducible assumption) | (with_reducible refine Below.alloc ?_ ?_ _) | (with_reducible refine below_drewN ?_ _) | (with_reducible refine Below.drew ?_) | (with_reducible refine Below.setCell ?_ ?_ _) | go_size))) (hb1.mono (by first | omega | (simp; done) | (simp; omega))); have hz1 := hb1.size; try simp at hz1
    have hl1a : w.heap.size + 1 + 1 < w1.heap.size := (by omega); have hx1a0 : w1.cell? ⟨w.heap.size + 1 + 1, 0, none⟩ = some (.int .i64 (u)) := (by rw [(hb1.cell (by first | omega | (simp; done) | (simp; omega)))]; (repeat (rw [World.cell?_alloc_lt _ _ _ (by first | omega | (simp; done) | (simp; omega))])); go_cell); have hx1a1 : w1.cell? ⟨w.heap.size + 1 + 1, 1, none⟩ = some (.int .i64 (v)) := (by rw [(hb1.cell (by first | omega | (simp; done) | (simp; omega)))]; (repeat (rw [World.cell?_alloc_lt _ _ _ (by first | omega | (simp; done) | (simp; omega))])); go_cell); have hx1a2 : w1.cell? ⟨w.heap.size + 1 + 1, 2, none⟩ = some (.int .i64 (r)) := (by rw [(hb1.cell (by first | omega | (simp; done) | (simp; omega)))]; (repeat (rw [World.cell?_alloc_lt _ _ _ (by first | omega | (simp; done) | (simp; omega))])); go_cell); have hx1a3 : w1.cell? ⟨w.heap.size + 1 + 1, 3, none⟩ = some (.int .i64 (s)) := (by rw [(hb1.cell (by first | omega | (simp; done) | (simp; omega)))]; (repeat (rw [World.cell?_alloc_lt _ _ _ (by first | omega | (simp; done) | (simp; omega))])); go_cell); have hx1a4 : w1.cell? ⟨w.heap.size + 1 + 1, 4, none⟩ = some (.int .i64 (lo)) := (by rw [(hb1.cell (by first | omega | (simp; done) | (simp; omega)))]; (repeat (rw [World.cell?_alloc_lt _ _ _ (by first | omega | (simp; done) | (simp; omega))])); go_cell); have hx1a5 : w1.cell? ⟨w.heap.size + 1 + 1, 5, none⟩ = some (.int .i64 (hi)) := (by rw [(hb1.cell (by first | omega | (simp; done) | (simp; omega)))]; (repeat (rw [World.cell?_alloc_lt _ _ _ (by first | omega | (simp; done) | (simp; omega))])); go_cell); have hx1a6 : w1.cell? ⟨w.heap.size + 1 + 1, 6, none⟩ = some (.int .i64 (a)) := (by rw [(hb1.cell (by first | omega | (simp; done) | (simp; omega)))]; (repeat (rw [World.cell?_alloc_lt _ _ _ (by first | omega | (simp; done) | (simp; omega))])); go_cell); have hx1a7 : w1.cell? ⟨w.heap.size + 1 + 1, 7, none⟩ = some (.int .i64 (b)) := (by rw [(hb1.cell (by first | omega | (simp; done) | (simp; omega)))]; (repeat (rw [World.cell?_alloc_lt _ _ _ (by first | omega | (simp; done) | (simp; omega))])); go_cell); have hx1a8 : w1.cell? ⟨w.heap.size + 1 + 1, 8, none⟩ = some (.int .i64 (sc)) := (by rw [(hb1.cell (by first | omega | (simp; done) | (simp; omega)))]; (repeat (rw [World.cell?_alloc_lt _ _ _ (by first | omega | (simp; done) | (simp; omega))])); go_cell)
    rw [HZ.out]
    go_wp2_with fail
    refine (wishNearest_any u v r s lo hi a b sc _ HH.out.1 HH.out.2.1 HH.out.2.2.2 (inB_true.1 HH.out.2.2.1).1 (inB_true.1 HH.out.2.2.1).2).mono ?_
    rintro e w2 ⟨rfl, hb2⟩
    have hB2 : Below w.heap.size w w2 := Below.trans (by (repeat' (first | (with_reducible exact Below.refl _ _) | (with_reducible assumption) | (with_reducible refine Below.alloc ?_ ?_ _) | (with_reducible refine below_drewN ?_ _) | (with_reducible refine Below.drew ?_) | (with_reducible refine Below.setCell ?_ ?_ _) | go_size))) (hb2.mono (by first | omega | (simp; done) | (simp; omega))); have hz2 := hb2.size; try simp at hz2
    go_wp2_with fail
    go_ret2
    exact ⟨ret_2 HV.out.symm HZ.out.symm, by (repeat' (first | (with_reducible exact Below.refl _ _) | (with_reducible assumption) | (with_reducible refine Below.alloc ?_ ?_ _) | (with_reducible refine below_drewN ?_ _) | (with_reducible refine Below.drew ?_) | (with_reducible refine Below.setCell ?_ ?_ _) | go_size))⟩
  · have HV : Hid (Arm.scV u v r s lo hi a b sc (inB sc 1 100) = 0) := by unfold Arm.scV; rw [if_neg hz]; rfl
    have hz' : (Arm.cE u v r s lo hi a b (inB sc 1 100) != 0) = true := by simpa using hz
    go_enter Try.func31, Try.ntmps31
    go_wp2_with fail
    refine (wishCheck_any u v r s lo hi a b sc _).mono ?_
    rintro e w1 ⟨rfl, hb1⟩
    have hB1 : Below w.heap.size w w1 := Below.trans (by (repeat' (first | (with_reducible exact Below.refl _ _) | (with_reducible assumption) | (with_reducible refine Below.alloc ?_ ?_ _) | (with_reducible refine below_drewN ?_ _) | (with_reducible refine Below.drew ?_) | (with_reducible refine Below.setCell ?_ ?_ _) | go_size))) (hb1.mono (by first | omega | (simp; done) | (simp; omega))); have hz1 := hb1.size; try simp at hz1
    go_wp2_with fail
    go_ret2
    exact ⟨ret_2 HV.out.symm rfl, by (repeat' (first | (with_reducible exact Below.refl _ _) | (with_reducible assumption) | (with_reducible refine Below.alloc ?_ ?_ _) | (with_reducible refine below_drewN ?_ _) | (with_reducible refine Below.drew ?_) | (with_reducible refine Below.setCell ?_ ?_ _) | go_size))⟩

set_option maxHeartbeats 400000 in
theorem Set_any (u v r s lo hi a b : Int) (w : World) :
    Calls Try.prog 27 #[.agg #[.int .i64 u, .int .i64 v, .int .i64 r, .int .i64 s, .int .i64 lo, .int .i64 hi], .agg #[.int .i64 a, .int .i64 b]] w
      fun e w' => e = .returned (.tuple #[.int .i64 (Arm.scV u v r s lo hi a b 1 true), .int .i64 (Arm.cE u v r s lo hi a b true)]) ∧ Below w.heap.size w w' := by
  have H := Lib.hid inB_one
  go_enter Try.func27, Try.ntmps27
  go_wp2_with fail
  refine (Scale_any u v r s lo hi 1 a b _).mono ?_
  rintro e w1 ⟨rfl, hb1⟩
  have hB1 : Below w.heap.size w w1 := Below.trans (by (repeat' (first | (with_reducible exact Below.refl _ _) | (with_reducible assumption) | (with_reducible refine Below.alloc ?_ ?_ _) | (with_reducible refine below_drewN ?_ _) | (with_reducible refine Below.drew ?_) | (with_reducible refine Below.setCell ?_ ?_ _) | go_size))) (hb1.mono (by first | omega | (simp; done) | (simp; omega))); have hz1 := hb1.size; try simp at hz1
  rw [H.out]
  go_wp2_with fail
  go_ret2
  exact ⟨rfl, by (repeat' (first | (with_reducible exact Below.refl _ _) | (with_reducible assumption) | (with_reducible refine Below.alloc ?_ ?_ _) | (with_reducible refine below_drewN ?_ _) | (with_reducible refine Below.drew ?_) | (with_reducible refine Below.setCell ?_ ?_ _) | go_size))⟩
end Go.Proofs.Ytfjcmmdfipppoaa
