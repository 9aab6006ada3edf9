/- Contracts of the settings of arms. -/
import Derived.Test.YtfjcmmdfipppoaaArmsE
namespace Go.Proofs.Ytfjcmmdfipppoaa
open Go.RowKit

set_option maxHeartbeats 1000000 in
theorem checkArm_any (u v r s lo hi : Int) (w : World) :
    Calls Try.prog 65 #[.agg #[.int .i64 u, .int .i64 v, .int .i64 r, .int .i64 s, .int .i64 lo, .int .i64 hi]] w fun e w' => e = .returned (.int .i64 (Arm.aE u v r s lo hi)) ∧ Below w.heap.size w w' := by
  have i0 : ∀ w, (Instr.index 111 (.agg #[.int .i64 u, .int .i64 v, .int .i64 r, .int .i64 s]) (.int .i64 0)).run Try.prog w = .ok (.int .i64 u) w := fun _ => by kernel_rfl
  have i1 : ∀ w, (Instr.index 111 (.agg #[.int .i64 u, .int .i64 v, .int .i64 r, .int .i64 s]) (.int .i64 1)).run Try.prog w = .ok (.int .i64 v) w := fun _ => by kernel_rfl
  have i2 : ∀ w, (Instr.index 111 (.agg #[.int .i64 u, .int .i64 v, .int .i64 r, .int .i64 s]) (.int .i64 2)).run Try.prog w = .ok (.int .i64 r) w := fun _ => by kernel_rfl
  have i3 : ∀ w, (Instr.index 111 (.agg #[.int .i64 u, .int .i64 v, .int .i64 r, .int .i64 s]) (.int .i64 3)).run Try.prog w = .ok (.int .i64 s) w := fun _ => by kernel_rfl
  go_enter Try.func65, Try.ntmps65
  go_wp2
  refine wp_loop_rounds 5 ?_
  repeat any_goals (rw [rounds_succ]; go_wp2)
  all_goals go_returns
  all_goals refine ⟨ret_i ?_, by (repeat' (first | (with_reducible exact Below.refl _ _) | (with_reducible assumption) | (with_reducible refine Below.alloc ?_ ?_ _) | (with_reducible refine below_drewN ?_ _) | (with_reducible refine Below.drew ?_) | (with_reducible refine Below.setCell ?_ ?_ _) | go_size))⟩
  all_goals first | exact (Arm.aE_no (by unfold Arm.armP; omega)).symm | exact (Arm.aE_yes (by unfold Arm.armP; omega)).symm

theorem isSetting_any (u v r s lo hi n : Int) (w : World) :
    Calls Try.prog 66 #[.agg #[.int .i64 u, .int .i64 v, .int .i64 r, .int .i64 s, .int .i64 lo, .int .i64 hi], .int .i64 n] w fun e w' => e = .returned (.bool (inB n lo hi)) ∧ Below w.heap.size w w' := by
  go_enter Try.func66, Try.ntmps66
  go_wp2
  all_goals
    go_returns
    refine ⟨ret_b ?_, by (repeat' (first | (with_reducible exact Below.refl _ _) | (with_reducible assumption) | (with_reducible refine Below.alloc ?_ ?_ _) | (with_reducible refine below_drewN ?_ _) | (with_reducible refine Below.drew ?_) | (with_reducible refine Below.setCell ?_ ?_ _) | go_size))⟩
    rw [Bool.eq_iff_iff, inB_true]
    simp
    try omega

set_option maxHeartbeats 400000 in
theorem oneStep_any (u v r s lo hi : Int) (w : World) (h : Arm.armP u v r s lo hi) :
    Calls Try.prog 67 #[.agg #[.int .i64 u, .int .i64 v, .int .i64 r, .int .i64 s, .int .i64 lo, .int .i64 hi]] w fun e w' => e = .returned (.tuple #[.int .i64 (u * r), .int .i64 (v * s)]) ∧ Below w.heap.size w w' := by
  have m1 := Arm.mul_pos_bd h.1.1.1 h.1.1.2 h.2.1.1.1 h.2.1.1.2
  have m2 := Arm.mul_pos_bd h.1.2.1 h.1.2.2 h.2.1.2.1 h.2.1.2.2
  go_enter Try.func67, Try.ntmps67
  go_wp2
  go_quiet (fail)
  go_wp2
  go_ret2
  exact ⟨rfl, by (repeat' (first | (with_reducible exact Below.refl _ _) | (with_reducible assumption) | (with_reducible refine Below.alloc ?_ ?_ _) | (with_reducible refine below_drewN ?_ _) | (with_reducible refine Below.drew ?_) | (with_reducible refine Below.setCell ?_ ?_ _) | go_size))⟩

set_option maxHeartbeats 1000000 in
theorem wishCheck_any (u v r s lo hi a b sc : Int) (w : World) :
    Calls Try.prog 71 #[.agg #[.int .i64 u, .int .i64 v, .int .i64 r, .int .i64 s, .int .i64 lo, .int .i64 hi, .int .i64 a, .int .i64 b, .int .i64 sc]] w
      fun e w' => e = .returned (.int .i64 (Arm.cE u v r s lo hi a b (inB sc 1 100))) ∧ Below w.heap.size w w' := by
  refine Arm.cE_cases (u := u) (v := v) (r := r) (s := s) (lo := lo) (hi := hi) (a := a) (b := b) (is := inB sc 1 100) (fun h1 => ?_) (fun h1 h2 => ?_) (fun h1 h2 h3 => ?_) (fun h1 h2 h3 => ?_)
  · have H := Lib.hid (Arm.cE_arm (a := a) (b := b) (is := inB sc 1 100) h1)
    have H1 := Lib.hid (Arm.aE_no h1)
    clear h1
    go_enter Try.func71, Try.ntmps71
    go_wp2_with fail
    refine (checkArm_any u v r s lo hi _).mono ?_
    rintro e w1 ⟨rfl, hb1⟩
    have hB1 : Below w.heap.size w w1 := Below.trans (by (repeat' (first | (with_reducible exact Below.refl _ _) | (with_reducible assumption) | (with_reducible refine Below.alloc ?_ ?_ _) | (with_reducible refine below_drewN ?_ _) | (with_reducible refine Below.drew ?_) | (with_reducible refine Below.setCell ?_ ?_ _) | go_size))) (hb1.mono (by first | omega | (simp; done) | (simp; omega))); have hz1 := hb1.size; try simp at hz1
    rw [H1.out]
    go_wp2_with fail
    go_returns
    exact ⟨ret_i H.out.symm, by (repeat' (first | (with_reducible exact Below.refl _ _) | (with_reducible assumption) | (with_reducible refine Below.alloc ?_ ?_ _) | (with_reducible refine below_drewN ?_ _) | (with_reducible refine Below.drew ?_) | (with_reducible refine Below.setCell ?_ ?_ _) | go_size))⟩
  · have H := Lib.hid (Arm.cE_ratio (is := inB sc 1 100) h1 h2)
    have H1 := Lib.hid (Arm.aE_yes h1)
    have H2 : Hid (Arm.vE a b = 10) := by unfold Arm.vE; rw [if_neg (fun e => h2 (Arm.okB_true.1 e))]; rfl
    clear h1 h2
    go_enter Try.func71, Try.ntmps71
    go_wp2_with fail
    refine (checkArm_any u v r s lo hi _).mono ?_
    rintro e w1 ⟨rfl, hb1⟩
    have hB1 : Below w.heap.size w w1 := Below.trans (by (repeat' (first | (with_reducible exact Below.refl _ _) | (with_reducible assumption) | (with_reducible refine Below.alloc ?_ ?_ _) | (with_reducible refine below_drewN ?_ _) | (with_reducible refine Below.drew ?_) | (with_reducible refine Below.setCell ?_ ?_ _) | go_size))) (hb1.mono (by first | omega | (simp; done) | (simp; omega))); have hz1 := hb1.size; try simp at hz1
    have hl1a : w.heap.size < w1.heap.size := (by omega); have hx1a0 : w1.cell? ⟨w.heap.size, 0, none⟩ = some (.int .i64 (u)) := (by rw [(hb1.cell (by first | omega | (simp; done) | (simp; omega)))]; (repeat (rw [World.cell?_alloc_lt _ _ _ (by first | omega | (simp; done) | (simp; omega))])); go_cell); have hx1a1 : w1.cell? ⟨w.heap.size, 1, none⟩ = some (.int .i64 (v)) := (by rw [(hb1.cell (by first | omega | (simp; done) | (simp; omega)))]; (repeat (rw [World.cell?_alloc_lt _ _ _ (by first | omega | (simp; done) | (simp; omega))])); go_cell); have hx1a2 : w1.cell? ⟨w.heap.size, 2, none⟩ = some (.int .i64 (r)) := (by rw [(hb1.cell (by first | omega | (simp; done) | (simp; omega)))]; (repeat (rw [World.cell?_alloc_lt _ _ _ (by first | omega | (simp; done) | (simp; omega))])); go_cell); have hx1a3 : w1.cell? ⟨w.heap.size, 3, none⟩ = some (.int .i64 (s)) := (by rw [(hb1.cell (by first | omega | (simp; done) | (simp; omega)))]; (repeat (rw [World.cell?_alloc_lt _ _ _ (by first | omega | (simp; done) | (simp; omega))])); go_cell); have hx1a4 : w1.cell? ⟨w.heap.size, 4, none⟩ = some (.int .i64 (lo)) := (by rw [(hb1.cell (by first | omega | (simp; done) | (simp; omega)))]; (repeat (rw [World.cell?_alloc_lt _ _ _ (by first | omega | (simp; done) | (simp; omega))])); go_cell); have hx1a5 : w1.cell? ⟨w.heap.size, 5, none⟩ = some (.int .i64 (hi)) := (by rw [(hb1.cell (by first | omega | (simp; done) | (simp; omega)))]; (repeat (rw [World.cell?_alloc_lt _ _ _ (by first | omega | (simp; done) | (simp; omega))])); go_cell); have hx1a6 : w1.cell? ⟨w.heap.size, 6, none⟩ = some (.int .i64 (a)) := (by rw [(hb1.cell (by first | omega | (simp; done) | (simp; omega)))]; (repeat (rw [World.cell?_alloc_lt _ _ _ (by first | omega | (simp; done) | (simp; omega))])); go_cell); have hx1a7 : w1.cell? ⟨w.heap.size, 7, none⟩ = some (.int .i64 (b)) := (by rw [(hb1.cell (by first | omega | (simp; done) | (simp; omega)))]; (repeat (rw [World.cell?_alloc_lt _ _ _ (by first | omega | (simp; done) | (simp; omega))])); go_cell); have hx1a8 : w1.cell? ⟨w.heap.size, 8, none⟩ = some (.int .i64 (sc)) := (by rw [(hb1.cell (by first | omega | (simp; done) | (simp; omega)))]; (repeat (rw [World.cell?_alloc_lt _ _ _ (by first | omega | (simp; done) | (simp; omega))])); go_cell)
    rw [H1.out]
    go_wp2_with fail
    refine (checkRatios_one _ a b _ (by first | omega | (simp; done) | (simp; omega)) (by go_cell) (by go_cell)).mono ?_
    rintro e w2 ⟨rfl, hb2⟩
    have hB2 : Below w.heap.size w w2 := Below.trans (by (repeat' (first | (with_reducible exact Below.refl _ _) | (with_reducible assumption) | (with_reducible refine Below.alloc ?_ ?_ _) | (with_reducible refine below_drewN ?_ _) | (with_reducible refine Below.drew ?_) | (with_reducible refine Below.setCell ?_ ?_ _) | go_size))) (hb2.mono (by first | omega | (simp; done) | (simp; omega))); have hz2 := hb2.size; try simp at hz2
    rw [H2.out]
    go_wp2_with fail
    go_returns
    exact ⟨ret_i H.out.symm, by (repeat' (first | (with_reducible exact Below.refl _ _) | (with_reducible assumption) | (with_reducible refine Below.alloc ?_ ?_ _) | (with_reducible refine below_drewN ?_ _) | (with_reducible refine Below.drew ?_) | (with_reducible refine Below.setCell ?_ ?_ _) | go_size))⟩
  all_goals
    have H1 := Lib.hid (Arm.aE_yes h1)
    have H2 : Hid (Arm.vE a b = 0) := by unfold Arm.vE; rw [if_pos (Arm.okB_true.2 h2)]; rfl
    have H0 := Lib.hid h1
    have H00 := Lib.hid h2
    have H3 := Lib.hid h3
    have h3' := h3
    rw [inB_true] at h3'
    clear h1 h2 h3
    go_enter Try.func71, Try.ntmps71
    go_wp2_with fail
    refine (checkArm_any u v r s lo hi _).mono ?_
    rintro e w1 ⟨rfl, hb1⟩
    have hB1 : Below w.heap.size w w1 := Below.trans (by (repeat' (first | (with_reducible exact Below.refl _ _) | (with_reducible assumption) | (with_reducible refine Below.alloc ?_ ?_ _) | (with_reducible refine below_drewN ?_ _) | (with_reducible refine Below.drew ?_) | (with_reducible refine Below.setCell ?_ ?_ _) | go_size))) (hb1.mono (by first | omega | (simp; done) | (simp; omega))); have hz1 := hb1.size; try simp at hz1
    have hl1a : w.heap.size < w1.heap.size := (by omega); have hx1a0 : w1.cell? ⟨w.heap.size, 0, none⟩ = some (.int .i64 (u)) := (by rw [(hb1.cell (by first | omega | (simp; done) | (simp; omega)))]; (repeat (rw [World.cell?_alloc_lt _ _ _ (by first | omega | (simp; done) | (simp; omega))])); go_cell); have hx1a1 : w1.cell? ⟨w.heap.size, 1, none⟩ = some (.int .i64 (v)) := (by rw [(hb1.cell (by first | omega | (simp; done) | (simp; omega)))]; (repeat (rw [World.cell?_alloc_lt _ _ _ (by first | omega | (simp; done) | (simp; omega))])); go_cell); have hx1a2 : w1.cell? ⟨w.heap.size, 2, none⟩ = some (.int .i64 (r)) := (by rw [(hb1.cell (by first | omega | (simp; done) | (simp; omega)))]; (repeat (rw [World.cell?_alloc_lt _ _ _ (by first | omega | (simp; done) | (simp; omega))])); go_cell); have hx1a3 : w1.cell? ⟨w.heap.size, 3, none⟩ = some (.int .i64 (s)) := (by rw [(hb1.cell (by first | omega | (simp; done) | (simp; omega)))]; (repeat (rw [World.cell?_alloc_lt _ _ _ (by first | omega | (simp; done) | (simp; omega))])); go_cell); have hx1a4 : w1.cell? ⟨w.heap.size, 4, none⟩ = some (.int .i64 (lo)) := (by rw [(hb1.cell (by first | omega | (simp; done) | (simp; omega)))]; (repeat (rw [World.cell?_alloc_lt _ _ _ (by first | omega | (simp; done) | (simp; omega))])); go_cell); have hx1a5 : w1.cell? ⟨w.heap.size, 5, none⟩ = some (.int .i64 (hi)) := (by rw [(hb1.cell (by first | omega | (simp; done) | (simp; omega)))]; (repeat (rw [World.cell?_alloc_lt _ _ _ (by first | omega | (simp; done) | (simp; omega))])); go_cell); have hx1a6 : w1.cell? ⟨w.heap.size, 6, none⟩ = some (.int .i64 (a)) := (by rw [(hb1.cell (by first | omega | (simp; done) | (simp; omega)))]; (repeat (rw [World.cell?_alloc_lt _ _ _ (by first | omega | (simp; done) | (simp; omega))])); go_cell); have hx1a7 : w1.cell? ⟨w.heap.size, 7, none⟩ = some (.int .i64 (b)) := (by rw [(hb1.cell (by first | omega | (simp; done) | (simp; omega)))]; (repeat (rw [World.cell?_alloc_lt _ _ _ (by first | omega | (simp; done) | (simp; omega))])); go_cell); have hx1a8 : w1.cell? ⟨w.heap.size, 8, none⟩ = some (.int .i64 (sc)) := (by rw [(hb1.cell (by first | omega | (simp; done) | (simp; omega)))]; (repeat (rw [World.cell?_alloc_lt _ _ _ (by first | omega | (simp; done) | (simp; omega))])); go_cell)
    rw [H1.out]
    go_wp2_with fail
    refine (checkRatios_one _ a b _ (by first | omega | (simp; done) | (simp; omega)) (by go_cell) (by go_cell)).mono ?_
    rintro e w2 ⟨rfl, hb2⟩
    have hB2 : Below w.heap.size w w2 := Below.trans (by (repeat' (first | (with_reducible exact Below.refl _ _) | (with_reducible assumption) | (with_reducible refine Below.alloc ?_ ?_ _) | (with_reducible refine below_drewN ?_ _) | (with_reducible refine Below.drew ?_) | (with_reducible refine Below.setCell ?_ ?_ _) | go_size))) (hb2.mono (by first | omega | (simp; done) | (simp; omega))); have hz2 := hb2.size; try simp at hz2
    have hl2a : w.heap.size < w2.heap.size := (by omega); have hx2a0 : w2.cell? ⟨w.heap.size, 0, none⟩ = some (.int .i64 (u)) := (by rw [(hb2.cell (by first | omega | (simp; done) | (simp; omega)))]; (repeat (rw [World.cell?_alloc_lt _ _ _ (by first | omega | (simp; done) | (simp; omega))])); go_cell); have hx2a1 : w2.cell? ⟨w.heap.size, 1, none⟩ = some (.int .i64 (v)) := (by rw [(hb2.cell (by first | omega | (simp; done) | (simp; omega)))]; (repeat (rw [World.cell?_alloc_lt _ _ _ (by first | omega | (simp; done) | (simp; omega))])); go_cell); have hx2a2 : w2.cell? ⟨w.heap.size, 2, none⟩ = some (.int .i64 (r)) := (by rw [(hb2.cell (by first | omega | (simp; done) | (simp; omega)))]; (repeat (rw [World.cell?_alloc_lt _ _ _ (by first | omega | (simp; done) | (simp; omega))])); go_cell); have hx2a3 : w2.cell? ⟨w.heap.size, 3, none⟩ = some (.int .i64 (s)) := (by rw [(hb2.cell (by first | omega | (simp; done) | (simp; omega)))]; (repeat (rw [World.cell?_alloc_lt _ _ _ (by first | omega | (simp; done) | (simp; omega))])); go_cell); have hx2a4 : w2.cell? ⟨w.heap.size, 4, none⟩ = some (.int .i64 (lo)) := (by rw [(hb2.cell (by first | omega | (simp; done) | (simp; omega)))]; (repeat (rw [World.cell?_alloc_lt _ _ _ (by first | omega | (simp; done) | (simp; omega))])); go_cell); have hx2a5 : w2.cell? ⟨w.heap.size, 5, none⟩ = some (.int .i64 (hi)) := (by rw [(hb2.cell (by first | omega | (simp; done) | (simp; omega)))]; (repeat (rw [World.cell?_alloc_lt _ _ _ (by first | omega | (simp; done) | (simp; omega))])); go_cell); have hx2a6 : w2.cell? ⟨w.heap.size, 6, none⟩ = some (.int .i64 (a)) := (by rw [(hb2.cell (by first | omega | (simp; done) | (simp; omega)))]; (repeat (rw [World.cell?_alloc_lt _ _ _ (by first | omega | (simp; done) | (simp; omega))])); go_cell); have hx2a7 : w2.cell? ⟨w.heap.size, 7, none⟩ = some (.int .i64 (b)) := (by rw [(hb2.cell (by first | omega | (simp; done) | (simp; omega)))]; (repeat (rw [World.cell?_alloc_lt _ _ _ (by first | omega | (simp; done) | (simp; omega))])); go_cell); have hx2a8 : w2.cell? ⟨w.heap.size, 8, none⟩ = some (.int .i64 (sc)) := (by rw [(hb2.cell (by first | omega | (simp; done) | (simp; omega)))]; (repeat (rw [World.cell?_alloc_lt _ _ _ (by first | omega | (simp; done) | (simp; omega))])); go_cell)
    rw [H2.out]
    go_wp2_with fail
    all_goals first
      | (exfalso; omega)
      | (go_returns; refine ⟨ret_i ?_, by (repeat' (first | (with_reducible exact Below.refl _ _) | (with_reducible assumption) | (with_reducible refine Below.alloc ?_ ?_ _) | (with_reducible refine below_drewN ?_ _) | (with_reducible refine Below.drew ?_) | (with_reducible refine Below.setCell ?_ ?_ _) | go_size))⟩; first | exact (Arm.cE_ok H0.out H00.out H3.out).symm | exact (Arm.cE_arg H0.out H00.out H3.out).symm)
end Go.Proofs.Ytfjcmmdfipppoaa
