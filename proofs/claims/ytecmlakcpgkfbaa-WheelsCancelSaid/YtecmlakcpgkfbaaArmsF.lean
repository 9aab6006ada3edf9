/- Contracts of the settings of arms. -/
import Derived.Test.YtecmlakcpgkfbaaArmsE
namespace Go.Proofs.Ytecmlakcpgkfbaa
open Go.RowKit

set_option maxHeartbeats 1000000 in
theorem checkArm_any (u v r s lo hi : Int) (w : World) :
    Calls Try.prog 89 #[.agg #[.int .i64 u, .int .i64 v, .int .i64 r, .int .i64 s, .int .i64 lo, .int .i64 hi]] w fun e w' => e = .returned (.int .i64 (Arm.aE u v r s lo hi)) ∧ Below w.heap.size w w' := by
  have i0 : ∀ w, (Instr.index 145 (.agg #[.int .i64 u, .int .i64 v, .int .i64 r, .int .i64 s]) (.int .i64 0)).run Try.prog w = .ok (.int .i64 u) w := fun _ => by kernel_rfl
  have i1 : ∀ w, (Instr.index 145 (.agg #[.int .i64 u, .int .i64 v, .int .i64 r, .int .i64 s]) (.int .i64 1)).run Try.prog w = .ok (.int .i64 v) w := fun _ => by kernel_rfl
  have i2 : ∀ w, (Instr.index 145 (.agg #[.int .i64 u, .int .i64 v, .int .i64 r, .int .i64 s]) (.int .i64 2)).run Try.prog w = .ok (.int .i64 r) w := fun _ => by kernel_rfl
  have i3 : ∀ w, (Instr.index 145 (.agg #[.int .i64 u, .int .i64 v, .int .i64 r, .int .i64 s]) (.int .i64 3)).run Try.prog w = .ok (.int .i64 s) w := fun _ => by kernel_rfl
  go_enter Try.func89, Try.ntmps89
  go_wp2
  refine wp_loop_rounds 5 ?_
  repeat any_goals (rw [rounds_succ]; go_wp2)
  all_goals go_returns
  all_goals refine ⟨ret_i ?_, by (repeat' (first | (with_reducible exact Below.refl _ _) | (with_reducible assumption) | (with_reducible refine Below.alloc ?_ ?_ _) | (with_reducible refine below_drewN ?_ _) | (with_reducible refine Below.drew ?_) | (with_reducible refine Below.setCell ?_ ?_ _) | go_size))⟩
  all_goals first | exact (Arm.aE_no (by unfold Arm.armP; omega)).symm | exact (Arm.aE_yes (by unfold Arm.armP; omega)).symm

theorem isSetting_any (u v r s lo hi n : Int) (w : World) :
    Calls Try.prog 90 #[.agg #[.int .i64 u, .int .i64 v, .int .i64 r, .int .i64 s, .int .i64 lo, .int .i64 hi], .int .i64 n] w fun e w' => e = .returned (.bool (inB n lo hi)) ∧ Below w.heap.size w w' := by
  go_enter Try.func90, Try.ntmps90
  go_wp2
  all_goals
    go_returns
    refine ⟨ret_b ?_, by (repeat' (first | (with_reducible exact Below.refl _ _) | (with_reducible assumption) | (with_reducible refine Below.alloc ?_ ?_ _) | (with_reducible refine below_drewN ?_ _) | (with_reducible refine Below.drew ?_) | (with_reducible refine Below.setCell ?_ ?_ _) | go_size))⟩
    rw [Bool.eq_iff_iff, inB_true]
    simp
    try omega

set_option maxHeartbeats 400000 in
theorem oneStep_any (u v r s lo hi : Int) (w : World) (h : Arm.armP u v r s lo hi) :
    Calls Try.prog 91 #[.agg #[.int .i64 u, .int .i64 v, .int .i64 r, .int .i64 s, .int .i64 lo, .int .i64 hi]] w fun e w' => e = .returned (.tuple #[.int .i64 (u * r), .int .i64 (v * s)]) ∧ Below w.heap.size w w' := by
  have m1 := Arm.mul_pos_bd h.1.1.1 h.1.1.2 h.2.1.1.1 h.2.1.1.2
  have m2 := Arm.mul_pos_bd h.1.2.1 h.1.2.2 h.2.1.2.1 h.2.1.2.2
  go_enter Try.func91, Try.ntmps91
  go_wp2
  go_quiet (fail)
  go_wp2
  go_ret2
  exact ⟨rfl, by (repeat' (first | (with_reducible exact Below.refl _ _) | (with_reducible assumption) | (with_reducible refine Below.alloc ?_ ?_ _) | (with_reducible refine below_drewN ?_ _) | (with_reducible refine Below.drew ?_) | (with_reducible refine Below.setCell ?_ ?_ _) | go_size))⟩

end Go.Proofs.Ytecmlakcpgkfbaa
