/- Contract of the specification's Nearer. -/
import Derived.Test.YtfjcmmdfipppoaaArmsE
import Derived.Test.YtfjcmmdfipppoaaArmsV
namespace Go.Proofs.Ytfjcmmdfipppoaa
open Go.RowKit

set_option maxRecDepth 100000 in
set_option maxHeartbeats 1000000 in
theorem Nearer_any (p q p' q' n d : Int) (w : World) (h1 : -1000000000000000000 ≤ p * d ∧ p * d ≤ 1000000000000000000) (h2 : -1000000000000000000 ≤ n * q ∧ n * q ≤ 1000000000000000000)
    (h3 : -1000000000000000000 ≤ p' * d ∧ p' * d ≤ 1000000000000000000) (h4 : -1000000000000000000 ≤ n * q' ∧ n * q' ≤ 1000000000000000000)
    (h5 : Best.dst n d p q * q' ≤ 9000000000000000000 ∧ 0 ≤ q') (h6 : Best.dst n d p' q' * q ≤ 9000000000000000000 ∧ 0 ≤ q) :
    Calls Try.prog 42 #[.agg #[.int .i64 p, .int .i64 q], .agg #[.int .i64 p', .int .i64 q'], .agg #[.int .i64 n, .int .i64 d]] w fun e w' => e = .returned (.bool (Best.nearB n d p q p' q')) ∧ Below w.heap.size w w' := by
  have k1 : 0 ≤ Best.dst n d p q * q' := Int.mul_nonneg (by unfold Best.dst; omega) h5.2
  have k2 : 0 ≤ Best.dst n d p' q' * q := Int.mul_nonneg (by unfold Best.dst; omega) h6.2
  have x1 : Hid (∀ W, Calls Try.prog 78 #[.int .i64 (p * d - n * q)] W fun e w' => e = .returned (.int .i64 (Best.dst n d p q)) ∧ w' = W) := fun W => by
    have := Size_any (p * d - n * q) W (by omega) (by omega)
    have e : ((p * d - n * q).natAbs : Int) = Best.dst n d p q := by unfold Best.dst; omega
    rw [e] at this
    exact this.mono fun _ _ h => ⟨h.1, h.2.symm⟩
  have x2 : Hid (∀ W, Calls Try.prog 78 #[.int .i64 (p' * d - n * q')] W fun e w' => e = .returned (.int .i64 (Best.dst n d p' q')) ∧ w' = W) := fun W => by
    have := Size_any (p' * d - n * q') W (by omega) (by omega)
    have e : ((p' * d - n * q').natAbs : Int) = Best.dst n d p' q' := by unfold Best.dst; omega
    rw [e] at this
    exact this.mono fun _ _ h => ⟨h.1, h.2.symm⟩
  have w1 : IntKind.i64.wrap (p * d) = p * d := IntWalk.i64_in _ (by omega)
  have w2 : IntKind.i64.wrap (n * q) = n * q := IntWalk.i64_in _ (by omega)
  have w3 : IntKind.i64.wrap (p' * d) = p' * d := IntWalk.i64_in _ (by omega)
  have w4 : IntKind.i64.wrap (n * q') = n * q' := IntWalk.i64_in _ (by omega)
  have w5 : IntKind.i64.wrap (p * d - n * q) = p * d - n * q := IntWalk.i64_in _ (by omega)
  have w6 : IntKind.i64.wrap (p' * d - n * q') = p' * d - n * q' := IntWalk.i64_in _ (by omega)
  have w7 : IntKind.i64.wrap (Best.dst n d p q * q') = Best.dst n d p q * q' := IntWalk.i64_in _ (by omega)
  have w8 : IntKind.i64.wrap (Best.dst n d p' q' * q) = Best.dst n d p' q' * q := IntWalk.i64_in _ (by omega)
  have hB := Lib.hid (show Best.nearB n d p q p' q' = decide (Best.dst n d p q * q' < Best.dst n d p' q' * q) from rfl)
  generalize Best.dst n d p q = A at *
  generalize Best.dst n d p' q' = B at *
  generalize Best.nearB n d p q p' q' = V at *
  clear h1 h2 h3 h4 h5 h6 k1 k2
  go_enter Try.func42, Try.ntmps42
  go_wp2_with fail
  go_quiet ((go_at_call 78; first | (with_reducible exact Calls.quiet_of_same (x1.out _)) | (with_reducible exact Calls.quiet_of_same (x2.out _))))
  go_wp2_with fail
  go_returns
  exact ⟨ret_b hB.out.symm, by (repeat' (first | (with_reducible exact Below.refl _ _) | (with_reducible assumption) | (with_reducible refine Below.alloc ?_ ?_ _) | (with_reducible refine below_drewN ?_ _) | (with_reducible refine Below.drew ?_) | (with_reducible refine Below.setCell ?_ ?_ _) | go_size))⟩
theorem Nearer_ok {p q p' q' n d : Int} (h1 : Arm.ok p q) (h2 : Arm.ok p' q') (h3 : Arm.ok n d) (w : World) :
    Calls Try.prog 42 #[.agg #[.int .i64 p, .int .i64 q], .agg #[.int .i64 p', .int .i64 q'], .agg #[.int .i64 n, .int .i64 d]] w fun e w' => e = .returned (.bool (Best.nearB n d p q p' q')) ∧ Below w.heap.size w w' := by
  have m1 := Arm.mul_bd h1.2.1 h1.2.2 (y := 1000000) (b := d) (by have := h3.1; omega) h3.1.2
  have m2 := Arm.mul_bd h3.2.1 h3.2.2 (y := 1000000) (b := q) (by have := h1.1; omega) h1.1.2
  have m3 := Arm.mul_bd h2.2.1 h2.2.2 (y := 1000000) (b := d) (by have := h3.1; omega) h3.1.2
  have m4 := Arm.mul_bd h3.2.1 h3.2.2 (y := 1000000) (b := q') (by have := h2.1; omega) h2.1.2
  have d1 : Best.dst n d p q ≤ 2000000000000 ∧ -2000000000000 ≤ Best.dst n d p q := by unfold Best.dst; omega
  have d2 : Best.dst n d p' q' ≤ 2000000000000 ∧ -2000000000000 ≤ Best.dst n d p' q' := by unfold Best.dst; omega
  have m5 := Arm.mul_bd d1.2 d1.1 (y := 1000000) (b := q') (by have := h2.1; omega) h2.1.2
  have m6 := Arm.mul_bd d2.2 d2.1 (y := 1000000) (b := q) (by have := h1.1; omega) h1.1.2
  exact Nearer_any p q p' q' n d w (by omega) (by omega) (by omega) (by omega) ⟨by omega, by have := h2.1; omega⟩ ⟨by omega, by have := h1.1; omega⟩
theorem Nearer_no {p q p' q' n d : Int} (h1 : Arm.ok p q) (h2 : Arm.ok p' q') (h3 : Arm.ok n d) (h : Best.nearB n d p q p' q' = false) : ∀ w,
    Calls Try.prog 42 #[.agg #[.int .i64 p, .int .i64 q], .agg #[.int .i64 p', .int .i64 q'], .agg #[.int .i64 n, .int .i64 d]] w fun e w' => e = .returned (.bool false) ∧ Below w.heap.size w w' := fun w => by
  have := Nearer_ok h1 h2 h3 w
  rw [h] at this
  exact this
end Go.Proofs.Ytfjcmmdfipppoaa
