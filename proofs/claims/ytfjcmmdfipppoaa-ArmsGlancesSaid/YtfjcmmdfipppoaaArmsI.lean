/- Contracts of the specification's arms. -/
import Derived.Test.YtfjcmmdfipppoaaArmsE
import Derived.Deep.RegionHeld3
import Derived.StillTailTactics
namespace Go.Proofs.Ytfjcmmdfipppoaa
open Go.RowKit

set_option maxHeartbeats 1000000 in
theorem IsArm_any (u v r s lo hi : Int) (w : World) :
    Calls Try.prog 44 #[.agg #[.int .i64 u, .int .i64 v, .int .i64 r, .int .i64 s, .int .i64 lo, .int .i64 hi]] w fun e w' => e = .returned (.bool (Arm.armB u v r s lo hi)) ∧ Below w.heap.size w w' := by
  go_enter Try.func44, Try.ntmps44
  go_wp2_with (go_at_call 46; refine (Within_any _ _ _ _).mono ?_; rintro e w' ⟨rfl, rfl⟩)
  all_goals go_returns
  all_goals refine ⟨ret_b ?_, by (repeat' (first | (with_reducible exact Below.refl _ _) | (with_reducible assumption) | (with_reducible refine Below.alloc ?_ ?_ _) | (with_reducible refine below_drewN ?_ _) | (with_reducible refine Below.drew ?_) | (with_reducible refine Below.setCell ?_ ?_ _) | go_size))⟩
  all_goals rw [Bool.eq_iff_iff, Arm.armB_true]
  all_goals simp only [inB_true, decide_eq_true_eq, Bool.false_eq_true, Arm.armP] at *
  all_goals first | omega | (simp; omega) | (simp; done)

set_option maxHeartbeats 1000000 in
theorem refCheck_any (u v r s lo hi a b : Int) (is : Bool) (w : World) :
    Calls Try.prog 68 #[.agg #[.int .i64 u, .int .i64 v, .int .i64 r, .int .i64 s, .int .i64 lo, .int .i64 hi], .agg #[.int .i64 a, .int .i64 b], .bool is] w
      fun e w' => e = .returned (.int .i64 (Arm.cE u v r s lo hi a b is)) ∧ Below w.heap.size w w' := by
  refine Arm.cE_cases (u := u) (v := v) (r := r) (s := s) (lo := lo) (hi := hi) (a := a) (b := b) (is := is) (fun h1 => ?_) (fun h1 h2 => ?_) (fun h1 h2 h3 => ?_) (fun h1 h2 h3 => ?_)
  · have H := Lib.hid (Arm.cE_arm (a := a) (b := b) (is := is) h1)
    have H1 : Hid (Arm.armB u v r s lo hi = false) := by rw [← Bool.not_eq_true, Arm.armB_true]; exact h1
    clear h1
    go_enter Try.func68, Try.ntmps68
    go_wp2_with fail
    refine (IsArm_any u v r s lo hi _).mono ?_
    rintro e w1 ⟨rfl, hb1⟩
    have hB1 : Below w.heap.size w w1 := Below.trans (by (repeat' (first | (with_reducible exact Below.refl _ _) | (with_reducible assumption) | (with_reducible refine Below.alloc ?_ ?_ _) | (with_reducible refine below_drewN ?_ _) | (with_reducible refine Below.drew ?_) | (with_reducible refine Below.setCell ?_ ?_ _) | go_size))) (hb1.mono (by first | omega | (simp; done) | (simp; omega))); have hz1 := hb1.size; try simp at hz1
    rw [H1.out]
    go_wp2_with fail
    go_returns
    exact ⟨ret_i H.out.symm, by (repeat' (first | (with_reducible exact Below.refl _ _) | (with_reducible assumption) | (with_reducible refine Below.alloc ?_ ?_ _) | (with_reducible refine below_drewN ?_ _) | (with_reducible refine Below.drew ?_) | (with_reducible refine Below.setCell ?_ ?_ _) | go_size))⟩
  · have H := Lib.hid (Arm.cE_ratio (is := is) h1 h2)
    have H1 := Lib.hid (Arm.armB_true.2 h1)
    have H2 : Hid (Arm.okB a b = false) := Arm.okB_false.2 h2
    clear h1 h2
    go_enter Try.func68, Try.ntmps68
    go_wp2_with fail
    refine (IsArm_any u v r s lo hi _).mono ?_
    rintro e w1 ⟨rfl, hb1⟩
    have hB1 : Below w.heap.size w w1 := Below.trans (by (repeat' (first | (with_reducible exact Below.refl _ _) | (with_reducible assumption) | (with_reducible refine Below.alloc ?_ ?_ _) | (with_reducible refine below_drewN ?_ _) | (with_reducible refine Below.drew ?_) | (with_reducible refine Below.setCell ?_ ?_ _) | go_size))) (hb1.mono (by first | omega | (simp; done) | (simp; omega))); have hz1 := hb1.size; try simp at hz1
    have hl1a : w.heap.size + 1 < w1.heap.size := (by omega); have hx1a0 : w1.cell? ⟨w.heap.size + 1, 0, none⟩ = some (.int .i64 (a)) := (by rw [(hb1.cell (by first | omega | (simp; done) | (simp; omega)))]; (repeat (rw [World.cell?_alloc_lt _ _ _ (by first | omega | (simp; done) | (simp; omega))])); go_cell); have hx1a1 : w1.cell? ⟨w.heap.size + 1, 1, none⟩ = some (.int .i64 (b)) := (by rw [(hb1.cell (by first | omega | (simp; done) | (simp; omega)))]; (repeat (rw [World.cell?_alloc_lt _ _ _ (by first | omega | (simp; done) | (simp; omega))])); go_cell)
    rw [H1.out]
    go_wp2_with fail
    refine (IsRatio_any a b _).mono ?_
    rintro e w2 ⟨rfl, hb2⟩
    have hB2 : Below w.heap.size w w2 := Below.trans (by (repeat' (first | (with_reducible exact Below.refl _ _) | (with_reducible assumption) | (with_reducible refine Below.alloc ?_ ?_ _) | (with_reducible refine below_drewN ?_ _) | (with_reducible refine Below.drew ?_) | (with_reducible refine Below.setCell ?_ ?_ _) | go_size))) (hb2.mono (by first | omega | (simp; done) | (simp; omega))); have hz2 := hb2.size; try simp at hz2
    rw [H2.out]
    go_wp2_with fail
    go_returns
    exact ⟨ret_i H.out.symm, by (repeat' (first | (with_reducible exact Below.refl _ _) | (with_reducible assumption) | (with_reducible refine Below.alloc ?_ ?_ _) | (with_reducible refine below_drewN ?_ _) | (with_reducible refine Below.drew ?_) | (with_reducible refine Below.setCell ?_ ?_ _) | go_size))⟩
  all_goals
    have H1 := Lib.hid (Arm.armB_true.2 h1)
    have H2 : Hid (Arm.okB a b = true) := Arm.okB_true.2 h2
    have HC : Hid (Arm.cE u v r s lo hi a b is = 0 ∨ Arm.cE u v r s lo hi a b is = 1) := by first | exact Or.inl (Arm.cE_ok h1 h2 h3) | exact Or.inr (Arm.cE_arg h1 h2 h3)
    have HD : Hid (Arm.cE u v r s lo hi a b is = 0 ↔ is = true ∧ 1 ≤ a) := ⟨fun e => (Arm.cE_zero.1 e).2.2, fun e => Arm.cE_ok h1 h2 e⟩
    clear h1 h2
    cases is
    all_goals
      try simp at h3
    all_goals
      go_enter Try.func68, Try.ntmps68
      go_wp2_with fail
      refine (IsArm_any u v r s lo hi _).mono ?_
      rintro e w1 ⟨rfl, hb1⟩
      have hB1 : Below w.heap.size w w1 := Below.trans (by (repeat' (first | (with_reducible exact Below.refl _ _) | (with_reducible assumption) | (with_reducible refine Below.alloc ?_ ?_ _) | (with_reducible refine below_drewN ?_ _) | (with_reducible refine Below.drew ?_) | (with_reducible refine Below.setCell ?_ ?_ _) | go_size))) (hb1.mono (by first | omega | (simp; done) | (simp; omega))); have hz1 := hb1.size; try simp at hz1
      have hl1a : w.heap.size + 1 < w1.heap.size := (by omega); have hx1a0 : w1.cell? ⟨w.heap.size + 1, 0, none⟩ = some (.int .i64 (a)) := (by rw [(hb1.cell (by first | omega | (simp; done) | (simp; omega)))]; (repeat (rw [World.cell?_alloc_lt _ _ _ (by first | omega | (simp; done) | (simp; omega))])); go_cell); have hx1a1 : w1.cell? ⟨w.heap.size + 1, 1, none⟩ = some (.int .i64 (b)) := (by rw [(hb1.cell (by first | omega | (simp; done) | (simp; omega)))]; (repeat (rw [World.cell?_alloc_lt _ _ _ (by first | omega | (simp; done) | (simp; omega))])); go_cell)
      rw [H1.out]
      go_wp2_with fail
      refine (IsRatio_any a b _).mono ?_
      rintro e w2 ⟨rfl, hb2⟩
      have hB2 : Below w.heap.size w w2 := Below.trans (by (repeat' (first | (with_reducible exact Below.refl _ _) | (with_reducible assumption) | (with_reducible refine Below.alloc ?_ ?_ _) | (with_reducible refine below_drewN ?_ _) | (with_reducible refine Below.drew ?_) | (with_reducible refine Below.setCell ?_ ?_ _) | go_size))) (hb2.mono (by first | omega | (simp; done) | (simp; omega))); have hz2 := hb2.size; try simp at hz2
      have hl2a : w.heap.size + 1 < w2.heap.size := (by omega); have hx2a0 : w2.cell? ⟨w.heap.size + 1, 0, none⟩ = some (.int .i64 (a)) := (by rw [(hb2.cell (by first | omega | (simp; done) | (simp; omega)))]; (repeat (rw [World.cell?_alloc_lt _ _ _ (by first | omega | (simp; done) | (simp; omega))])); go_cell); have hx2a1 : w2.cell? ⟨w.heap.size + 1, 1, none⟩ = some (.int .i64 (b)) := (by rw [(hb2.cell (by first | omega | (simp; done) | (simp; omega)))]; (repeat (rw [World.cell?_alloc_lt _ _ _ (by first | omega | (simp; done) | (simp; omega))])); go_cell)
      rw [H2.out]
      go_wp2_with fail
      go_returns
      refine ⟨ret_i ?_, by (repeat' (first | (with_reducible exact Below.refl _ _) | (with_reducible assumption) | (with_reducible refine Below.alloc ?_ ?_ _) | (with_reducible refine below_drewN ?_ _) | (with_reducible refine Below.drew ?_) | (with_reducible refine Below.setCell ?_ ?_ _) | go_size))⟩
      have hc := HC.out
      have hd := HD.out
      simp at hd
      omega

set_option maxHeartbeats 1000000 in
theorem ValueOf_any (u v r s lo hi n : Int) (w : World) (h1 : Arm.armP u v r s lo hi) (h4 : lo ≤ n ∧ n ≤ hi) :
    Calls Try.prog 69 #[.agg #[.int .i64 u, .int .i64 v, .int .i64 r, .int .i64 s, .int .i64 lo, .int .i64 hi], .int .i64 n] w
      fun e w' => e = .returned (.agg #[.int .i64 (n * (u * r)), .int .i64 (v * s)]) ∧ Below w.heap.size w w' := by
  have m0 := Arm.mul_pos_bd (a := n) (x := 10000) (by have := h1.2.2; omega) (by have := h1.2.2; omega) h1.1.1.1 h1.1.1.2
  have m1 := Arm.mul_pos_bd m0.1 m0.2 h1.2.1.1.1 h1.2.1.1.2
  have m2 := Arm.mul_pos_bd h1.1.2.1 h1.1.2.2 h1.2.1.2.1 h1.2.1.2.2
  have H := Lib.hid (Int.mul_assoc n u r)
  clear h1
  go_enter Try.func69, Try.ntmps69
  go_wp2_with fail
  refine ret_rat1 (b := w.heap.size + 1) (x := .int .i64 (n * u * r)) (y := .int .i64 (v * s)) (by rfl) rfl (by go_cell) (by go_cell) rfl ?_
  exact ⟨ret_a H.out rfl, by (repeat' (first | (with_reducible exact Below.refl _ _) | (with_reducible assumption) | (with_reducible refine Below.alloc ?_ ?_ _) | (with_reducible refine below_drewN ?_ _) | (with_reducible refine Below.drew ?_) | (with_reducible refine Below.setCell ?_ ?_ _) | go_size))⟩

set_option maxHeartbeats 1000000 in
theorem FarFrom_any (u v r s lo hi n sc a b : Int) (w : World) (h1 : Arm.armP u v r s lo hi) (h4 : lo ≤ n ∧ n ≤ hi) (h2 : Arm.ok a b) (h3 : 1 ≤ sc ∧ sc ≤ 100) :
    Calls Try.prog 45 #[.agg #[.int .i64 u, .int .i64 v, .int .i64 r, .int .i64 s, .int .i64 lo, .int .i64 hi], .int .i64 n, .int .i64 sc, .agg #[.int .i64 a, .int .i64 b]] w
      fun e w' => e = .returned (.int .i64 ((n * (u * r) * b * sc * sc - a * (v * s)).natAbs : Int)) ∧ Below w.heap.size w w' := by
  have H1 := Lib.hid h1
  have m0 := Arm.mul_pos_bd h1.1.1.1 h1.1.1.2 h1.2.1.1.1 h1.2.1.1.2
  have m1 := Arm.mul_pos_bd (a := n) (x := 10000) (by have := h1.2.2; omega) (by have := h1.2.2; omega) m0.1 m0.2
  have m2 := Arm.mul_pos_bd h1.1.2.1 h1.1.2.2 h1.2.1.2.1 h1.2.1.2.2
  have m3 := Arm.mul_pos_bd m1.1 m1.2 h2.1.1 h2.1.2
  have m4 := Arm.mul_pos_bd m3.1 m3.2 h3.1 h3.2
  have m5 := Arm.mul_pos_bd m4.1 m4.2 h3.1 h3.2
  have m6 := Arm.mul_bd h2.2.1 h2.2.2 (by omega) m2.2
  clear h1 h2
  go_enter Try.func45, Try.ntmps45
  go_wp2_with fail
  refine (ValueOf_any u v r s lo hi n _ H1.out h4).mono ?_
  rintro e w1 ⟨rfl, hb1⟩
  have hB1 : Below w.heap.size w w1 := Below.trans (by (repeat' (first | (with_reducible exact Below.refl _ _) | (with_reducible assumption) | (with_reducible refine Below.alloc ?_ ?_ _) | (with_reducible refine below_drewN ?_ _) | (with_reducible refine Below.drew ?_) | (with_reducible refine Below.setCell ?_ ?_ _) | go_size))) (hb1.mono (by first | omega | (simp; done) | (simp; omega))); have hz1 := hb1.size; try simp at hz1
  have hl1a : w.heap.size + 1 < w1.heap.size := (by omega); have hx1a0 : w1.cell? ⟨w.heap.size + 1, 0, none⟩ = some (.int .i64 (a)) := (by rw [(hb1.cell (by first | omega | (simp; done) | (simp; omega)))]; (repeat (rw [World.cell?_alloc_lt _ _ _ (by first | omega | (simp; done) | (simp; omega))])); go_cell); have hx1a1 : w1.cell? ⟨w.heap.size + 1, 1, none⟩ = some (.int .i64 (b)) := (by rw [(hb1.cell (by first | omega | (simp; done) | (simp; omega)))]; (repeat (rw [World.cell?_alloc_lt _ _ _ (by first | omega | (simp; done) | (simp; omega))])); go_cell)
  go_wp2_with fail
  refine (Size_any _ _ (by omega) (by omega)).mono ?_
  rintro e w2 ⟨rfl, rfl⟩
  go_wp2_with fail
  go_returns
  exact ⟨rfl, by (repeat' (first | (with_reducible exact Below.refl _ _) | (with_reducible assumption) | (with_reducible refine Below.alloc ?_ ?_ _) | (with_reducible refine below_drewN ?_ _) | (with_reducible refine Below.drew ?_) | (with_reducible refine Below.setCell ?_ ?_ _) | go_size))⟩
end Go.Proofs.Ytfjcmmdfipppoaa
