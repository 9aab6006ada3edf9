/- Contracts of Reduce, Add, Mul and Compare of package arms. -/
import Derived.Test.YtfjcmmdfipppoaaArmsB
namespace Go.Proofs.Ytfjcmmdfipppoaa
open Go.RowKit

set_option maxHeartbeats 400000 in
theorem Reduce_any (n d : Int) (w : World) :
    Calls Try.prog 13 #[.agg #[.int .i64 n, .int .i64 d]] w fun e w' => e = .returned (.tuple #[.agg #[.int .i64 (Arm.rN n d), .int .i64 (Arm.rD n d)], .int .i64 (Arm.rE n d)]) ∧ Below w.heap.size w w' := by
  cases hok : Arm.okB n d
  · go_enter Try.func13, Try.ntmps13
    go_wp2_with fail
    refine (checkRatios_one _ n d _ (by simp) (by go_cell) (by go_cell)).mono ?_
    rintro e w1 ⟨rfl, hb1⟩
    have hB1 : Below w.heap.size w w1 := Below.trans (by (repeat' (first | (with_reducible exact Below.refl _ _) | (with_reducible assumption) | (with_reducible refine Below.alloc ?_ ?_ _) | (with_reducible refine below_drewN ?_ _) | (with_reducible refine Below.drew ?_) | (with_reducible refine Below.setCell ?_ ?_ _) | go_size))) (hb1.mono (by first | omega | (simp; done) | (simp; omega))); have hz1 := hb1.size; try simp at hz1
    have hl1r : w.heap.size + 1 < w1.heap.size := (by omega); have hx1r : w1.cell? ⟨w.heap.size + 1, 0, none⟩ = some (.int .i64 0) := (by rw [(hb1.cell (by first | omega | (simp; done) | (simp; omega)))]; (repeat (rw [World.cell?_alloc_lt _ _ _ (by first | omega | (simp; done) | (simp; omega))])); go_cell); have hy1r : w1.cell? ⟨w.heap.size + 1, 1, none⟩ = some (.int .i64 0) := (by rw [(hb1.cell (by first | omega | (simp; done) | (simp; omega)))]; (repeat (rw [World.cell?_alloc_lt _ _ _ (by first | omega | (simp; done) | (simp; omega))])); go_cell)
    have hp1r : w1.frozen? ⟨w.heap.size + 1, 0, none⟩ = false := (by rw [(hb1.frozen (by first | omega | (simp; done) | (simp; omega)))]; first | (with_reducible assumption) | (go_simp; done) | (simp [*]; done)); have hq1r : w1.frozen? ⟨w.heap.size + 1, 1, none⟩ = false := (by rw [(hb1.frozen (by first | omega | (simp; done) | (simp; omega)))]; first | (with_reducible assumption) | (go_simp; done) | (simp [*]; done))
    have hv : Arm.vE n d = 10 := by simp [Arm.vE, hok]
    rw [hv]
    clear hv
    go_wp2_with fail
    refine ret_rat (b := w.heap.size + 1) (by rfl) rfl rfl (by (repeat (rw [World.cell?_alloc_lt _ _ _ (by first | omega | (simp; done) | (simp; omega))])); go_cell) (by (repeat (rw [World.cell?_alloc_lt _ _ _ (by first | omega | (simp; done) | (simp; omega))])); go_cell) rfl ?_
    refine ⟨ret_t ?_ ?_ ?_, by (repeat' (first | (with_reducible exact Below.refl _ _) | (with_reducible assumption) | (with_reducible refine Below.alloc ?_ ?_ _) | (with_reducible refine below_drewN ?_ _) | (with_reducible refine Below.drew ?_) | (with_reducible refine Below.setCell ?_ ?_ _) | go_size))⟩
    all_goals simp [Arm.rN, Arm.rD, Arm.rE, hok]
  · have ho := Arm.okB_true.1 hok
    unfold Arm.ok at ho
    go_enter Try.func13, Try.ntmps13
    go_wp2_with fail
    refine (checkRatios_one _ n d _ (by simp) (by go_cell) (by go_cell)).mono ?_
    rintro e w1 ⟨rfl, hb1⟩
    have hB1 : Below w.heap.size w w1 := Below.trans (by (repeat' (first | (with_reducible exact Below.refl _ _) | (with_reducible assumption) | (with_reducible refine Below.alloc ?_ ?_ _) | (with_reducible refine below_drewN ?_ _) | (with_reducible refine Below.drew ?_) | (with_reducible refine Below.setCell ?_ ?_ _) | go_size))) (hb1.mono (by first | omega | (simp; done) | (simp; omega))); have hz1 := hb1.size; try simp at hz1
    have hl1r : w.heap.size + 1 < w1.heap.size := (by omega); have hx1r : w1.cell? ⟨w.heap.size + 1, 0, none⟩ = some (.int .i64 0) := (by rw [(hb1.cell (by first | omega | (simp; done) | (simp; omega)))]; (repeat (rw [World.cell?_alloc_lt _ _ _ (by first | omega | (simp; done) | (simp; omega))])); go_cell); have hy1r : w1.cell? ⟨w.heap.size + 1, 1, none⟩ = some (.int .i64 0) := (by rw [(hb1.cell (by first | omega | (simp; done) | (simp; omega)))]; (repeat (rw [World.cell?_alloc_lt _ _ _ (by first | omega | (simp; done) | (simp; omega))])); go_cell)
    have hp1r : w1.frozen? ⟨w.heap.size + 1, 0, none⟩ = false := (by rw [(hb1.frozen (by first | omega | (simp; done) | (simp; omega)))]; first | (with_reducible assumption) | (go_simp; done) | (simp [*]; done)); have hq1r : w1.frozen? ⟨w.heap.size + 1, 1, none⟩ = false := (by rw [(hb1.frozen (by first | omega | (simp; done) | (simp; omega)))]; first | (with_reducible assumption) | (go_simp; done) | (simp [*]; done))
    have hv : Arm.vE n d = 0 := by simp [Arm.vE, hok]
    rw [hv]
    clear hv
    have hl1a : w.heap.size < w1.heap.size := (by omega); have hx1a : w1.cell? ⟨w.heap.size, 0, none⟩ = some (.int .i64 n) := (by rw [(hb1.cell (by first | omega | (simp; done) | (simp; omega)))]; (repeat (rw [World.cell?_alloc_lt _ _ _ (by first | omega | (simp; done) | (simp; omega))])); go_cell); have hy1a : w1.cell? ⟨w.heap.size, 1, none⟩ = some (.int .i64 d) := (by rw [(hb1.cell (by first | omega | (simp; done) | (simp; omega)))]; (repeat (rw [World.cell?_alloc_lt _ _ _ (by first | omega | (simp; done) | (simp; omega))])); go_cell)
    go_wp2_with fail
    refine (reduced_any n d _ (by omega) (by omega) (by omega) (by omega)).mono ?_
    rintro e w2 ⟨rfl, hb2⟩
    have hB2 : Below w.heap.size w w2 := Below.trans (by (repeat' (first | (with_reducible exact Below.refl _ _) | (with_reducible assumption) | (with_reducible refine Below.alloc ?_ ?_ _) | (with_reducible refine below_drewN ?_ _) | (with_reducible refine Below.drew ?_) | (with_reducible refine Below.setCell ?_ ?_ _) | go_size))) (hb2.mono (by first | omega | (simp; done) | (simp; omega))); have hz2 := hb2.size; try simp at hz2
    have hl2r : w.heap.size + 1 < w2.heap.size := (by omega); have hx2r : w2.cell? ⟨w.heap.size + 1, 0, none⟩ = some (.int .i64 0) := (by rw [(hb2.cell (by first | omega | (simp; done) | (simp; omega)))]; (repeat (rw [World.cell?_alloc_lt _ _ _ (by first | omega | (simp; done) | (simp; omega))])); go_cell); have hy2r : w2.cell? ⟨w.heap.size + 1, 1, none⟩ = some (.int .i64 0) := (by rw [(hb2.cell (by first | omega | (simp; done) | (simp; omega)))]; (repeat (rw [World.cell?_alloc_lt _ _ _ (by first | omega | (simp; done) | (simp; omega))])); go_cell)
    have hp2r : w2.frozen? ⟨w.heap.size + 1, 0, none⟩ = false := (by rw [(hb2.frozen (by first | omega | (simp; done) | (simp; omega)))]; first | (with_reducible assumption) | (go_simp; done) | (simp [*]; done)); have hq2r : w2.frozen? ⟨w.heap.size + 1, 1, none⟩ = false := (by rw [(hb2.frozen (by first | omega | (simp; done) | (simp; omega)))]; first | (with_reducible assumption) | (go_simp; done) | (simp [*]; done))
    go_wp2_with fail
    refine ret_rat (b := w.heap.size + 1) (by rfl) rfl rfl (by (repeat (rw [World.cell?_alloc_lt _ _ _ (by first | omega | (simp; done) | (simp; omega))])); go_cell) (by (repeat (rw [World.cell?_alloc_lt _ _ _ (by first | omega | (simp; done) | (simp; omega))])); go_cell) rfl ?_
    refine ⟨ret_t ?_ ?_ ?_, by (repeat' (first | (with_reducible exact Below.refl _ _) | (with_reducible assumption) | (with_reducible refine Below.alloc ?_ ?_ _) | (with_reducible refine below_drewN ?_ _) | (with_reducible refine Below.drew ?_) | (with_reducible refine Below.setCell ?_ ?_ _) | go_size))⟩
    all_goals simp [Arm.rN, Arm.rD, Arm.rE, hok]

set_option maxHeartbeats 400000 in
theorem ofTwoR_no (k : FuncId) (args : Array Value) (a b c d : Int) (w : World) (hno : ¬ (Arm.okB a b = true ∧ Arm.okB c d = true)) :
    Calls Try.prog 54 #[.agg #[.int .i64 a, .int .i64 b], .agg #[.int .i64 c, .int .i64 d], .func (.func k) #[] args] w
      fun e w' => e = .returned (.tuple #[.agg #[.int .i64 0, .int .i64 0], .int .i64 10]) ∧ Below w.heap.size w w' := by
  have hv : Hid (Arm.vE2 a b c d = 10) := by simp [Hid, Arm.vE2, hno]
  clear hno
  go_enter Try.func54, Try.ntmps54
  go_wp2_with fail
  refine (checkRatios_two _ a b c d _ (by simp) (by go_cell) (by go_cell) (by go_cell) (by go_cell)).mono ?_
  rintro e w1 ⟨rfl, hb1⟩
  have hB1 : Below w.heap.size w w1 := Below.trans (by (repeat' (first | (with_reducible exact Below.refl _ _) | (with_reducible assumption) | (with_reducible refine Below.alloc ?_ ?_ _) | (with_reducible refine below_drewN ?_ _) | (with_reducible refine Below.drew ?_) | (with_reducible refine Below.setCell ?_ ?_ _) | go_size))) (hb1.mono (by first | omega | (simp; done) | (simp; omega))); have hz1 := hb1.size; try simp at hz1
  have hl1r : w.heap.size + 1 + 1 < w1.heap.size := (by omega); have hx1r : w1.cell? ⟨w.heap.size + 1 + 1, 0, none⟩ = some (.int .i64 0) := (by rw [(hb1.cell (by first | omega | (simp; done) | (simp; omega)))]; (repeat (rw [World.cell?_alloc_lt _ _ _ (by first | omega | (simp; done) | (simp; omega))])); go_cell); have hy1r : w1.cell? ⟨w.heap.size + 1 + 1, 1, none⟩ = some (.int .i64 0) := (by rw [(hb1.cell (by first | omega | (simp; done) | (simp; omega)))]; (repeat (rw [World.cell?_alloc_lt _ _ _ (by first | omega | (simp; done) | (simp; omega))])); go_cell)
  have hp1r : w1.frozen? ⟨w.heap.size + 1 + 1, 0, none⟩ = false := (by rw [(hb1.frozen (by first | omega | (simp; done) | (simp; omega)))]; first | (with_reducible assumption) | (go_simp; done) | (simp [*]; done)); have hq1r : w1.frozen? ⟨w.heap.size + 1 + 1, 1, none⟩ = false := (by rw [(hb1.frozen (by first | omega | (simp; done) | (simp; omega)))]; first | (with_reducible assumption) | (go_simp; done) | (simp [*]; done))
  rw [hv.out]
  go_wp2_with fail
  refine ret_rat (b := w.heap.size + 1 + 1) (by rfl) rfl rfl (by (repeat (rw [World.cell?_alloc_lt _ _ _ (by first | omega | (simp; done) | (simp; omega))])); go_cell) (by (repeat (rw [World.cell?_alloc_lt _ _ _ (by first | omega | (simp; done) | (simp; omega))])); go_cell) rfl ?_
  exact ⟨rfl, by (repeat' (first | (with_reducible exact Below.refl _ _) | (with_reducible assumption) | (with_reducible refine Below.alloc ?_ ?_ _) | (with_reducible refine below_drewN ?_ _) | (with_reducible refine Below.drew ?_) | (with_reducible refine Below.setCell ?_ ?_ _) | go_size))⟩

set_option maxHeartbeats 400000 in
theorem ofTwo_Add (p q : Nat) (a b c d x y z : Int) (w : World) (hyes : Arm.okB a b = true ∧ Arm.okB c d = true)
    (hk : ∀ W, Below w.heap.size w W → Calls Try.prog 55 #[.pointer (some ⟨p, 0, none⟩), .pointer (some ⟨q, 0, none⟩)] W fun e w' => e = .returned (.tuple #[.agg #[.int .i64 x, .int .i64 y], .int .i64 z]) ∧ Below W.heap.size W w') :
    Calls Try.prog 54 #[.agg #[.int .i64 a, .int .i64 b], .agg #[.int .i64 c, .int .i64 d], .func (.func 55) #[] #[.pointer (some ⟨p, 0, none⟩), .pointer (some ⟨q, 0, none⟩)]] w
      fun e w' => e = .returned (.tuple #[.agg #[.int .i64 x, .int .i64 y], .int .i64 z]) ∧ Below w.heap.size w w' := by
  have hv : Hid (Arm.vE2 a b c d = 0) := by simp [Hid, Arm.vE2, hyes]
  clear hyes
  have Hk := Lib.hid hk
  clear hk
  go_enter Try.func54, Try.ntmps54
  go_wp2_with fail
  refine (checkRatios_two _ a b c d _ (by simp) (by go_cell) (by go_cell) (by go_cell) (by go_cell)).mono ?_
  rintro e w1 ⟨rfl, hb1⟩
  have hB1 : Below w.heap.size w w1 := Below.trans (by (repeat' (first | (with_reducible exact Below.refl _ _) | (with_reducible assumption) | (with_reducible refine Below.alloc ?_ ?_ _) | (with_reducible refine below_drewN ?_ _) | (with_reducible refine Below.drew ?_) | (with_reducible refine Below.setCell ?_ ?_ _) | go_size))) (hb1.mono (by first | omega | (simp; done) | (simp; omega))); have hz1 := hb1.size; try simp at hz1
  have hl1r : w.heap.size + 1 + 1 < w1.heap.size := (by omega); have hx1r : w1.cell? ⟨w.heap.size + 1 + 1, 0, none⟩ = some (.int .i64 0) := (by rw [(hb1.cell (by first | omega | (simp; done) | (simp; omega)))]; (repeat (rw [World.cell?_alloc_lt _ _ _ (by first | omega | (simp; done) | (simp; omega))])); go_cell); have hy1r : w1.cell? ⟨w.heap.size + 1 + 1, 1, none⟩ = some (.int .i64 0) := (by rw [(hb1.cell (by first | omega | (simp; done) | (simp; omega)))]; (repeat (rw [World.cell?_alloc_lt _ _ _ (by first | omega | (simp; done) | (simp; omega))])); go_cell)
  have hp1r : w1.frozen? ⟨w.heap.size + 1 + 1, 0, none⟩ = false := (by rw [(hb1.frozen (by first | omega | (simp; done) | (simp; omega)))]; first | (with_reducible assumption) | (go_simp; done) | (simp [*]; done)); have hq1r : w1.frozen? ⟨w.heap.size + 1 + 1, 1, none⟩ = false := (by rw [(hb1.frozen (by first | omega | (simp; done) | (simp; omega)))]; first | (with_reducible assumption) | (go_simp; done) | (simp [*]; done))
  rw [hv.out]
  go_wp2_with fail
  refine (Hk.out _ hB1).mono ?_
  rintro e w2 ⟨rfl, hb2⟩
  have hB2 : Below w.heap.size w w2 := Below.trans (by (repeat' (first | (with_reducible exact Below.refl _ _) | (with_reducible assumption) | (with_reducible refine Below.alloc ?_ ?_ _) | (with_reducible refine below_drewN ?_ _) | (with_reducible refine Below.drew ?_) | (with_reducible refine Below.setCell ?_ ?_ _) | go_size))) (hb2.mono (by first | omega | (simp; done) | (simp; omega))); have hz2 := hb2.size; try simp at hz2
  have hl2r : w.heap.size + 1 + 1 < w2.heap.size := (by omega); have hx2r : w2.cell? ⟨w.heap.size + 1 + 1, 0, none⟩ = some (.int .i64 0) := (by rw [(hb2.cell (by first | omega | (simp; done) | (simp; omega)))]; (repeat (rw [World.cell?_alloc_lt _ _ _ (by first | omega | (simp; done) | (simp; omega))])); go_cell); have hy2r : w2.cell? ⟨w.heap.size + 1 + 1, 1, none⟩ = some (.int .i64 0) := (by rw [(hb2.cell (by first | omega | (simp; done) | (simp; omega)))]; (repeat (rw [World.cell?_alloc_lt _ _ _ (by first | omega | (simp; done) | (simp; omega))])); go_cell)
  have hp2r : w2.frozen? ⟨w.heap.size + 1 + 1, 0, none⟩ = false := (by rw [(hb2.frozen (by first | omega | (simp; done) | (simp; omega)))]; first | (with_reducible assumption) | (go_simp; done) | (simp [*]; done)); have hq2r : w2.frozen? ⟨w.heap.size + 1 + 1, 1, none⟩ = false := (by rw [(hb2.frozen (by first | omega | (simp; done) | (simp; omega)))]; first | (with_reducible assumption) | (go_simp; done) | (simp [*]; done))
  go_wp2_with fail
  refine ret_rat (b := w.heap.size + 1 + 1) (by rfl) rfl rfl (by (repeat (rw [World.cell?_alloc_lt _ _ _ (by first | omega | (simp; done) | (simp; omega))])); go_cell) (by (repeat (rw [World.cell?_alloc_lt _ _ _ (by first | omega | (simp; done) | (simp; omega))])); go_cell) rfl ?_
  exact ⟨rfl, by (repeat' (first | (with_reducible exact Below.refl _ _) | (with_reducible assumption) | (with_reducible refine Below.alloc ?_ ?_ _) | (with_reducible refine below_drewN ?_ _) | (with_reducible refine Below.drew ?_) | (with_reducible refine Below.setCell ?_ ?_ _) | go_size))⟩

set_option maxHeartbeats 400000 in
theorem ofTwo_Mul (p q : Nat) (a b c d x y z : Int) (w : World) (hyes : Arm.okB a b = true ∧ Arm.okB c d = true)
    (hk : ∀ W, Below w.heap.size w W → Calls Try.prog 56 #[.pointer (some ⟨p, 0, none⟩), .pointer (some ⟨q, 0, none⟩)] W fun e w' => e = .returned (.tuple #[.agg #[.int .i64 x, .int .i64 y], .int .i64 z]) ∧ Below W.heap.size W w') :
    Calls Try.prog 54 #[.agg #[.int .i64 a, .int .i64 b], .agg #[.int .i64 c, .int .i64 d], .func (.func 56) #[] #[.pointer (some ⟨p, 0, none⟩), .pointer (some ⟨q, 0, none⟩)]] w
      fun e w' => e = .returned (.tuple #[.agg #[.int .i64 x, .int .i64 y], .int .i64 z]) ∧ Below w.heap.size w w' := by
  have hv : Hid (Arm.vE2 a b c d = 0) := by simp [Hid, Arm.vE2, hyes]
  clear hyes
  have Hk := Lib.hid hk
  clear hk
  go_enter Try.func54, Try.ntmps54
  go_wp2_with fail
  refine (checkRatios_two _ a b c d _ (by simp) (by go_cell) (by go_cell) (by go_cell) (by go_cell)).mono ?_
  rintro e w1 ⟨rfl, hb1⟩
  have hB1 : Below w.heap.size w w1 := Below.trans (by (repeat' (first | (with_reducible exact Below.refl _ _) | (with_reducible assumption) | (with_reducible refine Below.alloc ?_ ?_ _) | (with_reducible refine below_drewN ?_ _) | (with_reducible refine Below.drew ?_) | (with_reducible refine Below.setCell ?_ ?_ _) | go_size))) (hb1.mono (by first | omega | (simp; done) | (simp; omega))); have hz1 := hb1.size; try simp at hz1
  have hl1r : w.heap.size + 1 + 1 < w1.heap.size := (by omega); have hx1r : w1.cell? ⟨w.heap.size + 1 + 1, 0, none⟩ = some (.int .i64 0) := (by rw [(hb1.cell (by first | omega | (simp; done) | (simp; omega)))]; (repeat (rw [World.cell?_alloc_lt _ _ _ (by first | omega | (simp; done) | (simp; omega))])); go_cell); have hy1r : w1.cell? ⟨w.heap.size + 1 + 1, 1, none⟩ = some (.int .i64 0) := (by rw [(hb1.cell (by first | omega | (simp; done) | (simp; omega)))]; (repeat (rw [World.cell?_alloc_lt _ _ _ (by first | omega | (simp; done) | (simp; omega))])); go_cell)
  have hp1r : w1.frozen? ⟨w.heap.size + 1 + 1, 0, none⟩ = false := (by rw [(hb1.frozen (by first | omega | (simp; done) | (simp; omega)))]; first | (with_reducible assumption) | (go_simp; done) | (simp [*]; done)); have hq1r : w1.frozen? ⟨w.heap.size + 1 + 1, 1, none⟩ = false := (by rw [(hb1.frozen (by first | omega | (simp; done) | (simp; omega)))]; first | (with_reducible assumption) | (go_simp; done) | (simp [*]; done))
  rw [hv.out]
  go_wp2_with fail
  refine (Hk.out _ hB1).mono ?_
  rintro e w2 ⟨rfl, hb2⟩
  have hB2 : Below w.heap.size w w2 := Below.trans (by (repeat' (first | (with_reducible exact Below.refl _ _) | (with_reducible assumption) | (with_reducible refine Below.alloc ?_ ?_ _) | (with_reducible refine below_drewN ?_ _) | (with_reducible refine Below.drew ?_) | (with_reducible refine Below.setCell ?_ ?_ _) | go_size))) (hb2.mono (by first | omega | (simp; done) | (simp; omega))); have hz2 := hb2.size; try simp at hz2
  have hl2r : w.heap.size + 1 + 1 < w2.heap.size := (by omega); have hx2r : w2.cell? ⟨w.heap.size + 1 + 1, 0, none⟩ = some (.int .i64 0) := (by rw [(hb2.cell (by first | omega | (simp; done) | (simp; omega)))]; (repeat (rw [World.cell?_alloc_lt _ _ _ (by first | omega | (simp; done) | (simp; omega))])); go_cell); have hy2r : w2.cell? ⟨w.heap.size + 1 + 1, 1, none⟩ = some (.int .i64 0) := (by rw [(hb2.cell (by first | omega | (simp; done) | (simp; omega)))]; (repeat (rw [World.cell?_alloc_lt _ _ _ (by first | omega | (simp; done) | (simp; omega))])); go_cell)
  have hp2r : w2.frozen? ⟨w.heap.size + 1 + 1, 0, none⟩ = false := (by rw [(hb2.frozen (by first | omega | (simp; done) | (simp; omega)))]; first | (with_reducible assumption) | (go_simp; done) | (simp [*]; done)); have hq2r : w2.frozen? ⟨w.heap.size + 1 + 1, 1, none⟩ = false := (by rw [(hb2.frozen (by first | omega | (simp; done) | (simp; omega)))]; first | (with_reducible assumption) | (go_simp; done) | (simp [*]; done))
  go_wp2_with fail
  refine ret_rat (b := w.heap.size + 1 + 1) (by rfl) rfl rfl (by (repeat (rw [World.cell?_alloc_lt _ _ _ (by first | omega | (simp; done) | (simp; omega))])); go_cell) (by (repeat (rw [World.cell?_alloc_lt _ _ _ (by first | omega | (simp; done) | (simp; omega))])); go_cell) rfl ?_
  exact ⟨rfl, by (repeat' (first | (with_reducible exact Below.refl _ _) | (with_reducible assumption) | (with_reducible refine Below.alloc ?_ ?_ _) | (with_reducible refine below_drewN ?_ _) | (with_reducible refine Below.drew ?_) | (with_reducible refine Below.setCell ?_ ?_ _) | go_size))⟩

set_option maxHeartbeats 400000 in
theorem Add1_any (p q : Nat) (a b c d : Int) (w : World) (h1 : Arm.ok a b) (h2 : Arm.ok c d) (hp : p < w.heap.size) (hq : q < w.heap.size) (ha : w.cell? ⟨p, 0, none⟩ = some (.int .i64 a)) (hb : w.cell? ⟨p, 1, none⟩ = some (.int .i64 b)) (hc : w.cell? ⟨q, 0, none⟩ = some (.int .i64 c)) (hd : w.cell? ⟨q, 1, none⟩ = some (.int .i64 d)) :
    Calls Try.prog 55 #[.pointer (some ⟨p, 0, none⟩), .pointer (some ⟨q, 0, none⟩)] w fun e w' => e = .returned (.tuple #[.agg #[.int .i64 (Arm.sN (a * d + c * b) (b * d)), .int .i64 (Arm.sD (a * d + c * b) (b * d))], .int .i64 (Arm.sE (a * d + c * b) (b * d))]) ∧ Below w.heap.size w w' := by
  have m1 := Arm.mul_bd h1.2.1 h1.2.2 (y := 1000000) (b := d) (by have := h2.1; omega) h2.1.2
  have m2 := Arm.mul_bd h2.2.1 h2.2.2 (y := 1000000) (b := b) (by have := h1.1; omega) h1.1.2
  have m3 := Arm.mul_pos_bd h1.1.1 h1.1.2 h2.1.1 h2.1.2
  have m4 := Arm.mul_bd h1.2.1 h1.2.2 h2.2.1 h2.2.2
  unfold Arm.ok at h1 h2
  go_enter Try.func55, Try.ntmps55
  go_wp2_with fail
  refine (reduced_any _ _ _ (by omega) (by omega) (by omega) (by omega)).mono ?_
  rintro e w1 ⟨rfl, hb1⟩
  have hB1 : Below w.heap.size w w1 := Below.trans (by (repeat' (first | (with_reducible exact Below.refl _ _) | (with_reducible assumption) | (with_reducible refine Below.alloc ?_ ?_ _) | (with_reducible refine below_drewN ?_ _) | (with_reducible refine Below.drew ?_) | (with_reducible refine Below.setCell ?_ ?_ _) | go_size))) (hb1.mono (by first | omega | (simp; done) | (simp; omega))); have hz1 := hb1.size; try simp at hz1
  have hl1r : w.heap.size < w1.heap.size := (by omega); have hx1r : w1.cell? ⟨w.heap.size, 0, none⟩ = some (.int .i64 0) := (by rw [(hb1.cell (by first | omega | (simp; done) | (simp; omega)))]; (repeat (rw [World.cell?_alloc_lt _ _ _ (by first | omega | (simp; done) | (simp; omega))])); go_cell); have hy1r : w1.cell? ⟨w.heap.size, 1, none⟩ = some (.int .i64 0) := (by rw [(hb1.cell (by first | omega | (simp; done) | (simp; omega)))]; (repeat (rw [World.cell?_alloc_lt _ _ _ (by first | omega | (simp; done) | (simp; omega))])); go_cell)
  have hp1r : w1.frozen? ⟨w.heap.size, 0, none⟩ = false := (by rw [(hb1.frozen (by first | omega | (simp; done) | (simp; omega)))]; first | (with_reducible assumption) | (go_simp; done) | (simp [*]; done)); have hq1r : w1.frozen? ⟨w.heap.size, 1, none⟩ = false := (by rw [(hb1.frozen (by first | omega | (simp; done) | (simp; omega)))]; first | (with_reducible assumption) | (go_simp; done) | (simp [*]; done))
  go_wp2_with fail
  refine ret_rat (b := w.heap.size) (by rfl) rfl rfl (by (repeat (rw [World.cell?_alloc_lt _ _ _ (by first | omega | (simp; done) | (simp; omega))])); go_cell) (by (repeat (rw [World.cell?_alloc_lt _ _ _ (by first | omega | (simp; done) | (simp; omega))])); go_cell) rfl ?_
  exact ⟨rfl, by (repeat' (first | (with_reducible exact Below.refl _ _) | (with_reducible assumption) | (with_reducible refine Below.alloc ?_ ?_ _) | (with_reducible refine below_drewN ?_ _) | (with_reducible refine Below.drew ?_) | (with_reducible refine Below.setCell ?_ ?_ _) | go_size))⟩

set_option maxHeartbeats 400000 in
theorem Mul1_any (p q : Nat) (a b c d : Int) (w : World) (h1 : Arm.ok a b) (h2 : Arm.ok c d) (hp : p < w.heap.size) (hq : q < w.heap.size) (ha : w.cell? ⟨p, 0, none⟩ = some (.int .i64 a)) (hb : w.cell? ⟨p, 1, none⟩ = some (.int .i64 b)) (hc : w.cell? ⟨q, 0, none⟩ = some (.int .i64 c)) (hd : w.cell? ⟨q, 1, none⟩ = some (.int .i64 d)) :
    Calls Try.prog 56 #[.pointer (some ⟨p, 0, none⟩), .pointer (some ⟨q, 0, none⟩)] w fun e w' => e = .returned (.tuple #[.agg #[.int .i64 (Arm.sN (a * c) (b * d)), .int .i64 (Arm.sD (a * c) (b * d))], .int .i64 (Arm.sE (a * c) (b * d))]) ∧ Below w.heap.size w w' := by
  have m1 := Arm.mul_bd h1.2.1 h1.2.2 (y := 1000000) (b := d) (by have := h2.1; omega) h2.1.2
  have m2 := Arm.mul_bd h2.2.1 h2.2.2 (y := 1000000) (b := b) (by have := h1.1; omega) h1.1.2
  have m3 := Arm.mul_pos_bd h1.1.1 h1.1.2 h2.1.1 h2.1.2
  have m4 := Arm.mul_bd h1.2.1 h1.2.2 h2.2.1 h2.2.2
  unfold Arm.ok at h1 h2
  go_enter Try.func56, Try.ntmps56
  go_wp2_with fail
  refine (reduced_any _ _ _ (by omega) (by omega) (by omega) (by omega)).mono ?_
  rintro e w1 ⟨rfl, hb1⟩
  have hB1 : Below w.heap.size w w1 := Below.trans (by (repeat' (first | (with_reducible exact Below.refl _ _) | (with_reducible assumption) | (with_reducible refine Below.alloc ?_ ?_ _) | (with_reducible refine below_drewN ?_ _) | (with_reducible refine Below.drew ?_) | (with_reducible refine Below.setCell ?_ ?_ _) | go_size))) (hb1.mono (by first | omega | (simp; done) | (simp; omega))); have hz1 := hb1.size; try simp at hz1
  have hl1r : w.heap.size < w1.heap.size := (by omega); have hx1r : w1.cell? ⟨w.heap.size, 0, none⟩ = some (.int .i64 0) := (by rw [(hb1.cell (by first | omega | (simp; done) | (simp; omega)))]; (repeat (rw [World.cell?_alloc_lt _ _ _ (by first | omega | (simp; done) | (simp; omega))])); go_cell); have hy1r : w1.cell? ⟨w.heap.size, 1, none⟩ = some (.int .i64 0) := (by rw [(hb1.cell (by first | omega | (simp; done) | (simp; omega)))]; (repeat (rw [World.cell?_alloc_lt _ _ _ (by first | omega | (simp; done) | (simp; omega))])); go_cell)
  have hp1r : w1.frozen? ⟨w.heap.size, 0, none⟩ = false := (by rw [(hb1.frozen (by first | omega | (simp; done) | (simp; omega)))]; first | (with_reducible assumption) | (go_simp; done) | (simp [*]; done)); have hq1r : w1.frozen? ⟨w.heap.size, 1, none⟩ = false := (by rw [(hb1.frozen (by first | omega | (simp; done) | (simp; omega)))]; first | (with_reducible assumption) | (go_simp; done) | (simp [*]; done))
  go_wp2_with fail
  refine ret_rat (b := w.heap.size) (by rfl) rfl rfl (by (repeat (rw [World.cell?_alloc_lt _ _ _ (by first | omega | (simp; done) | (simp; omega))])); go_cell) (by (repeat (rw [World.cell?_alloc_lt _ _ _ (by first | omega | (simp; done) | (simp; omega))])); go_cell) rfl ?_
  exact ⟨rfl, by (repeat' (first | (with_reducible exact Below.refl _ _) | (with_reducible assumption) | (with_reducible refine Below.alloc ?_ ?_ _) | (with_reducible refine below_drewN ?_ _) | (with_reducible refine Below.drew ?_) | (with_reducible refine Below.setCell ?_ ?_ _) | go_size))⟩
end Go.Proofs.Ytfjcmmdfipppoaa
