/- Contracts of Add, Mul and Compare of package arms. -/
import Derived.Test.YtfjcmmdfipppoaaArmsC
namespace Go.Proofs.Ytfjcmmdfipppoaa
open Go.RowKit

set_option maxHeartbeats 400000 in
theorem Add_any (a b c d : Int) (w : World) :
    Calls Try.prog 15 #[.agg #[.int .i64 a, .int .i64 b], .agg #[.int .i64 c, .int .i64 d]] w fun e w' => e = .returned (.tuple #[.agg #[.int .i64 (Arm.addN a b c d), .int .i64 (Arm.addD a b c d)], .int .i64 (Arm.addE a b c d)]) ∧ Below w.heap.size w w' := by
  by_cases hh : Arm.okB a b = true ∧ Arm.okB c d = true
  · have o1 := Arm.okB_true.1 hh.1
    have o2 := Arm.okB_true.1 hh.2
    go_enter Try.func15, Try.ntmps15
    have HH := Lib.hid hh
    have O1 := Lib.hid o1
    have O2 := Lib.hid o2
    clear hh o1 o2
    go_wp2_with fail
    refine (ofTwo_Add _ _ a b c d _ _ _ _ HH.out (fun W hW => Add1_any _ _ a b c d W O1.out O2.out (by have := hW.size; simp at this; omega) (by have := hW.size; simp at this; omega) ((hW.cell (by first | omega | (simp; done) | (simp; omega))).trans (by (repeat (rw [World.cell?_alloc_lt _ _ _ (by first | omega | (simp; done) | (simp; omega))])); go_cell)) ((hW.cell (by first | omega | (simp; done) | (simp; omega))).trans (by (repeat (rw [World.cell?_alloc_lt _ _ _ (by first | omega | (simp; done) | (simp; omega))])); go_cell)) ((hW.cell (by first | omega | (simp; done) | (simp; omega))).trans (by (repeat (rw [World.cell?_alloc_lt _ _ _ (by first | omega | (simp; done) | (simp; omega))])); go_cell)) ((hW.cell (by first | omega | (simp; done) | (simp; omega))).trans (by (repeat (rw [World.cell?_alloc_lt _ _ _ (by first | omega | (simp; done) | (simp; omega))])); go_cell)))).mono ?_
    rintro e w1 ⟨rfl, hb1⟩
    have hB1 : Below w.heap.size w w1 := Below.trans (by (repeat' (first | (with_reducible exact Below.refl _ _) | (with_reducible assumption) | (with_reducible refine Below.alloc ?_ ?_ _) | (with_reducible refine below_drewN ?_ _) | (with_reducible refine Below.drew ?_) | (with_reducible refine Below.setCell ?_ ?_ _) | go_size))) (hb1.mono (by first | omega | (simp; done) | (simp; omega))); have hz1 := hb1.size; try simp at hz1
    have hl1r : w.heap.size + 1 + 1 < w1.heap.size := (by omega); have hx1r : w1.cell? ⟨w.heap.size + 1 + 1, 0, none⟩ = some (.int .i64 0) := (by rw [(hb1.cell (by first | omega | (simp; done) | (simp; omega)))]; (repeat (rw [World.cell?_alloc_lt _ _ _ (by first | omega | (simp; done) | (simp; omega))])); go_cell); have hy1r : w1.cell? ⟨w.heap.size + 1 + 1, 1, none⟩ = some (.int .i64 0) := (by rw [(hb1.cell (by first | omega | (simp; done) | (simp; omega)))]; (repeat (rw [World.cell?_alloc_lt _ _ _ (by first | omega | (simp; done) | (simp; omega))])); go_cell)
    have hp1r : w1.frozen? ⟨w.heap.size + 1 + 1, 0, none⟩ = false := (by rw [(hb1.frozen (by first | omega | (simp; done) | (simp; omega)))]; first | (with_reducible assumption) | (go_simp; done) | (simp [*]; done)); have hq1r : w1.frozen? ⟨w.heap.size + 1 + 1, 1, none⟩ = false := (by rw [(hb1.frozen (by first | omega | (simp; done) | (simp; omega)))]; first | (with_reducible assumption) | (go_simp; done) | (simp [*]; done))
    go_wp2_with fail
    refine ret_rat (b := w.heap.size + 1 + 1) (by rfl) rfl rfl (by (repeat (rw [World.cell?_alloc_lt _ _ _ (by first | omega | (simp; done) | (simp; omega))])); go_cell) (by (repeat (rw [World.cell?_alloc_lt _ _ _ (by first | omega | (simp; done) | (simp; omega))])); go_cell) rfl ?_
    refine ⟨ret_t ?_ ?_ ?_, by (repeat' (first | (with_reducible exact Below.refl _ _) | (with_reducible assumption) | (with_reducible refine Below.alloc ?_ ?_ _) | (with_reducible refine below_drewN ?_ _) | (with_reducible refine Below.drew ?_) | (with_reducible refine Below.setCell ?_ ?_ _) | go_size))⟩
    · exact (Arm.two_yes HH.out).symm
    · exact (Arm.two_yes HH.out).symm
    · exact (Arm.two_yes HH.out).symm
  · go_enter Try.func15, Try.ntmps15
    have HH := Lib.hid hh
    clear hh
    go_wp2_with fail
    refine (ofTwoR_no _ _ a b c d _ HH.out).mono ?_
    rintro e w1 ⟨rfl, hb1⟩
    have hB1 : Below w.heap.size w w1 := Below.trans (by (repeat' (first | (with_reducible exact Below.refl _ _) | (with_reducible assumption) | (with_reducible refine Below.alloc ?_ ?_ _) | (with_reducible refine below_drewN ?_ _) | (with_reducible refine Below.drew ?_) | (with_reducible refine Below.setCell ?_ ?_ _) | go_size))) (hb1.mono (by first | omega | (simp; done) | (simp; omega))); have hz1 := hb1.size; try simp at hz1
    have hl1r : w.heap.size + 1 + 1 < w1.heap.size := (by omega); have hx1r : w1.cell? ⟨w.heap.size + 1 + 1, 0, none⟩ = some (.int .i64 0) := (by rw [(hb1.cell (by first | omega | (simp; done) | (simp; omega)))]; (repeat (rw [World.cell?_alloc_lt _ _ _ (by first | omega | (simp; done) | (simp; omega))])); go_cell); have hy1r : w1.cell? ⟨w.heap.size + 1 + 1, 1, none⟩ = some (.int .i64 0) := (by rw [(hb1.cell (by first | omega | (simp; done) | (simp; omega)))]; (repeat (rw [World.cell?_alloc_lt _ _ _ (by first | omega | (simp; done) | (simp; omega))])); go_cell)
    have hp1r : w1.frozen? ⟨w.heap.size + 1 + 1, 0, none⟩ = false := (by rw [(hb1.frozen (by first | omega | (simp; done) | (simp; omega)))]; first | (with_reducible assumption) | (go_simp; done) | (simp [*]; done)); have hq1r : w1.frozen? ⟨w.heap.size + 1 + 1, 1, none⟩ = false := (by rw [(hb1.frozen (by first | omega | (simp; done) | (simp; omega)))]; first | (with_reducible assumption) | (go_simp; done) | (simp [*]; done))
    go_wp2_with fail
    refine ret_rat (b := w.heap.size + 1 + 1) (by rfl) rfl rfl (by (repeat (rw [World.cell?_alloc_lt _ _ _ (by first | omega | (simp; done) | (simp; omega))])); go_cell) (by (repeat (rw [World.cell?_alloc_lt _ _ _ (by first | omega | (simp; done) | (simp; omega))])); go_cell) rfl ?_
    refine ⟨ret_t ?_ ?_ ?_, by (repeat' (first | (with_reducible exact Below.refl _ _) | (with_reducible assumption) | (with_reducible refine Below.alloc ?_ ?_ _) | (with_reducible refine below_drewN ?_ _) | (with_reducible refine Below.drew ?_) | (with_reducible refine Below.setCell ?_ ?_ _) | go_size))⟩
    · exact (Arm.two_no HH.out).symm
    · exact (Arm.two_no HH.out).symm
    · exact (Arm.two_no HH.out).symm

set_option maxHeartbeats 400000 in
theorem Mul_any (a b c d : Int) (w : World) :
    Calls Try.prog 17 #[.agg #[.int .i64 a, .int .i64 b], .agg #[.int .i64 c, .int .i64 d]] w fun e w' => e = .returned (.tuple #[.agg #[.int .i64 (Arm.mulN a b c d), .int .i64 (Arm.mulD a b c d)], .int .i64 (Arm.mulE a b c d)]) ∧ Below w.heap.size w w' := by
  by_cases hh : Arm.okB a b = true ∧ Arm.okB c d = true
  · have o1 := Arm.okB_true.1 hh.1
    have o2 := Arm.okB_true.1 hh.2
    go_enter Try.func17, Try.ntmps17
    have HH := Lib.hid hh
    have O1 := Lib.hid o1
    have O2 := Lib.hid o2
    clear hh o1 o2
    go_wp2_with fail
    refine (ofTwo_Mul _ _ a b c d _ _ _ _ HH.out (fun W hW => Mul1_any _ _ a b c d W O1.out O2.out (by have := hW.size; simp at this; omega) (by have := hW.size; simp at this; omega) ((hW.cell (by first | omega | (simp; done) | (simp; omega))).trans (by (repeat (rw [World.cell?_alloc_lt _ _ _ (by first | omega | (simp; done) | (simp; omega))])); go_cell)) ((hW.cell (by first | omega | (simp; done) | (simp; omega))).trans (by (repeat (rw [World.cell?_alloc_lt _ _ _ (by first | omega | (simp; done) | (simp; omega))])); go_cell)) ((hW.cell (by first | omega | (simp; done) | (simp; omega))).trans (by (repeat (rw [World.cell?_alloc_lt _ _ _ (by first | omega | (simp; done) | (simp; omega))])); go_cell)) ((hW.cell (by first | omega | (simp; done) | (simp; omega))).trans (by (repeat (rw [World.cell?_alloc_lt _ _ _ (by first | omega | (simp; done) | (simp; omega))])); go_cell)))).mono ?_
    rintro e w1 ⟨rfl, hb1⟩
    have hB1 : Below w.heap.size w w1 := Below.trans (by (repeat' (first | (with_reducible exact Below.refl _ _) | (with_reducible assumption) | (with_reducible refine Below.alloc ?_ ?_ _) | (with_reducible refine below_drewN ?_ _) | (with_reducible refine Below.drew ?_) | (with_reducible refine Below.setCell ?_ ?_ _) | go_size))) (hb1.mono (by first | omega | (simp; done) | (simp; omega))); have hz1 := hb1.size; try simp at hz1
    have hl1r : w.heap.size + 1 + 1 < w1.heap.size := (by omega); have hx1r : w1.cell? ⟨w.heap.size + 1 + 1, 0, none⟩ = some (.int .i64 0) := (by rw [(hb1.cell (by first | omega | (simp; done) | (simp; omega)))]; (repeat (rw [World.cell?_alloc_lt _ _ _ (by first | omega | (simp; done) | (simp; omega))])); go_cell); have hy1r : w1.cell? ⟨w.heap.size + 1 + 1, 1, none⟩ = some (.int .i64 0) := (by rw [(hb1.cell (by first | omega | (simp; done) | (simp; omega)))]; (repeat (rw [World.cell?_alloc_lt _ _ _ (by first | omega | (simp; done) | (simp; omega))])); go_cell)
    have hp1r : w1.frozen? ⟨w.heap.size + 1 + 1, 0, none⟩ = false := (by rw [(hb1.frozen (by first | omega | (simp; done) | (simp; omega)))]; first | (with_reducible assumption) | (go_simp; done) | (simp [*]; done)); have hq1r : w1.frozen? ⟨w.heap.size + 1 + 1, 1, none⟩ = false := (by rw [(hb1.frozen (by first | omega | (simp; done) | (simp; omega)))]; first | (with_reducible assumption) | (go_simp; done) | (simp [*]; done))
    go_wp2_with fail
    refine ret_rat (b := w.heap.size + 1 + 1) (by rfl) rfl rfl (by (repeat (rw [World.cell?_alloc_lt _ _ _ (by first | omega | (simp; done) | (simp; omega))])); go_cell) (by (repeat (rw [World.cell?_alloc_lt _ _ _ (by first | omega | (simp; done) | (simp; omega))])); go_cell) rfl ?_
    refine ⟨ret_t ?_ ?_ ?_, by (repeat' (first | (with_reducible exact Below.refl _ _) | (with_reducible assumption) | (with_reducible refine Below.alloc ?_ ?_ _) | (with_reducible refine below_drewN ?_ _) | (with_reducible refine Below.drew ?_) | (with_reducible refine Below.setCell ?_ ?_ _) | go_size))⟩
    · exact (Arm.two_yes HH.out).symm
    · exact (Arm.two_yes HH.out).symm
    · exact (Arm.two_yes HH.out).symm
  · go_enter Try.func17, Try.ntmps17
    have HH := Lib.hid hh
    clear hh
    go_wp2_with fail
    refine (ofTwoR_no _ _ a b c d _ HH.out).mono ?_
    rintro e w1 ⟨rfl, hb1⟩
    have hB1 : Below w.heap.size w w1 := Below.trans (by (repeat' (first | (with_reducible exact Below.refl _ _) | (with_reducible assumption) | (with_reducible refine Below.alloc ?_ ?_ _) | (with_reducible refine below_drewN ?_ _) | (with_reducible refine Below.drew ?_) | (with_reducible refine Below.setCell ?_ ?_ _) | go_size))) (hb1.mono (by first | omega | (simp; done) | (simp; omega))); have hz1 := hb1.size; try simp at hz1
    have hl1r : w.heap.size + 1 + 1 < w1.heap.size := (by omega); have hx1r : w1.cell? ⟨w.heap.size + 1 + 1, 0, none⟩ = some (.int .i64 0) := (by rw [(hb1.cell (by first | omega | (simp; done) | (simp; omega)))]; (repeat (rw [World.cell?_alloc_lt _ _ _ (by first | omega | (simp; done) | (simp; omega))])); go_cell); have hy1r : w1.cell? ⟨w.heap.size + 1 + 1, 1, none⟩ = some (.int .i64 0) := (by rw [(hb1.cell (by first | omega | (simp; done) | (simp; omega)))]; (repeat (rw [World.cell?_alloc_lt _ _ _ (by first | omega | (simp; done) | (simp; omega))])); go_cell)
    have hp1r : w1.frozen? ⟨w.heap.size + 1 + 1, 0, none⟩ = false := (by rw [(hb1.frozen (by first | omega | (simp; done) | (simp; omega)))]; first | (with_reducible assumption) | (go_simp; done) | (simp [*]; done)); have hq1r : w1.frozen? ⟨w.heap.size + 1 + 1, 1, none⟩ = false := (by rw [(hb1.frozen (by first | omega | (simp; done) | (simp; omega)))]; first | (with_reducible assumption) | (go_simp; done) | (simp [*]; done))
    go_wp2_with fail
    refine ret_rat (b := w.heap.size + 1 + 1) (by rfl) rfl rfl (by (repeat (rw [World.cell?_alloc_lt _ _ _ (by first | omega | (simp; done) | (simp; omega))])); go_cell) (by (repeat (rw [World.cell?_alloc_lt _ _ _ (by first | omega | (simp; done) | (simp; omega))])); go_cell) rfl ?_
    refine ⟨ret_t ?_ ?_ ?_, by (repeat' (first | (with_reducible exact Below.refl _ _) | (with_reducible assumption) | (with_reducible refine Below.alloc ?_ ?_ _) | (with_reducible refine below_drewN ?_ _) | (with_reducible refine Below.drew ?_) | (with_reducible refine Below.setCell ?_ ?_ _) | go_size))⟩
    · exact (Arm.two_no HH.out).symm
    · exact (Arm.two_no HH.out).symm
    · exact (Arm.two_no HH.out).symm

theorem ret_2 {k : IntKind} {a a' c c' : Int} (h : a = a') (h2 : c = c') :
    Ending.returned (.tuple #[.int k a, .int k c]) = .returned (.tuple #[.int k a', .int k c']) := by rw [h, h2]

set_option maxHeartbeats 400000 in
theorem cmpC_any (x y : Int) (w : World) :
    Calls Try.prog 59 #[.int .i64 x, .int .i64 y] w fun e w' => e = .returned (.int .i64 (Arm.sgn (x - y))) ∧ w = w' := by
  by_cases h1 : x < y
  · go_enter Try.func59, Try.ntmps59
    go_wp2
    go_returns
    exact ⟨ret_i (by unfold Arm.sgn; rw [if_pos (by omega)]), rfl⟩
  · by_cases h2 : y < x
    · go_enter Try.func59, Try.ntmps59
      go_wp2
      go_returns
      exact ⟨ret_i (by unfold Arm.sgn; rw [if_neg (by omega), if_pos (by omega)]), rfl⟩
    · go_enter Try.func59, Try.ntmps59
      go_wp2
      go_returns
      exact ⟨ret_i (by unfold Arm.sgn; rw [if_neg (by omega), if_neg (by omega)]), rfl⟩

set_option maxHeartbeats 400000 in
theorem Cmp1_any (p q : Nat) (a b c d : Int) (w : World) (h1 : Arm.ok a b) (h2 : Arm.ok c d) (ha : w.cell? ⟨p, 0, none⟩ = some (.int .i64 a)) (hb : w.cell? ⟨p, 1, none⟩ = some (.int .i64 b)) (hc : w.cell? ⟨q, 0, none⟩ = some (.int .i64 c)) (hd : w.cell? ⟨q, 1, none⟩ = some (.int .i64 d)) :
    Calls Try.prog 58 #[.pointer (some ⟨p, 0, none⟩), .pointer (some ⟨q, 0, none⟩)] w fun e w' => e = .returned (.tuple #[.int .i64 (Arm.sgn (a * d - c * b)), .int .i64 0]) ∧ w = w' := by
  have m1 := Arm.mul_bd h1.2.1 h1.2.2 (y := 1000000) (b := d) (by have := h2.1; omega) h2.1.2
  have m2 := Arm.mul_bd h2.2.1 h2.2.2 (y := 1000000) (b := b) (by have := h1.1; omega) h1.1.2
  unfold Arm.ok at h1 h2
  go_enter Try.func58, Try.ntmps58
  go_wp2_with fail
  refine (cmpC_any _ _ _).mono ?_
  rintro e w1 ⟨rfl, rfl⟩
  go_wp2_with fail
  go_ret2
  exact ⟨rfl, rfl⟩

set_option maxHeartbeats 400000 in
theorem ofTwoI_no (k : FuncId) (args : Array Value) (a b c d : Int) (w : World) (hno : ¬ (Arm.okB a b = true ∧ Arm.okB c d = true)) :
    Calls Try.prog 57 #[.agg #[.int .i64 a, .int .i64 b], .agg #[.int .i64 c, .int .i64 d], .func (.func k) #[] args] w
      fun e w' => e = .returned (.tuple #[.int .i64 0, .int .i64 10]) ∧ Below w.heap.size w w' := by
  have hv : Hid (Arm.vE2 a b c d = 10) := by simp [Hid, Arm.vE2, hno]
  clear hno
  go_enter Try.func57, Try.ntmps57
  go_wp2_with fail
  refine (checkRatios_two _ a b c d _ (by simp) (by go_cell) (by go_cell) (by go_cell) (by go_cell)).mono ?_
  rintro e w1 ⟨rfl, hb1⟩
  have hB1 : Below w.heap.size w w1 := Below.trans (by (repeat' (first | (with_reducible exact Below.refl _ _) | (with_reducible assumption) | (with_reducible refine Below.alloc ?_ ?_ _) | (with_reducible refine below_drewN ?_ _) | (with_reducible refine Below.drew ?_) | (with_reducible refine Below.setCell ?_ ?_ _) | go_size))) (hb1.mono (by first | omega | (simp; done) | (simp; omega))); have hz1 := hb1.size; try simp at hz1
  rw [hv.out]
  go_wp2_with fail
  go_ret2
  exact ⟨rfl, by (repeat' (first | (with_reducible exact Below.refl _ _) | (with_reducible assumption) | (with_reducible refine Below.alloc ?_ ?_ _) | (with_reducible refine below_drewN ?_ _) | (with_reducible refine Below.drew ?_) | (with_reducible refine Below.setCell ?_ ?_ _) | go_size))⟩

set_option maxHeartbeats 400000 in
theorem ofTwo_Cmp (p q : Nat) (a b c d : Int) (w : World) (hyes : Arm.okB a b = true ∧ Arm.okB c d = true) (hp : p < w.heap.size) (hq : q < w.heap.size)
    (ha : w.cell? ⟨p, 0, none⟩ = some (.int .i64 a)) (hb : w.cell? ⟨p, 1, none⟩ = some (.int .i64 b)) (hc : w.cell? ⟨q, 0, none⟩ = some (.int .i64 c)) (hd : w.cell? ⟨q, 1, none⟩ = some (.int .i64 d)) :
    Calls Try.prog 57 #[.agg #[.int .i64 a, .int .i64 b], .agg #[.int .i64 c, .int .i64 d], .func (.func 58) #[] #[.pointer (some ⟨p, 0, none⟩), .pointer (some ⟨q, 0, none⟩)]] w
      fun e w' => e = .returned (.tuple #[.int .i64 (Arm.sgn (a * d - c * b)), .int .i64 0]) ∧ Below w.heap.size w w' := by
  have hv : Hid (Arm.vE2 a b c d = 0) := by simp [Hid, Arm.vE2, hyes]
  have o1 := Lib.hid (Arm.okB_true.1 hyes.1)
  have o2 := Lib.hid (Arm.okB_true.1 hyes.2)
  clear hyes
  go_enter Try.func57, Try.ntmps57
  go_wp2_with fail
  refine (checkRatios_two _ a b c d _ (by simp) (by go_cell) (by go_cell) (by go_cell) (by go_cell)).mono ?_
  rintro e w1 ⟨rfl, hb1⟩
  have hB1 : Below w.heap.size w w1 := Below.trans (by (repeat' (first | (with_reducible exact Below.refl _ _) | (with_reducible assumption) | (with_reducible refine Below.alloc ?_ ?_ _) | (with_reducible refine below_drewN ?_ _) | (with_reducible refine Below.drew ?_) | (with_reducible refine Below.setCell ?_ ?_ _) | go_size))) (hb1.mono (by first | omega | (simp; done) | (simp; omega))); have hz1 := hb1.size; try simp at hz1
  rw [hv.out]
  go_wp2_with fail
  refine (Cmp1_any p q a b c d _ o1.out o2.out ((hB1.cell hp).trans ha) ((hB1.cell hp).trans hb) ((hB1.cell hq).trans hc) ((hB1.cell hq).trans hd)).mono ?_
  rintro e w2 ⟨rfl, rfl⟩
  go_wp2_with fail
  go_ret2
  exact ⟨rfl, by (repeat' (first | (with_reducible exact Below.refl _ _) | (with_reducible assumption) | (with_reducible refine Below.alloc ?_ ?_ _) | (with_reducible refine below_drewN ?_ _) | (with_reducible refine Below.drew ?_) | (with_reducible refine Below.setCell ?_ ?_ _) | go_size))⟩

set_option maxHeartbeats 400000 in
theorem Compare_any (a b c d : Int) (w : World) :
    Calls Try.prog 19 #[.agg #[.int .i64 a, .int .i64 b], .agg #[.int .i64 c, .int .i64 d]] w fun e w' => e = .returned (.tuple #[.int .i64 (Arm.cmpV a b c d), .int .i64 (Arm.cmpE a b c d)]) ∧ Below w.heap.size w w' := by
  by_cases hh : Arm.okB a b = true ∧ Arm.okB c d = true
  · go_enter Try.func19, Try.ntmps19
    have HH := Lib.hid hh
    clear hh
    go_wp2_with fail
    refine (ofTwo_Cmp _ _ a b c d _ HH.out (by first | omega | (simp; done) | (simp; omega)) (by first | omega | (simp; done) | (simp; omega)) (by go_cell) (by go_cell) (by go_cell) (by go_cell)).mono ?_
    rintro e w1 ⟨rfl, hb1⟩
    have hB1 : Below w.heap.size w w1 := Below.trans (by (repeat' (first | (with_reducible exact Below.refl _ _) | (with_reducible assumption) | (with_reducible refine Below.alloc ?_ ?_ _) | (with_reducible refine below_drewN ?_ _) | (with_reducible refine Below.drew ?_) | (with_reducible refine Below.setCell ?_ ?_ _) | go_size))) (hb1.mono (by first | omega | (simp; done) | (simp; omega))); have hz1 := hb1.size; try simp at hz1
    go_wp2_with fail
    go_ret2
    exact ⟨ret_2 (Arm.two_yes HH.out).symm (Arm.two_yes HH.out).symm, by (repeat' (first | (with_reducible exact Below.refl _ _) | (with_reducible assumption) | (with_reducible refine Below.alloc ?_ ?_ _) | (with_reducible refine below_drewN ?_ _) | (with_reducible refine Below.drew ?_) | (with_reducible refine Below.setCell ?_ ?_ _) | go_size))⟩
  · go_enter Try.func19, Try.ntmps19
    have HH := Lib.hid hh
    clear hh
    go_wp2_with fail
    refine (ofTwoI_no _ _ a b c d _ HH.out).mono ?_
    rintro e w1 ⟨rfl, hb1⟩
    have hB1 : Below w.heap.size w w1 := Below.trans (by (repeat' (first | (with_reducible exact Below.refl _ _) | (with_reducible assumption) | (with_reducible refine Below.alloc ?_ ?_ _) | (with_reducible refine below_drewN ?_ _) | (with_reducible refine Below.drew ?_) | (with_reducible refine Below.setCell ?_ ?_ _) | go_size))) (hb1.mono (by first | omega | (simp; done) | (simp; omega))); have hz1 := hb1.size; try simp at hz1
    go_wp2_with fail
    go_ret2
    exact ⟨ret_2 (Arm.two_no HH.out).symm (Arm.two_no HH.out).symm, by (repeat' (first | (with_reducible exact Below.refl _ _) | (with_reducible assumption) | (with_reducible refine Below.alloc ?_ ?_ _) | (with_reducible refine below_drewN ?_ _) | (with_reducible refine Below.drew ?_) | (with_reducible refine Below.setCell ?_ ?_ _) | go_size))⟩
end Go.Proofs.Ytfjcmmdfipppoaa
