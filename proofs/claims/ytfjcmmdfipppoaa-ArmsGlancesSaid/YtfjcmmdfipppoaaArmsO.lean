/- Contract of Best of package arms. -/
import Derived.Test.YtfjcmmdfipppoaaArmsN
namespace Go.Proofs.Ytfjcmmdfipppoaa
open Go.RowKit

/-- What Best returns for a valid ratio and number. -/
def SomeBest (n d M : Int) (w : World) (r : Ending) (w' : World) : Prop :=
  ∃ p q : Int, r = .returned (.tuple #[.agg #[.int .i64 p, .int .i64 q], .int .i64 0]) ∧ Best.Is n d M p q ∧ Below w.heap.size w w'
/-- The error of Best. -/
def Best.bE (n d M : Int) : Int := if Arm.okB n d = true then (if 1 ≤ M ∧ M ≤ 1000000 then 0 else 1) else 10
theorem Best.bE_ratio {n d M : Int} (h : Arm.okB n d = false) : Best.bE n d M = 10 := by unfold Best.bE; rw [h]; rfl
theorem Best.bE_arg {n d M : Int} (h : Arm.okB n d = true) (h2 : ¬ (1 ≤ M ∧ M ≤ 1000000)) : Best.bE n d M = 1 := by unfold Best.bE; rw [if_pos h, if_neg h2]
theorem Best.bE_ok {n d M : Int} (h : Arm.okB n d = true) (h2 : 1 ≤ M ∧ M ≤ 1000000) : Best.bE n d M = 0 := by unfold Best.bE; rw [if_pos h, if_pos h2]
/-- A valid ratio is reduced to a valid one. -/
theorem red_ok {n d : Int} (h : Arm.ok n d) : Arm.ok (Arm.redN n d) (Arm.redD n d) := by
  have hd := h.1.1
  have p := Best.red_parts (n := n) hd
  have g1 := Arm.gcd_pos_of (n := n) hd
  have k2 := Best.le_mul (x := Arm.redD n d) (y := (Int.gcd n d : Int)) (by omega) g1
  rw [Int.mul_comm] at k2
  have k1 : (Arm.redN n d).natAbs ≤ n.natAbs := by
    have e : n.natAbs = Int.gcd n d * (Arm.redN n d).natAbs := by
      have := congrArg Int.natAbs p.1
      rw [Int.natAbs_mul] at this
      simpa using this.symm
    rw [e]
    exact Nat.le_mul_of_pos_left _ (by omega)
  unfold Arm.ok at *
  omega
theorem fit_of {n d : Int} (h : Arm.ok n d) : Arm.fit n d = true := Arm.okB_true.2 (red_ok h)

set_option maxHeartbeats 1000000 in
theorem Best_err (n d M : Int) (w : World) (h : ¬ (Arm.okB n d = true ∧ (1 ≤ M ∧ M ≤ 1000000))) :
    Calls Try.prog 22 #[.agg #[.int .i64 n, .int .i64 d], .int .i64 M] w fun r w' => r = .returned (.tuple #[.agg #[.int .i64 0, .int .i64 0], .int .i64 (Best.bE n d M)]) ∧ Below w.heap.size w w' := by
  cases hok : Arm.okB n d
  · have e1 : Hid (Arm.rE n d = 10) := by simp [Hid, Arm.rE, hok]
    have e2 := Lib.hid (Best.bE_ratio (M := M) hok)
    clear h
    go_enter Try.func22, Try.ntmps22
    go_wp2_with fail
    refine (Reduce_any n d _).mono ?_
    rintro r w1 ⟨rfl, hb1⟩
    have hB1 : Below w.heap.size w w1 := Below.trans (by (repeat' (first | (with_reducible exact Below.refl _ _) | (with_reducible assumption) | (with_reducible refine Below.alloc ?_ ?_ _) | (with_reducible refine below_drewN ?_ _) | (with_reducible refine Below.drew ?_) | (with_reducible refine Below.setCell ?_ ?_ _) | go_size))) (hb1.mono (by first | omega | (simp; done) | (simp; omega))); have hz1 := hb1.size; try simp at hz1
    have hl1r : w.heap.size + 1 < w1.heap.size := (by omega); have hx1r0 : w1.cell? ⟨w.heap.size + 1, 0, none⟩ = some (.int .i64 (0)) := (by rw [(hb1.cell (by first | omega | (simp; done) | (simp; omega)))]; (repeat (rw [World.cell?_alloc_lt _ _ _ (by first | omega | (simp; done) | (simp; omega))])); go_cell); have hx1r1 : w1.cell? ⟨w.heap.size + 1, 1, none⟩ = some (.int .i64 (0)) := (by rw [(hb1.cell (by first | omega | (simp; done) | (simp; omega)))]; (repeat (rw [World.cell?_alloc_lt _ _ _ (by first | omega | (simp; done) | (simp; omega))])); go_cell)
    have hp1r0 : w1.frozen? ⟨w.heap.size + 1, 0, none⟩ = false := (by rw [(hb1.frozen (by first | omega | (simp; done) | (simp; omega)))]; first | (with_reducible assumption) | (go_simp; done) | (simp [*]; done)); have hp1r1 : w1.frozen? ⟨w.heap.size + 1, 1, none⟩ = false := (by rw [(hb1.frozen (by first | omega | (simp; done) | (simp; omega)))]; first | (with_reducible assumption) | (go_simp; done) | (simp [*]; done))
    rw [e1.out]
    go_wp2_with fail
    refine ret_rat (b := w.heap.size + 1) (by rfl) rfl rfl (by (repeat (rw [World.cell?_alloc_lt _ _ _ (by first | omega | (simp; done) | (simp; omega))])); go_cell) (by (repeat (rw [World.cell?_alloc_lt _ _ _ (by first | omega | (simp; done) | (simp; omega))])); go_cell) rfl ?_
    exact ⟨ret_t rfl rfl e2.out.symm, by (repeat' (first | (with_reducible exact Below.refl _ _) | (with_reducible assumption) | (with_reducible refine Below.alloc ?_ ?_ _) | (with_reducible refine below_drewN ?_ _) | (with_reducible refine Below.drew ?_) | (with_reducible refine Below.setCell ?_ ?_ _) | go_size))⟩
  · have hM : ¬ (1 ≤ M ∧ M ≤ 1000000) := fun h2 => h ⟨hok, h2⟩
    have e1 : Hid (Arm.rE n d = 0) := by
      have := fit_of (Arm.okB_true.1 hok)
      simp [Hid, Arm.rE, Arm.sE, hok, this]
    have e2 := Lib.hid (Best.bE_arg hok hM)
    clear h
    by_cases hM1 : M < 1
    all_goals
      go_enter Try.func22, Try.ntmps22
      go_wp2_with fail
      refine (Reduce_any n d _).mono ?_
      rintro r w1 ⟨rfl, hb1⟩
      have hB1 : Below w.heap.size w w1 := Below.trans (by (repeat' (first | (with_reducible exact Below.refl _ _) | (with_reducible assumption) | (with_reducible refine Below.alloc ?_ ?_ _) | (with_reducible refine below_drewN ?_ _) | (with_reducible refine Below.drew ?_) | (with_reducible refine Below.setCell ?_ ?_ _) | go_size))) (hb1.mono (by first | omega | (simp; done) | (simp; omega))); have hz1 := hb1.size; try simp at hz1
      have hl1r : w.heap.size + 1 < w1.heap.size := (by omega); have hx1r0 : w1.cell? ⟨w.heap.size + 1, 0, none⟩ = some (.int .i64 (0)) := (by rw [(hb1.cell (by first | omega | (simp; done) | (simp; omega)))]; (repeat (rw [World.cell?_alloc_lt _ _ _ (by first | omega | (simp; done) | (simp; omega))])); go_cell); have hx1r1 : w1.cell? ⟨w.heap.size + 1, 1, none⟩ = some (.int .i64 (0)) := (by rw [(hb1.cell (by first | omega | (simp; done) | (simp; omega)))]; (repeat (rw [World.cell?_alloc_lt _ _ _ (by first | omega | (simp; done) | (simp; omega))])); go_cell)
      have hp1r0 : w1.frozen? ⟨w.heap.size + 1, 0, none⟩ = false := (by rw [(hb1.frozen (by first | omega | (simp; done) | (simp; omega)))]; first | (with_reducible assumption) | (go_simp; done) | (simp [*]; done)); have hp1r1 : w1.frozen? ⟨w.heap.size + 1, 1, none⟩ = false := (by rw [(hb1.frozen (by first | omega | (simp; done) | (simp; omega)))]; first | (with_reducible assumption) | (go_simp; done) | (simp [*]; done))
      rw [e1.out]
      go_wp2_with fail
      refine ret_rat (b := w.heap.size + 1) (by rfl) rfl rfl (by (repeat (rw [World.cell?_alloc_lt _ _ _ (by first | omega | (simp; done) | (simp; omega))])); go_cell) (by (repeat (rw [World.cell?_alloc_lt _ _ _ (by first | omega | (simp; done) | (simp; omega))])); go_cell) rfl ?_
      exact ⟨ret_t rfl rfl e2.out.symm, by (repeat' (first | (with_reducible exact Below.refl _ _) | (with_reducible assumption) | (with_reducible refine Below.alloc ?_ ?_ _) | (with_reducible refine below_drewN ?_ _) | (with_reducible refine Below.drew ?_) | (with_reducible refine Below.setCell ?_ ?_ _) | go_size))⟩

theorem best_keep {w0 W w' : World} {x l h : Nat} {a b c e n d : Int} (hS : Below w0.heap.size w0 W ∧ (W.cell? ⟨x, 0, none⟩ = some (.int .i64 n) ∧ W.cell? ⟨x, 1, none⟩ = some (.int .i64 d)) ∧ (W.cell? ⟨l, 0, none⟩ = some (.int .i64 a) ∧ W.cell? ⟨l, 1, none⟩ = some (.int .i64 b)) ∧ (W.cell? ⟨h, 0, none⟩ = some (.int .i64 c) ∧ W.cell? ⟨h, 1, none⟩ = some (.int .i64 e))) (hx : x < w0.heap.size) (hl : l < w0.heap.size) (hh : h < w0.heap.size) (hb : Below W.heap.size W w') : Below w0.heap.size w0 w' ∧ (w'.cell? ⟨x, 0, none⟩ = some (.int .i64 n) ∧ w'.cell? ⟨x, 1, none⟩ = some (.int .i64 d)) ∧ (w'.cell? ⟨l, 0, none⟩ = some (.int .i64 a) ∧ w'.cell? ⟨l, 1, none⟩ = some (.int .i64 b)) ∧ (w'.cell? ⟨h, 0, none⟩ = some (.int .i64 c) ∧ w'.cell? ⟨h, 1, none⟩ = some (.int .i64 e)) := by
  obtain ⟨q, ⟨h0, h1⟩, ⟨h2, h3⟩, h4, h5⟩ := hS
  have hz := q.size
  have c0 : x < W.heap.size := by omega
  have c1 : l < W.heap.size := by omega
  have c2 : h < W.heap.size := by omega
  exact ⟨q.trans (hb.mono hz), ⟨(hb.cell c0).trans h0, (hb.cell c0).trans h1⟩, ⟨(hb.cell c1).trans h2, (hb.cell c1).trans h3⟩, (hb.cell c2).trans h4, (hb.cell c2).trans h5⟩

set_option maxHeartbeats 2000000 in
theorem Best_some (n d M : Int) (w : World) (hok : Arm.ok n d) (hM1 : 1 ≤ M) (hM2 : M ≤ 1000000) :
    Calls Try.prog 22 #[.agg #[.int .i64 n, .int .i64 d], .int .i64 M] w (SomeBest n d M w) := by
  have hokB := Arm.okB_true.2 hok
  have hfit := fit_of hok
  have e1 : Hid (Arm.rE n d = 0) := by simp [Hid, Arm.rE, Arm.sE, hokB, hfit]
  have eN : Hid (Arm.rN n d = Arm.redN n d) := by simp [Hid, Arm.rN, Arm.sN, hokB, hfit]
  have eD : Hid (Arm.rD n d = Arm.redD n d) := by simp [Hid, Arm.rD, Arm.sD, hokB, hfit]
  have hp := Best.red_parts (n := n) hok.1.1
  have hr := red_ok hok
  have hsc : Hid (∀ p q, Best.Is (Arm.redN n d) (Arm.redD n d) M p q → Best.Is n d M p q) := fun p q h => by
    have := h.scale (Arm.gcd_pos_of (n := n) hok.1.1)
    rw [hp.1, hp.2.1] at this
    exact this
  have HG := Lib.hid hp.2.2.1
  unfold Arm.ok at hr
  clear hp hokB hfit hok
  go_enter Try.func22, Try.ntmps22
  go_wp2_with fail
  refine (Reduce_any n d _).mono ?_
  rintro r w1 ⟨rfl, hb1⟩
  have hB1 : Below w.heap.size w w1 := Below.trans (by (repeat' (first | (with_reducible exact Below.refl _ _) | (with_reducible assumption) | (with_reducible refine Below.alloc ?_ ?_ _) | (with_reducible refine below_drewN ?_ _) | (with_reducible refine Below.drew ?_) | (with_reducible refine Below.setCell ?_ ?_ _) | go_size))) (hb1.mono (by first | omega | (simp; done) | (simp; omega))); have hz1 := hb1.size; try simp at hz1
  have hl1r : w.heap.size + 1 < w1.heap.size := (by omega); have hx1r0 : w1.cell? ⟨w.heap.size + 1, 0, none⟩ = some (.int .i64 (0)) := (by rw [(hb1.cell (by first | omega | (simp; done) | (simp; omega)))]; (repeat (rw [World.cell?_alloc_lt _ _ _ (by first | omega | (simp; done) | (simp; omega))])); go_cell); have hx1r1 : w1.cell? ⟨w.heap.size + 1, 1, none⟩ = some (.int .i64 (0)) := (by rw [(hb1.cell (by first | omega | (simp; done) | (simp; omega)))]; (repeat (rw [World.cell?_alloc_lt _ _ _ (by first | omega | (simp; done) | (simp; omega))])); go_cell)
  have hp1r0 : w1.frozen? ⟨w.heap.size + 1, 0, none⟩ = false := (by rw [(hb1.frozen (by first | omega | (simp; done) | (simp; omega)))]; first | (with_reducible assumption) | (go_simp; done) | (simp [*]; done)); have hp1r1 : w1.frozen? ⟨w.heap.size + 1, 1, none⟩ = false := (by rw [(hb1.frozen (by first | omega | (simp; done) | (simp; omega)))]; first | (with_reducible assumption) | (go_simp; done) | (simp [*]; done))
  rw [e1.out, eN.out, eD.out]
  generalize hn' : Arm.redN n d = n' at *
  generalize hd' : Arm.redD n d = d' at *
  clear e1 eN eD hn' hd'
  by_cases hex : d' ≤ M
  · have hI := Lib.hid (Best.exact_is HG.out hr.1.1 hex)
    go_wp2_with fail
    refine ret_rat (b := w.heap.size + 1) (by rfl) rfl rfl (by (repeat (rw [World.cell?_alloc_lt _ _ _ (by first | omega | (simp; done) | (simp; omega))])); go_cell) (by (repeat (rw [World.cell?_alloc_lt _ _ _ (by first | omega | (simp; done) | (simp; omega))])); go_cell) rfl ?_
    exact ⟨n', d', rfl, hsc.out _ _ hI.out, by (repeat' (first | (with_reducible exact Below.refl _ _) | (with_reducible assumption) | (with_reducible refine Below.alloc ?_ ?_ _) | (with_reducible refine below_drewN ?_ _) | (with_reducible refine Below.drew ?_) | (with_reducible refine Below.setCell ?_ ?_ _) | go_size))⟩
  · go_wp2_with fail
    refine (neighbours_any n' d' M _ HG.out hM1 (by omega) hr.1.2 hr.2).mono ?_
    rintro r w2 ⟨a, b, c, e, rfl, hnb, hs, hb2⟩
    have hB2 : Below w.heap.size w w2 := Below.trans (by (repeat' (first | (with_reducible exact Below.refl _ _) | (with_reducible assumption) | (with_reducible refine Below.alloc ?_ ?_ _) | (with_reducible refine below_drewN ?_ _) | (with_reducible refine Below.drew ?_) | (with_reducible refine Below.setCell ?_ ?_ _) | go_size))) (hb2.mono (by first | omega | (simp; done) | (simp; omega))); have hz2 := hb2.size; try simp at hz2
    have hl2r : w.heap.size + 1 < w2.heap.size := (by omega); have hx2r0 : w2.cell? ⟨w.heap.size + 1, 0, none⟩ = some (.int .i64 (0)) := (by rw [(hb2.cell (by first | omega | (simp; done) | (simp; omega)))]; (repeat (rw [World.cell?_alloc_lt _ _ _ (by first | omega | (simp; done) | (simp; omega))])); go_cell); have hx2r1 : w2.cell? ⟨w.heap.size + 1, 1, none⟩ = some (.int .i64 (0)) := (by rw [(hb2.cell (by first | omega | (simp; done) | (simp; omega)))]; (repeat (rw [World.cell?_alloc_lt _ _ _ (by first | omega | (simp; done) | (simp; omega))])); go_cell)
    have hp2r0 : w2.frozen? ⟨w.heap.size + 1, 0, none⟩ = false := (by rw [(hb2.frozen (by first | omega | (simp; done) | (simp; omega)))]; first | (with_reducible assumption) | (go_simp; done) | (simp [*]; done)); have hp2r1 : w2.frozen? ⟨w.heap.size + 1, 1, none⟩ = false := (by rw [(hb2.frozen (by first | omega | (simp; done) | (simp; omega)))]; first | (with_reducible assumption) | (go_simp; done) | (simp [*]; done))
    have hl2x : w1.heap.size < w2.heap.size := (by omega); have hx2x0 : w2.cell? ⟨w1.heap.size, 0, none⟩ = some (.int .i64 (n')) := (by rw [(hb2.cell (by first | omega | (simp; done) | (simp; omega)))]; (repeat (rw [World.cell?_alloc_lt _ _ _ (by first | omega | (simp; done) | (simp; omega))])); go_cell); have hx2x1 : w2.cell? ⟨w1.heap.size, 1, none⟩ = some (.int .i64 (d')) := (by rw [(hb2.cell (by first | omega | (simp; done) | (simp; omega)))]; (repeat (rw [World.cell?_alloc_lt _ _ _ (by first | omega | (simp; done) | (simp; omega))])); go_cell)
    have bd := nb_bounds hnb hM2 hr.1 hr.2
    have b1 := hnb.b1
    have b2 := hnb.bM
    have b3 := hnb.e1
    have b4 := hnb.eM
    have n1 := Arm.mul_bd hr.2.1 hr.2.2 (b := b) (y := 1000000) (by omega) (by omega)
    have n2 := Arm.mul_bd hr.2.1 hr.2.2 (b := e) (y := 1000000) (by omega) (by omega)
    have hP1 := hnb.lo
    have hQ1 := hnb.hi
    have HL : Hid ((n' * b - a * d') * e < (c * d' - n' * e) * b ∨ ((n' * b - a * d') * e = (c * d' - n' * e) * b ∧ b ≤ e) → Best.Is n d M a b) := fun h => hsc.out _ _ (Best.is_low hnb hr.1.1 hs h)
    have HH : Hid ((c * d' - n' * e) * b < (n' * b - a * d') * e ∨ ((c * d' - n' * e) * b = (n' * b - a * d') * e ∧ e < b) → Best.Is n d M c e) := fun h => hsc.out _ _ (Best.is_high hnb hr.1.1 hs h)
    obtain ⟨bd1, bd2, bd3, bd4, bd5, bd6, bd7, bd8⟩ := bd
    rw [← bd5, ← bd6] at HL HH
    rw [← bd5] at bd7 hP1
    rw [← bd6] at bd8 hQ1
    clear hnb bd5 bd6
    have m1 := Arm.mul_pos_bd hP1 bd7 b3 (by omega : e ≤ 1000000)
    have m2 := Arm.mul_pos_bd hQ1 bd8 b1 (by omega : b ≤ 1000000)
    go_wp2_with fail
    generalize hW : (World.alloc (World.alloc _ _) _) = W
    have hB3 : Below w.heap.size w W := by rw [← hW]; clear hW; (repeat' (first | (with_reducible exact Below.refl _ _) | (with_reducible assumption) | (with_reducible refine Below.alloc ?_ ?_ _) | (with_reducible refine below_drewN ?_ _) | (with_reducible refine Below.drew ?_) | (with_reducible refine Below.setCell ?_ ?_ _) | go_size))
    have hlWl : w2.heap.size < W.heap.size := (by rw [← hW]; clear hW; first | omega | (simp; done) | (simp; omega)); have hxWl0 : W.cell? ⟨w2.heap.size, 0, none⟩ = some (.int .i64 (a)) := (by rw [← hW]; clear hW; (repeat (rw [World.cell?_alloc_lt _ _ _ (by first | omega | (simp; done) | (simp; omega))])); go_cell); have hxWl1 : W.cell? ⟨w2.heap.size, 1, none⟩ = some (.int .i64 (b)) := (by rw [← hW]; clear hW; (repeat (rw [World.cell?_alloc_lt _ _ _ (by first | omega | (simp; done) | (simp; omega))])); go_cell)
    have hlWh : w2.heap.size + 1 < W.heap.size := (by rw [← hW]; clear hW; first | omega | (simp; done) | (simp; omega)); have hxWh0 : W.cell? ⟨w2.heap.size + 1, 0, none⟩ = some (.int .i64 (c)) := (by rw [← hW]; clear hW; (repeat (rw [World.cell?_alloc_lt _ _ _ (by first | omega | (simp; done) | (simp; omega))])); go_cell); have hxWh1 : W.cell? ⟨w2.heap.size + 1, 1, none⟩ = some (.int .i64 (e)) := (by rw [← hW]; clear hW; (repeat (rw [World.cell?_alloc_lt _ _ _ (by first | omega | (simp; done) | (simp; omega))])); go_cell)
    have hlWx : w1.heap.size < W.heap.size := (by rw [← hW]; clear hW; first | omega | (simp; done) | (simp; omega)); have hxWx0 : W.cell? ⟨w1.heap.size, 0, none⟩ = some (.int .i64 (n')) := (by rw [← hW]; clear hW; (repeat (rw [World.cell?_alloc_lt _ _ _ (by first | omega | (simp; done) | (simp; omega))])); go_cell); have hxWx1 : W.cell? ⟨w1.heap.size, 1, none⟩ = some (.int .i64 (d')) := (by rw [← hW]; clear hW; (repeat (rw [World.cell?_alloc_lt _ _ _ (by first | omega | (simp; done) | (simp; omega))])); go_cell)
    have hlWr : w.heap.size + 1 < W.heap.size := (by rw [← hW]; clear hW; first | omega | (simp; done) | (simp; omega)); have hxWr0 : W.cell? ⟨w.heap.size + 1, 0, none⟩ = some (.int .i64 (0)) := (by rw [← hW]; clear hW; (repeat (rw [World.cell?_alloc_lt _ _ _ (by first | omega | (simp; done) | (simp; omega))])); go_cell); have hxWr1 : W.cell? ⟨w.heap.size + 1, 1, none⟩ = some (.int .i64 (0)) := (by rw [← hW]; clear hW; (repeat (rw [World.cell?_alloc_lt _ _ _ (by first | omega | (simp; done) | (simp; omega))])); go_cell)
    have fr0 : W.frozen? ⟨w.heap.size + 1, 0, none⟩ = false := by
      rw [← hW]
      clear hW
      rw [World.frozen?_alloc_old _ _ _ (by simp; omega), World.frozen?_alloc_old _ _ _ (by simp; omega)]
      assumption
    have fr1 : W.frozen? ⟨w.heap.size + 1, 1, none⟩ = false := by
      rw [← hW]
      clear hW
      rw [World.frozen?_alloc_old _ _ _ (by simp; omega), World.frozen?_alloc_old _ _ _ (by simp; omega)]
      assumption
    clear hW
    have wq1 : IntKind.i64.wrap (Best.dst n' d' a b * e) = Best.dst n' d' a b * e := IntWalk.i64_in _ (by omega)
    have wq2 : IntKind.i64.wrap (Best.dst n' d' c e * b) = Best.dst n' d' c e * b := IntWalk.i64_in _ (by omega)
    go_region_held3 (fun w' => Below W.heap.size W w' ∧ (w'.cell? ⟨w1.heap.size, 0, none⟩ = some (.int .i64 n') ∧ w'.cell? ⟨w1.heap.size, 1, none⟩ = some (.int .i64 d')) ∧ (w'.cell? ⟨w2.heap.size, 0, none⟩ = some (.int .i64 a) ∧ w'.cell? ⟨w2.heap.size, 1, none⟩ = some (.int .i64 b)) ∧ (w'.cell? ⟨w2.heap.size + 1, 0, none⟩ = some (.int .i64 c) ∧ w'.cell? ⟨w2.heap.size + 1, 1, none⟩ = some (.int .i64 e)))
      (first | exact ⟨Below.refl _ _, ⟨hxWx0, hxWx1⟩, ⟨hxWl0, hxWl1⟩, hxWh0, hxWh1⟩ | exact ⟨(Below.refl _ _).drew, ⟨hxWx0, hxWx1⟩, ⟨hxWl0, hxWl1⟩, hxWh0, hxWh1⟩ | (with_reducible assumption))
      (first
        | (go_at_call 63; refine (apart_any n' d' a b _ (by omega) (by omega) (by omega) (by omega)).mono ?_; rintro r w3 ⟨rfl, hb3⟩; have hS := best_keep (by with_reducible assumption) hlWx hlWl hlWh hb3))
    obtain ⟨q, ⟨g0, g1⟩, ⟨g2, g3⟩, g4, g5⟩ : Below W.heap.size W w3 ∧ _ := by assumption
    have hlx3 : w1.heap.size < w3.heap.size := by have := q.size; omega
    have hll3 : w2.heap.size < w3.heap.size := by have := q.size; omega
    have hlh3 : w2.heap.size + 1 < w3.heap.size := by have := q.size; omega
    have hlr3 : w.heap.size + 1 < w3.heap.size := by have := q.size; omega
    have r0 := (q.cell hlWr).trans hxWr0
    have r1 := (q.cell hlWr).trans hxWr1
    have fr0' := (q.frozen hlWr).trans fr0
    have fr1' := (q.frozen hlWr).trans fr1
    have hB4 := hB3.trans (q.mono hB3.size)
    clear q hB3 hxWx0 hxWx1 hxWl0 hxWl1 hxWh0 hxWh1 hxWr0 hxWr1 fr0 fr1 hlWx hlWl hlWh hlWr

    go_wp2_with fail
    go_region_held3 (fun w' => Below w3.heap.size w3 w' ∧ (w'.cell? ⟨w1.heap.size, 0, none⟩ = some (.int .i64 n') ∧ w'.cell? ⟨w1.heap.size, 1, none⟩ = some (.int .i64 d')) ∧ (w'.cell? ⟨w2.heap.size, 0, none⟩ = some (.int .i64 a) ∧ w'.cell? ⟨w2.heap.size, 1, none⟩ = some (.int .i64 b)) ∧ (w'.cell? ⟨w2.heap.size + 1, 0, none⟩ = some (.int .i64 c) ∧ w'.cell? ⟨w2.heap.size + 1, 1, none⟩ = some (.int .i64 e)))
      (first | exact ⟨Below.refl _ _, ⟨g0, g1⟩, ⟨g2, g3⟩, g4, g5⟩ | exact ⟨(Below.refl _ _).drew, ⟨g0, g1⟩, ⟨g2, g3⟩, g4, g5⟩ | (with_reducible assumption))
      (first
        | (go_at_call 63; refine (apart_any n' d' c e _ (by omega) (by omega) (by omega) (by omega)).mono ?_; rintro r w4 ⟨rfl, hb4⟩; have hS := best_keep (by with_reducible assumption) hlx3 hll3 hlh3 hb4))
    obtain ⟨q, ⟨k0, k1⟩, ⟨k2, k3⟩, k4, k5⟩ : Below w3.heap.size w3 w4 ∧ _ := by assumption
    have hl4 : w.heap.size + 1 < w4.heap.size := by have := q.size; omega
    have r0' := (q.cell hlr3).trans r0
    have r1' := (q.cell hlr3).trans r1
    have fr0'' := (q.frozen hlr3).trans fr0'
    have fr1'' := (q.frozen hlr3).trans fr1'
    have hB5 := hB4.trans (q.mono hB4.size)
    clear q hB4 r0 r1 fr0' fr1' g0 g1 g2 g3 g4 g5

    clear wq1 wq2
    by_cases hlow : Best.dst n' d' a b * e < Best.dst n' d' c e * b
    · have hI := Lib.hid (HL.out (.inl hlow))
      go_wp2_with fail
      refine ret_rat (b := w.heap.size + 1) (by rfl) rfl rfl (by (repeat (rw [World.cell?_alloc_lt _ _ _ (by first | omega | (simp; done) | (simp; omega))])); go_cell) (by (repeat (rw [World.cell?_alloc_lt _ _ _ (by first | omega | (simp; done) | (simp; omega))])); go_cell) rfl ?_
      exact ⟨a, b, rfl, hI.out, by (repeat' (first | (with_reducible exact Below.refl _ _) | (with_reducible assumption) | (with_reducible refine Below.alloc ?_ ?_ _) | (with_reducible refine below_drewN ?_ _) | (with_reducible refine Below.drew ?_) | (with_reducible refine Below.setCell ?_ ?_ _) | go_size))⟩
    · by_cases heq : Best.dst n' d' a b * e = Best.dst n' d' c e * b
      · have heqB : (Best.dst n' d' a b * e == Best.dst n' d' c e * b) = true := by simpa using heq
        by_cases hbe : b ≤ e
        · have hI := Lib.hid (HL.out (.inr ⟨heq, hbe⟩))
          clear heq
          go_wp2_with fail
          refine ret_rat (b := w.heap.size + 1) (by rfl) rfl rfl (by (repeat (rw [World.cell?_alloc_lt _ _ _ (by first | omega | (simp; done) | (simp; omega))])); go_cell) (by (repeat (rw [World.cell?_alloc_lt _ _ _ (by first | omega | (simp; done) | (simp; omega))])); go_cell) rfl ?_
          exact ⟨a, b, rfl, hI.out, by (repeat' (first | (with_reducible exact Below.refl _ _) | (with_reducible assumption) | (with_reducible refine Below.alloc ?_ ?_ _) | (with_reducible refine below_drewN ?_ _) | (with_reducible refine Below.drew ?_) | (with_reducible refine Below.setCell ?_ ?_ _) | go_size))⟩
        · have hI := Lib.hid (HH.out (.inr ⟨heq.symm, by omega⟩))
          clear heq
          go_wp2_with fail
          refine ret_rat (b := w.heap.size + 1) (by rfl) rfl rfl (by (repeat (rw [World.cell?_alloc_lt _ _ _ (by first | omega | (simp; done) | (simp; omega))])); go_cell) (by (repeat (rw [World.cell?_alloc_lt _ _ _ (by first | omega | (simp; done) | (simp; omega))])); go_cell) rfl ?_
          exact ⟨c, e, rfl, hI.out, by (repeat' (first | (with_reducible exact Below.refl _ _) | (with_reducible assumption) | (with_reducible refine Below.alloc ?_ ?_ _) | (with_reducible refine below_drewN ?_ _) | (with_reducible refine Below.drew ?_) | (with_reducible refine Below.setCell ?_ ?_ _) | go_size))⟩
      · have hI := Lib.hid (HH.out (.inl (by omega)))
        have heqB : (Best.dst n' d' a b * e == Best.dst n' d' c e * b) = false := by simpa using heq
        go_wp2_with fail
        refine ret_rat (b := w.heap.size + 1) (by rfl) rfl rfl (by (repeat (rw [World.cell?_alloc_lt _ _ _ (by first | omega | (simp; done) | (simp; omega))])); go_cell) (by (repeat (rw [World.cell?_alloc_lt _ _ _ (by first | omega | (simp; done) | (simp; omega))])); go_cell) rfl ?_
        exact ⟨c, e, rfl, hI.out, by (repeat' (first | (with_reducible exact Below.refl _ _) | (with_reducible assumption) | (with_reducible refine Below.alloc ?_ ?_ _) | (with_reducible refine below_drewN ?_ _) | (with_reducible refine Below.drew ?_) | (with_reducible refine Below.setCell ?_ ?_ _) | go_size))⟩
end Go.Proofs.Ytfjcmmdfipppoaa
