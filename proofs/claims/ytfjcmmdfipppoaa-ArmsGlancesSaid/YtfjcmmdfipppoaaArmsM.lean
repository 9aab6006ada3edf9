/- Contracts of the parts of Best: the distance of two ratios, rounding down, moving a neighbour. -/
import Derived.Test.YtfjcmmdfipppoaaArmsE
import Derived.Test.YtfjcmmdfipppoaaArmsBq
import Derived.Deep.RegionHeld3
import Derived.Deep.LoopGhost
namespace Go.Proofs.Ytfjcmmdfipppoaa
open Go.RowKit

set_option maxHeartbeats 400000 in
theorem apart_any (n d p q : Int) (w : World) (h0 : -4000000000000000000 ≤ n * q) (h1 : n * q ≤ 4000000000000000000) (h2 : -4000000000000000000 ≤ p * d) (h3 : p * d ≤ 4000000000000000000) :
    Calls Try.prog 63 #[.agg #[.int .i64 n, .int .i64 d], .agg #[.int .i64 p, .int .i64 q]] w fun e w' => e = .returned (.int .i64 (Best.dst n d p q)) ∧ Below w.heap.size w w' := by
  go_enter Try.func63, Try.ntmps63
  go_wp2_with fail
  refine (withoutSign_any _ _ (by omega) (by omega)).mono ?_
  rintro e w1 ⟨rfl, rfl⟩
  go_wp2_with fail
  go_returns
  exact ⟨rfl, by (repeat' (first | (with_reducible exact Below.refl _ _) | (with_reducible assumption) | (with_reducible refine Below.alloc ?_ ?_ _) | (with_reducible refine below_drewN ?_ _) | (with_reducible refine Below.drew ?_) | (with_reducible refine Below.setCell ?_ ?_ _) | go_size))⟩

set_option maxHeartbeats 400000 in
theorem roundedDown_any (n d : Int) (w : World) (hd : 1 ≤ d) (h0 : -1000000 ≤ n) (h1 : n ≤ 1000000) :
    Calls Try.prog 84 #[.agg #[.int .i64 n, .int .i64 d]] w fun e w' => e = .returned (.int .i64 (n / d)) ∧ Below w.heap.size w w' := by
  have hne : ¬ d = 0 := by omega
  have b1 := tdiv_bd (n := n) hd (by omega) (by omega)
  have b2 : -1000000 ≤ n.tdiv d ∧ n.tdiv d ≤ 1000000 := by
    have h := Int.natAbs_tdiv n d
    have h2 : n.natAbs.div d.natAbs ≤ n.natAbs := Nat.div_le_self _ _
    rw [← h] at h2
    omega
  have k1 := Int.tmod_add_mul_tdiv n d
  have k2 := Int.emod_add_mul_ediv n d
  have k3 := Int.emod_nonneg n hne
  have k4 := Int.emod_lt_of_pos n (by omega : 0 < d)
  have k5 : (n.tmod d).natAbs < d.natAbs := by rw [Int.natAbs_tmod]; exact Nat.mod_lt _ (by omega)
  have k6 : n.tmod d < 0 → n.tdiv d - 1 = n / d := fun h => by
    have e : (n.tmod d + d) + d * (n.tdiv d - 1) = n := by rw [Int.mul_sub]; omega
    exact ((Int.ediv_emod_unique (by omega : 0 < d)).2 ⟨e, by omega, by omega⟩).1.symm
  have k7 : 0 ≤ n.tmod d → n.tdiv d = n / d := fun h =>
    ((Int.ediv_emod_unique (by omega : 0 < d)).2 ⟨k1, by omega, by omega⟩).1.symm
  have K6 := Lib.hid k6
  have K7 := Lib.hid k7
  clear k1 k2 k3 k4 k5 k6 k7 b1
  by_cases hneg : n.tmod d < 0
  · go_enter Try.func84, Try.ntmps84
    go_wp2_with fail
    go_returns
    exact ⟨ret_i (K6.out hneg), by (repeat' (first | (with_reducible exact Below.refl _ _) | (with_reducible assumption) | (with_reducible refine Below.alloc ?_ ?_ _) | (with_reducible refine below_drewN ?_ _) | (with_reducible refine Below.drew ?_) | (with_reducible refine Below.setCell ?_ ?_ _) | go_size))⟩
  · go_enter Try.func84, Try.ntmps84
    go_wp2_with fail
    go_returns
    exact ⟨ret_i (K7.out (by omega)), by (repeat' (first | (with_reducible exact Below.refl _ _) | (with_reducible assumption) | (with_reducible refine Below.alloc ?_ ?_ _) | (with_reducible refine below_drewN ?_ _) | (with_reducible refine Below.drew ?_) | (with_reducible refine Below.setCell ?_ ?_ _) | go_size))⟩

/-- What is read of three ratios, in any world behind a call. -/
theorem three_keep {w0 W w' : World} {g : Nat} {a b c e n d : Int}
    (hS : Below w0.heap.size w0 W ∧ (W.cell? ⟨g, 0, none⟩ = some (.int .i64 a) ∧ W.cell? ⟨g, 1, none⟩ = some (.int .i64 b)) ∧ (W.cell? ⟨g + 1, 0, none⟩ = some (.int .i64 c) ∧ W.cell? ⟨g + 1, 1, none⟩ = some (.int .i64 e)) ∧ (W.cell? ⟨g + 1 + 1, 0, none⟩ = some (.int .i64 n) ∧ W.cell? ⟨g + 1 + 1, 1, none⟩ = some (.int .i64 d)))
    (hg : g + 1 + 1 < w0.heap.size) (hb : Below W.heap.size W w') :
    Below w0.heap.size w0 w' ∧ (w'.cell? ⟨g, 0, none⟩ = some (.int .i64 a) ∧ w'.cell? ⟨g, 1, none⟩ = some (.int .i64 b)) ∧ (w'.cell? ⟨g + 1, 0, none⟩ = some (.int .i64 c) ∧ w'.cell? ⟨g + 1, 1, none⟩ = some (.int .i64 e)) ∧ (w'.cell? ⟨g + 1 + 1, 0, none⟩ = some (.int .i64 n) ∧ w'.cell? ⟨g + 1 + 1, 1, none⟩ = some (.int .i64 d)) := by
  obtain ⟨h, ⟨h0, h1⟩, ⟨h2, h3⟩, h4, h5⟩ := hS
  have hz := h.size
  have c0 : g < W.heap.size := by omega
  have c1 : g + 1 < W.heap.size := by omega
  have c2 : g + 1 + 1 < W.heap.size := by omega
  exact ⟨h.trans (hb.mono hz), ⟨(hb.cell c0).trans h0, (hb.cell c0).trans h1⟩, ⟨(hb.cell c1).trans h2, (hb.cell c1).trans h3⟩, (hb.cell c2).trans h4, (hb.cell c2).trans h5⟩

set_option maxHeartbeats 1000000 in
theorem moved_any (a b c e n d M : Int) (w : World) (hb : 1 ≤ b) (hbM : b ≤ M) (hM : M ≤ 1000000) (he : 1 ≤ e) (heM : e ≤ 1000000) (ha : -2000000000000 ≤ a ∧ a ≤ 2000000000000) (hc : -2000000000000 ≤ c ∧ c ≤ 2000000000000)
    (hn : -1000000 ≤ n ∧ n ≤ 1000000) (had : -2000000000000 ≤ a * d ∧ a * d ≤ 2000000000000) (hcd : -2000000000000 ≤ c * d ∧ c * d ≤ 2000000000000) (hQ : 1 ≤ Best.dst n d c e) :
    Calls Try.prog 85 #[.agg #[.int .i64 a, .int .i64 b], .agg #[.int .i64 c, .int .i64 e], .agg #[.int .i64 n, .int .i64 d], .int .i64 M] w
      fun r w' => r = .returned (.agg #[.int .i64 (a + Best.times M b e (Best.dst n d a b) (Best.dst n d c e) * c), .int .i64 (b + Best.times M b e (Best.dst n d a b) (Best.dst n d c e) * e)]) ∧ Below w.heap.size w w' := by
  have n1 := Arm.mul_bd hn.1 hn.2 (b := b) (y := 1000000) (by omega) (by omega)
  have n2 := Arm.mul_bd hn.1 hn.2 (b := e) (y := 1000000) (by omega) (by omega)
  have hP : 0 ≤ Best.dst n d a b := by unfold Best.dst; omega
  have hP' : Best.dst n d a b ≤ 3000000000000 := by unfold Best.dst; omega
  have hf := Best.times_facts (M := M) (b := b) (e := e) (P := Best.dst n d a b) (Q := Best.dst n d c e) hbM he hP hQ
  have m1 := Arm.mul_bd (a := Best.times M b e (Best.dst n d a b) (Best.dst n d c e)) (x := 1000000) (by omega) (by omega) hc.1 hc.2
  have q1 := Int.ediv_nonneg (a := M - b) (b := e) (by omega) (by omega)
  have q2 := Int.ediv_le_self (a := M - b) e (by omega)
  have q3 := Int.ediv_nonneg (a := Best.dst n d a b) (b := Best.dst n d c e) (by omega) (by omega)
  have q4 := Int.ediv_le_self (a := Best.dst n d a b) (Best.dst n d c e) (by omega)
  have hne : ¬ e = 0 := by omega
  have hQe : ¬ Best.dst n d c e = 0 := by omega
  have hT : Best.times M b e (Best.dst n d a b) (Best.dst n d c e) = min ((M - b) / e) (Best.dst n d a b / Best.dst n d c e) := rfl
  generalize Best.times M b e (Best.dst n d a b) (Best.dst n d c e) = T at *
  have HT := Lib.hid hT
  clear hT
  have m2 := Int.mul_nonneg hf.1 (by omega : 0 ≤ e)
  obtain ⟨f1, f2, f3, f4, f5⟩ := hf
  clear f5 f3
  go_enter Try.func85, Try.ntmps85
  go_wp2_with fail
  generalize hW : (((w.alloc _).alloc _).alloc _).alloc _ = W
  have hB0 : Below w.heap.size w W := by rw [← hW]; (repeat' (first | (with_reducible exact Below.refl _ _) | (with_reducible assumption) | (with_reducible refine Below.alloc ?_ ?_ _) | (with_reducible refine below_drewN ?_ _) | (with_reducible refine Below.drew ?_) | (with_reducible refine Below.setCell ?_ ?_ _) | go_size))
  have hlWa : w.heap.size < W.heap.size := (by rw [← hW]; clear hW; first | omega | (simp; done) | (simp; omega)); have hxWa0 : W.cell? ⟨w.heap.size, 0, none⟩ = some (.int .i64 (a)) := (by rw [← hW]; clear hW; (repeat (rw [World.cell?_alloc_lt _ _ _ (by first | omega | (simp; done) | (simp; omega))])); go_cell); have hxWa1 : W.cell? ⟨w.heap.size, 1, none⟩ = some (.int .i64 (b)) := (by rw [← hW]; clear hW; (repeat (rw [World.cell?_alloc_lt _ _ _ (by first | omega | (simp; done) | (simp; omega))])); go_cell)
  have hlWc : w.heap.size + 1 < W.heap.size := (by rw [← hW]; clear hW; first | omega | (simp; done) | (simp; omega)); have hxWc0 : W.cell? ⟨w.heap.size + 1, 0, none⟩ = some (.int .i64 (c)) := (by rw [← hW]; clear hW; (repeat (rw [World.cell?_alloc_lt _ _ _ (by first | omega | (simp; done) | (simp; omega))])); go_cell); have hxWc1 : W.cell? ⟨w.heap.size + 1, 1, none⟩ = some (.int .i64 (e)) := (by rw [← hW]; clear hW; (repeat (rw [World.cell?_alloc_lt _ _ _ (by first | omega | (simp; done) | (simp; omega))])); go_cell)
  have hlWn : w.heap.size + 1 + 1 < W.heap.size := (by rw [← hW]; clear hW; first | omega | (simp; done) | (simp; omega)); have hxWn0 : W.cell? ⟨w.heap.size + 1 + 1, 0, none⟩ = some (.int .i64 (n)) := (by rw [← hW]; clear hW; (repeat (rw [World.cell?_alloc_lt _ _ _ (by first | omega | (simp; done) | (simp; omega))])); go_cell); have hxWn1 : W.cell? ⟨w.heap.size + 1 + 1, 1, none⟩ = some (.int .i64 (d)) := (by rw [← hW]; clear hW; (repeat (rw [World.cell?_alloc_lt _ _ _ (by first | omega | (simp; done) | (simp; omega))])); go_cell)
  have hlWr : w.heap.size + 1 + 1 + 1 < W.heap.size := (by rw [← hW]; clear hW; first | omega | (simp; done) | (simp; omega)); have hxWr0 : W.cell? ⟨w.heap.size + 1 + 1 + 1, 0, none⟩ = some (.int .i64 (0)) := (by rw [← hW]; clear hW; (repeat (rw [World.cell?_alloc_lt _ _ _ (by first | omega | (simp; done) | (simp; omega))])); go_cell); have hxWr1 : W.cell? ⟨w.heap.size + 1 + 1 + 1, 1, none⟩ = some (.int .i64 (0)) := (by rw [← hW]; clear hW; (repeat (rw [World.cell?_alloc_lt _ _ _ (by first | omega | (simp; done) | (simp; omega))])); go_cell)
  have fr0 : W.frozen? ⟨w.heap.size + 1 + 1 + 1, 0, none⟩ = false := by rw [← hW]; clear hW; first | (go_simp; done) | (simp [*]; done)
  have fr1 : W.frozen? ⟨w.heap.size + 1 + 1 + 1, 1, none⟩ = false := by rw [← hW]; clear hW; first | (go_simp; done) | (simp [*]; done)
  clear hW
  go_region_held3 (fun w' => Below W.heap.size W w' ∧ (w'.cell? ⟨w.heap.size, 0, none⟩ = some (.int .i64 a) ∧ w'.cell? ⟨w.heap.size, 1, none⟩ = some (.int .i64 b)) ∧ (w'.cell? ⟨w.heap.size + 1, 0, none⟩ = some (.int .i64 c) ∧ w'.cell? ⟨w.heap.size + 1, 1, none⟩ = some (.int .i64 e)) ∧ (w'.cell? ⟨w.heap.size + 1 + 1, 0, none⟩ = some (.int .i64 n) ∧ w'.cell? ⟨w.heap.size + 1 + 1, 1, none⟩ = some (.int .i64 d)))
    (first | exact ⟨Below.refl _ _, ⟨hxWa0, hxWa1⟩, ⟨hxWc0, hxWc1⟩, hxWn0, hxWn1⟩ | exact ⟨(Below.refl _ _).drew, ⟨hxWa0, hxWa1⟩, ⟨hxWc0, hxWc1⟩, hxWn0, hxWn1⟩ | (with_reducible assumption))
    (first
      | (go_at_call_of 63 (Value.agg #[.int .i64 a, .int .i64 b]); refine (apart_any n d a b _ (by omega) (by omega) (by omega) (by omega)).mono ?_; rintro e w1 ⟨rfl, hb1⟩; have hS := three_keep (by with_reducible assumption) hlWn hb1)
      | (go_at_call 63; refine (apart_any n d c e _ (by omega) (by omega) (by omega) (by omega)).mono ?_; rintro e w1 ⟨rfl, hb1⟩; have hS := three_keep (by with_reducible assumption) hlWn hb1))
  obtain ⟨q, ⟨d0, d1⟩, ⟨d2, d3⟩, d4, d5⟩ : Below W.heap.size W w1 ∧ _ := by assumption
  have hB1 : Below w.heap.size w w1 := hB0.trans (q.mono hB0.size)
  have hz1 := q.size
  have fr0' : w1.frozen? ⟨w.heap.size + 1 + 1 + 1, 0, none⟩ = false := (q.frozen hlWr).trans fr0
  have fr1' : w1.frozen? ⟨w.heap.size + 1 + 1 + 1, 1, none⟩ = false := (q.frozen hlWr).trans fr1
  have r0 : w1.cell? ⟨w.heap.size + 1 + 1 + 1, 0, none⟩ = some (.int .i64 0) := (q.cell hlWr).trans hxWr0
  have r1 : w1.cell? ⟨w.heap.size + 1 + 1 + 1, 1, none⟩ = some (.int .i64 0) := (q.cell hlWr).trans hxWr1
  have hl1 : w.heap.size + 1 + 1 + 1 < w1.heap.size := by omega
  clear q hB0 hxWa0 hxWa1 hxWc0 hxWc1 hxWn0 hxWn1 hxWr0 hxWr1 fr0 fr1 hlWa hlWc hlWn hlWr
  have wa : IntKind.i64.wrap (M - b) = M - b := IntWalk.i64_in _ (by omega)
  have wb : IntKind.i64.wrap ((M - b) / e) = (M - b) / e := IntWalk.i64_in _ (by omega)
  have wc : IntKind.i64.wrap (Best.dst n d a b / Best.dst n d c e) = Best.dst n d a b / Best.dst n d c e := IntWalk.i64_in _ (by omega)
  have hE : (if IntKind.i64.wrap ((Best.dst n d a b).tdiv (Best.dst n d c e)) < IntKind.i64.wrap ((IntKind.i64.wrap (M - b)).tdiv e) then IntKind.i64.wrap ((Best.dst n d a b).tdiv (Best.dst n d c e)) else IntKind.i64.wrap ((IntKind.i64.wrap (M - b)).tdiv e)) = T := by
    rw [wa, Int.tdiv_eq_ediv_of_nonneg hP, Int.tdiv_eq_ediv_of_nonneg (by omega : 0 ≤ M - b), wb, wc, HT.out]
    split <;> omega
  rw [hE]
  clear hE wa wb wc q1 q2 q3 q4
  go_wp2_with fail
  refine ret_rat1 (b := w.heap.size + 1 + 1 + 1) (by rfl) rfl (by (repeat (rw [World.cell?_alloc_lt _ _ _ (by first | omega | (simp; done) | (simp; omega))])); go_cell) (by (repeat (rw [World.cell?_alloc_lt _ _ _ (by first | omega | (simp; done) | (simp; omega))])); go_cell) rfl ?_
  exact ⟨rfl, by (repeat' (first | (with_reducible exact Below.refl _ _) | (with_reducible assumption) | (with_reducible refine Below.alloc ?_ ?_ _) | (with_reducible refine below_drewN ?_ _) | (with_reducible refine Below.drew ?_) | (with_reducible refine Below.setCell ?_ ?_ _) | go_size))⟩

/-- The bounds of two neighbours. -/
theorem nb_bounds {n d M a b c e : Int} (h : Best.Nb n d M a b c e) (hM : M ≤ 1000000) (hd : 1 ≤ d ∧ d ≤ 1000000) (hn : -1000000 ≤ n ∧ n ≤ 1000000) :
    (-2000000000000 ≤ a ∧ a ≤ 2000000000000) ∧ (-2000000000000 ≤ c ∧ c ≤ 2000000000000) ∧ (-2000000000000 ≤ a * d ∧ a * d ≤ 2000000000000) ∧ (-2000000000000 ≤ c * d ∧ c * d ≤ 2000000000000) ∧
      Best.dst n d a b = n * b - a * d ∧ Best.dst n d c e = c * d - n * e ∧ n * b - a * d ≤ 1000000 ∧ c * d - n * e ≤ 1000000 := by
  have h1 := h.b1
  have h2 := h.bM
  have h3 := h.e1
  have h4 := h.eM
  have h5 := h.lo
  have h6 := h.hi
  have h7 := h.det
  have n1 := Arm.mul_bd hn.1 hn.2 (b := b) (y := 1000000) (by omega) (by omega)
  have n2 := Arm.mul_bd hn.1 hn.2 (b := e) (y := 1000000) (by omega) (by omega)
  have key : (n * b - a * d) * e + (c * d - n * e) * b = d := by grind
  have k1 := Best.le_mul (x := n * b - a * d) (y := e) (by omega) h3
  have k2 := Best.le_mul (x := c * d - n * e) (y := b) (by omega) h1
  have a1 : a * d ≤ 2000000000000 ∧ -2000000000000 ≤ a * d := by omega
  have a2 : c * d ≤ 2000000000000 ∧ -2000000000000 ≤ c * d := by omega
  have b1 : a.natAbs ≤ a.natAbs * d.natAbs := Nat.le_mul_of_pos_right _ (by omega)
  have b2 : c.natAbs ≤ c.natAbs * d.natAbs := Nat.le_mul_of_pos_right _ (by omega)
  rw [← Int.natAbs_mul] at b1 b2
  refine ⟨by omega, by omega, by omega, by omega, ?_, ?_, by omega, by omega⟩
  · unfold Best.dst; omega
  · unfold Best.dst; omega

end Go.Proofs.Ytfjcmmdfipppoaa
