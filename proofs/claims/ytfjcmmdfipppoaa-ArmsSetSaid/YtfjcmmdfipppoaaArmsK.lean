/- Contracts of the specification's Value, Set, Scale and Off. -/
import Derived.Test.YtfjcmmdfipppoaaArmsJ
namespace Go.Proofs.Ytfjcmmdfipppoaa
open Go.RowKit

/-- The specification's scaled setting, and its error. -/
def Arm.rscV (u v r s lo hi a b sc : Int) (is : Bool) : Int := if Arm.cE u v r s lo hi a b is = 0 then Arm.bst (Arm.far u v r s a b sc) lo (hi + 1 - lo).toNat else 0

set_option maxHeartbeats 1000000 in
theorem refSet_any (u v r s lo hi a b : Int) (w : World) :
    Calls Try.prog 28 #[.agg #[.int .i64 u, .int .i64 v, .int .i64 r, .int .i64 s, .int .i64 lo, .int .i64 hi], .agg #[.int .i64 a, .int .i64 b]] w
      fun e w' => e = .returned (.tuple #[.int .i64 (Arm.rscV u v r s lo hi a b 1 true), .int .i64 (Arm.cE u v r s lo hi a b true)]) ∧ Below w.heap.size w w' := by
  by_cases hz : Arm.cE u v r s lo hi a b true = 0
  · have HH := Lib.hid (Arm.cE_zero.1 hz)
    have HV : Hid (Arm.rscV u v r s lo hi a b 1 true = Arm.bst (Arm.far u v r s a b 1) lo (hi + 1 - lo).toNat) := by unfold Arm.rscV; rw [if_pos hz]; rfl
    have HZ := Lib.hid hz
    clear hz
    go_enter Try.func28, Try.ntmps28
    go_wp2_with fail
    refine (refCheck_any u v r s lo hi a b true _).mono ?_
    rintro e w1 ⟨rfl, hb1⟩
    have hB1 : Below w.heap.size w w1 := Below.trans (by (repeat' (first | (with_reducible exact Below.refl _ _) | (with_reducible assumption) | (with_reducible refine Below.alloc ?_ ?_ _) | (with_reducible refine below_drewN ?_ _) | (with_reducible refine Below.drew ?_) | (with_reducible refine Below.setCell ?_ ?_ _) | go_size))) (hb1.mono (by first | omega | (simp; done) | (simp; omega))); have hz1 := hb1.size; try simp at hz1
    have hl1a : w.heap.size < w1.heap.size := (by omega); have hx1a0 : w1.cell? ⟨w.heap.size, 0, none⟩ = some (.int .i64 (u)) := (by rw [(hb1.cell (by first | omega | (simp; done) | (simp; omega)))]; (repeat (rw [World.cell?_alloc_lt _ _ _ (by first | omega | (simp; done) | (simp; omega))])); go_cell); have hx1a1 : w1.cell? ⟨w.heap.size, 1, none⟩ = some (.int .i64 (v)) := (by rw [(hb1.cell (by first | omega | (simp; done) | (simp; omega)))]; (repeat (rw [World.cell?_alloc_lt _ _ _ (by first | omega | (simp; done) | (simp; omega))])); go_cell); have hx1a2 : w1.cell? ⟨w.heap.size, 2, none⟩ = some (.int .i64 (r)) := (by rw [(hb1.cell (by first | omega | (simp; done) | (simp; omega)))]; (repeat (rw [World.cell?_alloc_lt _ _ _ (by first | omega | (simp; done) | (simp; omega))])); go_cell); have hx1a3 : w1.cell? ⟨w.heap.size, 3, none⟩ = some (.int .i64 (s)) := (by rw [(hb1.cell (by first | omega | (simp; done) | (simp; omega)))]; (repeat (rw [World.cell?_alloc_lt _ _ _ (by first | omega | (simp; done) | (simp; omega))])); go_cell); have hx1a4 : w1.cell? ⟨w.heap.size, 4, none⟩ = some (.int .i64 (lo)) := (by rw [(hb1.cell (by first | omega | (simp; done) | (simp; omega)))]; (repeat (rw [World.cell?_alloc_lt _ _ _ (by first | omega | (simp; done) | (simp; omega))])); go_cell); have hx1a5 : w1.cell? ⟨w.heap.size, 5, none⟩ = some (.int .i64 (hi)) := (by rw [(hb1.cell (by first | omega | (simp; done) | (simp; omega)))]; (repeat (rw [World.cell?_alloc_lt _ _ _ (by first | omega | (simp; done) | (simp; omega))])); go_cell)
    have hl1b : w.heap.size + 1 < w1.heap.size := (by omega); have hx1b0 : w1.cell? ⟨w.heap.size + 1, 0, none⟩ = some (.int .i64 (a)) := (by rw [(hb1.cell (by first | omega | (simp; done) | (simp; omega)))]; (repeat (rw [World.cell?_alloc_lt _ _ _ (by first | omega | (simp; done) | (simp; omega))])); go_cell); have hx1b1 : w1.cell? ⟨w.heap.size + 1, 1, none⟩ = some (.int .i64 (b)) := (by rw [(hb1.cell (by first | omega | (simp; done) | (simp; omega)))]; (repeat (rw [World.cell?_alloc_lt _ _ _ (by first | omega | (simp; done) | (simp; omega))])); go_cell)
    rw [HZ.out]
    go_wp2_with fail
    refine (refset_any u v r s lo hi 1 a b _ HH.out.1 HH.out.2.1 (by omega)).mono ?_
    rintro e w2 ⟨rfl, hb2⟩
    have hB2 : Below w.heap.size w w2 := Below.trans (by (repeat' (first | (with_reducible exact Below.refl _ _) | (with_reducible assumption) | (with_reducible refine Below.alloc ?_ ?_ _) | (with_reducible refine below_drewN ?_ _) | (with_reducible refine Below.drew ?_) | (with_reducible refine Below.setCell ?_ ?_ _) | go_size))) (hb2.mono (by first | omega | (simp; done) | (simp; omega))); have hz2 := hb2.size; try simp at hz2
    go_wp2_with fail
    go_ret2
    exact ⟨ret_2 HV.out.symm HZ.out.symm, by (repeat' (first | (with_reducible exact Below.refl _ _) | (with_reducible assumption) | (with_reducible refine Below.alloc ?_ ?_ _) | (with_reducible refine below_drewN ?_ _) | (with_reducible refine Below.drew ?_) | (with_reducible refine Below.setCell ?_ ?_ _) | go_size))⟩
  · have HV : Hid (Arm.rscV u v r s lo hi a b 1 true = 0) := by unfold Arm.rscV; rw [if_neg hz]; rfl
    have hz' : (Arm.cE u v r s lo hi a b true != 0) = true := by simpa using hz
    go_enter Try.func28, Try.ntmps28
    go_wp2_with fail
    refine (refCheck_any u v r s lo hi a b true _).mono ?_
    rintro e w1 ⟨rfl, hb1⟩
    have hB1 : Below w.heap.size w w1 := Below.trans (by (repeat' (first | (with_reducible exact Below.refl _ _) | (with_reducible assumption) | (with_reducible refine Below.alloc ?_ ?_ _) | (with_reducible refine below_drewN ?_ _) | (with_reducible refine Below.drew ?_) | (with_reducible refine Below.setCell ?_ ?_ _) | go_size))) (hb1.mono (by first | omega | (simp; done) | (simp; omega))); have hz1 := hb1.size; try simp at hz1
    go_wp2_with fail
    go_ret2
    exact ⟨ret_2 HV.out.symm rfl, by (repeat' (first | (with_reducible exact Below.refl _ _) | (with_reducible assumption) | (with_reducible refine Below.alloc ?_ ?_ _) | (with_reducible refine below_drewN ?_ _) | (with_reducible refine Below.drew ?_) | (with_reducible refine Below.setCell ?_ ?_ _) | go_size))⟩

/-- What is read of an arm and a ratio, in any world behind a call. -/
theorem arm_keep {w0 W w' : World} {g : Nat} {u v r s lo hi a b : Int}
    (hS : Below w0.heap.size w0 W ∧ (W.cell? ⟨g, 0, none⟩ = some (.int .i64 u) ∧ W.cell? ⟨g, 1, none⟩ = some (.int .i64 v) ∧ W.cell? ⟨g, 2, none⟩ = some (.int .i64 r) ∧ W.cell? ⟨g, 3, none⟩ = some (.int .i64 s) ∧ W.cell? ⟨g, 4, none⟩ = some (.int .i64 lo) ∧ W.cell? ⟨g, 5, none⟩ = some (.int .i64 hi)) ∧ W.cell? ⟨g + 1, 0, none⟩ = some (.int .i64 a) ∧ W.cell? ⟨g + 1, 1, none⟩ = some (.int .i64 b))
    (hg : g + 1 < w0.heap.size) (hb : Below W.heap.size W w') :
    Below w0.heap.size w0 w' ∧ (w'.cell? ⟨g, 0, none⟩ = some (.int .i64 u) ∧ w'.cell? ⟨g, 1, none⟩ = some (.int .i64 v) ∧ w'.cell? ⟨g, 2, none⟩ = some (.int .i64 r) ∧ w'.cell? ⟨g, 3, none⟩ = some (.int .i64 s) ∧ w'.cell? ⟨g, 4, none⟩ = some (.int .i64 lo) ∧ w'.cell? ⟨g, 5, none⟩ = some (.int .i64 hi)) ∧ w'.cell? ⟨g + 1, 0, none⟩ = some (.int .i64 a) ∧ w'.cell? ⟨g + 1, 1, none⟩ = some (.int .i64 b) := by
  obtain ⟨h, ⟨h0, h1, h2, h3, h4, h5⟩, h6, h7⟩ := hS
  have hz := h.size
  have c0 : g < W.heap.size := by omega
  have c1 : g + 1 < W.heap.size := by omega
  exact ⟨h.trans (hb.mono hz), ⟨(hb.cell c0).trans h0, (hb.cell c0).trans h1, (hb.cell c0).trans h2, (hb.cell c0).trans h3, (hb.cell c0).trans h4, (hb.cell c0).trans h5⟩, (hb.cell c1).trans h6, (hb.cell c1).trans h7⟩

set_option maxHeartbeats 1000000 in
theorem refScale_any (u v r s lo hi sc a b : Int) (w : World) :
    Calls Try.prog 32 #[.agg #[.int .i64 u, .int .i64 v, .int .i64 r, .int .i64 s, .int .i64 lo, .int .i64 hi], .int .i64 sc, .agg #[.int .i64 a, .int .i64 b]] w
      fun e w' => e = .returned (.tuple #[.int .i64 (Arm.rscV u v r s lo hi a b sc (inB sc 1 100)), .int .i64 (Arm.cE u v r s lo hi a b (inB sc 1 100))]) ∧ Below w.heap.size w w' := by
  by_cases hz : Arm.cE u v r s lo hi a b (inB sc 1 100) = 0
  · have HH := Lib.hid (Arm.cE_zero.1 hz)
    have HV : Hid (Arm.rscV u v r s lo hi a b sc (inB sc 1 100) = Arm.bst (Arm.far u v r s a b sc) lo (hi + 1 - lo).toNat) := by unfold Arm.rscV; rw [if_pos hz]; rfl
    have HZ := Lib.hid hz
    clear hz
    go_enter Try.func32, Try.ntmps32
    go_wp2_with fail
    generalize hW : (w.alloc _).alloc _ = W
    have hB0 : Below w.heap.size w W := by rw [← hW]; (repeat' (first | (with_reducible exact Below.refl _ _) | (with_reducible assumption) | (with_reducible refine Below.alloc ?_ ?_ _) | (with_reducible refine below_drewN ?_ _) | (with_reducible refine Below.drew ?_) | (with_reducible refine Below.setCell ?_ ?_ _) | go_size))
    have hlWa : w.heap.size < W.heap.size := (by rw [← hW]; clear hW; first | omega | (simp; done) | (simp; omega)); have hxWa0 : W.cell? ⟨w.heap.size, 0, none⟩ = some (.int .i64 (u)) := (by rw [← hW]; clear hW; (repeat (rw [World.cell?_alloc_lt _ _ _ (by first | omega | (simp; done) | (simp; omega))])); go_cell); have hxWa1 : W.cell? ⟨w.heap.size, 1, none⟩ = some (.int .i64 (v)) := (by rw [← hW]; clear hW; (repeat (rw [World.cell?_alloc_lt _ _ _ (by first | omega | (simp; done) | (simp; omega))])); go_cell); have hxWa2 : W.cell? ⟨w.heap.size, 2, none⟩ = some (.int .i64 (r)) := (by rw [← hW]; clear hW; (repeat (rw [World.cell?_alloc_lt _ _ _ (by first | omega | (simp; done) | (simp; omega))])); go_cell); have hxWa3 : W.cell? ⟨w.heap.size, 3, none⟩ = some (.int .i64 (s)) := (by rw [← hW]; clear hW; (repeat (rw [World.cell?_alloc_lt _ _ _ (by first | omega | (simp; done) | (simp; omega))])); go_cell); have hxWa4 : W.cell? ⟨w.heap.size, 4, none⟩ = some (.int .i64 (lo)) := (by rw [← hW]; clear hW; (repeat (rw [World.cell?_alloc_lt _ _ _ (by first | omega | (simp; done) | (simp; omega))])); go_cell); have hxWa5 : W.cell? ⟨w.heap.size, 5, none⟩ = some (.int .i64 (hi)) := (by rw [← hW]; clear hW; (repeat (rw [World.cell?_alloc_lt _ _ _ (by first | omega | (simp; done) | (simp; omega))])); go_cell)
    have hlWb : w.heap.size + 1 < W.heap.size := (by rw [← hW]; clear hW; first | omega | (simp; done) | (simp; omega)); have hxWb0 : W.cell? ⟨w.heap.size + 1, 0, none⟩ = some (.int .i64 (a)) := (by rw [← hW]; clear hW; (repeat (rw [World.cell?_alloc_lt _ _ _ (by first | omega | (simp; done) | (simp; omega))])); go_cell); have hxWb1 : W.cell? ⟨w.heap.size + 1, 1, none⟩ = some (.int .i64 (b)) := (by rw [← hW]; clear hW; (repeat (rw [World.cell?_alloc_lt _ _ _ (by first | omega | (simp; done) | (simp; omega))])); go_cell)
    clear hW
    go_region_held3 (fun w' => Below W.heap.size W w' ∧ (w'.cell? ⟨w.heap.size, 0, none⟩ = some (.int .i64 u) ∧ w'.cell? ⟨w.heap.size, 1, none⟩ = some (.int .i64 v) ∧ w'.cell? ⟨w.heap.size, 2, none⟩ = some (.int .i64 r) ∧ w'.cell? ⟨w.heap.size, 3, none⟩ = some (.int .i64 s) ∧ w'.cell? ⟨w.heap.size, 4, none⟩ = some (.int .i64 lo) ∧ w'.cell? ⟨w.heap.size, 5, none⟩ = some (.int .i64 hi)) ∧ w'.cell? ⟨w.heap.size + 1, 0, none⟩ = some (.int .i64 a) ∧ w'.cell? ⟨w.heap.size + 1, 1, none⟩ = some (.int .i64 b))
      (first | exact ⟨Below.refl _ _, ⟨hxWa0, hxWa1, hxWa2, hxWa3, hxWa4, hxWa5⟩, hxWb0, hxWb1⟩ | exact ⟨(Below.refl _ _).drew, ⟨hxWa0, hxWa1, hxWa2, hxWa3, hxWa4, hxWa5⟩, hxWb0, hxWb1⟩ | assumption)
      (first
        | (go_at_call 46; refine (Within_any _ _ _ _).mono ?_; rintro e w1 ⟨rfl, rfl⟩)
        | (go_at_call 68; refine (refCheck_any u v r s lo hi a b _ _).mono ?_; rintro e w1 ⟨rfl, hb1⟩; have hS := arm_keep (by assumption) hlWb hb1))
    obtain ⟨q, ⟨d0, d1, d2, d3, d4, d5⟩, d6, d7⟩ : Below W.heap.size W w1 ∧ _ := by assumption
    have hB1 : Below w.heap.size w w1 := hB0.trans (q.mono hB0.size)
    have hz1 := hB1.size
    rw [HZ.out]
    go_wp2_with fail
    refine (refset_any u v r s lo hi sc a b _ HH.out.1 HH.out.2.1 (inB_true.1 HH.out.2.2.1)).mono ?_
    rintro e w2 ⟨rfl, hb2⟩
    have hB2 : Below w.heap.size w w2 := Below.trans (by (repeat' (first | (with_reducible exact Below.refl _ _) | (with_reducible assumption) | (with_reducible refine Below.alloc ?_ ?_ _) | (with_reducible refine below_drewN ?_ _) | (with_reducible refine Below.drew ?_) | (with_reducible refine Below.setCell ?_ ?_ _) | go_size))) (hb2.mono (by first | omega | (simp; done) | (simp; omega))); have hz2 := hb2.size; try simp at hz2
    go_wp2_with fail
    go_ret2
    exact ⟨ret_2 HV.out.symm HZ.out.symm, by (repeat' (first | (with_reducible exact Below.refl _ _) | (with_reducible assumption) | (with_reducible refine Below.alloc ?_ ?_ _) | (with_reducible refine below_drewN ?_ _) | (with_reducible refine Below.drew ?_) | (with_reducible refine Below.setCell ?_ ?_ _) | go_size))⟩
  · have HV : Hid (Arm.rscV u v r s lo hi a b sc (inB sc 1 100) = 0) := by unfold Arm.rscV; rw [if_neg hz]; rfl
    have hz' : (Arm.cE u v r s lo hi a b (inB sc 1 100) != 0) = true := by simpa using hz
    go_enter Try.func32, Try.ntmps32
    go_wp2_with fail
    generalize hW : (w.alloc _).alloc _ = W
    have hB0 : Below w.heap.size w W := by rw [← hW]; (repeat' (first | (with_reducible exact Below.refl _ _) | (with_reducible assumption) | (with_reducible refine Below.alloc ?_ ?_ _) | (with_reducible refine below_drewN ?_ _) | (with_reducible refine Below.drew ?_) | (with_reducible refine Below.setCell ?_ ?_ _) | go_size))
    have hlWa : w.heap.size < W.heap.size := (by rw [← hW]; clear hW; first | omega | (simp; done) | (simp; omega)); have hxWa0 : W.cell? ⟨w.heap.size, 0, none⟩ = some (.int .i64 (u)) := (by rw [← hW]; clear hW; (repeat (rw [World.cell?_alloc_lt _ _ _ (by first | omega | (simp; done) | (simp; omega))])); go_cell); have hxWa1 : W.cell? ⟨w.heap.size, 1, none⟩ = some (.int .i64 (v)) := (by rw [← hW]; clear hW; (repeat (rw [World.cell?_alloc_lt _ _ _ (by first | omega | (simp; done) | (simp; omega))])); go_cell); have hxWa2 : W.cell? ⟨w.heap.size, 2, none⟩ = some (.int .i64 (r)) := (by rw [← hW]; clear hW; (repeat (rw [World.cell?_alloc_lt _ _ _ (by first | omega | (simp; done) | (simp; omega))])); go_cell); have hxWa3 : W.cell? ⟨w.heap.size, 3, none⟩ = some (.int .i64 (s)) := (by rw [← hW]; clear hW; (repeat (rw [World.cell?_alloc_lt _ _ _ (by first | omega | (simp; done) | (simp; omega))])); go_cell); have hxWa4 : W.cell? ⟨w.heap.size, 4, none⟩ = some (.int .i64 (lo)) := (by rw [← hW]; clear hW; (repeat (rw [World.cell?_alloc_lt _ _ _ (by first | omega | (simp; done) | (simp; omega))])); go_cell); have hxWa5 : W.cell? ⟨w.heap.size, 5, none⟩ = some (.int .i64 (hi)) := (by rw [← hW]; clear hW; (repeat (rw [World.cell?_alloc_lt _ _ _ (by first | omega | (simp; done) | (simp; omega))])); go_cell)
    have hlWb : w.heap.size + 1 < W.heap.size := (by rw [← hW]; clear hW; first | omega | (simp; done) | (simp; omega)); have hxWb0 : W.cell? ⟨w.heap.size + 1, 0, none⟩ = some (.int .i64 (a)) := (by rw [← hW]; clear hW; (repeat (rw [World.cell?_alloc_lt _ _ _ (by first | omega | (simp; done) | (simp; omega))])); go_cell); have hxWb1 : W.cell? ⟨w.heap.size + 1, 1, none⟩ = some (.int .i64 (b)) := (by rw [← hW]; clear hW; (repeat (rw [World.cell?_alloc_lt _ _ _ (by first | omega | (simp; done) | (simp; omega))])); go_cell)
    clear hW
    go_region_held3 (fun w' => Below W.heap.size W w' ∧ (w'.cell? ⟨w.heap.size, 0, none⟩ = some (.int .i64 u) ∧ w'.cell? ⟨w.heap.size, 1, none⟩ = some (.int .i64 v) ∧ w'.cell? ⟨w.heap.size, 2, none⟩ = some (.int .i64 r) ∧ w'.cell? ⟨w.heap.size, 3, none⟩ = some (.int .i64 s) ∧ w'.cell? ⟨w.heap.size, 4, none⟩ = some (.int .i64 lo) ∧ w'.cell? ⟨w.heap.size, 5, none⟩ = some (.int .i64 hi)) ∧ w'.cell? ⟨w.heap.size + 1, 0, none⟩ = some (.int .i64 a) ∧ w'.cell? ⟨w.heap.size + 1, 1, none⟩ = some (.int .i64 b))
      (first | exact ⟨Below.refl _ _, ⟨hxWa0, hxWa1, hxWa2, hxWa3, hxWa4, hxWa5⟩, hxWb0, hxWb1⟩ | exact ⟨(Below.refl _ _).drew, ⟨hxWa0, hxWa1, hxWa2, hxWa3, hxWa4, hxWa5⟩, hxWb0, hxWb1⟩ | assumption)
      (first
        | (go_at_call 46; refine (Within_any _ _ _ _).mono ?_; rintro e w1 ⟨rfl, rfl⟩)
        | (go_at_call 68; refine (refCheck_any u v r s lo hi a b _ _).mono ?_; rintro e w1 ⟨rfl, hb1⟩; have hS := arm_keep (by assumption) hlWb hb1))
    obtain ⟨q, ⟨d0, d1, d2, d3, d4, d5⟩, d6, d7⟩ : Below W.heap.size W w1 ∧ _ := by assumption
    have hB1 : Below w.heap.size w w1 := hB0.trans (q.mono hB0.size)
    have hz1 := hB1.size
    go_wp2_with fail
    go_ret2
    exact ⟨ret_2 HV.out.symm rfl, by (repeat' (first | (with_reducible exact Below.refl _ _) | (with_reducible assumption) | (with_reducible refine Below.alloc ?_ ?_ _) | (with_reducible refine below_drewN ?_ _) | (with_reducible refine Below.drew ?_) | (with_reducible refine Below.setCell ?_ ?_ _) | go_size))⟩

set_option maxHeartbeats 1000000 in
theorem refValue_any (u v r s lo hi n : Int) (w : World) :
    Calls Try.prog 26 #[.agg #[.int .i64 u, .int .i64 v, .int .i64 r, .int .i64 s, .int .i64 lo, .int .i64 hi], .int .i64 n] w
      fun e w' => e = .returned (.tuple #[.agg #[.int .i64 (Arm.valN u v r s lo hi n (inB n lo hi)), .int .i64 (Arm.valD u v r s lo hi n (inB n lo hi))], .int .i64 (Arm.valE u v r s lo hi n (inB n lo hi))]) ∧ Below w.heap.size w w' := by
  by_cases hz : Arm.cE u v r s lo hi 1 1 (inB n lo hi) = 0
  · have HH := Lib.hid (Arm.cE_zero.1 hz)
    have e1 : Hid (Arm.valN u v r s lo hi n (inB n lo hi) = Arm.sN (n * (u * r)) (v * s)) := by unfold Arm.valN; rw [hz]; rfl
    have e2 : Hid (Arm.valD u v r s lo hi n (inB n lo hi) = Arm.sD (n * (u * r)) (v * s)) := by unfold Arm.valD; rw [hz]; rfl
    have e3 : Hid (Arm.valE u v r s lo hi n (inB n lo hi) = Arm.sE (n * (u * r)) (v * s)) := by unfold Arm.valE; rw [hz]; rfl
    have HZ := Lib.hid hz
    have hn := inB_true.1 HH.out.2.2.1
    have h1 := HH.out.1
    have m1 := Arm.mul_pos_bd h1.1.1.1 h1.1.1.2 h1.2.1.1.1 h1.2.1.1.2
    have m2 := Arm.mul_pos_bd h1.1.2.1 h1.1.2.2 h1.2.1.2.1 h1.2.1.2.2
    have m4 := Arm.mul_pos_bd (a := n) (x := 10000) (by have := h1.2.2; omega) (by have := h1.2.2; omega) m1.1 m1.2
    clear hz h1
    go_enter Try.func26, Try.ntmps26
    go_wp2_with fail
    generalize hW : (w.alloc _).alloc _ = W
    have hB0 : Below w.heap.size w W := by rw [← hW]; (repeat' (first | (with_reducible exact Below.refl _ _) | (with_reducible assumption) | (with_reducible refine Below.alloc ?_ ?_ _) | (with_reducible refine below_drewN ?_ _) | (with_reducible refine Below.drew ?_) | (with_reducible refine Below.setCell ?_ ?_ _) | go_size))
    have hlWa : w.heap.size < W.heap.size := (by rw [← hW]; clear hW; first | omega | (simp; done) | (simp; omega)); have hxWa0 : W.cell? ⟨w.heap.size, 0, none⟩ = some (.int .i64 (u)) := (by rw [← hW]; clear hW; (repeat (rw [World.cell?_alloc_lt _ _ _ (by first | omega | (simp; done) | (simp; omega))])); go_cell); have hxWa1 : W.cell? ⟨w.heap.size, 1, none⟩ = some (.int .i64 (v)) := (by rw [← hW]; clear hW; (repeat (rw [World.cell?_alloc_lt _ _ _ (by first | omega | (simp; done) | (simp; omega))])); go_cell); have hxWa2 : W.cell? ⟨w.heap.size, 2, none⟩ = some (.int .i64 (r)) := (by rw [← hW]; clear hW; (repeat (rw [World.cell?_alloc_lt _ _ _ (by first | omega | (simp; done) | (simp; omega))])); go_cell); have hxWa3 : W.cell? ⟨w.heap.size, 3, none⟩ = some (.int .i64 (s)) := (by rw [← hW]; clear hW; (repeat (rw [World.cell?_alloc_lt _ _ _ (by first | omega | (simp; done) | (simp; omega))])); go_cell); have hxWa4 : W.cell? ⟨w.heap.size, 4, none⟩ = some (.int .i64 (lo)) := (by rw [← hW]; clear hW; (repeat (rw [World.cell?_alloc_lt _ _ _ (by first | omega | (simp; done) | (simp; omega))])); go_cell); have hxWa5 : W.cell? ⟨w.heap.size, 5, none⟩ = some (.int .i64 (hi)) := (by rw [← hW]; clear hW; (repeat (rw [World.cell?_alloc_lt _ _ _ (by first | omega | (simp; done) | (simp; omega))])); go_cell)
    have hlWr : w.heap.size + 1 < W.heap.size := (by rw [← hW]; clear hW; first | omega | (simp; done) | (simp; omega)); have hxWr0 : W.cell? ⟨w.heap.size + 1, 0, none⟩ = some (.int .i64 (0)) := (by rw [← hW]; clear hW; (repeat (rw [World.cell?_alloc_lt _ _ _ (by first | omega | (simp; done) | (simp; omega))])); go_cell); have hxWr1 : W.cell? ⟨w.heap.size + 1, 1, none⟩ = some (.int .i64 (0)) := (by rw [← hW]; clear hW; (repeat (rw [World.cell?_alloc_lt _ _ _ (by first | omega | (simp; done) | (simp; omega))])); go_cell)
    have fr0 : W.frozen? ⟨w.heap.size + 1, 0, none⟩ = false := by rw [← hW]; clear hW; first | (go_simp; done) | (simp [*]; done)
    have fr1 : W.frozen? ⟨w.heap.size + 1, 1, none⟩ = false := by rw [← hW]; clear hW; first | (go_simp; done) | (simp [*]; done)
    clear hW
    go_region_held3 (fun w' => Below W.heap.size W w' ∧ (w'.cell? ⟨w.heap.size, 0, none⟩ = some (.int .i64 u) ∧ w'.cell? ⟨w.heap.size, 1, none⟩ = some (.int .i64 v) ∧ w'.cell? ⟨w.heap.size, 2, none⟩ = some (.int .i64 r) ∧ w'.cell? ⟨w.heap.size, 3, none⟩ = some (.int .i64 s) ∧ w'.cell? ⟨w.heap.size, 4, none⟩ = some (.int .i64 lo) ∧ w'.cell? ⟨w.heap.size, 5, none⟩ = some (.int .i64 hi)) ∧ w'.cell? ⟨w.heap.size + 1, 0, none⟩ = some (.int .i64 0) ∧ w'.cell? ⟨w.heap.size + 1, 1, none⟩ = some (.int .i64 0))
      (first | exact ⟨Below.refl _ _, ⟨hxWa0, hxWa1, hxWa2, hxWa3, hxWa4, hxWa5⟩, hxWr0, hxWr1⟩ | exact ⟨(Below.refl _ _).drew, ⟨hxWa0, hxWa1, hxWa2, hxWa3, hxWa4, hxWa5⟩, hxWr0, hxWr1⟩ | assumption)
      (first
        | (go_at_call 46; refine (Within_any _ _ _ _).mono ?_; rintro e w1 ⟨rfl, rfl⟩)
        | (go_at_call 68; refine (refCheck_any u v r s lo hi 1 1 _ _).mono ?_; rintro e w1 ⟨rfl, hb1⟩; have hS := arm_keep (by assumption) hlWr hb1))
    obtain ⟨q, ⟨d0, d1, d2, d3, d4, d5⟩, d6, d7⟩ : Below W.heap.size W w1 ∧ _ := by assumption
    have hB1 : Below w.heap.size w w1 := hB0.trans (q.mono hB0.size)
    have hz1 := q.size
    have fr0' : w1.frozen? ⟨w.heap.size + 1, 0, none⟩ = false := (q.frozen hlWr).trans fr0
    have fr1' : w1.frozen? ⟨w.heap.size + 1, 1, none⟩ = false := (q.frozen hlWr).trans fr1
    have hl1 : w.heap.size + 1 < w1.heap.size := by omega
    rw [HZ.out]
    go_wp2_with fail
    refine (ValueOf_any u v r s lo hi n _ HH.out.1 hn).mono ?_
    rintro e w2 ⟨rfl, hb2⟩
    have hB2 : Below w.heap.size w w2 := Below.trans (by (repeat' (first | (with_reducible exact Below.refl _ _) | (with_reducible assumption) | (with_reducible refine Below.alloc ?_ ?_ _) | (with_reducible refine below_drewN ?_ _) | (with_reducible refine Below.drew ?_) | (with_reducible refine Below.setCell ?_ ?_ _) | go_size))) (hb2.mono (by first | omega | (simp; done) | (simp; omega))); have hz2 := hb2.size; try simp at hz2
    have hl2r : w.heap.size + 1 < w2.heap.size := (by omega); have hx2r0 : w2.cell? ⟨w.heap.size + 1, 0, none⟩ = some (.int .i64 (0)) := (by rw [(hb2.cell (by first | omega | (simp; done) | (simp; omega)))]; (repeat (rw [World.cell?_alloc_lt _ _ _ (by first | omega | (simp; done) | (simp; omega))])); go_cell); have hx2r1 : w2.cell? ⟨w.heap.size + 1, 1, none⟩ = some (.int .i64 (0)) := (by rw [(hb2.cell (by first | omega | (simp; done) | (simp; omega)))]; (repeat (rw [World.cell?_alloc_lt _ _ _ (by first | omega | (simp; done) | (simp; omega))])); go_cell)
    have hp2r0 : w2.frozen? ⟨w.heap.size + 1, 0, none⟩ = false := (by rw [(hb2.frozen (by first | omega | (simp; done) | (simp; omega)))]; first | (with_reducible assumption) | (go_simp; done) | (simp [*]; done)); have hp2r1 : w2.frozen? ⟨w.heap.size + 1, 1, none⟩ = false := (by rw [(hb2.frozen (by first | omega | (simp; done) | (simp; omega)))]; first | (with_reducible assumption) | (go_simp; done) | (simp [*]; done))
    go_wp2_with fail
    refine (refResult_any (n * (u * r)) (v * s) _ (by omega) (by omega) (by omega) (by omega)).mono ?_
    rintro e w3 ⟨rfl, hb3⟩
    have hB3 : Below w.heap.size w w3 := Below.trans (by (repeat' (first | (with_reducible exact Below.refl _ _) | (with_reducible assumption) | (with_reducible refine Below.alloc ?_ ?_ _) | (with_reducible refine below_drewN ?_ _) | (with_reducible refine Below.drew ?_) | (with_reducible refine Below.setCell ?_ ?_ _) | go_size))) (hb3.mono (by first | omega | (simp; done) | (simp; omega))); have hz3 := hb3.size; try simp at hz3
    have hl3r : w.heap.size + 1 < w3.heap.size := (by omega); have hx3r0 : w3.cell? ⟨w.heap.size + 1, 0, none⟩ = some (.int .i64 (0)) := (by rw [(hb3.cell (by first | omega | (simp; done) | (simp; omega)))]; (repeat (rw [World.cell?_alloc_lt _ _ _ (by first | omega | (simp; done) | (simp; omega))])); go_cell); have hx3r1 : w3.cell? ⟨w.heap.size + 1, 1, none⟩ = some (.int .i64 (0)) := (by rw [(hb3.cell (by first | omega | (simp; done) | (simp; omega)))]; (repeat (rw [World.cell?_alloc_lt _ _ _ (by first | omega | (simp; done) | (simp; omega))])); go_cell)
    have hp3r0 : w3.frozen? ⟨w.heap.size + 1, 0, none⟩ = false := (by rw [(hb3.frozen (by first | omega | (simp; done) | (simp; omega)))]; first | (with_reducible assumption) | (go_simp; done) | (simp [*]; done)); have hp3r1 : w3.frozen? ⟨w.heap.size + 1, 1, none⟩ = false := (by rw [(hb3.frozen (by first | omega | (simp; done) | (simp; omega)))]; first | (with_reducible assumption) | (go_simp; done) | (simp [*]; done))
    go_wp2_with fail
    refine ret_rat (b := w.heap.size + 1) (by rfl) rfl rfl (by (repeat (rw [World.cell?_alloc_lt _ _ _ (by first | omega | (simp; done) | (simp; omega))])); go_cell) (by (repeat (rw [World.cell?_alloc_lt _ _ _ (by first | omega | (simp; done) | (simp; omega))])); go_cell) rfl ?_
    exact ⟨ret_t e1.out.symm e2.out.symm e3.out.symm, by (repeat' (first | (with_reducible exact Below.refl _ _) | (with_reducible assumption) | (with_reducible refine Below.alloc ?_ ?_ _) | (with_reducible refine below_drewN ?_ _) | (with_reducible refine Below.drew ?_) | (with_reducible refine Below.setCell ?_ ?_ _) | go_size))⟩
  · have e1 : Hid (Arm.valN u v r s lo hi n (inB n lo hi) = 0) := by unfold Arm.valN; rw [if_neg hz]; rfl
    have e2 : Hid (Arm.valD u v r s lo hi n (inB n lo hi) = 0) := by unfold Arm.valD; rw [if_neg hz]; rfl
    have e3 : Hid (Arm.valE u v r s lo hi n (inB n lo hi) = Arm.cE u v r s lo hi 1 1 (inB n lo hi)) := by unfold Arm.valE; rw [if_neg hz]; rfl
    have hz' : (Arm.cE u v r s lo hi 1 1 (inB n lo hi) != 0) = true := by simpa using hz
    clear hz
    go_enter Try.func26, Try.ntmps26
    go_wp2_with fail
    generalize hW : (w.alloc _).alloc _ = W
    have hB0 : Below w.heap.size w W := by rw [← hW]; (repeat' (first | (with_reducible exact Below.refl _ _) | (with_reducible assumption) | (with_reducible refine Below.alloc ?_ ?_ _) | (with_reducible refine below_drewN ?_ _) | (with_reducible refine Below.drew ?_) | (with_reducible refine Below.setCell ?_ ?_ _) | go_size))
    have hlWa : w.heap.size < W.heap.size := (by rw [← hW]; clear hW; first | omega | (simp; done) | (simp; omega)); have hxWa0 : W.cell? ⟨w.heap.size, 0, none⟩ = some (.int .i64 (u)) := (by rw [← hW]; clear hW; (repeat (rw [World.cell?_alloc_lt _ _ _ (by first | omega | (simp; done) | (simp; omega))])); go_cell); have hxWa1 : W.cell? ⟨w.heap.size, 1, none⟩ = some (.int .i64 (v)) := (by rw [← hW]; clear hW; (repeat (rw [World.cell?_alloc_lt _ _ _ (by first | omega | (simp; done) | (simp; omega))])); go_cell); have hxWa2 : W.cell? ⟨w.heap.size, 2, none⟩ = some (.int .i64 (r)) := (by rw [← hW]; clear hW; (repeat (rw [World.cell?_alloc_lt _ _ _ (by first | omega | (simp; done) | (simp; omega))])); go_cell); have hxWa3 : W.cell? ⟨w.heap.size, 3, none⟩ = some (.int .i64 (s)) := (by rw [← hW]; clear hW; (repeat (rw [World.cell?_alloc_lt _ _ _ (by first | omega | (simp; done) | (simp; omega))])); go_cell); have hxWa4 : W.cell? ⟨w.heap.size, 4, none⟩ = some (.int .i64 (lo)) := (by rw [← hW]; clear hW; (repeat (rw [World.cell?_alloc_lt _ _ _ (by first | omega | (simp; done) | (simp; omega))])); go_cell); have hxWa5 : W.cell? ⟨w.heap.size, 5, none⟩ = some (.int .i64 (hi)) := (by rw [← hW]; clear hW; (repeat (rw [World.cell?_alloc_lt _ _ _ (by first | omega | (simp; done) | (simp; omega))])); go_cell)
    have hlWr : w.heap.size + 1 < W.heap.size := (by rw [← hW]; clear hW; first | omega | (simp; done) | (simp; omega)); have hxWr0 : W.cell? ⟨w.heap.size + 1, 0, none⟩ = some (.int .i64 (0)) := (by rw [← hW]; clear hW; (repeat (rw [World.cell?_alloc_lt _ _ _ (by first | omega | (simp; done) | (simp; omega))])); go_cell); have hxWr1 : W.cell? ⟨w.heap.size + 1, 1, none⟩ = some (.int .i64 (0)) := (by rw [← hW]; clear hW; (repeat (rw [World.cell?_alloc_lt _ _ _ (by first | omega | (simp; done) | (simp; omega))])); go_cell)
    have fr0 : W.frozen? ⟨w.heap.size + 1, 0, none⟩ = false := by rw [← hW]; clear hW; first | (go_simp; done) | (simp [*]; done)
    have fr1 : W.frozen? ⟨w.heap.size + 1, 1, none⟩ = false := by rw [← hW]; clear hW; first | (go_simp; done) | (simp [*]; done)
    clear hW
    go_region_held3 (fun w' => Below W.heap.size W w' ∧ (w'.cell? ⟨w.heap.size, 0, none⟩ = some (.int .i64 u) ∧ w'.cell? ⟨w.heap.size, 1, none⟩ = some (.int .i64 v) ∧ w'.cell? ⟨w.heap.size, 2, none⟩ = some (.int .i64 r) ∧ w'.cell? ⟨w.heap.size, 3, none⟩ = some (.int .i64 s) ∧ w'.cell? ⟨w.heap.size, 4, none⟩ = some (.int .i64 lo) ∧ w'.cell? ⟨w.heap.size, 5, none⟩ = some (.int .i64 hi)) ∧ w'.cell? ⟨w.heap.size + 1, 0, none⟩ = some (.int .i64 0) ∧ w'.cell? ⟨w.heap.size + 1, 1, none⟩ = some (.int .i64 0))
      (first | exact ⟨Below.refl _ _, ⟨hxWa0, hxWa1, hxWa2, hxWa3, hxWa4, hxWa5⟩, hxWr0, hxWr1⟩ | exact ⟨(Below.refl _ _).drew, ⟨hxWa0, hxWa1, hxWa2, hxWa3, hxWa4, hxWa5⟩, hxWr0, hxWr1⟩ | assumption)
      (first
        | (go_at_call 46; refine (Within_any _ _ _ _).mono ?_; rintro e w1 ⟨rfl, rfl⟩)
        | (go_at_call 68; refine (refCheck_any u v r s lo hi 1 1 _ _).mono ?_; rintro e w1 ⟨rfl, hb1⟩; have hS := arm_keep (by assumption) hlWr hb1))
    obtain ⟨q, ⟨d0, d1, d2, d3, d4, d5⟩, d6, d7⟩ : Below W.heap.size W w1 ∧ _ := by assumption
    have hB1 : Below w.heap.size w w1 := hB0.trans (q.mono hB0.size)
    have hz1 := q.size
    have fr0' : w1.frozen? ⟨w.heap.size + 1, 0, none⟩ = false := (q.frozen hlWr).trans fr0
    have fr1' : w1.frozen? ⟨w.heap.size + 1, 1, none⟩ = false := (q.frozen hlWr).trans fr1
    have hl1 : w.heap.size + 1 < w1.heap.size := by omega
    go_wp2_with fail
    refine ret_rat (b := w.heap.size + 1) (by rfl) rfl rfl (by (repeat (rw [World.cell?_alloc_lt _ _ _ (by first | omega | (simp; done) | (simp; omega))])); go_cell) (by (repeat (rw [World.cell?_alloc_lt _ _ _ (by first | omega | (simp; done) | (simp; omega))])); go_cell) rfl ?_
    exact ⟨ret_t e1.out.symm e2.out.symm e3.out.symm, by (repeat' (first | (with_reducible exact Below.refl _ _) | (with_reducible assumption) | (with_reducible refine Below.alloc ?_ ?_ _) | (with_reducible refine below_drewN ?_ _) | (with_reducible refine Below.drew ?_) | (with_reducible refine Below.setCell ?_ ?_ _) | go_size))⟩
end Go.Proofs.Ytfjcmmdfipppoaa
