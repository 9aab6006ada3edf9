/- Plain facts on points and sides: turning, lying on a side, parting. No program is named here. -/
import Derived.Below
import Derived.Test.YtmjcdggmofohcaaBase
import Derived.Deep.RegionHeld3
namespace Go.Proofs.Ytmjcdggmofohcaa
namespace Geo
/-- The doubled area of three points. -/
def turn (a b c : Int × Int) : Int := (b.1 - a.1) * (c.2 - a.2) - (b.2 - a.2) * (c.1 - a.1)
def ptB (c : Int × Int) : Bool := inB c.1 (-200) 200 && inB c.2 (-200) 200
def btwB (a b c : Int) : Bool := decide (min a c ≤ b) && decide (b ≤ max a c)
def onB (a b p : Int × Int) : Bool := decide (turn a b p = 0) && (btwB a.1 p.1 b.1 && btwB a.2 p.2 b.2)
def passB (a b p : Int × Int) : Bool := decide (p ≠ a) && (decide (p ≠ b) && onB a b p)
def partB (a b c d : Int × Int) : Bool := (decide (turn a b c < 0) && decide (0 < turn a b d)) || (decide (0 < turn a b c) && decide (turn a b d < 0))
/-- Numbers that are small enough to be reckoned with. -/
def sm (a : Int × Int) : Prop := (-1000 ≤ a.1 ∧ a.1 ≤ 1000) ∧ (-1000 ≤ a.2 ∧ a.2 ≤ 1000)
theorem turn_bd {a b c : Int × Int} (ha : sm a) (hb : sm b) (hc : sm c) :
    (-4000000 ≤ (b.1 - a.1) * (c.2 - a.2) ∧ (b.1 - a.1) * (c.2 - a.2) ≤ 4000000) ∧ (-4000000 ≤ (b.2 - a.2) * (c.1 - a.1) ∧ (b.2 - a.2) * (c.1 - a.1) ≤ 4000000) ∧ (-8000000 ≤ turn a b c ∧ turn a b c ≤ 8000000) := by
  unfold sm at *
  have h1 := mul_bd (a := b.1 - a.1) (b := c.2 - a.2) (x := 2000) (y := 2000) (by omega) (by omega) (by omega) (by omega)
  have h2 := mul_bd (a := b.2 - a.2) (b := c.1 - a.1) (x := 2000) (y := 2000) (by omega) (by omega) (by omega) (by omega)
  unfold turn
  omega
end Geo
end Go.Proofs.Ytmjcdggmofohcaa

namespace Go.Proofs.Ytmjcdggmofohcaa
open Go.RowKit

set_option maxHeartbeats 400000 in
theorem between_any (a b c : Int) (w : World) :
    Calls Try.prog 105 #[.int .i64 a, .int .i64 b, .int .i64 c] w fun e w' => e = .returned (.bool (Geo.btwB a b c)) ∧ w = w' := by
  go_enter Try.func105, Try.ntmps105
  go_wp2
  all_goals
    go_ret
    refine ⟨ret_b ?_, rfl⟩
    unfold Geo.btwB
    rw [Bool.eq_iff_iff]
    simp
    omega

set_option maxHeartbeats 400000 in
theorem inReach_any (x y : Int) (w : World) :
    Calls Try.prog 95 #[.agg #[.int .i64 x, .int .i64 y]] w fun e w' => e = .returned (.bool (Geo.ptB (x, y))) ∧ Below w.heap.size w w' := by
  go_enter Try.func95, Try.ntmps95
  go_wp2
  all_goals
    go_ret
    refine ⟨ret_b ?_, (Below.refl _ _).alloc (Nat.le_refl _) _⟩
    rw [Bool.eq_iff_iff]
    simp [Geo.ptB, inB]
    try omega

set_option maxHeartbeats 1000000 in
theorem turn_any (x1 y1 x2 y2 x y : Int) (w : World) (h1 : Geo.sm (x1, y1)) (h2 : Geo.sm (x2, y2)) (h3 : Geo.sm (x, y)) :
    Calls Try.prog 98 #[.agg #[.int .i64 x1, .int .i64 y1, .int .i64 x2, .int .i64 y2], .agg #[.int .i64 x, .int .i64 y]] w
      fun e w' => e = .returned (.int .i64 (Geo.turn (x1, y1) (x2, y2) (x, y))) ∧ Below w.heap.size w w' := by
  have hb := Geo.turn_bd h1 h2 h3
  have HT := Lib.hid (show Geo.turn (x1, y1) (x2, y2) (x, y) = (x2 - x1) * (y - y1) - (y2 - y1) * (x - x1) from rfl)
  generalize Geo.turn (x1, y1) (x2, y2) (x, y) = T at *
  obtain ⟨b1, b2, -⟩ := hb
  dsimp only at b1 b2
  obtain ⟨b11, b12⟩ := b1
  obtain ⟨b21, b22⟩ := b2
  unfold Geo.sm at h1 h2 h3
  dsimp only at h1 h2 h3
  go_enter Try.func98, Try.ntmps98
  go_wp2_with fail
  go_returns
  exact ⟨ret_i HT.out.symm, by (repeat' (first | (with_reducible exact Below.refl _ _) | (with_reducible assumption) | (with_reducible refine Below.alloc ?_ ?_ _) | (with_reducible refine below_drewN ?_ _) | (with_reducible refine Below.drew ?_) | (with_reducible refine Below.setCell ?_ ?_ _) | go_size))⟩
end Go.Proofs.Ytmjcdggmofohcaa

namespace Go.Proofs.Ytmjcdggmofohcaa
open Go.RowKit

set_option maxHeartbeats 1000000 in
theorem has_any (x1 y1 x2 y2 x y : Int) (w : World) (h1 : Geo.sm (x1, y1)) (h2 : Geo.sm (x2, y2)) (h3 : Geo.sm (x, y)) :
    Calls Try.prog 97 #[.agg #[.int .i64 x1, .int .i64 y1, .int .i64 x2, .int .i64 y2], .agg #[.int .i64 x, .int .i64 y]] w
      fun e w' => e = .returned (.bool (Geo.onB (x1, y1) (x2, y2) (x, y))) ∧ Below w.heap.size w w' := by
  have x0 : Hid (∀ W, Calls Try.prog 98 #[.agg #[.int .i64 x1, .int .i64 y1, .int .i64 x2, .int .i64 y2], .agg #[.int .i64 x, .int .i64 y]] W fun e w' => e = .returned (.int .i64 (Geo.turn (x1, y1) (x2, y2) (x, y))) ∧ Below W.heap.size W w') := fun W => turn_any x1 y1 x2 y2 x y W h1 h2 h3
  have HO : Hid (Geo.onB (x1, y1) (x2, y2) (x, y) = (decide (Geo.turn (x1, y1) (x2, y2) (x, y) = 0) && (Geo.btwB x1 x x2 && Geo.btwB y1 y y2))) := rfl
  generalize Geo.onB (x1, y1) (x2, y2) (x, y) = V at *
  generalize Geo.turn (x1, y1) (x2, y2) (x, y) = T at *
  clear h1 h2 h3
  by_cases hT : T = 0
  · have hB : (T == 0) = true := by simpa using hT
    have hD : Hid (decide (T = 0) = true) := by simpa [Hid] using hT
    clear hT
    cases hX : Geo.btwB x1 x x2
    · have HX := Lib.hid hX
      clear hX
      go_enter Try.func97, Try.ntmps97
      go_wp2_with fail
      refine (x0.out _).mono ?_
      rintro e w1 ⟨rfl, hb1⟩
      have hB1 : Below w.heap.size w w1 := Below.trans (by (repeat' (first | (with_reducible exact Below.refl _ _) | (with_reducible assumption) | (with_reducible refine Below.alloc ?_ ?_ _) | (with_reducible refine below_drewN ?_ _) | (with_reducible refine Below.drew ?_) | (with_reducible refine Below.setCell ?_ ?_ _) | go_size))) (hb1.mono (by first | omega | (simp; done) | (simp; omega))); have hz1 := hb1.size; try simp at hz1
      have hl1S : w.heap.size < w1.heap.size := (by omega); have hx1S0 : w1.cell? ⟨w.heap.size, 0, none⟩ = some (.int .i64 (x1)) := (by rw [(hb1.cell (by first | omega | (simp; done) | (simp; omega)))]; (repeat (rw [World.cell?_alloc_lt _ _ _ (by first | omega | (simp; done) | (simp; omega))])); go_cell); have hx1S1 : w1.cell? ⟨w.heap.size, 1, none⟩ = some (.int .i64 (y1)) := (by rw [(hb1.cell (by first | omega | (simp; done) | (simp; omega)))]; (repeat (rw [World.cell?_alloc_lt _ _ _ (by first | omega | (simp; done) | (simp; omega))])); go_cell); have hx1S2 : w1.cell? ⟨w.heap.size, 2, none⟩ = some (.int .i64 (x2)) := (by rw [(hb1.cell (by first | omega | (simp; done) | (simp; omega)))]; (repeat (rw [World.cell?_alloc_lt _ _ _ (by first | omega | (simp; done) | (simp; omega))])); go_cell); have hx1S3 : w1.cell? ⟨w.heap.size, 3, none⟩ = some (.int .i64 (y2)) := (by rw [(hb1.cell (by first | omega | (simp; done) | (simp; omega)))]; (repeat (rw [World.cell?_alloc_lt _ _ _ (by first | omega | (simp; done) | (simp; omega))])); go_cell)
      have hl1P : w.heap.size + 1 < w1.heap.size := (by omega); have hx1P0 : w1.cell? ⟨w.heap.size + 1, 0, none⟩ = some (.int .i64 (x)) := (by rw [(hb1.cell (by first | omega | (simp; done) | (simp; omega)))]; (repeat (rw [World.cell?_alloc_lt _ _ _ (by first | omega | (simp; done) | (simp; omega))])); go_cell); have hx1P1 : w1.cell? ⟨w.heap.size + 1, 1, none⟩ = some (.int .i64 (y)) := (by rw [(hb1.cell (by first | omega | (simp; done) | (simp; omega)))]; (repeat (rw [World.cell?_alloc_lt _ _ _ (by first | omega | (simp; done) | (simp; omega))])); go_cell)
      go_wp2_with fail
      refine (between_any _ _ _ _).mono ?_
      rintro e w2 ⟨rfl, rfl⟩
      rw [HX.out]
      go_wp2_with fail
      go_returns
      exact ⟨ret_b (by rw [HO.out, hD.out, HX.out]; rfl), by (repeat' (first | (with_reducible exact Below.refl _ _) | (with_reducible assumption) | (with_reducible refine Below.alloc ?_ ?_ _) | (with_reducible refine below_drewN ?_ _) | (with_reducible refine Below.drew ?_) | (with_reducible refine Below.setCell ?_ ?_ _) | go_size))⟩
    · have HX := Lib.hid hX
      clear hX
      go_enter Try.func97, Try.ntmps97
      go_wp2_with fail
      refine (x0.out _).mono ?_
      rintro e w1 ⟨rfl, hb1⟩
      have hB1 : Below w.heap.size w w1 := Below.trans (by (repeat' (first | (with_reducible exact Below.refl _ _) | (with_reducible assumption) | (with_reducible refine Below.alloc ?_ ?_ _) | (with_reducible refine below_drewN ?_ _) | (with_reducible refine Below.drew ?_) | (with_reducible refine Below.setCell ?_ ?_ _) | go_size))) (hb1.mono (by first | omega | (simp; done) | (simp; omega))); have hz1 := hb1.size; try simp at hz1
      have hl1S : w.heap.size < w1.heap.size := (by omega); have hx1S0 : w1.cell? ⟨w.heap.size, 0, none⟩ = some (.int .i64 (x1)) := (by rw [(hb1.cell (by first | omega | (simp; done) | (simp; omega)))]; (repeat (rw [World.cell?_alloc_lt _ _ _ (by first | omega | (simp; done) | (simp; omega))])); go_cell); have hx1S1 : w1.cell? ⟨w.heap.size, 1, none⟩ = some (.int .i64 (y1)) := (by rw [(hb1.cell (by first | omega | (simp; done) | (simp; omega)))]; (repeat (rw [World.cell?_alloc_lt _ _ _ (by first | omega | (simp; done) | (simp; omega))])); go_cell); have hx1S2 : w1.cell? ⟨w.heap.size, 2, none⟩ = some (.int .i64 (x2)) := (by rw [(hb1.cell (by first | omega | (simp; done) | (simp; omega)))]; (repeat (rw [World.cell?_alloc_lt _ _ _ (by first | omega | (simp; done) | (simp; omega))])); go_cell); have hx1S3 : w1.cell? ⟨w.heap.size, 3, none⟩ = some (.int .i64 (y2)) := (by rw [(hb1.cell (by first | omega | (simp; done) | (simp; omega)))]; (repeat (rw [World.cell?_alloc_lt _ _ _ (by first | omega | (simp; done) | (simp; omega))])); go_cell)
      have hl1P : w.heap.size + 1 < w1.heap.size := (by omega); have hx1P0 : w1.cell? ⟨w.heap.size + 1, 0, none⟩ = some (.int .i64 (x)) := (by rw [(hb1.cell (by first | omega | (simp; done) | (simp; omega)))]; (repeat (rw [World.cell?_alloc_lt _ _ _ (by first | omega | (simp; done) | (simp; omega))])); go_cell); have hx1P1 : w1.cell? ⟨w.heap.size + 1, 1, none⟩ = some (.int .i64 (y)) := (by rw [(hb1.cell (by first | omega | (simp; done) | (simp; omega)))]; (repeat (rw [World.cell?_alloc_lt _ _ _ (by first | omega | (simp; done) | (simp; omega))])); go_cell)
      go_wp2_with fail
      refine (between_any _ _ _ _).mono ?_
      rintro e w2 ⟨rfl, rfl⟩
      rw [HX.out]
      go_wp2_with fail
      refine (between_any _ _ _ _).mono ?_
      rintro e w2 ⟨rfl, rfl⟩
      go_wp2_with fail
      go_returns
      exact ⟨ret_b (by rw [HO.out, hD.out, HX.out]; rfl), by (repeat' (first | (with_reducible exact Below.refl _ _) | (with_reducible assumption) | (with_reducible refine Below.alloc ?_ ?_ _) | (with_reducible refine below_drewN ?_ _) | (with_reducible refine Below.drew ?_) | (with_reducible refine Below.setCell ?_ ?_ _) | go_size))⟩
  · have hB : (T == 0) = false := by simpa using hT
    have hD : Hid (decide (T = 0) = false) := by simpa [Hid] using hT
    clear hT
    go_enter Try.func97, Try.ntmps97
    go_wp2_with fail
    refine (x0.out _).mono ?_
    rintro e w1 ⟨rfl, hb1⟩
    have hB1 : Below w.heap.size w w1 := Below.trans (by (repeat' (first | (with_reducible exact Below.refl _ _) | (with_reducible assumption) | (with_reducible refine Below.alloc ?_ ?_ _) | (with_reducible refine below_drewN ?_ _) | (with_reducible refine Below.drew ?_) | (with_reducible refine Below.setCell ?_ ?_ _) | go_size))) (hb1.mono (by first | omega | (simp; done) | (simp; omega))); have hz1 := hb1.size; try simp at hz1
    go_wp2_with fail
    go_returns
    exact ⟨ret_b (by rw [HO.out, hD.out]; rfl), by (repeat' (first | (with_reducible exact Below.refl _ _) | (with_reducible assumption) | (with_reducible refine Below.alloc ?_ ?_ _) | (with_reducible refine below_drewN ?_ _) | (with_reducible refine Below.drew ?_) | (with_reducible refine Below.setCell ?_ ?_ _) | go_size))⟩

set_option maxHeartbeats 1000000 in
theorem fan_any (x1 y1 x2 y2 : Int) (w : World) (h1 : Geo.sm (x1, y1)) (h2 : Geo.sm (x2, y2)) :
    Calls Try.prog 94 #[.agg #[.int .i64 x1, .int .i64 y1, .int .i64 x2, .int .i64 y2]] w
      fun e w' => e = .returned (.int .i64 (Geo.turn (x1, y1) (x2, y2) (0, 0))) ∧ Below w.heap.size w w' := by
  have x0 : Hid (∀ W, Calls Try.prog 98 #[.agg #[.int .i64 x1, .int .i64 y1, .int .i64 x2, .int .i64 y2], .agg #[.int .i64 0, .int .i64 0]] W fun e w' => e = .returned (.int .i64 (Geo.turn (x1, y1) (x2, y2) (0, 0))) ∧ Below W.heap.size W w') := fun W => turn_any x1 y1 x2 y2 0 0 W h1 h2 (by unfold Geo.sm; omega)
  generalize Geo.turn (x1, y1) (x2, y2) (0, 0) = T at *
  clear h1 h2
  go_enter Try.func94, Try.ntmps94
  go_wp2_with fail
  refine (x0.out _).mono ?_
  rintro e w1 ⟨rfl, hb1⟩
  have hB1 : Below w.heap.size w w1 := Below.trans (by (repeat' (first | (with_reducible exact Below.refl _ _) | (with_reducible assumption) | (with_reducible refine Below.alloc ?_ ?_ _) | (with_reducible refine below_drewN ?_ _) | (with_reducible refine Below.drew ?_) | (with_reducible refine Below.setCell ?_ ?_ _) | go_size))) (hb1.mono (by first | omega | (simp; done) | (simp; omega))); have hz1 := hb1.size; try simp at hz1
  go_wp2_with fail
  go_returns
  exact ⟨rfl, by (repeat' (first | (with_reducible exact Below.refl _ _) | (with_reducible assumption) | (with_reducible refine Below.alloc ?_ ?_ _) | (with_reducible refine below_drewN ?_ _) | (with_reducible refine Below.drew ?_) | (with_reducible refine Below.setCell ?_ ?_ _) | go_size))⟩

set_option maxHeartbeats 1000000 in
theorem passes_any (x1 y1 x2 y2 x y : Int) (w : World) (h1 : Geo.sm (x1, y1)) (h2 : Geo.sm (x2, y2)) (h3 : Geo.sm (x, y)) :
    Calls Try.prog 77 #[.agg #[.int .i64 x1, .int .i64 y1, .int .i64 x2, .int .i64 y2], .agg #[.int .i64 x, .int .i64 y]] w
      fun e w' => e = .returned (.bool (Geo.passB (x1, y1) (x2, y2) (x, y))) ∧ Below w.heap.size w w' := by
  have x0 : Hid (∀ W, Calls Try.prog 97 #[.agg #[.int .i64 x1, .int .i64 y1, .int .i64 x2, .int .i64 y2], .agg #[.int .i64 x, .int .i64 y]] W fun e w' => e = .returned (.bool (Geo.onB (x1, y1) (x2, y2) (x, y))) ∧ Below W.heap.size W w') := fun W => has_any x1 y1 x2 y2 x y W h1 h2 h3
  have HO : Hid (Geo.passB (x1, y1) (x2, y2) (x, y) = (decide ((x, y) ≠ (x1, y1)) && (decide ((x, y) ≠ (x2, y2)) && Geo.onB (x1, y1) (x2, y2) (x, y)))) := rfl
  generalize Geo.passB (x1, y1) (x2, y2) (x, y) = V at *
  generalize Geo.onB (x1, y1) (x2, y2) (x, y) = T at *
  clear h1 h2 h3
  rcases Decidable.em (x = x1) with rfl | a1
  · rcases Decidable.em (y = y1) with rfl | b1
    · go_enter Try.func77, Try.ntmps77
      go_wp2_with fail
      go_returns
      exact ⟨ret_b (by rw [HO.out]; simp), by (repeat' (first | (with_reducible exact Below.refl _ _) | (with_reducible assumption) | (with_reducible refine Below.alloc ?_ ?_ _) | (with_reducible refine below_drewN ?_ _) | (with_reducible refine Below.drew ?_) | (with_reducible refine Below.setCell ?_ ?_ _) | go_size))⟩
    · rcases Decidable.em (x = x2) with rfl | a2
      · rcases Decidable.em (y = y2) with rfl | b2
        · go_enter Try.func77, Try.ntmps77
          go_wp2_with fail
          go_returns
          exact ⟨ret_b (by rw [HO.out]; simp), by (repeat' (first | (with_reducible exact Below.refl _ _) | (with_reducible assumption) | (with_reducible refine Below.alloc ?_ ?_ _) | (with_reducible refine below_drewN ?_ _) | (with_reducible refine Below.drew ?_) | (with_reducible refine Below.setCell ?_ ?_ _) | go_size))⟩
        · go_enter Try.func77, Try.ntmps77
          go_wp2_with fail
          refine (x0.out _).mono ?_
          rintro e w1 ⟨rfl, hb1⟩
          have hB1 : Below w.heap.size w w1 := Below.trans (by (repeat' (first | (with_reducible exact Below.refl _ _) | (with_reducible assumption) | (with_reducible refine Below.alloc ?_ ?_ _) | (with_reducible refine below_drewN ?_ _) | (with_reducible refine Below.drew ?_) | (with_reducible refine Below.setCell ?_ ?_ _) | go_size))) (hb1.mono (by first | omega | (simp; done) | (simp; omega))); have hz1 := hb1.size; try simp at hz1
          go_wp2_with fail
          go_returns
          exact ⟨ret_b (by rw [HO.out]; simp [*]), by (repeat' (first | (with_reducible exact Below.refl _ _) | (with_reducible assumption) | (with_reducible refine Below.alloc ?_ ?_ _) | (with_reducible refine below_drewN ?_ _) | (with_reducible refine Below.drew ?_) | (with_reducible refine Below.setCell ?_ ?_ _) | go_size))⟩
      · go_enter Try.func77, Try.ntmps77
        go_wp2_with fail
        refine (x0.out _).mono ?_
        rintro e w1 ⟨rfl, hb1⟩
        have hB1 : Below w.heap.size w w1 := Below.trans (by (repeat' (first | (with_reducible exact Below.refl _ _) | (with_reducible assumption) | (with_reducible refine Below.alloc ?_ ?_ _) | (with_reducible refine below_drewN ?_ _) | (with_reducible refine Below.drew ?_) | (with_reducible refine Below.setCell ?_ ?_ _) | go_size))) (hb1.mono (by first | omega | (simp; done) | (simp; omega))); have hz1 := hb1.size; try simp at hz1
        go_wp2_with fail
        go_returns
        exact ⟨ret_b (by rw [HO.out]; simp [*]), by (repeat' (first | (with_reducible exact Below.refl _ _) | (with_reducible assumption) | (with_reducible refine Below.alloc ?_ ?_ _) | (with_reducible refine below_drewN ?_ _) | (with_reducible refine Below.drew ?_) | (with_reducible refine Below.setCell ?_ ?_ _) | go_size))⟩
  · rcases Decidable.em (x = x2) with rfl | a2
    · rcases Decidable.em (y = y2) with rfl | b2
      · go_enter Try.func77, Try.ntmps77
        go_wp2_with fail
        go_returns
        exact ⟨ret_b (by rw [HO.out]; simp), by (repeat' (first | (with_reducible exact Below.refl _ _) | (with_reducible assumption) | (with_reducible refine Below.alloc ?_ ?_ _) | (with_reducible refine below_drewN ?_ _) | (with_reducible refine Below.drew ?_) | (with_reducible refine Below.setCell ?_ ?_ _) | go_size))⟩
      · go_enter Try.func77, Try.ntmps77
        go_wp2_with fail
        refine (x0.out _).mono ?_
        rintro e w1 ⟨rfl, hb1⟩
        have hB1 : Below w.heap.size w w1 := Below.trans (by (repeat' (first | (with_reducible exact Below.refl _ _) | (with_reducible assumption) | (with_reducible refine Below.alloc ?_ ?_ _) | (with_reducible refine below_drewN ?_ _) | (with_reducible refine Below.drew ?_) | (with_reducible refine Below.setCell ?_ ?_ _) | go_size))) (hb1.mono (by first | omega | (simp; done) | (simp; omega))); have hz1 := hb1.size; try simp at hz1
        go_wp2_with fail
        go_returns
        exact ⟨ret_b (by rw [HO.out]; simp [*]), by (repeat' (first | (with_reducible exact Below.refl _ _) | (with_reducible assumption) | (with_reducible refine Below.alloc ?_ ?_ _) | (with_reducible refine below_drewN ?_ _) | (with_reducible refine Below.drew ?_) | (with_reducible refine Below.setCell ?_ ?_ _) | go_size))⟩
    · go_enter Try.func77, Try.ntmps77
      go_wp2_with fail
      refine (x0.out _).mono ?_
      rintro e w1 ⟨rfl, hb1⟩
      have hB1 : Below w.heap.size w w1 := Below.trans (by (repeat' (first | (with_reducible exact Below.refl _ _) | (with_reducible assumption) | (with_reducible refine Below.alloc ?_ ?_ _) | (with_reducible refine below_drewN ?_ _) | (with_reducible refine Below.drew ?_) | (with_reducible refine Below.setCell ?_ ?_ _) | go_size))) (hb1.mono (by first | omega | (simp; done) | (simp; omega))); have hz1 := hb1.size; try simp at hz1
      go_wp2_with fail
      go_returns
      exact ⟨ret_b (by rw [HO.out]; simp [*]), by (repeat' (first | (with_reducible exact Below.refl _ _) | (with_reducible assumption) | (with_reducible refine Below.alloc ?_ ?_ _) | (with_reducible refine below_drewN ?_ _) | (with_reducible refine Below.drew ?_) | (with_reducible refine Below.setCell ?_ ?_ _) | go_size))⟩

theorem parts_keep {w0 W w' : World} {g h : Nat} {a b c d e f i j : Int}
    (hS : Below w0.heap.size w0 W ∧ (W.cell? ⟨g, 0, none⟩ = some (.int .i64 a) ∧ W.cell? ⟨g, 1, none⟩ = some (.int .i64 b) ∧ W.cell? ⟨g, 2, none⟩ = some (.int .i64 c) ∧ W.cell? ⟨g, 3, none⟩ = some (.int .i64 d)) ∧
      W.cell? ⟨h, 0, none⟩ = some (.int .i64 e) ∧ W.cell? ⟨h, 1, none⟩ = some (.int .i64 f) ∧ W.cell? ⟨h, 2, none⟩ = some (.int .i64 i) ∧ W.cell? ⟨h, 3, none⟩ = some (.int .i64 j))
    (hg : g < w0.heap.size) (hh : h < w0.heap.size) (hb : Below W.heap.size W w') :
    Below w0.heap.size w0 w' ∧ (w'.cell? ⟨g, 0, none⟩ = some (.int .i64 a) ∧ w'.cell? ⟨g, 1, none⟩ = some (.int .i64 b) ∧ w'.cell? ⟨g, 2, none⟩ = some (.int .i64 c) ∧ w'.cell? ⟨g, 3, none⟩ = some (.int .i64 d)) ∧
      w'.cell? ⟨h, 0, none⟩ = some (.int .i64 e) ∧ w'.cell? ⟨h, 1, none⟩ = some (.int .i64 f) ∧ w'.cell? ⟨h, 2, none⟩ = some (.int .i64 i) ∧ w'.cell? ⟨h, 3, none⟩ = some (.int .i64 j) := by
  obtain ⟨q, ⟨h0, h1, h2, h3⟩, h4, h5, h6, h7⟩ := hS
  have hz := q.size
  have c0 : g < W.heap.size := by omega
  have c1 : h < W.heap.size := by omega
  exact ⟨q.trans (hb.mono hz), ⟨(hb.cell c0).trans h0, (hb.cell c0).trans h1, (hb.cell c0).trans h2, (hb.cell c0).trans h3⟩, (hb.cell c1).trans h4, (hb.cell c1).trans h5, (hb.cell c1).trans h6, (hb.cell c1).trans h7⟩

set_option maxHeartbeats 1000000 in
theorem parts_any (x1 y1 x2 y2 x3 y3 x4 y4 : Int) (w : World) (h1 : Geo.sm (x1, y1)) (h2 : Geo.sm (x2, y2)) (h3 : Geo.sm (x3, y3)) (h4 : Geo.sm (x4, y4)) :
    Calls Try.prog 78 #[.agg #[.int .i64 x1, .int .i64 y1, .int .i64 x2, .int .i64 y2], .agg #[.int .i64 x3, .int .i64 y3, .int .i64 x4, .int .i64 y4]] w
      fun e w' => e = .returned (.bool (Geo.partB (x1, y1) (x2, y2) (x3, y3) (x4, y4))) ∧ Below w.heap.size w w' := by
  have x0 : Hid (∀ W, Calls Try.prog 98 #[.agg #[.int .i64 x1, .int .i64 y1, .int .i64 x2, .int .i64 y2], .agg #[.int .i64 x3, .int .i64 y3]] W fun e w' => e = .returned (.int .i64 (Geo.turn (x1, y1) (x2, y2) (x3, y3))) ∧ Below W.heap.size W w') := fun W => turn_any x1 y1 x2 y2 x3 y3 W h1 h2 h3
  have x5 : Hid (∀ W, Calls Try.prog 98 #[.agg #[.int .i64 x1, .int .i64 y1, .int .i64 x2, .int .i64 y2], .agg #[.int .i64 x4, .int .i64 y4]] W fun e w' => e = .returned (.int .i64 (Geo.turn (x1, y1) (x2, y2) (x4, y4))) ∧ Below W.heap.size W w') := fun W => turn_any x1 y1 x2 y2 x4 y4 W h1 h2 h4
  have HO : Hid (Geo.partB (x1, y1) (x2, y2) (x3, y3) (x4, y4) = ((decide (Geo.turn (x1, y1) (x2, y2) (x3, y3) < 0) && decide (0 < Geo.turn (x1, y1) (x2, y2) (x4, y4))) || (decide (0 < Geo.turn (x1, y1) (x2, y2) (x3, y3)) && decide (Geo.turn (x1, y1) (x2, y2) (x4, y4) < 0)))) := rfl
  generalize Geo.partB (x1, y1) (x2, y2) (x3, y3) (x4, y4) = V at *
  generalize Geo.turn (x1, y1) (x2, y2) (x3, y3) = S at *
  generalize Geo.turn (x1, y1) (x2, y2) (x4, y4) = T at *
  clear h1 h2 h3 h4
  go_enter Try.func78, Try.ntmps78
  go_wp2_with fail
  generalize hW : World.alloc _ _ = W
  have hB0 : Below w.heap.size w W := by rw [← hW]; clear hW; (repeat' (first | (with_reducible exact Below.refl _ _) | (with_reducible assumption) | (with_reducible refine Below.alloc ?_ ?_ _) | (with_reducible refine below_drewN ?_ _) | (with_reducible refine Below.drew ?_) | (with_reducible refine Below.setCell ?_ ?_ _) | go_size))
  have hlWs : w.heap.size < W.heap.size := (by rw [← hW]; clear hW; first | omega | (simp; done) | (simp; omega)); have hxWs0 : W.cell? ⟨w.heap.size, 0, none⟩ = some (.int .i64 (x1)) := (by rw [← hW]; clear hW; (repeat (rw [World.cell?_alloc_lt _ _ _ (by first | omega | (simp; done) | (simp; omega))])); go_cell); have hxWs1 : W.cell? ⟨w.heap.size, 1, none⟩ = some (.int .i64 (y1)) := (by rw [← hW]; clear hW; (repeat (rw [World.cell?_alloc_lt _ _ _ (by first | omega | (simp; done) | (simp; omega))])); go_cell); have hxWs2 : W.cell? ⟨w.heap.size, 2, none⟩ = some (.int .i64 (x2)) := (by rw [← hW]; clear hW; (repeat (rw [World.cell?_alloc_lt _ _ _ (by first | omega | (simp; done) | (simp; omega))])); go_cell); have hxWs3 : W.cell? ⟨w.heap.size, 3, none⟩ = some (.int .i64 (y2)) := (by rw [← hW]; clear hW; (repeat (rw [World.cell?_alloc_lt _ _ _ (by first | omega | (simp; done) | (simp; omega))])); go_cell)
  have hlWt : w.heap.size + 1 < W.heap.size := (by rw [← hW]; clear hW; first | omega | (simp; done) | (simp; omega)); have hxWt0 : W.cell? ⟨w.heap.size + 1, 0, none⟩ = some (.int .i64 (x3)) := (by rw [← hW]; clear hW; (repeat (rw [World.cell?_alloc_lt _ _ _ (by first | omega | (simp; done) | (simp; omega))])); go_cell); have hxWt1 : W.cell? ⟨w.heap.size + 1, 1, none⟩ = some (.int .i64 (y3)) := (by rw [← hW]; clear hW; (repeat (rw [World.cell?_alloc_lt _ _ _ (by first | omega | (simp; done) | (simp; omega))])); go_cell); have hxWt2 : W.cell? ⟨w.heap.size + 1, 2, none⟩ = some (.int .i64 (x4)) := (by rw [← hW]; clear hW; (repeat (rw [World.cell?_alloc_lt _ _ _ (by first | omega | (simp; done) | (simp; omega))])); go_cell); have hxWt3 : W.cell? ⟨w.heap.size + 1, 3, none⟩ = some (.int .i64 (y4)) := (by rw [← hW]; clear hW; (repeat (rw [World.cell?_alloc_lt _ _ _ (by first | omega | (simp; done) | (simp; omega))])); go_cell)
  clear hW
  go_region_held3 (fun w' => Below W.heap.size W w' ∧ (w'.cell? ⟨w.heap.size, 0, none⟩ = some (.int .i64 x1) ∧ w'.cell? ⟨w.heap.size, 1, none⟩ = some (.int .i64 y1) ∧ w'.cell? ⟨w.heap.size, 2, none⟩ = some (.int .i64 x2) ∧ w'.cell? ⟨w.heap.size, 3, none⟩ = some (.int .i64 y2)) ∧
      w'.cell? ⟨w.heap.size + 1, 0, none⟩ = some (.int .i64 x3) ∧ w'.cell? ⟨w.heap.size + 1, 1, none⟩ = some (.int .i64 y3) ∧ w'.cell? ⟨w.heap.size + 1, 2, none⟩ = some (.int .i64 x4) ∧ w'.cell? ⟨w.heap.size + 1, 3, none⟩ = some (.int .i64 y4))
    (first | exact ⟨Below.refl _ _, ⟨hxWs0, hxWs1, hxWs2, hxWs3⟩, hxWt0, hxWt1, hxWt2, hxWt3⟩ | exact ⟨(Below.refl _ _).drew, ⟨hxWs0, hxWs1, hxWs2, hxWs3⟩, hxWt0, hxWt1, hxWt2, hxWt3⟩ | (with_reducible assumption))
    (first
      | (go_at_call_of 98 (Value.agg #[Value.int IntKind.i64 x3, Value.int IntKind.i64 y3]); refine (x0.out _).mono ?_; rintro e w1 ⟨rfl, hb1⟩; have hS1 := parts_keep (by with_reducible assumption) hlWs hlWt hb1)
      | (go_at_call 98; refine (x5.out _).mono ?_; rintro e w2 ⟨rfl, hb2⟩; have hS2 := parts_keep (by with_reducible assumption) hlWs hlWt hb2))
  all_goals
    obtain ⟨q, -, -⟩ : Below W.heap.size W w2 ∧ _ := by assumption
    have hB2 := hB0.trans (q.mono hB0.size)
    clear hxWs0 hxWs1 hxWs2 hxWs3 hxWt0 hxWt1 hxWt2 hxWt3
    go_wp2_with fail
    all_goals
      go_returns
      exact ⟨ret_b (by rw [HO.out, Bool.eq_iff_iff]; simp; omega), hB2⟩
end Go.Proofs.Ytmjcdggmofohcaa
