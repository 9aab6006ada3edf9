/- Contracts of the small functions of package corners: turning, between, having, passing, parting, reach. -/
import Derived.Test.YtgpmnkdagpcffaaGeo
import Derived.Deep.RegionHeld3
namespace Go.Proofs.Ytgpmnkdagpcffaa
open Go.RowKit

set_option maxHeartbeats 400000 in
theorem between_any (a b c : Int) (w : World) :
    Calls Try.prog 152 #[.int .i64 a, .int .i64 b, .int .i64 c] w fun e w' => e = .returned (.bool (Geo.btwB a b c)) ∧ w = w' := by
  go_enter Try.func152, Try.ntmps152
  go_wp2
  all_goals
    go_ret
    refine ⟨ret_b ?_, rfl⟩
    unfold Geo.btwB
    rw [Bool.eq_iff_iff]
    simp
    omega

set_option maxHeartbeats 400000 in
theorem inReach_any (x y : Int) (w : World) :
    Calls Try.prog 107 #[.agg #[.int .i64 x, .int .i64 y]] w fun e w' => e = .returned (.bool (Geo.ptB (x, y))) ∧ Below w.heap.size w w' := by
  go_enter Try.func107, Try.ntmps107
  go_wp2
  all_goals
    go_ret
    refine ⟨ret_b ?_, (Below.refl _ _).alloc (Nat.le_refl _) _⟩
    rw [Bool.eq_iff_iff]
    simp [Geo.ptB, inB]
    try omega

set_option maxHeartbeats 1000000 in
theorem turn_any (x1 y1 x2 y2 x y : Int) (w : World) (h1 : Geo.sm (x1, y1)) (h2 : Geo.sm (x2, y2)) (h3 : Geo.sm (x, y)) :
    Calls Try.prog 134 #[.agg #[.int .i64 x1, .int .i64 y1, .int .i64 x2, .int .i64 y2], .agg #[.int .i64 x, .int .i64 y]] w
      fun e w' => e = .returned (.int .i64 (Geo.turn (x1, y1) (x2, y2) (x, y))) ∧ Below w.heap.size w w' := by
  have hb := Geo.turn_bd h1 h2 h3
  have HT := Lib.hid (show Geo.turn (x1, y1) (x2, y2) (x, y) = (x2 - x1) * (y - y1) - (y2 - y1) * (x - x1) from rfl)
  generalize Geo.turn (x1, y1) (x2, y2) (x, y) = T at *
  obtain ⟨b1, b2, -⟩ := hb
  dsimp only at b1 b2
  obtain ⟨b11, b12⟩ := b1
  obtain ⟨b21, b22⟩ := b2
  unfold Geo.sm at h1 h2 h3
  dsimp only at h1 h2 h3
  go_enter Try.func134, Try.ntmps134
  go_wp2_with fail
  go_returns
  exact ⟨ret_i HT.out.symm, by (repeat' (first | (with_reducible exact Below.refl _ _) | (with_reducible assumption) | (with_reducible refine Below.alloc ?_ ?_ _) | (with_reducible refine below_drewN ?_ _) | (with_reducible refine Below.drew ?_) | (with_reducible refine Below.setCell ?_ ?_ _) | go_size))⟩
end Go.Proofs.Ytgpmnkdagpcffaa
