/- Contracts of the reference's small functions: Turn, Within, IsPoint, sign, next, On. -/
import Derived.Test.YtecmlakcpgkfbaaGeo
import Derived.Test.YtecmlakcpgkfbaaPairs
namespace Go.Proofs.Ytecmlakcpgkfbaa
open Go.RowKit

set_option maxHeartbeats 1000000 in
theorem Turn_any (x1 y1 x2 y2 x y : Int) (w : World) (h1 : Geo.sm (x1, y1)) (h2 : Geo.sm (x2, y2)) (h3 : Geo.sm (x, y)) :
    Calls Try.prog 87 #[.agg #[.int .i64 x1, .int .i64 y1], .agg #[.int .i64 x2, .int .i64 y2], .agg #[.int .i64 x, .int .i64 y]] w
      fun e w' => e = .returned (.int .i64 (Geo.turn (x1, y1) (x2, y2) (x, y))) ∧ Below w.heap.size w w' := by
  have hb := Geo.turn_bd h1 h2 h3
  have HT := Lib.hid (show Geo.turn (x1, y1) (x2, y2) (x, y) = (x2 - x1) * (y - y1) - (y2 - y1) * (x - x1) from rfl)
  generalize Geo.turn (x1, y1) (x2, y2) (x, y) = T at *
  obtain ⟨b1, b2, -⟩ := hb
  dsimp only at b1 b2
  obtain ⟨b11, b12⟩ := b1
  obtain ⟨b21, b22⟩ := b2
  unfold Geo.sm at h1 h2 h3
  dsimp only at h1 h2 h3
  go_enter Try.func87, Try.ntmps87
  go_wp2_with fail
  go_returns
  exact ⟨ret_i HT.out.symm, by (repeat' (first | (with_reducible exact Below.refl _ _) | (with_reducible assumption) | (with_reducible refine Below.alloc ?_ ?_ _) | (with_reducible refine below_drewN ?_ _) | (with_reducible refine Below.drew ?_) | (with_reducible refine Below.setCell ?_ ?_ _) | go_size))⟩

set_option maxHeartbeats 400000 in
theorem Within_any (n a b : Int) (w : World) :
    Calls Try.prog 69 #[.int .i64 n, .int .i64 a, .int .i64 b] w fun e w' => e = .returned (.bool (inB n a b)) ∧ w = w' := by
  go_enter Try.func69, Try.ntmps69
  go_wp2
  all_goals
    go_ret
    refine ⟨ret_b ?_, rfl⟩
    rw [Bool.eq_iff_iff]
    simp [inB]
    try omega

set_option maxHeartbeats 400000 in
theorem sign_any (n : Int) (w : World) (h : -100000000 ≤ n ∧ n ≤ 100000000) :
    Calls Try.prog 88 #[.int .i64 n] w fun e w' => e = .returned (.int .i64 n.sign) ∧ w = w' := by
  have hc : n < 0 ∨ n = 0 ∨ 1 ≤ n := by omega
  rcases hc with hc | rfl | hc
  · have HS := Lib.hid (Int.sign_eq_neg_one_of_neg hc)
    go_enter Try.func88, Try.ntmps88
    go_wp2
    all_goals
      go_ret
      exact ⟨ret_i HS.out.symm, rfl⟩
  · go_enter Try.func88, Try.ntmps88
    go_wp2
    all_goals
      go_ret
      exact ⟨rfl, rfl⟩
  · have HS := Lib.hid (Int.sign_eq_one_of_pos (show 0 < n by omega))
    have hm : min n 1 = 1 := by omega
    go_enter Try.func88, Try.ntmps88
    go_wp2
    all_goals
      go_ret
      refine ⟨ret_i ?_, rfl⟩
      rw [HS.out]
      try omega

set_option maxHeartbeats 400000 in
theorem next_any (A : Option Addr) (c : Nat) (ps : List (Int × Int)) (k : Nat) (w : World) (hl : ps.length ≤ 100) (hk : k < ps.length) :
    Calls Try.prog 71 #[.slice A ps.length c, .int .i64 k] w fun e w' => e = .returned (.int .i64 (((k + 1) % ps.length : Nat) : Int)) ∧ w = w' := by
  have hr2 : Hid (((k : Int) + 1).tmod (ps.length : Int) = (((k + 1) % ps.length : Nat) : Int)) := by
    unfold Hid
    rw [Int.tmod_eq_emod_of_nonneg (by omega), Int.natCast_emod]
    rfl
  have hw1 : IntKind.i64.wrap ((k : Int) + 1) = (k : Int) + 1 := IntWalk.i64_in _ (by omega)
  have hne : ¬ (ps.length : Int) = 0 := by omega
  have hne2 : ¬ ps.length = 0 := by omega
  have hne3 : ¬ ps = [] := by intro e; subst e; simp at hne2
  go_enter Try.func71, Try.ntmps71
  go_wp2
  all_goals
    go_ret
    exact ⟨ret_i hr2.out, rfl⟩

set_option maxHeartbeats 1000000 in
theorem IsPoint_any (x y : Int) (w : World) :
    Calls Try.prog 70 #[.agg #[.int .i64 x, .int .i64 y]] w fun e w' => e = .returned (.bool (Geo.ptB (x, y))) ∧ Below w.heap.size w w' := by
  have HO : Hid (Geo.ptB (x, y) = (inB x (-200) 200 && inB y (-200) 200)) := rfl
  generalize Geo.ptB (x, y) = V at *
  cases hX : inB x (-200) 200
  · have HX := Lib.hid hX
    clear hX
    go_enter Try.func70, Try.ntmps70
    go_wp2_with fail
    refine (Within_any _ _ _ _).mono ?_
    rintro e w1 ⟨rfl, rfl⟩
    rw [HX.out]
    go_wp2_with fail
    go_returns
    exact ⟨ret_b (by rw [HO.out, HX.out]; rfl), by (repeat' (first | (with_reducible exact Below.refl _ _) | (with_reducible assumption) | (with_reducible refine Below.alloc ?_ ?_ _) | (with_reducible refine below_drewN ?_ _) | (with_reducible refine Below.drew ?_) | (with_reducible refine Below.setCell ?_ ?_ _) | go_size))⟩
  · have HX := Lib.hid hX
    clear hX
    go_enter Try.func70, Try.ntmps70
    go_wp2_with fail
    refine (Within_any _ _ _ _).mono ?_
    rintro e w1 ⟨rfl, rfl⟩
    rw [HX.out]
    go_wp2_with fail
    refine (Within_any _ _ _ _).mono ?_
    rintro e w1 ⟨rfl, rfl⟩
    go_wp2_with fail
    go_returns
    exact ⟨ret_b (by rw [HO.out, HX.out]; rfl), by (repeat' (first | (with_reducible exact Below.refl _ _) | (with_reducible assumption) | (with_reducible refine Below.alloc ?_ ?_ _) | (with_reducible refine below_drewN ?_ _) | (with_reducible refine Below.drew ?_) | (with_reducible refine Below.setCell ?_ ?_ _) | go_size))⟩
end Go.Proofs.Ytecmlakcpgkfbaa
