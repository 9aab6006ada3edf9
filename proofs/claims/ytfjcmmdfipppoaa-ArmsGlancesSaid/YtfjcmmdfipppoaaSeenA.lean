/- Contracts of the specification's small functions of verniers: which are valid, and which lines fit. -/
import Derived.Test.YtfjcmmdfipppoaaArmsQ
import Derived.Test.YtfjcmmdfipppoaaArmsI
namespace Go.Proofs.Ytfjcmmdfipppoaa
open Go.RowKit
namespace Ver
def vB (p s : Int) : Bool := decide (vP p s)
theorem vB_true {p s : Int} : vB p s = true ↔ vP p s := by unfold vB; simp
theorem vB_false {p s : Int} : vB p s = false ↔ ¬ vP p s := by unfold vB; simp
theorem fit_up {p s n l : Int} (hp : 2 ≤ p) (hl : 0 ≤ l) (hl2 : l < p) (hs : 0 ≤ s) :
    fitB p s n l = (decide ((l - n % p + p) % p ≤ s) || decide (p - (l - n % p + p) % p ≤ s)) := by
  have m0 := Int.emod_nonneg n (b := p) (by omega)
  have m1 := Int.emod_lt_of_pos n (b := p) (by omega)
  unfold fitB
  generalize n % p = m at *
  rw [Bool.eq_iff_iff]
  simp only [decide_eq_true_eq, Bool.or_eq_true]
  by_cases h : m ≤ l
  · have e : (l - m + p) % p = l - m := by
      rw [Int.add_emod_right]
      exact Int.emod_eq_of_lt (by omega) (by omega)
    rw [e]; omega
  · have e : (l - m + p) % p = l - m + p := Int.emod_eq_of_lt (by omega) (by omega)
    rw [e]; omega
end Ver

set_option maxHeartbeats 400000 in
theorem IsVernier_any (p s : Int) (w : World) :
    Calls Try.prog 47 #[.agg #[.int .i64 p, .int .i64 s]] w fun e w' => e = .returned (.bool (Ver.vB p s)) ∧ Below w.heap.size w w' := by
  by_cases h1 : 2 ≤ p ∧ p ≤ 50
  · go_enter Try.func47, Try.ntmps47
    go_wp2_with fail
    refine (Within_yes h1 _).mono ?_
    rintro e w' ⟨rfl, rfl⟩
    go_wp2_with fail
    refine (Within_any _ _ _ _).mono ?_
    rintro e w' ⟨rfl, rfl⟩
    go_wp2
    go_ret
    refine ⟨ret_b ?_, (Below.refl _ _).alloc (Nat.le_refl _) _⟩
    rw [Bool.eq_iff_iff, Ver.vB_true]
    simp [Ver.vP, inB, h1]
  · go_enter Try.func47, Try.ntmps47
    go_wp2_with fail
    refine (Within_no h1 _).mono ?_
    rintro e w' ⟨rfl, rfl⟩
    go_wp2
    go_ret
    refine ⟨ret_b ?_, (Below.refl _ _).alloc (Nat.le_refl _) _⟩
    rw [Bool.eq_iff_iff, Ver.vB_true]
    simp [Ver.vP, h1]

set_option maxHeartbeats 1000000 in
theorem Fits_any (p s n l : Int) (w : World) (hv : Ver.vP p s) (h0 : 0 ≤ n) (_h1 : n ≤ 10000) (h2 : 0 ≤ l) (h3 : l < p) :
    Calls Try.prog 76 #[.agg #[.int .i64 p, .int .i64 s], .int .i64 n, .int .i64 l] w fun e w' => e = .returned (.bool (Ver.fitB p s n l)) ∧ Below w.heap.size w w' := by
  unfold Ver.vP at hv
  have hF' := Ver.fit_up (p := p) (s := s) (n := n) (l := l) (by omega) h2 h3 (by omega)
  generalize Ver.fitB p s n l = V at *
  have m0 := Int.emod_nonneg n (b := p) (by omega)
  have m1 := Int.emod_lt_of_pos n (b := p) (by omega)
  have hne : ¬ p = 0 := by omega
  have t1 : n.tmod p = n % p := Int.tmod_eq_emod_of_nonneg h0
  rw [Int.add_emod_right] at hF'
  have w3 : IntKind.i64.wrap (n % p) = n % p := IntWalk.i64_in _ (by omega)
  generalize n % p = m at *
  have u0 := Int.emod_nonneg (l - m) (b := p) (by omega)
  have u1 := Int.emod_lt_of_pos (l - m) (b := p) (by omega)
  have t2 : (l - m + p).tmod p = (l - m) % p := by rw [Int.tmod_eq_emod_of_nonneg (by omega), Int.add_emod_right]
  have t3 : (l - m + p) % p = (l - m) % p := Int.add_emod_right ..
  have w1 : IntKind.i64.wrap (l - m) = l - m := IntWalk.i64_in _ (by omega)
  have w2 : IntKind.i64.wrap (l - m + p) = l - m + p := IntWalk.i64_in _ (by omega)
  have w4 : IntKind.i64.wrap ((l - m) % p) = (l - m) % p := IntWalk.i64_in _ (by omega)
  generalize (l - m) % p = U at *
  have hF := Lib.hid hF'
  clear hF'
  go_enter Try.func76, Try.ntmps76
  go_wp2_with fail
  go_quiet (fail)
  clear t1 t2 t3 w1 w2 w3 w4
  go_wp2_with fail
  all_goals go_returns
  all_goals refine ⟨ret_b ?_, by (repeat' (first | (with_reducible exact Below.refl _ _) | (with_reducible assumption) | (with_reducible refine Below.alloc ?_ ?_ _) | (with_reducible refine below_drewN ?_ _) | (with_reducible refine Below.drew ?_) | (with_reducible refine Below.setCell ?_ ?_ _) | go_size))⟩
  all_goals rw [hF.out, Bool.eq_iff_iff]
  all_goals simp
  all_goals omega
end Go.Proofs.Ytfjcmmdfipppoaa
