/- Plain facts on how far a setting is from a wanted ratio. No program is named here. -/
import Derived.Test.YtfjcmmdfipppoaaArmsGp
import Derived.Test.YtfjcmmdfipppoaaArmsBq
namespace Go.Proofs.Ytfjcmmdfipppoaa
namespace Arm
theorem fit_sE {f D : Int} (h : sE f D = 0) : fit f D = true := by
  unfold sE at h
  by_cases g : fit f D = true
  · exact g
  · rw [if_neg g] at h; omega
theorem sE_cases (f D : Int) : sE f D = 0 ∨ sE f D = 2 := by
  unfold sE
  by_cases g : fit f D = true
  · left; rw [if_pos g]
  · right; rw [if_neg g]
theorem sN_red {f D : Int} (h : sE f D = 0) : sN f D = redN f D ∧ sD f D = redD f D ∧ ok (redN f D) (redD f D) := by
  have g := fit_sE h
  refine ⟨by unfold sN; rw [if_pos g], by unfold sD; rw [if_pos g], okB_true.1 g⟩
theorem sN_zero {f D : Int} (hD : 1 ≤ D) (h : sE f D = 0) : sN f D = 0 ↔ f = 0 := by
  rw [(sN_red h).1]
  have p := Best.red_parts (n := f) hD
  have g := gcd_pos_of (n := f) hD
  constructor
  · intro e
    have := p.1
    rw [e] at this
    omega
  · intro e
    have h1 := p.1
    rw [e] at h1
    rcases Int.mul_eq_zero.1 h1 with h2 | h2
    · exfalso
      have := gcd_pos_of (n := 0) hD
      omega
    · rw [e]; exact h2
theorem cmp_red {f1 f2 D : Int} (hD : 1 ≤ D) (h1 : sE f1 D = 0) (h2 : sE f2 D = 0) (hf : f1 ≤ f2) :
    cmpV (sN f1 D) (sD f1 D) (sN f2 D) (sD f2 D) ≤ 0 ∧ cmpE (sN f1 D) (sD f1 D) (sN f2 D) (sD f2 D) = 0 := by
  obtain ⟨e1, e2, o1⟩ := sN_red h1
  obtain ⟨e3, e4, o2⟩ := sN_red h2
  rw [e1, e2, e3, e4]
  have p1 := Best.red_parts (n := f1) hD
  have p2 := Best.red_parts (n := f2) hD
  have g1 := gcd_pos_of (n := f1) hD
  have g2 := gcd_pos_of (n := f2) hD
  have hh : okB (redN f1 D) (redD f1 D) = true ∧ okB (redN f2 D) (redD f2 D) = true := ⟨okB_true.2 o1, okB_true.2 o2⟩
  unfold cmpV cmpE
  rw [two_yes hh, two_yes hh]
  refine ⟨?_, rfl⟩
  have key : redN f1 D * redD f2 D ≤ redN f2 D * redD f1 D := by
    have gg := mul_pos_bd g1 (Int.le_refl _) g2 (Int.le_refl _)
    refine Best.le_of_mul (z := (Int.gcd f1 D : Int) * (Int.gcd f2 D : Int)) gg.1 ?_
    have q1 : redN f1 D * redD f2 D * ((Int.gcd f1 D : Int) * (Int.gcd f2 D : Int)) = ((Int.gcd f1 D : Int) * redN f1 D) * ((Int.gcd f2 D : Int) * redD f2 D) := by grind
    have q2 : redN f2 D * redD f1 D * ((Int.gcd f1 D : Int) * (Int.gcd f2 D : Int)) = ((Int.gcd f2 D : Int) * redN f2 D) * ((Int.gcd f1 D : Int) * redD f1 D) := by grind
    rw [q1, q2, p1.1, p2.2.1, p2.1, p1.2.1]
    exact Best.mul_le (by omega) hf
  unfold sgn
  split
  · omega
  · split <;> omega
theorem far_one (u v r s a b n : Int) : ((n * (u * r) * b * 1 * 1 - a * (v * s)).natAbs : Int) = farN u v r s a b n := by
  unfold farN; rw [Int.mul_one, Int.mul_one]
theorem far_best {u v r s a b lo hi n : Int} (hA : armP u v r s lo hi) (hO : ok a b) (ha : 1 ≤ a) (h1 : lo ≤ n) (h2 : n ≤ hi) :
    farN u v r s a b (near (scT v s a) (scB u r b 1) lo hi) ≤ farN u v r s a b n ∧
      (farN u v r s a b (near (scT v s a) (scB u r b 1) lo hi) = farN u v r s a b n → near (scT v s a) (scB u r b 1) lo hi ≤ n) := by
  have q1 := mul_pos_bd hA.1.1.1 hA.1.1.2 hA.2.1.1.1 hA.2.1.1.2
  have q2 := mul_pos_bd hA.1.2.1 hA.1.2.2 hA.2.1.2.1 hA.2.1.2.2
  have q3 := mul_pos_bd ha hO.2.2 q2.1 q2.2
  have q4 := mul_pos_bd hO.1.1 hO.1.2 q1.1 q1.2
  have e : ∀ m, farN u v r s a b m = ((m * scB u r b 1 - scT v s a).natAbs : Int) := fun m => by
    unfold farN scB scT
    have : m * (u * r) * b = m * (b * (u * r) * 1 * 1) := by grind
    rw [this]
  rw [e, e]
  exact near_best (by unfold scT; omega) (by unfold scB; omega) hA.2.2.1 h1 h2
theorem near_want {u v r s a b c d lo hi : Int} (hA : armP u v r s lo hi) (hO : ok a b) (ha : 1 ≤ a) (hO' : ok c d) (hc : 1 ≤ c) (h : a * d ≤ c * b) :
    near (scT v s a) (scB u r b 1) lo hi ≤ near (scT v s c) (scB u r d 1) lo hi := by
  have q1 := mul_pos_bd hA.1.1.1 hA.1.1.2 hA.2.1.1.1 hA.2.1.1.2
  have q2 := mul_pos_bd hA.1.2.1 hA.1.2.2 hA.2.1.2.1 hA.2.1.2.2
  have q3 := mul_pos_bd ha hO.2.2 q2.1 q2.2
  have q4 := mul_pos_bd hO.1.1 hO.1.2 q1.1 q1.2
  have q5 := mul_pos_bd hc hO'.2.2 q2.1 q2.2
  have q6 := mul_pos_bd hO'.1.1 hO'.1.2 q1.1 q1.2
  have q7 := mul_pos_bd q2.1 q2.2 q1.1 q1.2
  refine near_mono2 (by unfold scT; omega) (by unfold scB; omega) (by unfold scT; omega) (by unfold scB; omega) ?_
  unfold scT scB
  have e1 : a * (v * s) * (d * (u * r) * 1 * 1) = a * d * ((v * s) * (u * r)) := by grind
  have e2 : c * (v * s) * (b * (u * r) * 1 * 1) = c * b * ((v * s) * (u * r)) := by grind
  rw [e1, e2]
  exact Best.mul_le (by omega) h
end Arm
end Go.Proofs.Ytfjcmmdfipppoaa
