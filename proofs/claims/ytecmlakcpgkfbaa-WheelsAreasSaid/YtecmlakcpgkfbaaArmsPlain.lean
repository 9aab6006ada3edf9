/- Plain facts on ratios: validity, reduction. No program is named here. -/
import Derived.Below
import Derived.Test.YtecmlakcpgkfbaaBase
namespace Go.Proofs.Ytecmlakcpgkfbaa
namespace Arm

/-- A ratio n / d is valid. -/
def ok (n d : Int) : Prop := (1 ≤ d ∧ d ≤ 1000000) ∧ (-1000000 ≤ n ∧ n ≤ 1000000)
instance okDec (n d : Int) : Decidable (ok n d) := by unfold ok; exact inferInstance
def okB (n d : Int) : Bool := decide (ok n d)
theorem okB_true {n d : Int} : okB n d = true ↔ ok n d := by unfold okB; simp
theorem okB_false {n d : Int} : okB n d = false ↔ ¬ ok n d := by unfold okB; simp

/-- Both numbers of n / d when they are divided by their greatest divisor. -/
def redN (n d : Int) : Int := n / (Int.gcd n d : Int)
def redD (n d : Int) : Int := d / (Int.gcd n d : Int)
def fit (n d : Int) : Bool := okB (redN n d) (redD n d)
def sN (n d : Int) : Int := if fit n d = true then redN n d else 0
def sD (n d : Int) : Int := if fit n d = true then redD n d else 0
def sE (n d : Int) : Int := if fit n d = true then 0 else 2

theorem gcd_abs (n d : Int) : Int.gcd (n.natAbs : Int) d = Int.gcd n d := by simp [Int.gcd]
theorem gcd_pos_of {n d : Int} (h : 1 ≤ d) : (1 : Int) ≤ (Int.gcd n d : Int) := by
  have : 0 < Int.gcd n d := Int.gcd_pos_of_ne_zero_right n (by omega)
  omega
theorem gcd_le_of {n d : Int} (h : 1 ≤ d) : (Int.gcd n d : Int) ≤ d := Int.le_of_dvd (by omega) (Int.gcd_dvd_right n d)
theorem gcd_mod_step (a b : Int) : Int.gcd b (a % b) = Int.gcd a b := by
  rw [Int.gcd_comm a b]
  have h := Int.gcd_add_mul_right_right b (a % b) (a / b)
  have e : a % b + a / b * b = a := by rw [Int.mul_comm]; exact Int.emod_add_mul_ediv a b
  rw [e] at h
  exact h.symm
theorem gcd_tmod_step (a b : Int) : Int.gcd b (a.tmod b) = Int.gcd a b := by
  rw [Int.gcd_comm a b]
  have h := Int.gcd_add_mul_right_right b (a.tmod b) (a.tdiv b)
  have e : a.tmod b + a.tdiv b * b = a := by rw [Int.mul_comm]; exact Int.tmod_add_mul_tdiv a b
  rw [e] at h
  exact h.symm
/-- What the check of one ratio, and of two, returns: 0, or 10. -/
def vE (n d : Int) : Int := if okB n d = true then 0 else 10
def vE2 (n d n2 d2 : Int) : Int := if okB n d = true ∧ okB n2 d2 = true then 0 else 10
/-- The reduced ratio of one that need be valid: both numbers, and the error. -/
def rN (n d : Int) : Int := if okB n d = true then sN n d else 0
def rD (n d : Int) : Int := if okB n d = true then sD n d else 0
def rE (n d : Int) : Int := if okB n d = true then sE n d else 10
/-- Of two ratios that need be valid: v1, v2, v3 if they are; else 0, 0, 10. -/
def two (a b c d v z : Int) : Int := if okB a b = true ∧ okB c d = true then v else z
def addN (a b c d : Int) : Int := two a b c d (sN (a * d + c * b) (b * d)) 0
def addD (a b c d : Int) : Int := two a b c d (sD (a * d + c * b) (b * d)) 0
def addE (a b c d : Int) : Int := two a b c d (sE (a * d + c * b) (b * d)) 10
def mulN (a b c d : Int) : Int := two a b c d (sN (a * c) (b * d)) 0
def mulD (a b c d : Int) : Int := two a b c d (sD (a * c) (b * d)) 0
def mulE (a b c d : Int) : Int := two a b c d (sE (a * c) (b * d)) 10
/-- -1, 0 or 1. -/
def sgn (n : Int) : Int := if n < 0 then -1 else if 0 < n then 1 else 0
def cmpV (a b c d : Int) : Int := two a b c d (sgn (a * d - c * b)) 0
def cmpE (a b c d : Int) : Int := two a b c d 0 10
theorem two_yes {a b c d v z : Int} (h : okB a b = true ∧ okB c d = true) : two a b c d v z = v := by unfold two; rw [if_pos h]
theorem two_no {a b c d v z : Int} (h : ¬ (okB a b = true ∧ okB c d = true)) : two a b c d v z = z := by unfold two; rw [if_neg h]

theorem mul_pos_bd {a b x y : Int} (h0 : 1 ≤ a) (h1 : a ≤ x) (h2 : 1 ≤ b) (h3 : b ≤ y) : 1 ≤ a * b ∧ a * b ≤ x * y := by
  refine ⟨?_, (mul_bd (a := a) (b := b) (x := x) (y := y) (by omega) h1 (by omega) h3).2⟩
  have := Int.mul_pos (a := a) (b := b) (by omega) (by omega)
  omega
/-- An arm is valid: Unit u / v, Roll r / s, Low and High. -/
def armP (u v r s lo hi : Int) : Prop := ((1 ≤ u ∧ u ≤ 100) ∧ (1 ≤ v ∧ v ≤ 100)) ∧ ((1 ≤ r ∧ r ≤ 100) ∧ (1 ≤ s ∧ s ≤ 100)) ∧ (1 ≤ lo ∧ lo ≤ hi ∧ hi ≤ 10000)
instance armDec (u v r s lo hi : Int) : Decidable (armP u v r s lo hi) := by unfold armP; exact inferInstance
def armB (u v r s lo hi : Int) : Bool := decide (armP u v r s lo hi)
theorem armB_true {u v r s lo hi : Int} : armB u v r s lo hi = true ↔ armP u v r s lo hi := by unfold armB; simp
def aE (u v r s lo hi : Int) : Int := if armB u v r s lo hi = true then 0 else 11
theorem aE_yes {u v r s lo hi : Int} (h : armP u v r s lo hi) : aE u v r s lo hi = 0 := by unfold aE; rw [if_pos (armB_true.2 h)]
theorem aE_no {u v r s lo hi : Int} (h : ¬ armP u v r s lo hi) : aE u v r s lo hi = 11 := by unfold aE; rw [if_neg (fun e => h (armB_true.1 e))]
/-- What the check of an arm that is asked for a setting with a wanted ratio a / b returns. -/
def cE (u v r s lo hi a b : Int) (is : Bool) : Int := if ¬ armB u v r s lo hi = true then 11 else if ¬ okB a b = true then 10 else if is = true ∧ 1 ≤ a then 0 else 1
theorem cE_arm {u v r s lo hi a b : Int} {is : Bool} (h : ¬ armP u v r s lo hi) : cE u v r s lo hi a b is = 11 := by
  unfold cE; rw [if_pos (fun e => h (armB_true.1 e))]
theorem cE_ratio {u v r s lo hi a b : Int} {is : Bool} (h : armP u v r s lo hi) (h2 : ¬ ok a b) : cE u v r s lo hi a b is = 10 := by
  unfold cE; rw [if_neg (fun e => e (armB_true.2 h)), if_pos (fun e => h2 (okB_true.1 e))]
theorem cE_arg {u v r s lo hi a b : Int} {is : Bool} (h : armP u v r s lo hi) (h2 : ok a b) (h3 : ¬ (is = true ∧ 1 ≤ a)) : cE u v r s lo hi a b is = 1 := by
  unfold cE; rw [if_neg (fun e => e (armB_true.2 h)), if_neg (fun e => e (okB_true.2 h2)), if_neg h3]
theorem cE_ok {u v r s lo hi a b : Int} {is : Bool} (h : armP u v r s lo hi) (h2 : ok a b) (h3 : is = true ∧ 1 ≤ a) : cE u v r s lo hi a b is = 0 := by
  unfold cE; rw [if_neg (fun e => e (armB_true.2 h)), if_neg (fun e => e (okB_true.2 h2)), if_pos h3]
theorem cE_cases {u v r s lo hi a b : Int} {is : Bool} {P : Prop} (h1 : ¬ armP u v r s lo hi → P) (h2 : armP u v r s lo hi → ¬ ok a b → P)
    (h3 : armP u v r s lo hi → ok a b → ¬ (is = true ∧ 1 ≤ a) → P) (h4 : armP u v r s lo hi → ok a b → is = true ∧ 1 ≤ a → P) : P := by
  by_cases e1 : armP u v r s lo hi
  · by_cases e2 : ok a b
    · by_cases e3 : is = true ∧ 1 ≤ a
      · exact h4 e1 e2 e3
      · exact h3 e1 e2 e3
    · exact h2 e1 e2
  · exact h1 e1
theorem cE_zero {u v r s lo hi a b : Int} {is : Bool} : cE u v r s lo hi a b is = 0 ↔ (armP u v r s lo hi ∧ ok a b ∧ (is = true ∧ 1 ≤ a)) := by
  refine cE_cases (u := u) (v := v) (r := r) (s := s) (lo := lo) (hi := hi) (a := a) (b := b) (is := is) (fun h => ?_) (fun h h2 => ?_) (fun h h2 h3 => ?_) (fun h h2 h3 => ?_)
  · rw [cE_arm h]; simp [h]
  · rw [cE_ratio h h2]; simp [h2]
  · rw [cE_arg h h2 h3]; constructor
    · intro e; cases e
    · intro e; exact absurd e.2.2 h3
  · rw [cE_ok h h2 h3]; simp [h, h2, h3]
/-- The whole number nearest to T / B, the lesser one of two, kept within lo and hi. -/
def near (T B lo hi : Int) : Int := min (max (if B < 2 * (T % B) then T / B + 1 else T / B) lo) hi
def scT (v s a : Int) : Int := a * (v * s)
def scB (u r b sc : Int) : Int := b * (u * r) * sc * sc
def scV (u v r s lo hi a b sc : Int) (is : Bool) : Int := if cE u v r s lo hi a b is = 0 then near (scT v s a) (scB u r b sc) lo hi else 0
/-- The value of n steps. -/
def valN (u v r s lo hi n : Int) (is : Bool) : Int := if cE u v r s lo hi 1 1 is = 0 then sN (n * (u * r)) (v * s) else 0
def valD (u v r s lo hi n : Int) (is : Bool) : Int := if cE u v r s lo hi 1 1 is = 0 then sD (n * (u * r)) (v * s) else 0
def valE (u v r s lo hi n : Int) (is : Bool) : Int := if cE u v r s lo hi 1 1 is = 0 then sE (n * (u * r)) (v * s) else cE u v r s lo hi 1 1 is
/-- How far n steps are from a wanted ratio. -/
def farN (u v r s a b n : Int) : Int := ((n * (u * r) * b - a * (v * s)).natAbs : Int)
def offN (u v r s lo hi a b n : Int) (is : Bool) : Int := if cE u v r s lo hi a b is = 0 then sN (farN u v r s a b n) (a * (v * s)) else 0
def offD (u v r s lo hi a b n : Int) (is : Bool) : Int := if cE u v r s lo hi a b is = 0 then sD (farN u v r s a b n) (a * (v * s)) else 0
def offE (u v r s lo hi a b n : Int) (is : Bool) : Int := if cE u v r s lo hi a b is = 0 then sE (farN u v r s a b n) (a * (v * s)) else cE u v r s lo hi a b is
end Arm
end Go.Proofs.Ytecmlakcpgkfbaa
