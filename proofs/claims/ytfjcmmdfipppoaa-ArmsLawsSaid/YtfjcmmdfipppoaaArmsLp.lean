/- Plain facts on sums, products and the order of ratios: equal ratios are reduced to the same, and a sum or product does not depend on the order. No program is named here. -/
import Derived.Test.YtfjcmmdfipppoaaArmsNp
namespace Go.Proofs.Ytfjcmmdfipppoaa
namespace Arm

theorem red_mul {n d : Int} (hd : 1 ≤ d) : n = (Int.gcd n d : Int) * redN n d ∧ d = (Int.gcd n d : Int) * redD n d ∧ 1 ≤ redD n d := by
  have hg := gcd_pos_of (n := n) hd
  have h1 : n = (Int.gcd n d : Int) * redN n d := (Int.mul_ediv_cancel' (Int.gcd_dvd_left n d)).symm
  have h2 : d = (Int.gcd n d : Int) * redD n d := (Int.mul_ediv_cancel' (Int.gcd_dvd_right n d)).symm
  refine ⟨h1, h2, ?_⟩
  generalize redD n d = D at *
  generalize (Int.gcd n d : Int) = g at *
  rcases Int.lt_or_le D 1 with h | h
  · have : g * D ≤ 0 := Int.mul_nonpos_of_nonneg_of_nonpos (by omega) (by omega)
    omega
  · exact h
theorem red_cross {n d : Int} (hd : 1 ≤ d) : redN n d * d = n * redD n d := by
  obtain ⟨h1, h2, _⟩ := red_mul (n := n) hd
  generalize redD n d = D at *
  generalize redN n d = N at *
  generalize (Int.gcd n d : Int) = g at *
  subst h1 h2
  grind
theorem red_eq {n d m e : Int} (hd : 1 ≤ d) (he : 1 ≤ e) (h : n * e = m * d) : redN n d = redN m e ∧ redD n d = redD m e := by
  obtain ⟨h1, h2, h3⟩ := red_mul (n := n) hd
  obtain ⟨k1, k2, k3⟩ := red_mul (n := m) he
  have g1 := gcd_pos_of (n := n) hd
  have g2 := gcd_pos_of (n := m) he
  have e1 : (Int.gcd n d : Int) * e = (Int.gcd m e : Int) * d := by
    have a1 := Int.gcd_mul_right n e d
    have a2 := Int.gcd_mul_right m d e
    rw [h, Int.mul_comm d e, a2] at a1
    have b1 : ((Int.gcd m e * d.natAbs : Nat) : Int) = (Int.gcd n d * e.natAbs : Nat) := by rw [a1]
    simp only [Int.natCast_mul] at b1
    have c1 : (d.natAbs : Int) = d := by omega
    have c2 : (e.natAbs : Int) = e := by omega
    rw [c1, c2] at b1
    exact b1.symm
  have hD : redD n d = redD m e := by
    generalize redD n d = D at *
    generalize redD m e = E at *
    generalize (Int.gcd n d : Int) = g at *
    generalize (Int.gcd m e : Int) = k at *
    have : (g * k) * D = (g * k) * E := by grind
    exact Int.eq_of_mul_eq_mul_left (by have := Int.mul_pos (a := g) (b := k) (by omega) (by omega); omega) this
  refine ⟨?_, hD⟩
  have x1 := red_cross (n := n) hd
  have x2 := red_cross (n := m) he
  rw [hD] at x1
  generalize redD m e = E at *
  generalize redN n d = N at *
  generalize redN m e = M at *
  have : (d * e) * N = (d * e) * M := by grind
  exact Int.eq_of_mul_eq_mul_left (by have := Int.mul_pos (a := d) (b := e) (by omega) (by omega); omega) this
theorem red_red {n d : Int} (hd : 1 ≤ d) : redN (redN n d) (redD n d) = redN n d ∧ redD (redN n d) (redD n d) = redD n d :=
  red_eq (red_mul (n := n) hd).2.2 hd (red_cross hd)
theorem s_eq {n d m e : Int} (hd : 1 ≤ d) (he : 1 ≤ e) (h : n * e = m * d) : sN n d = sN m e ∧ sD n d = sD m e ∧ sE n d = sE m e := by
  obtain ⟨h1, h2⟩ := red_eq hd he h
  unfold sN sD sE fit
  rw [h1, h2]
  exact ⟨rfl, rfl, rfl⟩
/-- What a sum or a product is when it is valid: a reduced ratio that is equal. -/
theorem s_some {n d : Int} (hd : 1 ≤ d) (h : sE n d = 0) : ok (sN n d) (sD n d) ∧ 1 ≤ sD n d ∧ sN n d * d = n * sD n d ∧ redN (sN n d) (sD n d) = sN n d ∧ redD (sN n d) (sD n d) = sD n d := by
  obtain ⟨h1, h2, h3⟩ := sN_red h
  rw [h1, h2]
  exact ⟨h3, h3.1.1, red_cross hd, (red_red hd).1, (red_red hd).2⟩

theorem sgn_neg (x : Int) : sgn (-x) = - sgn x := by
  unfold sgn
  split
  · split
    · omega
    · split <;> omega
  · split
    · split
      · rfl
      · omega
    · split
      · omega
      · split
        · omega
        · rfl
theorem sgn_mul {k x : Int} (hk : 1 ≤ k) : sgn (k * x) = sgn x := by
  have h1 : k * x < 0 ↔ x < 0 := by
    constructor
    · intro h
      rcases Int.lt_or_le x 0 with g | g
      · exact g
      · have := Int.mul_nonneg (a := k) (b := x) (by omega) g
        omega
    · intro h
      have := Int.mul_neg_of_pos_of_neg (a := k) (b := x) (by omega) h
      omega
  have h2 : 0 < k * x ↔ 0 < x := by
    constructor
    · intro h
      rcases Int.lt_or_le 0 x with g | g
      · exact g
      · have := Int.mul_nonpos_of_nonneg_of_nonpos (a := k) (b := x) (by omega) g
        omega
    · intro h
      exact Int.mul_pos (by omega) h
  unfold sgn
  simp only [h1, h2]
theorem sgn_bd (x : Int) : -1 ≤ sgn x ∧ sgn x ≤ 1 := by unfold sgn; split <;> (try split) <;> omega
theorem sgn_le {x : Int} : sgn x ≤ 0 ↔ x ≤ 0 := by unfold sgn; split <;> (try split) <;> omega
theorem sgn_ge {x : Int} : 0 ≤ sgn x ↔ 0 ≤ x := by unfold sgn; split <;> (try split) <;> omega
theorem sgn_zero {x : Int} : sgn x = 0 ↔ x = 0 := by unfold sgn; split <;> (try split) <;> omega
theorem sgn_scale {k l x y : Int} (hk : 1 ≤ k) (hl : 1 ≤ l) (h : k * x = l * y) : sgn x = sgn y := by
  rw [← sgn_mul hk, h, sgn_mul hl]

theorem cmp_swap (a b c d : Int) : sgn (c * b - a * d) = - sgn (a * d - c * b) := by
  rw [← sgn_neg]
  congr 1
  omega
theorem cmp_trans_le {a b c d e f : Int} (hb : 1 ≤ b) (hd : 1 ≤ d) (hf : 1 ≤ f) (h1 : sgn (a * d - c * b) ≤ 0) (h2 : sgn (c * f - e * d) ≤ 0) : sgn (a * f - e * b) ≤ 0 := by
  rw [sgn_le] at *
  have p : f * (a * d - c * b) ≤ 0 := Int.mul_nonpos_of_nonneg_of_nonpos (by omega) h1
  have q : b * (c * f - e * d) ≤ 0 := Int.mul_nonpos_of_nonneg_of_nonpos (by omega) h2
  have r : d * (a * f - e * b) ≤ 0 := by
    have : d * (a * f - e * b) = f * (a * d - c * b) + b * (c * f - e * d) := by grind
    omega
  rcases Int.lt_or_le 0 (a * f - e * b) with g | g
  · have := Int.mul_pos (a := d) (by omega) g
    omega
  · exact g
theorem cmp_trans_ge {a b c d e f : Int} (hb : 1 ≤ b) (hd : 1 ≤ d) (hf : 1 ≤ f) (h1 : 0 ≤ sgn (a * d - c * b)) (h2 : 0 ≤ sgn (c * f - e * d)) : 0 ≤ sgn (a * f - e * b) := by
  have e1 := cmp_swap a b c d
  have e2 := cmp_swap c d e f
  have e3 := cmp_swap a b e f
  have := cmp_trans_le (a := -a) (b := b) (c := -c) (d := d) (e := -e) (f := f) hb hd hf
    (by have : -a * d - -c * b = c * b - a * d := by grind
        rw [this]; omega)
    (by have : -c * f - -e * d = e * d - c * f := by grind
        rw [this]; omega)
  have e4 : -a * f - -e * b = e * b - a * f := by grind
  rw [e4] at this
  omega
theorem cmp_same {a b c d : Int} (hb : 1 ≤ b) (hd : 1 ≤ d) : sgn (a * d - c * b) = 0 ↔ redN a b = redN c d ∧ redD a b = redD c d := by
  rw [sgn_zero]
  constructor
  · intro h
    exact red_eq hb hd (by omega)
  · rintro ⟨h1, h2⟩
    have x1 := red_cross (n := a) hb
    have x2 := red_cross (n := c) hd
    have p := (red_mul (n := c) hd).2.2
    rw [h1, h2] at x1
    generalize redD c d = D at *
    generalize redN c d = N at *
    have : D * (a * d) = D * (c * b) := by grind
    have := Int.eq_of_mul_eq_mul_left (by omega) this
    omega
/-- The order of two ratios that are equal to two others. -/
theorem cmp_like {n1 d1 n2 d2 x1 y1 x2 y2 : Int} (h1 : 1 ≤ d1) (h2 : 1 ≤ d2) (k1 : 1 ≤ y1) (k2 : 1 ≤ y2) (e1 : x1 * d1 = n1 * y1) (e2 : x2 * d2 = n2 * y2) :
    sgn (x1 * y2 - x2 * y1) = sgn (n1 * d2 - n2 * d1) := by
  have p := Int.mul_pos (a := d1) (b := d2) (by omega) (by omega)
  have q := Int.mul_pos (a := y1) (b := y2) (by omega) (by omega)
  refine sgn_scale (k := d1 * d2) (l := y1 * y2) (by omega) (by omega) ?_
  grind
theorem cmp_add {a b c d e f : Int} (hb : 1 ≤ b) (hd : 1 ≤ d) (hf : 1 ≤ f) (h1 : sE (a * f + e * b) (b * f) = 0) (h2 : sE (c * f + e * d) (d * f) = 0) :
    sgn (sN (a * f + e * b) (b * f) * sD (c * f + e * d) (d * f) - sN (c * f + e * d) (d * f) * sD (a * f + e * b) (b * f)) = sgn (a * d - c * b) := by
  have p := Int.mul_pos (a := b) (b := f) (by omega) (by omega)
  have q := Int.mul_pos (a := d) (b := f) (by omega) (by omega)
  have s1 := s_some (by omega) h1
  have s2 := s_some (by omega) h2
  rw [cmp_like (by omega) (by omega) s1.2.1 s2.2.1 s1.2.2.1 s2.2.2.1]
  have r := Int.mul_pos (a := f) (b := f) (by omega) (by omega)
  have : (a * f + e * b) * (d * f) - (c * f + e * d) * (b * f) = (f * f) * (a * d - c * b) := by grind
  rw [this, sgn_mul (by omega)]
theorem cmp_mul {a b c d e f : Int} (hb : 1 ≤ b) (hd : 1 ≤ d) (hf : 1 ≤ f) (he : 1 ≤ e) (h1 : sE (a * e) (b * f) = 0) (h2 : sE (c * e) (d * f) = 0) :
    sgn (sN (a * e) (b * f) * sD (c * e) (d * f) - sN (c * e) (d * f) * sD (a * e) (b * f)) = sgn (a * d - c * b) := by
  have p := Int.mul_pos (a := b) (b := f) (by omega) (by omega)
  have q := Int.mul_pos (a := d) (b := f) (by omega) (by omega)
  have s1 := s_some (by omega) h1
  have s2 := s_some (by omega) h2
  rw [cmp_like (by omega) (by omega) s1.2.1 s2.2.1 s1.2.2.1 s2.2.2.1]
  have r := Int.mul_pos (a := e) (b := f) (by omega) (by omega)
  have : (a * e) * (d * f) - (c * e) * (b * f) = (e * f) * (a * d - c * b) := by grind
  rw [this, sgn_mul (by omega)]

theorem add_swap (a b c d : Int) : c * b + a * d = a * d + c * b ∧ d * b = b * d ∧ c * a = a * c := ⟨Int.add_comm _ _, Int.mul_comm _ _, Int.mul_comm _ _⟩
/-- A sum of three, whichever two come first. -/
theorem add_three {a b c d e f : Int} (hb : 1 ≤ b) (hd : 1 ≤ d) (hf : 1 ≤ f) {x1 y1 x2 y2 : Int} (k1 : 1 ≤ y1) (k2 : 1 ≤ y2) (e1 : x1 * (b * d) = (a * d + c * b) * y1) (e2 : x2 * (d * f) = (c * f + e * d) * y2) :
    sN (x1 * f + e * y1) (y1 * f) = sN (a * y2 + x2 * b) (b * y2) ∧ sD (x1 * f + e * y1) (y1 * f) = sD (a * y2 + x2 * b) (b * y2) ∧ sE (x1 * f + e * y1) (y1 * f) = sE (a * y2 + x2 * b) (b * y2) := by
  have p := Int.mul_pos (a := y1) (b := f) (by omega) (by omega)
  have q := Int.mul_pos (a := b) (b := y2) (by omega) (by omega)
  refine s_eq (by omega) (by omega) ?_
  have : d * ((x1 * f + e * y1) * (b * y2)) = d * ((a * y2 + x2 * b) * (y1 * f)) := by grind
  exact Int.eq_of_mul_eq_mul_left (by omega) this
theorem mul_three {a b c d e f : Int} (hb : 1 ≤ b) (hd : 1 ≤ d) (hf : 1 ≤ f) {x1 y1 x2 y2 : Int} (k1 : 1 ≤ y1) (k2 : 1 ≤ y2) (e1 : x1 * (b * d) = (a * c) * y1) (e2 : x2 * (d * f) = (c * e) * y2) :
    sN (x1 * e) (y1 * f) = sN (a * x2) (b * y2) ∧ sD (x1 * e) (y1 * f) = sD (a * x2) (b * y2) ∧ sE (x1 * e) (y1 * f) = sE (a * x2) (b * y2) := by
  have p := Int.mul_pos (a := y1) (b := f) (by omega) (by omega)
  have q := Int.mul_pos (a := b) (b := y2) (by omega) (by omega)
  refine s_eq (by omega) (by omega) ?_
  have : d * ((x1 * e) * (b * y2)) = d * ((a * x2) * (y1 * f)) := by grind
  exact Int.eq_of_mul_eq_mul_left (by omega) this
/-- A product with a sum: x2 / y2 is c / d and e / f together, x1 / y1 is a / b times c / d, x3 / y3 is a / b times e / f. -/
theorem mul_sum {a b c d e f : Int} (hb : 1 ≤ b) (hd : 1 ≤ d) (hf : 1 ≤ f) {x1 y1 x2 y2 x3 y3 : Int} (k1 : 1 ≤ y1) (k2 : 1 ≤ y2) (k3 : 1 ≤ y3)
    (e1 : x1 * (b * d) = (a * c) * y1) (e2 : x2 * (d * f) = (c * f + e * d) * y2) (e3 : x3 * (b * f) = (a * e) * y3) :
    sN (a * x2) (b * y2) = sN (x1 * y3 + x3 * y1) (y1 * y3) ∧ sD (a * x2) (b * y2) = sD (x1 * y3 + x3 * y1) (y1 * y3) ∧ sE (a * x2) (b * y2) = sE (x1 * y3 + x3 * y1) (y1 * y3) := by
  have p := Int.mul_pos (a := y1) (b := y3) (by omega) (by omega)
  have q := Int.mul_pos (a := b) (b := y2) (by omega) (by omega)
  have r := Int.mul_pos (a := d) (b := f) (by omega) (by omega)
  refine s_eq (by omega) (by omega) ?_
  have : (d * f) * ((a * x2) * (y1 * y3)) = (d * f) * ((x1 * y3 + x3 * y1) * (b * y2)) := by grind
  exact Int.eq_of_mul_eq_mul_left (by omega) this
theorem cmpV_ok {a b c d : Int} (h1 : okB a b = true) (h2 : okB c d = true) : cmpV a b c d = sgn (a * d - c * b) ∧ cmpE a b c d = 0 := by
  unfold cmpV cmpE
  rw [two_yes ⟨h1, h2⟩, two_yes ⟨h1, h2⟩]
  exact ⟨rfl, rfl⟩
theorem rE_ok {a b : Int} (h : okB a b = true) (hf : fit a b = true) : rN a b = redN a b ∧ rD a b = redD a b ∧ rE a b = 0 ∧ okB (redN a b) (redD a b) = true := by
  unfold rN rD rE sN sD sE
  rw [if_pos h, if_pos h, if_pos h, if_pos hf, if_pos hf, if_pos hf]
  exact ⟨rfl, rfl, rfl, hf⟩
theorem order_add {a b c d e f : Int} (h1 : okB a b = true) (h2 : okB c d = true) (h3 : okB e f = true) (p : addE a b e f = 0) (q : addE c d e f = 0) :
    cmpV (addN a b e f) (addD a b e f) (addN c d e f) (addD c d e f) = sgn (a * d - c * b) ∧ cmpE (addN a b e f) (addD a b e f) (addN c d e f) (addD c d e f) = 0 := by
  have o1 := okB_true.1 h1
  have o2 := okB_true.1 h2
  have o3 := okB_true.1 h3
  unfold addE at p q
  unfold addN addD
  rw [two_yes ⟨h1, h3⟩] at *
  rw [two_yes ⟨h2, h3⟩] at *
  rw [two_yes ⟨h1, h3⟩, two_yes ⟨h2, h3⟩]
  have m1 := Int.mul_pos (a := b) (b := f) (by have := o1.1; omega) (by have := o3.1; omega)
  have m2 := Int.mul_pos (a := d) (b := f) (by have := o2.1; omega) (by have := o3.1; omega)
  have s1 := s_some (n := a * f + e * b) (d := b * f) (by omega) p
  have s2 := s_some (n := c * f + e * d) (d := d * f) (by omega) q
  have r := cmpV_ok (okB_true.2 s1.1) (okB_true.2 s2.1)
  rw [r.1, cmp_add o1.1.1 o2.1.1 o3.1.1 p q]
  exact ⟨rfl, r.2⟩
theorem order_mul {a b c d e f : Int} (h1 : okB a b = true) (h2 : okB c d = true) (h3 : okB e f = true) (he : 1 ≤ e) (p : mulE a b e f = 0) (q : mulE c d e f = 0) :
    cmpV (mulN a b e f) (mulD a b e f) (mulN c d e f) (mulD c d e f) = sgn (a * d - c * b) ∧ cmpE (mulN a b e f) (mulD a b e f) (mulN c d e f) (mulD c d e f) = 0 := by
  have o1 := okB_true.1 h1
  have o2 := okB_true.1 h2
  have o3 := okB_true.1 h3
  unfold mulE at p q
  unfold mulN mulD
  rw [two_yes ⟨h1, h3⟩] at *
  rw [two_yes ⟨h2, h3⟩] at *
  rw [two_yes ⟨h1, h3⟩, two_yes ⟨h2, h3⟩]
  have m1 := Int.mul_pos (a := b) (b := f) (by have := o1.1; omega) (by have := o3.1; omega)
  have m2 := Int.mul_pos (a := d) (b := f) (by have := o2.1; omega) (by have := o3.1; omega)
  have s1 := s_some (n := a * e) (d := b * f) (by omega) p
  have s2 := s_some (n := c * e) (d := d * f) (by omega) q
  have r := cmpV_ok (okB_true.2 s1.1) (okB_true.2 s2.1)
  rw [r.1, cmp_mul o1.1.1 o2.1.1 o3.1.1 he p q]
  exact ⟨rfl, r.2⟩
end Arm
end Go.Proofs.Ytfjcmmdfipppoaa
