/- Plain facts on the best ratio with a bounded denominator: neighbours whose determinant is 1. No program is named here. -/
import Derived.Below
namespace Go.Proofs.Ytfjcmmdfipppoaa
namespace Best

/-- The distance of n / d and p / q, times both denominators. -/
def dst (n d p q : Int) : Int := ((n * q - p * d).natAbs : Int)
/-- p / q is the ratio nearest to n / d of all with a denominator of at most M; of equally near ones that with the least denominator, and of these the least one. -/
structure Is (n d M p q : Int) : Prop where
  q1 : 1 ≤ q
  qM : q ≤ M
  best : ∀ p' q', 1 ≤ q' → q' ≤ M → dst n d p q * q' < dst n d p' q' * q ∨ (dst n d p q * q' = dst n d p' q' * q ∧ (q < q' ∨ (q = q' ∧ p ≤ p')))
theorem Is.unique {n d M p q p' q' : Int} (h : Is n d M p q) (h' : Is n d M p' q') : p = p' ∧ q = q' := by
  have a := h.best p' q' h'.q1 h'.qM
  have b := h'.best p q h.q1 h.qM
  omega
structure Nb (n d M a b c e : Int) : Prop where
  b1 : 1 ≤ b
  bM : b ≤ M
  e1 : 1 ≤ e
  eM : e ≤ M
  det : c * b - a * e = 1
  lo : 1 ≤ n * b - a * d
  hi : 1 ≤ c * d - n * e
theorem le_mul {x y : Int} (hx : 0 ≤ x) (hy : 1 ≤ y) : x ≤ x * y := by
  have := Int.mul_le_mul_of_nonneg_left hy hx
  omega
theorem mul_le {x y z : Int} (hz : 0 ≤ z) (h : x ≤ y) : x * z ≤ y * z := Int.mul_le_mul_of_nonneg_right h hz
theorem mul_lt {x y z : Int} (hz : 1 ≤ z) (h : x < y) : x * z < y * z := Int.mul_lt_mul_of_pos_right h (by omega)
theorem le_of_mul {x y z : Int} (hz : 1 ≤ z) (h : x * z ≤ y * z) : x ≤ y := Int.le_of_mul_le_mul_right h (by omega)
theorem lt_of_mul {x y z : Int} (hz : 1 ≤ z) (h : x * z < y * z) : x < y := Int.lt_of_mul_lt_mul_right h (by omega)
theorem sides {n d M a b c e p q : Int} (h : Nb n d M a b c e) (hs : M < b + e) (_hq : 1 ≤ q) (hqM : q ≤ M) : p * b ≤ a * q ∨ c * q ≤ p * e := by
  by_cases h1 : p * b ≤ a * q
  · exact .inl h1
  by_cases h2 : c * q ≤ p * e
  · exact .inr h2
  exfalso
  have hdet := h.det
  have key : q = b * (c * q - p * e) + e * (p * b - a * q) := by grind
  have k1 := le_mul (x := b) (y := c * q - p * e) (by have := h.b1; omega) (by omega)
  have k2 := le_mul (x := e) (y := p * b - a * q) (by have := h.e1; omega) (by omega)
  omega
/-- Of the ratios up to a / b none but a multiple of it is as near. -/
theorem low_side {n d M a b c e p q : Int} (h : Nb n d M a b c e) (hd : 1 ≤ d) (hq : 1 ≤ q) (hp : p * b ≤ a * q) :
    dst n d p q = n * q - p * d ∧ (n * b - a * d) * q ≤ (n * q - p * d) * b ∧ ((n * b - a * d) * q = (n * q - p * d) * b → b ≤ q ∧ (b = q → a = p)) := by
  have hdet := h.det
  have hb := h.b1
  have hlo := h.lo
  have k1 := mul_le (z := d) (by omega) hp
  have e1 : (n * b - a * d) * q + (a * q) * d = n * q * b := by grind
  have e2 : (n * q - p * d) * b + (p * b) * d = n * q * b := by grind
  have hle : (n * b - a * d) * q ≤ (n * q - p * d) * b := by omega
  have hpos : 0 < n * q - p * d := by
    have k2 := le_mul (x := n * b - a * d) (y := q) (by omega) hq
    have k3 : (0 : Int) * b < (n * q - p * d) * b := by omega
    exact lt_of_mul hb k3
  refine ⟨?_, hle, fun he => ?_⟩
  · unfold dst; omega
  · have k4 : p * b * d = a * q * d := by omega
    have k5 : p * b = a * q := by
      have := Int.eq_of_mul_eq_mul_right (by omega : d ≠ 0) k4
      exact this
    have k6 : q = b * (c * q - p * e) := by grind
    have k7 : 1 ≤ c * q - p * e := by
      have : (0 : Int) < c * q - p * e := by
        have k8 : (0 : Int) * b < (c * q - p * e) * b := by rw [Int.mul_comm (c * q - p * e) b]; omega
        exact lt_of_mul hb k8
      omega
    have k9 := le_mul (x := b) (by omega) k7
    refine ⟨by omega, fun hbq => ?_⟩
    subst hbq
    exact (Int.eq_of_mul_eq_mul_right (by omega : b ≠ 0) k5).symm
theorem high_side {n d M a b c e p q : Int} (h : Nb n d M a b c e) (hd : 1 ≤ d) (hq : 1 ≤ q) (hp : c * q ≤ p * e) :
    dst n d p q = p * d - n * q ∧ (c * d - n * e) * q ≤ (p * d - n * q) * e ∧ ((c * d - n * e) * q = (p * d - n * q) * e → e ≤ q ∧ (e = q → c = p)) := by
  have hdet := h.det
  have hb := h.e1
  have hlo := h.hi
  have k1 := mul_le (z := d) (by omega) hp
  have e1 : (c * q) * d - (c * d - n * e) * q = n * q * e := by grind
  have e2 : (p * e) * d - (p * d - n * q) * e = n * q * e := by grind
  have hle : (c * d - n * e) * q ≤ (p * d - n * q) * e := by omega
  have hpos : 0 < p * d - n * q := by
    have k2 := le_mul (x := c * d - n * e) (y := q) (by omega) hq
    have k3 : (0 : Int) * e < (p * d - n * q) * e := by omega
    exact lt_of_mul hb k3
  refine ⟨?_, hle, fun he => ?_⟩
  · unfold dst; omega
  · have k4 : p * e * d = c * q * d := by omega
    have k5 : p * e = c * q := by
      have := Int.eq_of_mul_eq_mul_right (by omega : d ≠ 0) k4
      exact this
    have k6 : q = e * (p * b - a * q) := by grind
    have k7 : 1 ≤ p * b - a * q := by
      have : (0 : Int) < p * b - a * q := by
        have k8 : (0 : Int) * e < (p * b - a * q) * e := by rw [Int.mul_comm (p * b - a * q) e]; omega
        exact lt_of_mul hb k8
      omega
    have k9 := le_mul (x := e) (by omega) k7
    refine ⟨by omega, fun hbq => ?_⟩
    subst hbq
    exact (Int.eq_of_mul_eq_mul_right (by omega : e ≠ 0) k5).symm
/-- The lower neighbour is the best one if it is nearer, or as near with a denominator that is not greater. -/
theorem is_low {n d M a b c e : Int} (h : Nb n d M a b c e) (hd : 1 ≤ d) (hs : M < b + e)
    (hc : (n * b - a * d) * e < (c * d - n * e) * b ∨ ((n * b - a * d) * e = (c * d - n * e) * b ∧ b ≤ e)) : Is n d M a b := by
  have hb := h.b1
  have he := h.e1
  have hlo := h.lo
  have hda : dst n d a b = n * b - a * d := by unfold dst; omega
  refine ⟨h.b1, h.bM, fun p q hq hqM => ?_⟩
  rw [hda]
  rcases sides (p := p) (q := q) h hs hq hqM with hp | hp
  · obtain ⟨h1, h2, h3⟩ := low_side h hd hq hp
    rw [h1]
    by_cases heq : (n * b - a * d) * q = (n * q - p * d) * b
    · have h4 := h3 heq
      refine .inr ⟨heq, ?_⟩
      by_cases hbq : b = q
      · exact .inr ⟨hbq, by have := h4.2 hbq; omega⟩
      · exact .inl (by omega)
    · exact .inl (by omega)
  · obtain ⟨h1, h2, h3⟩ := high_side h hd hq hp
    rw [h1]
    have j1 : (n * b - a * d) * q * e = (n * b - a * d) * e * q := by grind
    have j2 : (p * d - n * q) * b * e = (p * d - n * q) * e * b := by grind
    have j3 : (c * d - n * e) * b * q = (c * d - n * e) * q * b := by grind
    have j4 := mul_le (z := b) (by omega) h2
    rcases hc with hc | ⟨hc, hbe⟩
    · refine .inl (lt_of_mul he ?_)
      have j5 := mul_lt (z := q) hq hc
      omega
    · rw [hc] at j1
      by_cases heq : (c * d - n * e) * q = (p * d - n * q) * e
      · have h4 := h3 heq
        have k : (n * b - a * d) * q = (p * d - n * q) * b := by
          refine Int.eq_of_mul_eq_mul_right (by omega : e ≠ 0) ?_
          rw [heq] at j3
          omega
        refine .inr ⟨k, ?_⟩
        by_cases hbq : b = q
        · have hec : e = q := by omega
          have hcp := h4.2 hec
          refine .inr ⟨hbq, ?_⟩
          subst hbq hcp
          have hdet := h.det
          rw [hec] at hdet
          have : (a : Int) * b < c * b := by omega
          have := lt_of_mul hb this
          omega
        · exact .inl (by omega)
      · refine .inl (lt_of_mul he ?_)
        have j5 : (c * d - n * e) * q * b < (p * d - n * q) * e * b := mul_lt hb (by omega)
        omega
/-- The upper neighbour is the best one if it is nearer, or as near with a lesser denominator. -/
theorem is_high {n d M a b c e : Int} (h : Nb n d M a b c e) (hd : 1 ≤ d) (hs : M < b + e)
    (hc : (c * d - n * e) * b < (n * b - a * d) * e ∨ ((c * d - n * e) * b = (n * b - a * d) * e ∧ e < b)) : Is n d M c e := by
  have hb := h.b1
  have he := h.e1
  have hlo := h.hi
  have hda : dst n d c e = c * d - n * e := by unfold dst; omega
  refine ⟨h.e1, h.eM, fun p q hq hqM => ?_⟩
  rw [hda]
  rcases sides (p := p) (q := q) h hs hq hqM with hp | hp
  · obtain ⟨h1, h2, h3⟩ := low_side h hd hq hp
    rw [h1]
    have j1 : (c * d - n * e) * q * b = (c * d - n * e) * b * q := by grind
    have j2 : (n * q - p * d) * e * b = (n * q - p * d) * b * e := by grind
    have j3 : (n * b - a * d) * e * q = (n * b - a * d) * q * e := by grind
    have j4 := mul_le (z := e) (by omega) h2
    rcases hc with hc | ⟨hc, hbe⟩
    · refine .inl (lt_of_mul hb ?_)
      have j5 := mul_lt (z := q) hq hc
      omega
    · rw [hc] at j1
      by_cases heq : (n * b - a * d) * q = (n * q - p * d) * b
      · have h4 := h3 heq
        have k : (c * d - n * e) * q = (n * q - p * d) * e := by
          refine Int.eq_of_mul_eq_mul_right (by omega : b ≠ 0) ?_
          rw [heq] at j3
          omega
        exact .inr ⟨k, .inl (by omega)⟩
      · refine .inl (lt_of_mul hb ?_)
        have j5 : (n * b - a * d) * q * e < (n * q - p * d) * b * e := mul_lt he (by omega)
        omega
  · obtain ⟨h1, h2, h3⟩ := high_side h hd hq hp
    rw [h1]
    by_cases heq : (c * d - n * e) * q = (p * d - n * q) * e
    · have h4 := h3 heq
      refine .inr ⟨heq, ?_⟩
      by_cases hbq : e = q
      · exact .inr ⟨hbq, by have := h4.2 hbq; omega⟩
      · exact .inl (by omega)
    · exact .inl (by omega)
end Best
end Go.Proofs.Ytfjcmmdfipppoaa
