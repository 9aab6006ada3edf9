/- Plain facts on how the neighbours of a ratio are found. No program is named here. -/
import Derived.Test.YtfjcmmdfipppoaaArmsBp
import Derived.Test.YtfjcmmdfipppoaaArmsPlain
namespace Go.Proofs.Ytfjcmmdfipppoaa
namespace Best

theorem cop_dvd {n d p q : Int} (h : Int.gcd n d = 1) (e : n * q = p * d) : d ∣ q := by
  have h1 : Nat.Coprime d.natAbs n.natAbs := by
    have : Int.gcd d n = 1 := by rw [Int.gcd_comm]; exact h
    exact this
  have h2 : d.natAbs ∣ n.natAbs * q.natAbs := by
    rw [← Int.natAbs_mul, e, Int.natAbs_mul]
    exact Nat.dvd_mul_left _ _
  exact Int.natAbs_dvd_natAbs.1 (h1.dvd_of_dvd_mul_left h2)
theorem cop_le {n d p q : Int} (h : Int.gcd n d = 1) (hq : 1 ≤ q) (e : n * q = p * d) : d ≤ q := Int.le_of_dvd (by omega) (cop_dvd h e)

theorem moveLow {n d M a b c e t : Int} (h : Nb n d M a b c e) (hg : Int.gcd n d = 1) (hM : M < d) (t0 : 0 ≤ t) (tb : t * e ≤ M - b) (tp : t * (c * d - n * e) ≤ n * b - a * d) :
    Nb n d M (a + t * c) (b + t * e) c e := by
  have hb := h.b1
  have he := h.e1
  have hte := Int.mul_nonneg t0 (by omega : 0 ≤ e)
  have hdet := h.det
  refine ⟨by omega, by omega, h.e1, h.eM, by grind, ?_, h.hi⟩
  have e1 : n * (b + t * e) - (a + t * c) * d = (n * b - a * d) - t * (c * d - n * e) := by grind
  by_cases hz : n * (b + t * e) = (a + t * c) * d
  · have := cop_le hg (by omega) hz
    omega
  · omega
theorem moveHigh {n d M a b c e t : Int} (h : Nb n d M a b c e) (hg : Int.gcd n d = 1) (hM : M < d) (t0 : 0 ≤ t) (tb : t * b ≤ M - e) (tp : t * (n * b - a * d) ≤ c * d - n * e) :
    Nb n d M a b (c + t * a) (e + t * b) := by
  have hb := h.b1
  have he := h.e1
  have hte := Int.mul_nonneg t0 (by omega : 0 ≤ b)
  have hdet := h.det
  refine ⟨h.b1, h.bM, by omega, by omega, by grind, h.lo, ?_⟩
  have e1 : (c + t * a) * d - n * (e + t * b) = (c * d - n * e) - t * (n * b - a * d) := by grind
  by_cases hz : n * (e + t * b) = (c + t * a) * d
  · have := cop_le hg (by omega) hz
    omega
  · omega
/-- As often as a neighbour is moved. -/
def times (M b e P Q : Int) : Int := min ((M - b) / e) (P / Q)
theorem times_facts {M b e P Q : Int} (hb : b ≤ M) (he : 1 ≤ e) (hP : 0 ≤ P) (hQ : 1 ≤ Q) : 0 ≤ times M b e P Q ∧ times M b e P Q * e ≤ M - b ∧ times M b e P Q * Q ≤ P ∧ times M b e P Q ≤ M - b ∧ (b + e ≤ M → Q ≤ P → 1 ≤ times M b e P Q) := by
  have h1 := Int.ediv_nonneg (a := M - b) (b := e) (by omega) (by omega)
  have h2 := Int.ediv_nonneg (a := P) (b := Q) (by omega) (by omega)
  have h3 := Int.ediv_mul_le (M - b) (b := e) (by omega)
  have h4 := Int.ediv_mul_le P (b := Q) (by omega)
  have ht : times M b e P Q ≤ (M - b) / e ∧ times M b e P Q ≤ P / Q ∧ 0 ≤ times M b e P Q := by unfold times; omega
  have h5 := mul_le (z := e) (by omega) ht.1
  have h6 := mul_le (z := Q) (by omega) ht.2.1
  have h7 := le_mul (x := (M - b) / e) (y := e) h1 he
  refine ⟨ht.2.2, by omega, by omega, by omega, fun k1 k2 => ?_⟩
  have g1 : 1 ≤ (M - b) / e := Int.le_ediv_of_mul_le (by omega) (by omega)
  have g2 : 1 ≤ P / Q := Int.le_ediv_of_mul_le (by omega) (by omega)
  unfold times; omega
theorem exact_is {n d M : Int} (hg : Int.gcd n d = 1) (hd : 1 ≤ d) (hM : d ≤ M) : Is n d M n d := by
  have h0 : dst n d n d = 0 := by unfold dst; omega
  refine ⟨hd, hM, fun p q hq _ => ?_⟩
  rw [h0]
  have hn : 0 ≤ dst n d p q := by unfold dst; omega
  have hm := Int.mul_nonneg hn (by omega : 0 ≤ d)
  by_cases hz : dst n d p q = 0
  · have e : n * q = p * d := by unfold dst at hz; omega
    have hle := cop_le hg hq e
    refine .inr ⟨by rw [hz]; omega, ?_⟩
    by_cases hdq : d = q
    · subst hdq
      exact .inr ⟨rfl, by have := Int.eq_of_mul_eq_mul_right (by omega : d ≠ 0) e; omega⟩
    · exact .inl (by omega)
  · refine .inl ?_
    have := Int.mul_pos (a := dst n d p q) (b := d) (by omega) (by omega)
    omega
theorem dst_scale {n d p q g : Int} (hg : 1 ≤ g) : dst (g * n) (g * d) p q = g * dst n d p q := by
  unfold dst
  have : g * n * q - p * (g * d) = g * (n * q - p * d) := by grind
  rw [this, Int.natAbs_mul, Int.natCast_mul]
  have : (g.natAbs : Int) = g := by omega
  rw [this]
theorem Is.scale {n d M p q g : Int} (hg : 1 ≤ g) (h : Is n d M p q) : Is (g * n) (g * d) M p q := by
  refine ⟨h.q1, h.qM, fun p' q' h1 h2 => ?_⟩
  rw [dst_scale hg, dst_scale hg]
  have e1 : g * dst n d p q * q' = dst n d p q * q' * g := by grind
  have e2 : g * dst n d p' q' * q = dst n d p' q' * q * g := by grind
  rcases h.best p' q' h1 h2 with h3 | ⟨h3, h4⟩
  · exact .inl (by rw [e1, e2]; exact mul_lt hg h3)
  · exact .inr ⟨by rw [e1, e2, h3], h4⟩
theorem red_parts {n d : Int} (hd : 1 ≤ d) : (Int.gcd n d : Int) * Arm.redN n d = n ∧ (Int.gcd n d : Int) * Arm.redD n d = d ∧ Int.gcd (Arm.redN n d) (Arm.redD n d) = 1 ∧ 1 ≤ Arm.redD n d := by
  have g1 := Arm.gcd_pos_of (n := n) hd
  have e1 : (Int.gcd n d : Int) * Arm.redN n d = n := Int.mul_ediv_cancel' (Int.gcd_dvd_left n d)
  have e2 : (Int.gcd n d : Int) * Arm.redD n d = d := Int.mul_ediv_cancel' (Int.gcd_dvd_right n d)
  refine ⟨e1, e2, ?_, ?_⟩
  · unfold Arm.redN Arm.redD
    rw [Int.gcd_ediv (Int.gcd_dvd_left n d) (Int.gcd_dvd_right n d)]
    simp only [Int.natAbs_natCast]
    exact Nat.div_self (by omega)
  · have : (0 : Int) < (Int.gcd n d : Int) * Arm.redD n d := by omega
    have := Int.pos_of_mul_pos_right (a := (Int.gcd n d : Int)) (b := Arm.redD n d) (by omega) (by omega)
    omega
/-- The first neighbours: the whole numbers below and above. -/
theorem start {n d M : Int} (hg : Int.gcd n d = 1) (hd : 1 < d) (hM : 1 ≤ M) : Nb n d M (n / d) 1 (n / d + 1) 1 := by
  have h1 := Int.emod_nonneg n (b := d) (by omega)
  have h2 := Int.emod_lt_of_pos n (b := d) (by omega)
  have h3 := Int.emod_add_mul_ediv n d
  have h4 : n / d * d = d * (n / d) := Int.mul_comm _ _
  have h5 : (n / d + 1) * d = d * (n / d) + d := by grind
  refine ⟨by omega, hM, by omega, hM, by omega, ?_, by omega⟩
  by_cases hz : n % d = 0
  · have := cop_le (q := 1) hg (by omega) (show n * 1 = (n / d) * d by omega)
    omega
  · omega
/-- One round: the lower neighbour is moved, then the upper one; one of both has a greater denominator. -/
theorem round1 {n d M a b c e T : Int} (h : Nb n d M a b c e) (hg : Int.gcd n d = 1) (hM : M < d) (hT : T = times M b e (n * b - a * d) (c * d - n * e)) :
    Nb n d M (a + T * c) (b + T * e) c e ∧ 0 ≤ T ∧ (T = 0 → b + e ≤ M → n * b - a * d < c * d - n * e) := by
  have hlo := h.lo
  have hhi := h.hi
  have f := times_facts (M := M) (b := b) (e := e) (P := n * b - a * d) (Q := c * d - n * e) h.bM h.e1 (by omega) (by omega)
  rw [← hT] at f
  obtain ⟨f1, f2, f3, f4, f5⟩ := f
  refine ⟨moveLow h hg hM f1 f2 f3, f1, fun h0 hs => ?_⟩
  by_cases hq : c * d - n * e ≤ n * b - a * d
  · have := f5 hs hq
    omega
  · omega
theorem round2 {n d M a b c e T : Int} (h : Nb n d M a b c e) (hg : Int.gcd n d = 1) (hM : M < d) (hT : T = times M e b (c * d - n * e) (n * b - a * d)) :
    Nb n d M a b (c + T * a) (e + T * b) ∧ 0 ≤ T ∧ (T = 0 → b + e ≤ M → c * d - n * e < n * b - a * d) := by
  have hlo := h.lo
  have hhi := h.hi
  have f := times_facts (M := M) (b := e) (e := b) (P := c * d - n * e) (Q := n * b - a * d) h.eM h.b1 (by omega) (by omega)
  rw [← hT] at f
  obtain ⟨f1, f2, f3, f4, f5⟩ := f
  refine ⟨moveHigh h hg hM f1 f2 f3, f1, fun h0 hs => ?_⟩
  by_cases hq : n * b - a * d ≤ c * d - n * e
  · have := f5 (by omega) hq
    omega
  · omega
theorem rounds {n d M a b c e T U : Int} (h : Nb n d M a b c e) (hg : Int.gcd n d = 1) (hM : M < d) (hs : b + e ≤ M) (hT : T = times M b e (n * b - a * d) (c * d - n * e))
    (hU : U = times M e (b + T * e) (c * d - n * e) (n * (b + T * e) - (a + T * c) * d)) :
    Nb n d M (a + T * c) (b + T * e) (c + U * (a + T * c)) (e + U * (b + T * e)) ∧ b + e < (b + T * e) + (e + U * (b + T * e)) := by
  have r1 := round1 h hg hM hT
  have r2 := round2 r1.1 hg hM hU
  refine ⟨r2.1, ?_⟩
  have hb := h.b1
  have he := h.e1
  have hb' := r1.1.b1
  have m2 := Int.mul_nonneg r2.2.1 (by omega : 0 ≤ b + T * e)
  by_cases hT0 : T = 0
  · have c1 := r1.2.2 hT0 hs
    have z1 : T * e = 0 := by rw [hT0]; omega
    have z2 : T * c = 0 := by rw [hT0]; omega
    have z3 : a + T * c = a := by omega
    have z4 : b + T * e = b := by omega
    have c2 := r2.2.2
    rw [z3, z4] at c2
    have hU0 : U ≠ 0 := fun h0 => by have := c2 h0 hs; omega
    have m3 := mul_le (x := 1) (y := U) (z := b + T * e) (by omega) (by have := r2.2.1; omega)
    omega
  · have m3 := mul_le (x := 1) (y := T) (z := e) (by omega) (by have := r1.2.1; omega)
    omega
end Best
end Go.Proofs.Ytfjcmmdfipppoaa
