/- Plain facts on the best ratio: it is reduced and valid, and which of two ratios is nearer. No program is named here. -/
import Derived.Test.YtfjcmmdfipppoaaArmsLp
import Derived.Test.YtfjcmmdfipppoaaArmsBq
namespace Go.Proofs.Ytfjcmmdfipppoaa
namespace Best
theorem abs_mul_pos {x y : Int} (hy : 0 ≤ y) : ((x * y).natAbs : Int) = (x.natAbs : Int) * y := by
  rw [Int.natAbs_mul, Int.natCast_mul]
  have : (y.natAbs : Int) = y := by omega
  rw [this]
theorem Is.red {n d M p q : Int} (h : Is n d M p q) : Arm.redN p q = p ∧ Arm.redD p q = q := by
  have q1 := h.q1
  have hr := red_parts (n := p) q1
  have hg := Arm.gcd_pos_of (n := p) q1
  obtain ⟨e1, e2, _, r1⟩ := hr
  generalize Arm.redN p q = P at *
  generalize Arm.redD p q = Q at *
  generalize (Int.gcd p q : Int) = g at *
  have hQ : Q ≤ q := by
    have := le_mul (x := Q) (y := g) (by omega) hg
    rw [Int.mul_comm] at this
    omega
  have hb := h.best P Q r1 (by have := h.qM; omega)
  have hd : dst n d p q = g * dst n d P Q := by
    unfold dst
    have e : n * q - p * d = (n * Q - P * d) * g := by rw [← e1, ← e2]; grind
    rw [e, abs_mul_pos (by omega), Int.mul_comm]
  have hk : dst n d P Q * q = dst n d p q * Q := by rw [hd, ← e2]; grind
  rw [hk] at hb
  have : q ≤ Q := by
    rcases hb with h1 | ⟨_, h2 | ⟨h2, _⟩⟩
    · omega
    · omega
    · omega
  have hqQ : q = Q := by omega
  have hg1 : g = 1 := by
    subst hqQ
    have : g * q = 1 * q := by omega
    exact Int.eq_of_mul_eq_mul_right (by omega) this
  subst hg1
  omega
theorem Is.ok {n d M p q : Int} (h : Is n d M p q) (ho : Arm.ok n d) (hM : M ≤ 1000000) : Arm.ok p q := by
  have q1 := h.q1
  have qM := h.qM
  obtain ⟨⟨d1, d2⟩, n1, n2⟩ := ho
  refine ⟨⟨q1, by omega⟩, ?_⟩
  by_cases hex : Arm.redD n d ≤ M
  · have hr := red_parts (n := n) d1
    have hg := Arm.gcd_pos_of (n := n) d1
    have := (exact_is hr.2.2.1 hr.2.2.2 hex).scale hg
    rw [hr.1, hr.2.1] at this
    obtain ⟨rfl, rfl⟩ := h.unique this
    have h1 : (Arm.redN n d).natAbs ≤ n.natAbs := by
      have e : n.natAbs = Int.gcd n d * (Arm.redN n d).natAbs := by
        have := congrArg Int.natAbs hr.1
        rw [Int.natAbs_mul] at this
        simpa using this.symm
      rw [e]
      exact Nat.le_mul_of_pos_left _ (by omega)
    omega
  · have hrd : Arm.redD n d ≤ d := by
      have hr := red_parts (n := n) d1
      have hg := Arm.gcd_pos_of (n := n) d1
      have := le_mul (x := Arm.redD n d) (y := (Int.gcd n d : Int)) (by have := hr.2.2.2; omega) hg
      rw [Int.mul_comm, hr.2.1] at this
      exact this
    have hqd : q ≤ d := by omega
    have up : n * q ≤ 1000000 * q := mul_le (by omega) n2
    have lo : -1000000 * q ≤ n * q := mul_le (by omega) n1
    constructor
    · rcases Int.lt_or_le p (-1000000) with hp | hp
      · exfalso
        have hb := h.best (p + 1) q q1 qM
        have k : (p + 1) * d ≤ -1000000 * d := mul_le (by omega) (by omega)
        have e : (p + 1) * d = p * d + d := by grind
        have e3 : -1000000 * d ≤ -1000000 * q := by omega
        have hlt : dst n d (p + 1) q * q < dst n d p q * q := mul_lt q1 (by unfold dst; omega)
        omega
      · exact hp
    · rcases Int.lt_or_le 1000000 p with hp | hp
      · exfalso
        have hb := h.best (p - 1) q q1 qM
        have k : 1000000 * d ≤ (p - 1) * d := mul_le (by omega) (by omega)
        have e : (p - 1) * d = p * d - d := by grind
        have hlt : dst n d (p - 1) q * q < dst n d p q * q := mul_lt q1 (by unfold dst; omega)
        omega
      · exact hp
theorem dst_neg (n d p q : Int) : dst (-n) d p q = dst n d (-p) q := by
  unfold dst
  have : -n * q - p * d = -(n * q - -p * d) := by grind
  rw [this, Int.natAbs_neg]
/-- Whether p / q is nearer to n / d than p' / q' is. -/
def nearB (n d p q p' q' : Int) : Bool := decide (dst n d p q * q' < dst n d p' q' * q)
theorem near_no {n d M p q p' q' : Int} (h : Is n d M p q) (h1 : 1 ≤ q') (h2 : q' ≤ M) : nearB n d p' q' p q = false := by
  have := h.best p' q' h1 h2
  unfold nearB
  simp only [decide_eq_false_iff_not]
  omega
theorem near_no_neg {n d M p q p' q' : Int} (h : Is (-n) d M p q) (h1 : 1 ≤ q') (h2 : q' ≤ M) : nearB n d p' q' (-p) q = false := by
  have := h.best (-p') q' h1 h2
  rw [dst_neg, dst_neg, Int.neg_neg] at this
  unfold nearB
  simp only [decide_eq_false_iff_not]
  omega
/-- All that the walk of ArmsNearest is given. -/
theorem own_best {n d M p q : Int} (h : Is n d M p q) (d1 : 1 ≤ d) (hM : Arm.redD n d ≤ M) : p = Arm.redN n d ∧ q = Arm.redD n d := by
  have hr := red_parts (n := n) d1
  have hg := Arm.gcd_pos_of (n := n) d1
  have := (exact_is hr.2.2.1 hr.2.2.2 hM).scale hg
  rw [hr.1, hr.2.1] at this
  exact h.unique this
end Best
end Go.Proofs.Ytfjcmmdfipppoaa
