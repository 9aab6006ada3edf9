/- Plain facts on the nearest setting. No program is named here. -/
import Derived.Test.YtfjcmmdfipppoaaArmsPlain
import Derived.Test.YtfjcmmdfipppoaaArmsBp
namespace Go.Proofs.Ytfjcmmdfipppoaa
namespace Arm
/-- The whole number nearest to T / B, the lesser one of two. -/
def nd (T B : Int) : Int := if B < 2 * (T % B) then T / B + 1 else T / B
theorem near_nd (T B lo hi : Int) : near T B lo hi = min (max (nd T B) lo) hi := rfl
theorem nd_spec {T B : Int} (hT : 0 ≤ T) (hB : 1 ≤ B) : 0 ≤ nd T B ∧ 2 * T ≤ (2 * nd T B + 1) * B ∧ (1 ≤ nd T B → (2 * nd T B - 1) * B < 2 * T) := by
  have h1 := Int.ediv_nonneg (a := T) (b := B) hT (by omega)
  have h2 := Int.emod_nonneg T (b := B) (by omega)
  have h3 := Int.emod_lt_of_pos T (b := B) (by omega)
  have h4 := Int.emod_add_mul_ediv T B
  have h5 : B * (T / B) = (T / B) * B := Int.mul_comm _ _
  unfold nd
  split
  · refine ⟨by omega, ?_, fun _ => ?_⟩
    · have : (2 * (T / B + 1) + 1) * B = 2 * ((T / B) * B) + 3 * B := by grind
      omega
    · have : (2 * (T / B + 1) - 1) * B = 2 * ((T / B) * B) + B := by grind
      omega
  · refine ⟨by omega, ?_, fun _ => ?_⟩
    · have : (2 * (T / B) + 1) * B = 2 * ((T / B) * B) + B := by grind
      omega
    · have : (2 * (T / B) - 1) * B = 2 * ((T / B) * B) - B := by grind
      omega
theorem nd_le {T B q : Int} (hT : 0 ≤ T) (hB : 1 ≤ B) (hq : 0 ≤ q) (h : 2 * T ≤ (2 * q + 1) * B) : nd T B ≤ q := by
  obtain ⟨s1, s2, s3⟩ := nd_spec hT hB
  by_cases hc : nd T B ≤ q
  · exact hc
  · exfalso
    have := s3 (by omega)
    have := Best.mul_le (x := 2 * q + 1) (y := 2 * nd T B - 1) (z := B) (by omega) (by omega)
    omega
/-- A greater scale has no greater setting. -/
theorem near_mono {T B B' lo hi : Int} (hT : 0 ≤ T) (hB : 1 ≤ B) (hBB : B ≤ B') : near T B' lo hi ≤ near T B lo hi := by
  obtain ⟨s1, s2, s3⟩ := nd_spec hT hB
  have h : nd T B' ≤ nd T B := by
    refine nd_le hT (by omega) s1 ?_
    have h1 := Best.mul_le (x := B) (y := B') (z := 2 * nd T B + 1) (by omega) hBB
    rw [Int.mul_comm B, Int.mul_comm B'] at h1
    omega
  rw [near_nd, near_nd]
  omega
theorem near_in {T B lo hi : Int} (h : lo ≤ hi) : lo ≤ near T B lo hi ∧ near T B lo hi ≤ hi := by rw [near_nd]; omega
/-- A greater wanted ratio has no lesser setting: T / B at most T' / B'. -/
theorem near_mono2 {T B T' B' lo hi : Int} (hT : 0 ≤ T) (hB : 1 ≤ B) (hT' : 0 ≤ T') (hB' : 1 ≤ B') (h : T * B' ≤ T' * B) : near T B lo hi ≤ near T' B' lo hi := by
  obtain ⟨s1, s2, s3⟩ := nd_spec hT' hB'
  have h2 : nd T B ≤ nd T' B' := by
    refine nd_le hT hB s1 ?_
    have h1 := Best.mul_le (z := B) (by omega) s2
    refine Best.le_of_mul hB' ?_
    have e1 : 2 * T * B' = 2 * (T * B') := by grind
    have e2 : 2 * T' * B = 2 * (T' * B) := by grind
    have e3 : (2 * nd T' B' + 1) * B' * B = (2 * nd T' B' + 1) * B * B' := by grind
    omega
  rw [near_nd, near_nd]
  omega
/-- The nearest setting is nearest, and the first of the nearest ones. -/
theorem near_best {T B lo hi n : Int} (hT : 0 ≤ T) (hB : 1 ≤ B) (hlo : 1 ≤ lo) (hn : lo ≤ n) (hn' : n ≤ hi) :
    ((near T B lo hi * B - T).natAbs : Int) ≤ ((n * B - T).natAbs : Int) ∧ (((near T B lo hi * B - T).natAbs : Int) = ((n * B - T).natAbs : Int) → near T B lo hi ≤ n) := by
  obtain ⟨s1, s2, s3⟩ := nd_spec hT hB
  have hr := near_in (T := T) (B := B) (lo := lo) (hi := hi) (by omega)
  have hq := near_nd T B lo hi
  generalize near T B lo hi = m at *
  generalize nd T B = q at *
  have e1 : (2 * q + 1) * B = 2 * (q * B) + B := by grind
  have e2 : (2 * q - 1) * B = 2 * (q * B) - B := by grind
  rcases Int.lt_trichotomy m n with h | h | h
  · -- n is above: q ≤ m
    have hqm : q ≤ m := by omega
    have k1 := Best.mul_le (z := B) (by omega) hqm
    have k2 := Best.mul_le (x := m + 1) (y := n) (z := B) (by omega) (by omega)
    have e3 : (m + 1) * B = m * B + B := by grind
    omega
  · subst h; omega
  · -- n is below: m ≤ q
    have hqm : m ≤ q := by omega
    have h3 := s3 (by omega)
    have k1 := Best.mul_le (z := B) (by omega) hqm
    have k2 := Best.mul_le (x := n + 1) (y := m) (z := B) (by omega) (by omega)
    have e3 : (n + 1) * B = n * B + B := by grind
    have k3 : 2 * (n * B) + B < 2 * T := by omega
    omega
end Arm
end Go.Proofs.Ytfjcmmdfipppoaa
