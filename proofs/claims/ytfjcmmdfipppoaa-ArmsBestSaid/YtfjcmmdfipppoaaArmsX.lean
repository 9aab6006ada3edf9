/- Plain facts on the specification's best ratio: the first nearest of all that are tried. No program is named here. -/
import Derived.Test.YtfjcmmdfipppoaaArmsV
namespace Go.Proofs.Ytfjcmmdfipppoaa
namespace Best
def le (n d : Int) (s c : Int × Int) : Prop := dst n d s.1 s.2 * c.2 < dst n d c.1 c.2 * s.2 ∨ (dst n d s.1 s.2 * c.2 = dst n d c.1 c.2 * s.2 ∧ (s.2 < c.2 ∨ (s.2 = c.2 ∧ s.1 ≤ c.1)))
theorem le_trans' {n d : Int} {s c t : Int × Int} (hs : 1 ≤ s.2) (hc : 1 ≤ c.2) (ht : 1 ≤ t.2) (h1 : le n d s c) (h2 : le n d c t) : le n d s t := by
  unfold le at *
  generalize dst n d s.1 s.2 = A at *
  generalize dst n d c.1 c.2 = B at *
  generalize dst n d t.1 t.2 = C at *
  have k1 : A * c.2 ≤ B * s.2 := by omega
  have k2 : B * t.2 ≤ C * c.2 := by omega
  have m1 := mul_le (z := t.2) (by omega) k1
  have m2 := mul_le (z := s.2) (by omega) k2
  have e1 : B * s.2 * t.2 = B * t.2 * s.2 := by grind
  have e2 : A * c.2 * t.2 = A * t.2 * c.2 := by grind
  have e3 : C * c.2 * s.2 = C * s.2 * c.2 := by grind
  rcases h1 with h1 | ⟨h1, h3⟩
  · have m3 := mul_lt (z := t.2) ht h1
    exact .inl (lt_of_mul (z := c.2) hc (by omega))
  · rcases h2 with h2 | ⟨h2, h4⟩
    · have m3 := mul_lt (z := s.2) hs h2
      exact .inl (lt_of_mul (z := c.2) hc (by omega))
    · refine .inr ⟨?_, by omega⟩
      have : A * t.2 * c.2 = C * s.2 * c.2 := by rw [← e2, ← e3, h1, e1, h2]
      exact Int.eq_of_mul_eq_mul_right (by omega) this
def stp (n d : Int) (s c : Int × Int) : Int × Int := if nearB n d c.1 c.2 s.1 s.2 = true then c else s
theorem stp_yes {n d : Int} {s c : Int × Int} (h : nearB n d c.1 c.2 s.1 s.2 = true) : stp n d s c = c := if_pos h
theorem stp_no {n d : Int} {s c : Int × Int} (h : nearB n d c.1 c.2 s.1 s.2 = false) : stp n d s c = s := by unfold stp; rw [h]; rfl
theorem stp_le {n d : Int} {s c : Int × Int} (h1 : s.2 ≤ c.2) (h2 : s.2 = c.2 → s.1 ≤ c.1) : le n d (stp n d s c) s ∧ le n d (stp n d s c) c := by
  have hr : ∀ x, le n d x x := fun x => .inr ⟨rfl, .inr ⟨rfl, Int.le_refl _⟩⟩
  unfold stp
  split
  · rename_i h
    unfold nearB at h
    simp only [decide_eq_true_eq] at h
    exact ⟨.inl h, hr c⟩
  · rename_i h
    unfold nearB at h
    simp only [decide_eq_true_eq] at h
    refine ⟨hr s, ?_⟩
    unfold le
    by_cases he : dst n d s.1 s.2 * c.2 = dst n d c.1 c.2 * s.2
    · exact .inr ⟨he, by omega⟩
    · exact .inl (by omega)
theorem div_low (x : Int) {d : Int} (hd : 1 ≤ d) : x / d * d ≤ x ∧ x < (x / d + 1) * d := by
  have h1 := Int.emod_add_mul_ediv x d
  have h2 := Int.emod_nonneg x (b := d) (by omega)
  have h3 := Int.emod_lt_of_pos x (b := d) (by omega)
  have e1 : x / d * d = d * (x / d) := Int.mul_comm _ _
  have e2 : (x / d + 1) * d = x / d * d + d := by grind
  omega
theorem le_down {n d q p' : Int} (hd : 1 ≤ d) (hq : 1 ≤ q) (h : p' ≤ n * q / d) : le n d (n * q / d, q) (p', q) := by
  obtain ⟨h1, h2⟩ := div_low (n * q) hd
  have h3 := mul_le (z := d) (by omega) h
  unfold le
  show dst n d (n * q / d) q * q < dst n d p' q * q ∨ (dst n d (n * q / d) q * q = dst n d p' q * q ∧ (q < q ∨ (q = q ∧ n * q / d ≤ p')))
  generalize n * q / d = L at *
  by_cases hp : p' = L
  · subst hp; exact .inr ⟨rfl, .inr ⟨rfl, Int.le_refl _⟩⟩
  · refine .inl (mul_lt hq ?_)
    have h4 := mul_lt (z := d) hd (by omega : p' < L)
    unfold dst; omega
theorem le_up {n d q p' : Int} (hd : 1 ≤ d) (hq : 1 ≤ q) (h : n * q / d + 1 ≤ p') : le n d (n * q / d + 1, q) (p', q) := by
  obtain ⟨h1, h2⟩ := div_low (n * q) hd
  have h3 := mul_le (z := d) (by omega) h
  unfold le
  show dst n d (n * q / d + 1) q * q < dst n d p' q * q ∨ (dst n d (n * q / d + 1) q * q = dst n d p' q * q ∧ (q < q ∨ (q = q ∧ n * q / d + 1 ≤ p')))
  generalize n * q / d + 1 = L at *
  by_cases hp : p' = L
  · subst hp; exact .inr ⟨rfl, .inr ⟨rfl, Int.le_refl _⟩⟩
  · refine .inl (mul_lt hq ?_)
    have h4 := mul_lt (z := d) hd (by omega : L < p')
    unfold dst; omega
/-- The nearest of all with a denominator of at most k, in the order in which they are tried. -/
def rb (n d : Int) : Nat → Int × Int
  | 0 => (n / d, 1)
  | k + 1 => stp n d (stp n d (rb n d k) (n * ((k : Int) + 1) / d, (k : Int) + 1)) (n * ((k : Int) + 1) / d + 1, (k : Int) + 1)
theorem stp_cases (n d : Int) (s c : Int × Int) : stp n d s c = c ∨ stp n d s c = s := by
  unfold stp
  split
  · exact .inl rfl
  · exact .inr rfl
theorem rb_q {n d : Int} (k : Nat) : 1 ≤ (rb n d k).2 ∧ (rb n d k).2 ≤ max 1 (k : Int) := by
  induction k with
  | zero => show 1 ≤ (1 : Int) ∧ (1 : Int) ≤ max 1 ((0 : Nat) : Int); omega
  | succ k ih =>
    unfold rb
    rcases stp_cases n d (stp n d (rb n d k) (n * ((k : Int) + 1) / d, (k : Int) + 1)) (n * ((k : Int) + 1) / d + 1, (k : Int) + 1) with h | h
    · rw [h]; simp; omega
    · rw [h]
      rcases stp_cases n d (rb n d k) (n * ((k : Int) + 1) / d, (k : Int) + 1) with h | h
      · rw [h]; simp; omega
      · rw [h]; omega
theorem rb_best {n d : Int} (hd : 1 ≤ d) (k : Nat) : ∀ q', 1 ≤ q' → q' ≤ (k : Int) → ∀ p', le n d (rb n d k) (p', q') := by
  induction k with
  | zero => intro q' h1 h2; omega
  | succ k ih =>
    intro q' h1 h2 p'
    have hq := rb_q (n := n) (d := d) k
    have s1 := stp_le (n := n) (d := d) (s := rb n d k) (c := (n * ((k : Int) + 1) / d, (k : Int) + 1)) (by simp; omega) (fun e => by
      have e' : (rb n d k).2 = (k : Int) + 1 := e
      have hk : k = 0 := by omega
      subst hk
      simp [rb])
    have hs1 : 1 ≤ (stp n d (rb n d k) (n * ((k : Int) + 1) / d, (k : Int) + 1)).2 ∧ (stp n d (rb n d k) (n * ((k : Int) + 1) / d, (k : Int) + 1)).2 ≤ (k : Int) + 1 ∧ ((stp n d (rb n d k) (n * ((k : Int) + 1) / d, (k : Int) + 1)).2 = (k : Int) + 1 → (stp n d (rb n d k) (n * ((k : Int) + 1) / d, (k : Int) + 1)).1 ≤ n * ((k : Int) + 1) / d + 1) := by
      rcases stp_cases n d (rb n d k) (n * ((k : Int) + 1) / d, (k : Int) + 1) with h | h
      · rw [h]; simp; omega
      · rw [h]
        refine ⟨hq.1, by omega, fun e => ?_⟩
        have hk : k = 0 := by omega
        subst hk
        simp [rb]; omega
    have s2 := stp_le (n := n) (d := d) (s := stp n d (rb n d k) (n * ((k : Int) + 1) / d, (k : Int) + 1)) (c := (n * ((k : Int) + 1) / d + 1, (k : Int) + 1)) hs1.2.1 hs1.2.2
    have hq2 := rb_q (n := n) (d := d) (k + 1)
    have hk1 : (1 : Int) ≤ (k : Int) + 1 := by omega
    unfold rb at hq2 ⊢
    by_cases hlt : q' ≤ (k : Int)
    · exact le_trans' hq2.1 hs1.1 h1 s2.1 (le_trans' hs1.1 hq.1 h1 s1.1 (ih q' h1 hlt p'))
    · have e : q' = (k : Int) + 1 := by omega
      subst e
      by_cases hp : p' ≤ n * ((k : Int) + 1) / d
      · exact le_trans' hq2.1 hs1.1 hk1 s2.1 (le_trans' hs1.1 hk1 hk1 s1.2 (le_down hd hk1 hp))
      · exact le_trans' hq2.1 hk1 hk1 s2.2 (le_up hd hk1 (by omega))
theorem rb_is {n d : Int} (hd : 1 ≤ d) {k : Nat} (hk : 1 ≤ k) : Is n d k (rb n d k).1 (rb n d k).2 := by
  have hq := rb_q (n := n) (d := d) k
  exact ⟨hq.1, by omega, fun p' q' h1 h2 => rb_best hd k q' h1 h2 p'⟩
theorem div_bd {x d X : Int} (hd : 1 ≤ d) (hX : 0 ≤ X) (h1 : -X ≤ x) (h2 : x ≤ X) : -X ≤ x / d ∧ x / d ≤ X := by
  have hm := le_mul hX hd
  constructor
  · refine Int.le_ediv_of_mul_le (by omega) ?_
    have : -X * d = -(X * d) := by grind
    omega
  · exact Int.ediv_le_of_le_mul (by omega) (by omega)
theorem low_bd {n d q : Int} (hd : 1 ≤ d) (h1 : -1000000 ≤ n) (h2 : n ≤ 1000000) (hq : 1 ≤ q) (hq2 : q ≤ 200) : -200000000 ≤ n * q / d ∧ n * q / d ≤ 200000000 := by
  have := Arm.mul_bd h1 h2 (y := 200) (b := q) (by omega) hq2
  exact div_bd hd (by omega) (by omega) (by omega)
theorem rb_p {n d : Int} (hd : 1 ≤ d) (h1 : -1000000 ≤ n) (h2 : n ≤ 1000000) (k : Nat) (hk : k ≤ 200) : -200000000 ≤ (rb n d k).1 ∧ (rb n d k).1 ≤ 200000001 := by
  induction k with
  | zero =>
    have := low_bd (q := 1) hd h1 h2 (by omega) (by omega)
    rw [Int.mul_one] at this
    simp [rb]; omega
  | succ k ih =>
    have hl := low_bd (q := (k : Int) + 1) hd h1 h2 (by omega) (by omega)
    unfold rb
    rcases stp_cases n d (stp n d (rb n d k) (n * ((k : Int) + 1) / d, (k : Int) + 1)) (n * ((k : Int) + 1) / d + 1, (k : Int) + 1) with h | h
    · rw [h]; simp; omega
    · rw [h]
      rcases stp_cases n d (rb n d k) (n * ((k : Int) + 1) / d, (k : Int) + 1) with h | h
      · rw [h]; simp; omega
      · rw [h]; exact ih (by omega)
end Best
end Go.Proofs.Ytfjcmmdfipppoaa
