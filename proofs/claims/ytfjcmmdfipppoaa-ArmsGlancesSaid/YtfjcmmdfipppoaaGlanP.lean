/- Plain facts on the numbers of steps that glances allow. -/
import Derived.Test.YtfjcmmdfipppoaaSeenD
namespace Go.Proofs.Ytfjcmmdfipppoaa
namespace Ver
theorem mem_upto {p s : Int} {gs : List (Int × Int)} {k : Nat} {n : Int} : n ∈ upto p s gs k ↔ (0 ≤ n ∧ n < k) ∧ allB p s gs n = true := by
  induction k with
  | zero => simp [upto]; omega
  | succ k ih =>
    rw [upto]
    split
    · rename_i h
      rw [List.mem_append, ih, List.mem_singleton]
      constructor
      · rintro (⟨h1, h2⟩ | rfl)
        · exact ⟨by omega, h2⟩
        · exact ⟨by omega, h⟩
      · rintro ⟨h1, h2⟩
        by_cases e : n = k
        · exact .inr e
        · exact .inl ⟨by omega, h2⟩
    · rename_i h
      rw [ih]
      constructor
      · rintro ⟨h1, h2⟩; exact ⟨by omega, h2⟩
      · rintro ⟨h1, h2⟩
        refine ⟨?_, h2⟩
        by_cases e : n = k
        · subst e; exact absurd h2 h
        · omega
theorem div_in {p n m : Int} (hp : 1 ≤ p) (h : n / p = m) : m * p ≤ n ∧ n < m * p + p := by
  have h1 := Int.emod_add_mul_ediv n p
  have h2 := Int.emod_nonneg n (b := p) (by omega)
  have h3 := Int.emod_lt_of_pos n (b := p) (by omega)
  rw [h] at h1
  have e : p * m = m * p := Int.mul_comm _ _
  omega
theorem upto_short {p s : Int} {gs : List (Int × Int)} {g : Int × Int} (hp : 1 ≤ p) (hg : g ∈ gs) (k : Nat) : ((upto p s gs k).length : Int) ≤ max 0 (min (k : Int) (g.1 * p + p) - g.1 * p) := by
  induction k with
  | zero => simp [upto]; omega
  | succ k ih =>
    rw [upto]
    split
    · rename_i h
      have h1 := List.all_eq_true.1 h g hg
      unfold oneB at h1
      simp only [Bool.and_eq_true, decide_eq_true_eq] at h1
      have := div_in hp h1.1
      rw [List.length_append, List.length_singleton]
      generalize g.1 * p = x at *
      omega
    · generalize g.1 * p = x at *
      omega
theorem setE_val {p s : Int} {gs : List (Int × Int)} (hv : vP p s) (hg : glsP p gs) : setE p s gs = if (upto p s gs 10001).length = 0 then 3 else 0 := by
  have h1 : ¬ ¬ vP p s := fun h => h hv
  have h2 : ¬ ¬ glsP p gs := fun h => h hg
  unfold setE
  rw [if_neg h1, if_neg h2]
theorem setV_eq {p s : Int} {gs : List (Int × Int)} (hv : vP p s) (hg : glsP p gs) : setV p s gs = upto p s gs 10001 := by
  have hE := setE_val hv hg
  unfold setV
  rw [hE]
  generalize upto p s gs 10001 = l
  by_cases h0 : l.length = 0
  · rw [if_pos h0, if_neg (by omega)]
    exact (List.eq_nil_of_length_eq_zero h0).symm
  · rw [if_neg h0]; rfl
theorem setE_cases {p s : Int} {gs : List (Int × Int)} (hv : vP p s) (hg : glsP p gs) : (setE p s gs = 0 ∧ 0 < (setV p s gs).length) ∨ (setE p s gs = 3 ∧ (setV p s gs).length = 0) := by
  rw [setV_eq hv hg, setE_val hv hg]
  by_cases h0 : (upto p s gs 10001).length = 0
  · rw [if_pos h0]; exact .inr ⟨rfl, h0⟩
  · rw [if_neg h0]; exact .inl ⟨rfl, by omega⟩
theorem setV_short {p s : Int} {gs : List (Int × Int)} (hv : vP p s) (hg : glsP p gs) : (setV p s gs).length ≤ 50 := by
  rw [setV_eq hv hg]
  obtain ⟨⟨h1, h2⟩, h3⟩ := hg
  match gs, h1 with
  | g :: gs, _ =>
    have := upto_short (s := s) (gs := g :: gs) (g := g) (p := p) (by have := hv.1; omega) (by simp) 10001
    have := hv.1
    generalize g.1 * p = x at *
    omega
theorem glsP_rev {p : Int} {gs : List (Int × Int)} : glsP p gs.reverse ↔ glsP p gs := by unfold glsP; simp
theorem upto_rev (p s : Int) (gs : List (Int × Int)) (k : Nat) : upto p s gs.reverse k = upto p s gs k := by
  have h : ∀ n, allB p s gs.reverse n = allB p s gs n := fun n => by unfold allB; simp
  induction k with
  | zero => rfl
  | succ k ih => rw [upto, upto, ih, h]
theorem set_rev {p s : Int} {gs : List (Int × Int)} (hv : vP p s) (hg : glsP p gs) : setV p s gs.reverse = setV p s gs ∧ setE p s gs.reverse = setE p s gs := by
  have hr := glsP_rev.2 hg
  refine ⟨by rw [setV_eq hv hr, setV_eq hv hg, upto_rev], ?_⟩
  rw [setE_val hv hr, setE_val hv hg, upto_rev]
theorem mem_set {p s : Int} {gs : List (Int × Int)} {n : Int} (hv : vP p s) (hg : glsP p gs) (hn : 0 ≤ n ∧ n ≤ 10000) : decide (n ∈ setV p s gs) = allB p s gs n := by
  rw [setV_eq hv hg, Bool.eq_iff_iff, decide_eq_true_eq, mem_upto]
  constructor
  · exact fun h => h.2
  · exact fun h => ⟨by omega, h⟩
theorem upto_sub {p s p' s' : Int} {gs gs' : List (Int × Int)} (h : ∀ n, allB p s gs n = true → allB p' s' gs' n = true) (k : Nat) : (∀ x ∈ upto p s gs k, x ∈ upto p' s' gs' k) ∧ (upto p s gs k).length ≤ (upto p' s' gs' k).length := by
  refine ⟨fun x hx => ?_, ?_⟩
  · rw [mem_upto] at *
    exact ⟨hx.1, h x hx.2⟩
  · induction k with
    | zero => simp [upto]
    | succ k ih =>
      rw [upto, upto]
      by_cases h1 : allB p s gs k = true
      · rw [if_pos h1, if_pos (h k h1)]; simp; omega
      · rw [if_neg h1]
        split
        · simp; omega
        · exact ih
theorem wide_ok {p s : Int} (hv : vP p s) : vP p (min p (s + 1)) := by unfold vP at *; omega
theorem wide_sub {p s : Int} {gs : List (Int × Int)} (hv : vP p s) (hg : glsP p gs) : (∀ x ∈ setV p s gs, x ∈ setV p (min p (s + 1)) gs) ∧ (setV p s gs).length ≤ (setV p (min p (s + 1)) gs).length := by
  rw [setV_eq hv hg, setV_eq (wide_ok hv) hg]
  refine upto_sub (fun n hn => ?_) _
  unfold allB at *
  rw [List.all_eq_true] at *
  intro g hgm
  have := hn g hgm
  unfold oneB fitB at *
  simp only [Bool.and_eq_true, decide_eq_true_eq] at *
  exact ⟨this.1, by omega⟩
theorem more_sub {p s : Int} {gs : List (Int × Int)} {x : Int × Int} (hv : vP p s) (hg : glsP p gs) (hm : glsP p (gs ++ [x])) : (∀ y ∈ setV p s (gs ++ [x]), y ∈ setV p s gs) ∧ (setV p s (gs ++ [x])).length ≤ (setV p s gs).length := by
  rw [setV_eq hv hg, setV_eq hv hm]
  refine upto_sub (fun n hn => ?_) _
  unfold allB at *
  rw [List.all_append, Bool.and_eq_true] at hn
  exact hn.1
theorem mem_seenU {p s n : Int} {k : Nat} {l : Int} : l ∈ seenU p s n k ↔ (0 ≤ l ∧ l < k) ∧ fitB p s n l = true := by
  induction k with
  | zero => simp [seenU]; omega
  | succ k ih =>
    rw [seenU]
    split
    · rename_i h
      rw [List.mem_append, ih, List.mem_singleton]
      constructor
      · rintro (⟨h1, h2⟩ | rfl)
        · exact ⟨by omega, h2⟩
        · exact ⟨by omega, h⟩
      · rintro ⟨h1, h2⟩
        by_cases e : l = k
        · exact .inr e
        · exact .inl ⟨by omega, h2⟩
    · rename_i h
      rw [ih]
      constructor
      · rintro ⟨h1, h2⟩; exact ⟨by omega, h2⟩
      · rintro ⟨h1, h2⟩
        refine ⟨?_, h2⟩
        by_cases e : l = k
        · subst e; exact absurd h2 h
        · omega
theorem mem_seen {p s n l : Int} (hv : vP p s) (hn : 0 ≤ n ∧ n ≤ 10000) (h0 : 0 ≤ l) (h1 : l < p) : decide (l ∈ seenV p s n) = fitB p s n l := by
  rw [seenV_ok hv hn, Bool.eq_iff_iff, decide_eq_true_eq, mem_seenU]
  constructor
  · exact fun h => h.2
  · exact fun h => ⟨by omega, h⟩
/-- Whether the glances from the k-th one on allow n steps. -/
def suf (p s : Int) (gs : List (Int × Int)) (n : Int) (k : Nat) : Bool := (gs.drop k).all (oneB p s n)
theorem suf_end {p s : Int} {gs : List (Int × Int)} {n : Int} : suf p s gs n gs.length = true := by unfold suf; simp
theorem suf_zero {p s : Int} {gs : List (Int × Int)} {n : Int} : suf p s gs n 0 = allB p s gs n := rfl
theorem suf_step {p s : Int} {gs : List (Int × Int)} {n : Int} {k : Nat} {g : Int × Int} (hg : gs[k]? = some g) : suf p s gs n k = (suf p s gs n (k + 1) && (decide (n / p = g.1) && fitB p s n g.2)) := by
  unfold suf
  obtain ⟨hk, rfl⟩ := List.getElem?_eq_some_iff.1 hg
  rw [List.drop_eq_getElem_cons hk, List.all_cons, Bool.and_comm]
  rfl
theorem back_step {gs : List (Int × Int)} {k : Nat} {g : Int × Int} (hg : gs[k]? = some g) : (gs.drop k).reverse = (gs.drop (k + 1)).reverse ++ [g] := by
  obtain ⟨hk, rfl⟩ := List.getElem?_eq_some_iff.1 hg
  rw [List.drop_eq_getElem_cons hk, List.reverse_cons]
end Ver
end Go.Proofs.Ytfjcmmdfipppoaa
