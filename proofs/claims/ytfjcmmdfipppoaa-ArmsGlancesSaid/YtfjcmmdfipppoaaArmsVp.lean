/- Plain facts on verniers. No program is named here. -/
import Derived.Below
namespace Go.Proofs.Ytfjcmmdfipppoaa
namespace Ver

/-- A vernier of p parts with slack s is valid. -/
def vP (p s : Int) : Prop := (2 ≤ p ∧ p ≤ 50) ∧ (0 ≤ s ∧ s ≤ p)
instance vDec (p s : Int) : Decidable (vP p s) := by unfold vP; exact inferInstance
def vE (p s : Int) : Int := if vP p s then 0 else 12
theorem vE_yes {p s : Int} (h : vP p s) : vE p s = 0 := if_pos h
theorem vE_no {p s : Int} (h : ¬ vP p s) : vE p s = 12 := if_neg h
/-- A line seems to fit at n steps. -/
def fitB (p s n l : Int) : Bool := decide (min ((n % p - l).natAbs : Int) (p - ((n % p - l).natAbs : Int)) ≤ s)
/-- A glance can be one of a vernier. -/
def glP (p : Int) (g : Int × Int) : Prop := (0 ≤ g.1 ∧ g.1 ≤ 10000) ∧ (0 ≤ g.2 ∧ g.2 < p)
instance glDec (p : Int) (g : Int × Int) : Decidable (glP p g) := by unfold glP; exact inferInstance
def glsP (p : Int) (gs : List (Int × Int)) : Prop := (1 ≤ gs.length ∧ gs.length ≤ 6) ∧ ∀ g ∈ gs, glP p g
instance glsDec (p : Int) (gs : List (Int × Int)) : Decidable (glsP p gs) := by unfold glsP; exact inferInstance
def glE (p : Int) (gs : List (Int × Int)) : Int := if glsP p gs then 0 else 1
theorem glE_yes {p : Int} {gs : List (Int × Int)} (h : glsP p gs) : glE p gs = 0 := if_pos h
theorem glE_no {p : Int} {gs : List (Int × Int)} (h : ¬ glsP p gs) : glE p gs = 1 := if_neg h
/-- n steps agree with a glance. -/
def oneB (p s n : Int) (g : Int × Int) : Bool := decide (n / p = g.1) && fitB p s n g.2
def allB (p s : Int) (gs : List (Int × Int)) (n : Int) : Bool := gs.all (oneB p s n)
/-- The first k numbers of steps that agree with all glances. -/
def upto (p s : Int) (gs : List (Int × Int)) : Nat → List Int
  | 0 => []
  | k + 1 => if allB p s gs k = true then upto p s gs k ++ [(k : Int)] else upto p s gs k
theorem upto_len (p s : Int) (gs : List (Int × Int)) (k : Nat) : (upto p s gs k).length ≤ k := by
  induction k with
  | zero => simp [upto]
  | succ k ih =>
    unfold upto
    split
    · simp; omega
    · omega
def setE (p s : Int) (gs : List (Int × Int)) : Int := if ¬ vP p s then 12 else if ¬ glsP p gs then 1 else if (upto p s gs 10001).length = 0 then 3 else 0
def setV (p s : Int) (gs : List (Int × Int)) : List Int := if setE p s gs = 0 then upto p s gs 10001 else []
end Ver
end Go.Proofs.Ytfjcmmdfipppoaa
