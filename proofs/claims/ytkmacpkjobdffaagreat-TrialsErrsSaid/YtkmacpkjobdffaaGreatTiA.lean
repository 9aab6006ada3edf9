/- Trials, plain: what is seen of an area, errors, and the truths of a trial. -/
import Derived.Test.YtkmacpkjobdffaaGreatWhP
namespace Go.Proofs.YtkmacpkjobdffaaGreat
namespace Ti
/-- A test: its area, and its walks. -/
abbrev Tst := Int × List Wh.Wk
/-- A trial: its wheel (the area to guess is its own), how great a gain can be, and its tests. -/
structure Tri where
  d : Wh.Desk
  gain : Int
  ts : List Tst
def tstAt (ts : List Tst) (k : Nat) : Tst := (ts[k]?).getD (0, [])
/-- A gain and a skew. -/
abbrev Gk := Int × Int
def seenV (g a : Int) : Int := (a * (1000 + g)).tdiv 1000
def sizeV (n : Int) : Int := max n (-n)
def errV (x : Gk) (a : Int) : Int := sizeV (seenV x.1 a - a) + sizeV x.2
/-- The wheel of a test, with some walks, whose area is known. -/
def dsk (t : Tri) (a : Int) (ws : List Wh.Wk) : Wh.Desk := ⟨t.d.full, t.d.read, t.d.slip, t.d.skew, t.d.circ, a, a, t.d.wr, ws⟩
/-- The wheel of a trial, with some walks. -/
def whl (t : Tri) (ws : List Wh.Wk) : Wh.Desk := ⟨t.d.full, t.d.read, t.d.slip, t.d.skew, t.d.circ, t.d.glo, t.d.ghi, t.d.wr, ws⟩
def areasTo (ts : List Tst) : Nat → Bool
  | 0 => true
  | k + 1 => areasTo ts k && inB (tstAt ts k).1 0 9000
/-- The first error of the walks of the first tests, or 0. -/
def walksTo (t : Tri) : Nat → Int
  | 0 => 0
  | k + 1 => if walksTo t k = 0 then Wh.chkE (whl t (tstAt t.ts k).2) else walksTo t k
def headB (t : Tri) : Bool := (inB t.gain 0 50 && decide (t.ts.length ≤ 6)) && areasTo t.ts t.ts.length
def chkV (t : Tri) : Int := if headB t then (if walksTo t t.ts.length = 0 then Wh.chkE (whl t []) else walksTo t t.ts.length) else 90
theorem areasTo_no {ts : List Tst} {k : Nat} (h : inB (tstAt ts k).1 0 9000 = false) : ∀ n, k < n → areasTo ts n = false
  | n + 1, hk => by
    show (areasTo ts n && inB (tstAt ts n).1 0 9000) = false
    by_cases e : k = n
    · subst e; rw [h, Bool.and_false]
    · rw [areasTo_no h n (by omega), Bool.false_and]
theorem areasTo_yes {ts : List Tst} : ∀ n, areasTo ts n = true → ∀ k, k < n → 0 ≤ (tstAt ts k).1 ∧ (tstAt ts k).1 ≤ 9000
  | n + 1, h, k, hk => by
    have h' : (areasTo ts n && inB (tstAt ts n).1 0 9000) = true := h
    rw [Bool.and_eq_true] at h'
    by_cases e : k = n
    · subst e; exact inB_true.1 h'.2
    · exact areasTo_yes n h'.1 k (by omega)
theorem walksTo_err {t : Tri} {k : Nat} (h : walksTo t k ≠ 0) : ∀ n, k ≤ n → walksTo t n = walksTo t k
  | n, hn => by
    induction n with
    | zero => have : k = 0 := by omega
              subst this; rfl
    | succ n ih =>
      by_cases e : k = n + 1
      · subst e; rfl
      · have := ih (by omega)
        show (if walksTo t n = 0 then Wh.chkE (whl t (tstAt t.ts n).2) else walksTo t n) = _
        rw [this, if_neg h]
/-- All that a test alone allows. -/
def allowB (t : Tri) (k : Nat) (x : Gk) : Bool := decide (x.2 ∈ Wh.skewsV (dsk t (seenV x.1 (tstAt t.ts k).1) (tstAt t.ts k).2))
def nG (t : Tri) : Nat := (2 * t.gain + 1).toNat
def nS (t : Tri) : Nat := (2 * t.d.skew + 1).toNat
def rowT (t : Tri) (i k : Nat) : List Gk := (List.range k).map fun j : Nat => (-t.gain + (i : Int), -t.d.skew + (j : Int))
def casesT (t : Tri) (k : Nat) : List Gk := (List.range k).flatMap fun i => rowT t i (nS t)
def casesG (t : Tri) : List Gk := casesT t (nG t)
/-- The first tests allow it. -/
def allTo (t : Tri) (x : Gk) : Nat → Bool
  | 0 => true
  | k + 1 => allTo t x k && allowB t k x
def truthB (t : Tri) (x : Gk) : Bool := allTo t x t.ts.length
def truthsT (t : Tri) : List Gk := (casesG t).filter (truthB t)
theorem sizeV_nonneg (n : Int) : 0 ≤ sizeV n := by unfold sizeV; omega
theorem seenV_bd {g a : Int} (hg : -50 ≤ g ∧ g ≤ 50) (ha : 0 ≤ a ∧ a ≤ 9000) : 0 ≤ a * (1000 + g) ∧ a * (1000 + g) ≤ 9450000 ∧ 0 ≤ seenV g a ∧ seenV g a ≤ 9450 := by
  have h1 : 0 ≤ a * (1000 + g) := Int.mul_nonneg ha.1 (by omega)
  have h2 : a * (1000 + g) ≤ 9000 * 1050 := Int.mul_le_mul ha.2 (by omega) (by omega) (by omega)
  refine ⟨h1, by omega, ?_, ?_⟩
  · unfold seenV; rw [Int.tdiv_eq_ediv_of_nonneg h1]; omega
  · unfold seenV; rw [Int.tdiv_eq_ediv_of_nonneg h1]; omega
end Ti
end Go.Proofs.YtkmacpkjobdffaaGreat
