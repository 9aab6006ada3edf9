/- Walks, plain: points, doubled areas, elbows, and that a sweep is the area less the turns' loops. -/
import Derived.Test.YtmjcdggmofohcaaBase
namespace Go.Proofs.Ytmjcdggmofohcaa
namespace Wl
abbrev Pt := Int × Int
def cr (a b : Pt) : Int := a.1 * b.2 - a.2 * b.1
theorem cr_self (a : Pt) : cr a a = 0 := by unfold cr; rw [Int.mul_comm a.1 a.2]; omega
theorem cr_neg (a b : Pt) : cr a b = -cr b a := by unfold cr; rw [Int.mul_comm a.1 b.2, Int.mul_comm a.2 b.1]; omega
def ptAt (ps : List Pt) (k : Nat) : Pt := (ps[k]?).getD (0, 0)
/-- The doubled area of the first sides. -/
def dblTo (ps : List Pt) : Nat → Int
  | 0 => 0
  | k + 1 => dblTo ps k + cr (ptAt ps k) (ptAt ps ((k + 1) % ps.length))
def dbl (ps : List Pt) : Int := dblTo ps ps.length
/-- A track: its places, whether it is closed, and the reach of the arm. -/
structure Trk where
  ps : List Pt
  cl : Int
  lo : Int
  hi : Int
/-- By how many places another one is ahead, as the program says it. -/
def stepV (t : Trk) (a b : Int) : Int := if t.cl = 1 ∧ b - a = (t.ps.length : Int) - 1 then -1 else if t.cl = 1 ∧ b - a = -((t.ps.length : Int) - 1) then 1 else b - a
def nearB (t : Trk) (a b : Int) : Bool := decide (-1 ≤ stepV t a b) && decide (stepV t a b ≤ 1)
def sqV (t : Trk) (p : Int) (at' : Pt) : Int := (at'.1 - (ptAt t.ps p.toNat).1) * (at'.1 - (ptAt t.ps p.toNat).1) + (at'.2 - (ptAt t.ps p.toNat).2) * (at'.2 - (ptAt t.ps p.toNat).2)
def reachB (t : Trk) (p : Int) (at' : Pt) : Bool := decide (t.lo ≤ sqV t p at') && decide (sqV t p at' ≤ t.hi)
def eAt (es : List Int) (k : Nat) : Int := (es[k % es.length]?).getD 0
/-- The steps of the first elbows. -/
def stTo (t : Trk) (es : List Int) : Nat → Int
  | 0 => 0
  | k + 1 => stTo t es k + stepV t (eAt es k) (eAt es (k + 1))
def turnsV (t : Trk) (es : List Int) : Int := (stTo t es es.length).tdiv t.ps.length
def quad (a b c d : Pt) : Int := cr a b + cr b c + cr c d + cr d a
def swTo (t : Trk) (ws : List Pt) (es : List Int) : Nat → Int
  | 0 => 0
  | k + 1 => swTo t ws es k + quad (ptAt t.ps (eAt es k).toNat) (ptAt ws (k % ws.length)) (ptAt ws ((k + 1) % ws.length)) (ptAt t.ps (eAt es (k + 1)).toNat)
def sweepV (t : Trk) (ws : List Pt) (es : List Int) : Int := swTo t ws es es.length
/-- Elbows: places of the track, each near the one before. -/
def elbB (t : Trk) (es : List Int) : Prop := (∀ k, 0 ≤ eAt es k ∧ eAt es k < t.ps.length) ∧ ∀ k, nearB t (eAt es k) (eAt es (k + 1)) = true
def crTo (t : Trk) (es : List Int) : Nat → Int
  | 0 => 0
  | k + 1 => crTo t es k + cr (ptAt t.ps (eAt es k).toNat) (ptAt t.ps (eAt es (k + 1)).toNat)
theorem eAt_round (es : List Int) : eAt es es.length = eAt es 0 := by unfold eAt; rw [Nat.mod_self, Nat.zero_mod]
/-- What one step adds. -/
theorem step_cr {t : Trk} {a b : Int} (hc : t.cl = 1 → 3 ≤ t.ps.length) (ha : 0 ≤ a ∧ a < t.ps.length) (hb : 0 ≤ b ∧ b < t.ps.length) (hn : nearB t a b = true) :
    ∃ m : Int, a + stepV t a b - b = m * t.ps.length ∧ (t.cl ≠ 1 → m = 0) ∧ cr (ptAt t.ps a.toNat) (ptAt t.ps b.toNat) = dblTo t.ps b.toNat - dblTo t.ps a.toNat + m * dbl t.ps := by
  unfold nearB at hn
  simp only [Bool.and_eq_true, decide_eq_true_eq] at hn
  obtain ⟨i, rfl⟩ : ∃ i : Nat, a = i := ⟨a.toNat, by omega⟩
  obtain ⟨j, rfl⟩ : ∃ j : Nat, b = j := ⟨b.toNat, by omega⟩
  simp only [Int.toNat_natCast]
  have sc : ∀ k, dblTo t.ps (k + 1) = dblTo t.ps k + cr (ptAt t.ps k) (ptAt t.ps ((k + 1) % t.ps.length)) := fun k => rfl
  have inn : ∀ k, k + 1 < t.ps.length → dblTo t.ps (k + 1) = dblTo t.ps k + cr (ptAt t.ps k) (ptAt t.ps (k + 1)) := fun k hk => by rw [sc, Nat.mod_eq_of_lt hk]
  have out : ∀ k, k + 1 = t.ps.length → dbl t.ps = dblTo t.ps k + cr (ptAt t.ps k) (ptAt t.ps 0) := fun k hk => by unfold dbl; rw [← hk, sc, ← hk, Nat.mod_self]
  have d0 : dblTo t.ps 0 = 0 := rfl
  unfold stepV at hn ⊢
  split at hn
  · rename_i h1
    rw [if_pos h1]
    have h3 := hc h1.1
    have hi : i = 0 := by omega
    have hj : j + 1 = t.ps.length := by omega
    subst hi
    refine ⟨-1, by omega, fun h => absurd h1.1 h, ?_⟩
    rw [cr_neg, out j hj, d0]
    omega
  · rename_i h1
    rw [if_neg h1]
    split at hn
    · rename_i h2
      rw [if_pos h2]
      have h3 := hc h2.1
      have hj : j = 0 := by omega
      have hi : i + 1 = t.ps.length := by omega
      subst hj
      refine ⟨1, by omega, fun h => absurd h2.1 h, ?_⟩
      rw [out i hi, d0]
      omega
    · rename_i h2
      rw [if_neg h2]
      refine ⟨0, by omega, fun _ => rfl, ?_⟩
      rcases (by omega : j = i ∨ j = i + 1 ∨ i = j + 1) with e | e | e
      · subst e; rw [cr_self]; omega
      · subst e; rw [inn i (by omega)]; omega
      · subst e; rw [cr_neg, inn j (by omega)]; omega
theorem path {t : Trk} {es : List Int} (hc : t.cl = 1 → 3 ≤ t.ps.length) (h : elbB t es) : ∀ k, ∃ m : Int,
    eAt es 0 + stTo t es k - eAt es k = m * t.ps.length ∧ (t.cl ≠ 1 → m = 0) ∧ crTo t es k = dblTo t.ps (eAt es k).toNat - dblTo t.ps (eAt es 0).toNat + m * dbl t.ps
  | 0 => ⟨0, by simp [stTo], fun _ => rfl, by simp [crTo]⟩
  | k + 1 => by
    obtain ⟨m, h1, h2, h3⟩ := path hc h k
    obtain ⟨m', g1, g2, g3⟩ := step_cr hc (h.1 k) (h.1 (k + 1)) (h.2 k)
    have e1 : stTo t es (k + 1) = stTo t es k + stepV t (eAt es k) (eAt es (k + 1)) := rfl
    have e2 : crTo t es (k + 1) = crTo t es k + cr (ptAt t.ps (eAt es k).toNat) (ptAt t.ps (eAt es (k + 1)).toNat) := rfl
    refine ⟨m + m', ?_, fun hh => by rw [h2 hh, g2 hh]; rfl, ?_⟩
    · rw [e1, Int.add_mul]; omega
    · rw [e2, h3, g3, Int.add_mul]; omega
/-- The doubled area of the first sides, the points taken around. -/
def arTo (ws : List Pt) : Nat → Int
  | 0 => 0
  | k + 1 => arTo ws k + cr (ptAt ws (k % ws.length)) (ptAt ws ((k + 1) % ws.length))
theorem arTo_dbl (ws : List Pt) : ∀ k, k ≤ ws.length → arTo ws k = dblTo ws k
  | 0, _ => rfl
  | k + 1, h => by
    have ih := arTo_dbl ws k (by omega)
    show arTo ws k + _ = dblTo ws k + _
    rw [ih, Nat.mod_eq_of_lt (show k < ws.length by omega)]
theorem sw_step (t : Trk) (ws : List Pt) (es : List Int) : ∀ k, swTo t ws es k = cr (ptAt t.ps (eAt es 0).toNat) (ptAt ws (0 % ws.length)) - cr (ptAt t.ps (eAt es k).toNat) (ptAt ws (k % ws.length)) + arTo ws k - crTo t es k
  | 0 => by simp [swTo, arTo, crTo]
  | k + 1 => by
    have ih := sw_step t ws es k
    show swTo t ws es k + quad _ _ _ _ = _ - _ + (arTo ws k + _) - (crTo t es k + _)
    rw [ih]
    unfold quad
    rw [cr_neg (ptAt ws ((k + 1) % ws.length)) (ptAt t.ps (eAt es (k + 1)).toNat), cr_neg (ptAt t.ps (eAt es (k + 1)).toNat) (ptAt t.ps (eAt es k).toNat)]
    omega
/-- A sweep is the doubled area of the walk, less the turns times that of the track. -/
theorem meter {t : Trk} {ws : List Pt} {es : List Int} (hc : t.cl = 1 → 3 ≤ t.ps.length) (h : elbB t es) (hl : es.length = ws.length) (h0 : 0 < t.ps.length) :
    sweepV t ws es = dbl ws - turnsV t es * dbl t.ps ∧ (t.cl ≠ 1 → turnsV t es = 0) := by
  obtain ⟨m, h1, h2, h3⟩ := path hc h es.length
  have hr := eAt_round es
  rw [hr] at h1 h3
  have hs : stTo t es es.length = m * t.ps.length := by omega
  have ht : turnsV t es = m := by
    unfold turnsV
    rw [hs]
    exact Int.mul_tdiv_cancel _ (by omega)
  rw [ht]
  refine ⟨?_, h2⟩
  unfold sweepV
  rw [sw_step, h3, hr, hl, arTo_dbl ws _ (Nat.le_refl _), Nat.mod_self, Nat.zero_mod]
  unfold dbl
  omega
end Wl
end Go.Proofs.Ytmjcdggmofohcaa
