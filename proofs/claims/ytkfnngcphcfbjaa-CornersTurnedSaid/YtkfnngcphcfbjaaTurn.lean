/- How a point lies to a polygon does not depend on the corner that comes first, nor on the sense. No program is named here. -/
import Derived.Test.YtkfnngcphcfbjaaPoly
import Derived.Test.YtkfnngcphcfbjaaEqual
namespace Go.Proofs.Ytkfnngcphcfbjaa
namespace Geo
open Area
def crossZ (p : Pt) (s : Pt × Pt) : Int := if refCross s.1 s.2 p then 1 else 0
theorem crossN_sum (ps : List Pt) (p : Pt) : ∀ k, (crossN ps p k : Int) = ((List.range k).map fun j => crossZ p (sideAt ps j)).sum
  | 0 => rfl
  | k + 1 => by
    rw [List.range_succ, List.map_append, List.sum_append, ← crossN_sum ps p k]
    show ((crossN ps p k + (if refCross (ptAt ps k) (ptAt ps ((k + 1) % ps.length)) p then 1 else 0) : Nat) : Int) = _
    simp only [List.map_cons, List.map_nil, List.sum_cons, List.sum_nil]
    show _ = _ + ((if refCross (ptAt ps k) (ptAt ps ((k + 1) % ps.length)) p then (1 : Int) else 0) + 0)
    split <;> simp
theorem refCross_rev {a b p : Pt} (h : onB a b p = false) : refCross b a p = refCross a b p := by
  rw [← cross_eq h, ← cross_eq (by rw [onB_swap]; exact h)]
  have ht := turn_swap a b p
  unfold crossB
  simp only
  rw [ht]
  by_cases ha : p.2 < a.2 <;> by_cases hb : p.2 < b.2
  · rw [if_pos ha, if_pos hb, decide_eq_false (p := a.2 ≤ p.2) (by omega), decide_eq_false (p := b.2 ≤ p.2) (by omega)]; rfl
  · rw [if_pos ha, if_neg hb, decide_eq_true ha, decide_eq_true (p := b.2 ≤ p.2) (by omega)]
    rw [Bool.true_and, Bool.true_and]
    exact decide_eq_decide.2 (by omega)
  · rw [if_neg ha, if_pos hb, decide_eq_true hb, decide_eq_true (p := a.2 ≤ p.2) (by omega)]
    rw [Bool.true_and, Bool.true_and]
    exact decide_eq_decide.2 (by omega)
  · rw [if_neg ha, if_neg hb, decide_eq_false ha, decide_eq_false hb]; rfl
theorem lies_of {ps qs : List Pt} {p : Pt} (h1 : offP qs p qs.length ↔ offP ps p ps.length) (h2 : offP ps p ps.length → crossN qs p qs.length = crossN ps p ps.length) : refLies qs p = refLies ps p := by
  by_cases h : offP ps p ps.length
  · have h' := h1.2 h
    have e := h2 h
    by_cases hp : crossN ps p ps.length % 2 = 1
    · rw [refLies_in h hp, refLies_in h' (by rw [e]; exact hp)]
    · rw [refLies_out h hp, refLies_out h' (by rw [e]; exact hp)]
  · unfold refLies
    rw [if_neg h, if_neg (fun h3 => h (h1.1 h3))]
theorem off_iff {ps : List Pt} {p : Pt} : offP ps p ps.length ↔ ∀ k, k < ps.length → onB (sideAt ps k).1 (sideAt ps k).2 p = false := Iff.rfl
theorem rot_lies {ps qs : List Pt} {i : Nat} (h0 : 0 < ps.length) (hl : qs.length = ps.length) (hq : ∀ j, j < ps.length → ptAt qs j = ptAt ps ((i + j) % ps.length)) (p : Pt) : refLies qs p = refLies ps p := by
  have hs : ∀ j, j < ps.length → sideAt qs j = sideAt ps ((i + j) % ps.length) := fun j hj => rot_side hl hq hj
  refine lies_of ?_ (fun _ => ?_)
  · rw [off_iff, off_iff]
    constructor
    · intro h k hk
      obtain ⟨j, hj, e⟩ : ∃ j, j < ps.length ∧ (i + j) % ps.length = k := by
        refine ⟨(k + (ps.length - i % ps.length)) % ps.length, Nat.mod_lt _ h0, ?_⟩
        rw [Nat.add_mod_mod]
        have hi := Nat.mod_lt i h0
        have e : i + (k + (ps.length - i % ps.length)) = k + (ps.length + (i - i % ps.length)) := by
          have := Nat.mod_le i ps.length
          omega
        have e2 : i - i % ps.length = ps.length * (i / ps.length) := by have := Nat.div_add_mod i ps.length; omega
        rw [e, e2, show k + (ps.length + ps.length * (i / ps.length)) = k + ps.length * (1 + i / ps.length) by rw [Nat.mul_add, Nat.mul_one], Nat.add_mul_mod_self_left, Nat.mod_eq_of_lt hk]
      have := h j (by rw [hl]; exact hj)
      rw [hs j hj, e] at this
      exact this
    · intro h k hk
      rw [hl] at hk
      rw [hs k hk]
      exact h _ (Nat.mod_lt _ h0)
  · have : (crossN qs p qs.length : Int) = crossN ps p ps.length := by
      rw [crossN_sum, crossN_sum, hl, ← sumZ_rot (fun j => crossZ p (sideAt ps j)) h0 i]
      exact sumZ_congr (fun j hj => by rw [hs j hj])
    omega
theorem rev_lies {ps qs : List Pt} (h0 : 0 < ps.length) (hl : qs.length = ps.length) (hq : ∀ j, j < ps.length → ptAt qs j = ptAt ps (ps.length - 1 - j)) (p : Pt) : refLies qs p = refLies ps p := by
  have hs : ∀ j, j < ps.length → sideAt qs j = ((sideAt ps ((ps.length - 1 - j + (ps.length - 1)) % ps.length)).2, (sideAt ps ((ps.length - 1 - j + (ps.length - 1)) % ps.length)).1) := fun j hj => rev_side h0 hl hq hj
  refine lies_of ?_ (fun ho => ?_)
  · rw [off_iff, off_iff]
    constructor
    · intro h k hk
      obtain ⟨j, hj, e⟩ : ∃ j, j < ps.length ∧ (ps.length - 1 - j + (ps.length - 1)) % ps.length = k := by
        by_cases hk1 : k = ps.length - 1
        · refine ⟨ps.length - 1, by omega, ?_⟩
          rw [show ps.length - 1 - (ps.length - 1) + (ps.length - 1) = ps.length - 1 by omega, Nat.mod_eq_of_lt (by omega)]; omega
        · refine ⟨ps.length - 2 - k, by omega, ?_⟩
          rw [show ps.length - 1 - (ps.length - 2 - k) + (ps.length - 1) = k + ps.length by omega, Nat.add_mod_right, Nat.mod_eq_of_lt hk]
      have := h j (by rw [hl]; exact hj)
      rw [hs j hj, e] at this
      rw [onB_swap] at this
      exact this
    · intro h k hk
      rw [hl] at hk
      rw [hs k hk]
      show onB (sideAt ps _).2 (sideAt ps _).1 p = false
      rw [onB_swap]
      exact h _ (Nat.mod_lt _ h0)
  · have : (crossN qs p qs.length : Int) = crossN ps p ps.length := by
      rw [crossN_sum, crossN_sum, hl, ← sumZ_rot (fun j => crossZ p (sideAt ps j)) h0 (ps.length - 1)]
      rw [← sumZ_rev (fun j => crossZ p (sideAt ps ((ps.length - 1 + j) % ps.length)))]
      refine sumZ_congr (fun j hj => ?_)
      rw [hs j hj, Nat.add_comm (ps.length - 1 - j)]
      unfold crossZ
      simp only
      rw [refCross_rev (off_iff.1 ho _ (Nat.mod_lt _ h0))]
    omega
end Geo
end Go.Proofs.Ytkfnngcphcfbjaa
