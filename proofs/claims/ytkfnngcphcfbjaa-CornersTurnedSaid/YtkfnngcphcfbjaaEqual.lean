/- The sums of both sides, and how a point lies, are equal. -/
import Derived.Test.YtkfnngcphcfbjaaRefTw
import Derived.Test.YtkfnngcphcfbjaaRefWhere
import Derived.Test.YtkfnngcphcfbjaaSums
namespace Go.Proofs.Ytkfnngcphcfbjaa
namespace Geo
def sumN (g : Nat → Int) : Nat → Int
  | 0 => 0
  | m + 1 => sumN g m + g m
theorem sumN_range (g : Nat → Int) (m : Nat) : ((List.range m).map g).sum = sumN g m := by
  induction m with
  | zero => rfl
  | succ m ih => rw [List.range_succ, List.map_append, List.sum_append, ih]; simp [sumN]
theorem sumN_congr {g h : Nat → Int} {m : Nat} (e : ∀ k, k < m → g k = h k) : sumN g m = sumN h m := by
  induction m with
  | zero => rfl
  | succ m ih => unfold sumN; rw [ih (fun k hk => e k (by omega)), e m (by omega)]
theorem tot_line (f : Pt × Pt → Int) (ps : List Pt) (hn : 1 ≤ ps.length) : tot f ps = sumN (fun k => f (ptAt ps k, ptAt ps (k + 1))) (ps.length - 1) + f (ptAt ps (ps.length - 1), ptAt ps 0) := by
  unfold tot sidesL
  rw [List.map_map, sumN_range]
  obtain ⟨m, hm⟩ : ∃ m, ps.length = m + 1 := ⟨ps.length - 1, by omega⟩
  rw [hm]
  show sumN _ m + _ = sumN _ m + _
  have e1 : (m + 1) % (m + 1) = 0 := Nat.mod_self _
  simp only [Function.comp_apply]
  rw [e1]
  congr 1
  refine sumN_congr (fun k hk => ?_)
  simp only [Function.comp_apply]
  rw [Nat.mod_eq_of_lt (by omega)]
theorem fan_line (V : Pt × Pt → Int) (T : Pt → Pt → Pt → Int) (ps : List Pt) (hs : ∀ a b, V (b, a) = - V (a, b)) (hT : ∀ a b c, T a b c = V (a, b) + V (b, c) + V (c, a)) (m : Nat) :
    fanS T ps m = sumN (fun k => V (ptAt ps k, ptAt ps (k + 1))) (m + 1) + V (ptAt ps (m + 1), ptAt ps 0) := by
  induction m with
  | zero =>
    have := hs (ptAt ps 0) (ptAt ps (0 + 1))
    simp only [fanS, sumN]
    omega
  | succ m ih =>
    have h1 := hs (ptAt ps 0) (ptAt ps (m + 1))
    have h2 := hT (ptAt ps 0) (ptAt ps (m + 1)) (ptAt ps (m + 2))
    show fanS T ps m + T (ptAt ps 0) (ptAt ps (m + 1)) (ptAt ps (m + 2)) = (sumN (fun k => V (ptAt ps k, ptAt ps (k + 1))) (m + 1) + V (ptAt ps (m + 1), ptAt ps (m + 2))) + V (ptAt ps (m + 2), ptAt ps 0)
    omega
/-- Sums over the sides are sums over the triangles from the first corner. -/
theorem tot_fan (V : Pt × Pt → Int) (T : Pt → Pt → Pt → Int) (ps : List Pt) (hn : 2 ≤ ps.length) (hs : ∀ a b, V (b, a) = - V (a, b)) (hT : ∀ a b c, T a b c = V (a, b) + V (b, c) + V (c, a)) : tot V ps = fanS T ps (ps.length - 2) := by
  rw [tot_line V ps (by omega), fan_line V T ps hs hT]
  have e : ps.length - 2 + 1 = ps.length - 1 := by omega
  rw [e]
theorem fan_anti (a b : Pt) : fanV (b, a) = - fanV (a, b) := by unfold fanV turn; simp only; grind
theorem fan_three (a b c : Pt) : turn a b c = fanV (a, b) + fanV (b, c) + fanV (c, a) := by unfold fanV turn; simp only; grind
theorem twice_eq (ps : List Pt) (hn : 2 ≤ ps.length) : tot fanV ps = fanS turn ps (ps.length - 2) := tot_fan fanV turn ps hn fan_anti fan_three

theorem between_of {D E u v : Int} (hD : D < 0) (h0 : D ≤ v) (h1 : v ≤ 0) (hE : 0 ≤ E) (h : D * u = E * v) : 0 ≤ u ∧ u ≤ E := by
  constructor
  · rcases Int.lt_or_le u 0 with hu | hu
    · have a1 : 0 < D * u := Int.mul_pos_of_neg_of_neg hD hu
      have a2 : E * v ≤ 0 := Int.mul_nonpos_of_nonneg_of_nonpos hE h1
      omega
    · exact hu
  · rcases Int.lt_or_le E u with hu | hu
    · have a1 : D * u < D * E := Int.mul_lt_mul_of_neg_left hu hD
      have a2 : E * D ≤ E * v := Int.mul_le_mul_of_nonneg_left h0 hE
      rw [Int.mul_comm E D] at a2
      omega
    · exact hu
theorem on_down {a b p : Pt} (h1 : p.2 < a.2) (h2 : b.2 ≤ p.2) (h : turn a b p = 0) : onB a b p = true := by
  unfold onB
  rw [decide_eq_true h]
  unfold turn at h
  unfold btwB
  have hx : min a.1 b.1 ≤ p.1 ∧ p.1 ≤ max a.1 b.1 := by
    rcases Int.lt_or_le b.1 a.1 with hb | hb
    · have := between_of (D := b.2 - a.2) (E := a.1 - b.1) (u := a.1 - p.1) (v := p.2 - a.2) (by omega) (by omega) (by omega) (by omega) (by grind)
      omega
    · have := between_of (D := b.2 - a.2) (E := b.1 - a.1) (u := p.1 - a.1) (v := p.2 - a.2) (by omega) (by omega) (by omega) (by omega) (by grind)
      omega
  simp only [Bool.true_and, Bool.and_eq_true, decide_eq_true_eq]
  omega
theorem turn_swap (a b p : Pt) : turn b a p = - turn a b p := by unfold turn; grind
theorem onB_swap (a b p : Pt) : onB b a p = onB a b p := by
  unfold onB btwB
  rw [turn_swap, Int.min_comm b.1, Int.max_comm b.1, Int.min_comm b.2, Int.max_comm b.2]
  congr 2
  simp
theorem on_up {a b p : Pt} (h1 : a.2 ≤ p.2) (h2 : p.2 < b.2) (h : turn a b p = 0) : onB a b p = true := by
  rw [← onB_swap]
  exact on_down h2 h1 (by rw [turn_swap, h]; rfl)
theorem cross_eq {a b p : Pt} (h : onB a b p = false) : crossB (a, b) p = refCross a b p := by
  unfold crossB refCross
  simp only
  by_cases ha : p.2 < a.2
  · rw [if_pos ha, decide_eq_true ha]
    by_cases hb : p.2 < b.2
    · rw [decide_eq_true hb, decide_eq_false (p := b.2 ≤ p.2) (by omega)]
      rfl
    · have hne : turn a b p ≠ 0 := fun e => by rw [on_down ha (by omega) e] at h; cases h
      rw [decide_eq_false hb, decide_eq_true (p := b.2 ≤ p.2) (by omega), decide_eq_false (p := a.2 < b.2) (by omega)]
      rcases Int.lt_or_gt_of_ne hne with ht | ht
      · rw [decide_eq_true ht, decide_eq_false (p := 0 < turn a b p) (by omega)]; rfl
      · rw [decide_eq_false (p := turn a b p < 0) (by omega), decide_eq_true (p := 0 < turn a b p) (by omega)]; rfl
  · rw [if_neg ha, decide_eq_false ha]
    by_cases hb : p.2 < b.2
    · rw [decide_eq_true hb, decide_eq_true (p := a.2 < b.2) (by omega)]
      cases decide (0 < turn a b p) <;> rfl
    · rw [decide_eq_false hb]
      rfl
end Geo
theorem par_eq (ps : List Geo.Pt) (h : ∀ p ∈ ps, Geo.sm p) (p : Geo.Pt) (k : Nat) (ho : Geo.offP ps p k) : parB p (sidesTo ps h k) = decide (Geo.crossN ps p k % 2 = 1) := by
  induction k with
  | zero => rfl
  | succ k ih =>
    have e1 : (sideAt ps h k).1 = (Geo.ptAt ps k, Geo.ptAt ps ((k + 1) % ps.length)) := rfl
    rw [sidesTo_succ, parB_snoc, ih (fun i hi => ho i (by omega)), e1, Geo.cross_eq (ho k (by omega))]
    show _ = decide ((Geo.crossN ps p k + (if Geo.refCross (Geo.ptAt ps k) (Geo.ptAt ps ((k + 1) % ps.length)) p then 1 else 0)) % 2 = 1)
    cases Geo.refCross (Geo.ptAt ps k) (Geo.ptAt ps ((k + 1) % ps.length)) p with
    | true =>
      simp only [if_true]
      by_cases hp : Geo.crossN ps p k % 2 = 1
      · rw [decide_eq_true hp, decide_eq_false (by omega)]; rfl
      · rw [decide_eq_false hp, decide_eq_true (by omega)]; rfl
    | false => simp
theorem has_eq (ps : List Geo.Pt) (h : ∀ p ∈ ps, Geo.sm p) (p : Geo.Pt) : hasB p (sidesTo ps h ps.length) = false ↔ Geo.offP ps p ps.length := by
  unfold hasB
  constructor
  · intro hh k hk
    cases hb : Geo.onB (Geo.ptAt ps k) (Geo.ptAt ps ((k + 1) % ps.length)) p with
    | false => rfl
    | true =>
      have : ((sidesTo ps h ps.length).any fun s => Geo.onB s.1.1 s.1.2 p) = true := List.any_eq_true.2 ⟨sideAt ps h k, by unfold sidesTo; exact List.mem_map.2 ⟨k, List.mem_range.2 hk, rfl⟩, hb⟩
      rw [this] at hh
      cases hh
  · intro hh
    cases hb : (sidesTo ps h ps.length).any fun s => Geo.onB s.1.1 s.1.2 p with
    | false => rfl
    | true =>
      obtain ⟨s, hs, h2⟩ := List.any_eq_true.1 hb
      unfold sidesTo at hs
      obtain ⟨k, hk, rfl⟩ := List.mem_map.1 hs
      have := hh k (List.mem_range.1 hk)
      rw [show Geo.onB (sideAt ps h k).1.1 (sideAt ps h k).1.2 p = Geo.onB (Geo.ptAt ps k) (Geo.ptAt ps ((k + 1) % ps.length)) p from rfl, this] at h2
      cases h2
theorem lies_eq (ps : List Geo.Pt) (h : ∀ p ∈ ps, Geo.sm p) (p : Geo.Pt) : liesV p (sidesTo ps h ps.length) = Geo.refLies ps p := by
  unfold liesV
  cases hb : hasB p (sidesTo ps h ps.length) with
  | true =>
    have hn : ¬ Geo.offP ps p ps.length := fun hh => by rw [(has_eq ps h p).2 hh] at hb; cases hb
    unfold Geo.refLies
    rw [if_neg hn]
    rfl
  | false =>
    have ho := (has_eq ps h p).1 hb
    rw [par_eq ps h p _ ho]
    by_cases hp : Geo.crossN ps p ps.length % 2 = 1
    · rw [Geo.refLies_in ho hp, decide_eq_true hp]; rfl
    · rw [Geo.refLies_out ho hp, decide_eq_false hp]; rfl
end Go.Proofs.Ytkfnngcphcfbjaa
