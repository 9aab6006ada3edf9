/- The sums of both sides, and how a point lies, are equal. -/
import Derived.Test.YtgpmnkdagpcffaaRefTw
import Derived.Test.YtgpmnkdagpcffaaMom
namespace Go.Proofs.Ytgpmnkdagpcffaa
namespace Geo
def sumN (g : Nat → Int) : Nat → Int
  | 0 => 0
  | m + 1 => sumN g m + g m
theorem sumN_range (g : Nat → Int) (m : Nat) : ((List.range m).map g).sum = sumN g m := by
  induction m with
  | zero => rfl
  | succ m ih => rw [List.range_succ, List.map_append, List.sum_append, ih]; simp [sumN]
theorem sumN_congr {g h : Nat → Int} {m : Nat} (e : ∀ k, k < m → g k = h k) : sumN g m = sumN h m := by
  induction m with
  | zero => rfl
  | succ m ih => unfold sumN; rw [ih (fun k hk => e k (by omega)), e m (by omega)]
theorem tot_line (f : Pt × Pt → Int) (ps : List Pt) (hn : 1 ≤ ps.length) : tot f ps = sumN (fun k => f (ptAt ps k, ptAt ps (k + 1))) (ps.length - 1) + f (ptAt ps (ps.length - 1), ptAt ps 0) := by
  unfold tot sidesL
  rw [List.map_map, sumN_range]
  obtain ⟨m, hm⟩ : ∃ m, ps.length = m + 1 := ⟨ps.length - 1, by omega⟩
  rw [hm]
  show sumN _ m + _ = sumN _ m + _
  have e1 : (m + 1) % (m + 1) = 0 := Nat.mod_self _
  simp only [Function.comp_apply]
  rw [e1]
  congr 1
  refine sumN_congr (fun k hk => ?_)
  simp only [Function.comp_apply]
  rw [Nat.mod_eq_of_lt (by omega)]
theorem fan_line (V : Pt × Pt → Int) (T : Pt → Pt → Pt → Int) (ps : List Pt) (hs : ∀ a b, V (b, a) = - V (a, b)) (hT : ∀ a b c, T a b c = V (a, b) + V (b, c) + V (c, a)) (m : Nat) :
    fanS T ps m = sumN (fun k => V (ptAt ps k, ptAt ps (k + 1))) (m + 1) + V (ptAt ps (m + 1), ptAt ps 0) := by
  induction m with
  | zero =>
    have := hs (ptAt ps 0) (ptAt ps (0 + 1))
    simp only [fanS, sumN]
    omega
  | succ m ih =>
    have h1 := hs (ptAt ps 0) (ptAt ps (m + 1))
    have h2 := hT (ptAt ps 0) (ptAt ps (m + 1)) (ptAt ps (m + 2))
    show fanS T ps m + T (ptAt ps 0) (ptAt ps (m + 1)) (ptAt ps (m + 2)) = (sumN (fun k => V (ptAt ps k, ptAt ps (k + 1))) (m + 1) + V (ptAt ps (m + 1), ptAt ps (m + 2))) + V (ptAt ps (m + 2), ptAt ps 0)
    omega
/-- Sums over the sides are sums over the triangles from the first corner. -/
theorem tot_fan (V : Pt × Pt → Int) (T : Pt → Pt → Pt → Int) (ps : List Pt) (hn : 2 ≤ ps.length) (hs : ∀ a b, V (b, a) = - V (a, b)) (hT : ∀ a b c, T a b c = V (a, b) + V (b, c) + V (c, a)) : tot V ps = fanS T ps (ps.length - 2) := by
  rw [tot_line V ps (by omega), fan_line V T ps hs hT]
  have e : ps.length - 2 + 1 = ps.length - 1 := by omega
  rw [e]
theorem fan_anti (a b : Pt) : fanV (b, a) = - fanV (a, b) := by unfold fanV turn; simp only; grind
theorem fan_three (a b c : Pt) : turn a b c = fanV (a, b) + fanV (b, c) + fanV (c, a) := by unfold fanV turn; simp only; grind
theorem twice_eq (ps : List Pt) (hn : 2 ≤ ps.length) : tot fanV ps = fanS turn ps (ps.length - 2) := tot_fan fanV turn ps hn fan_anti fan_three
end Geo
end Go.Proofs.Ytgpmnkdagpcffaa
