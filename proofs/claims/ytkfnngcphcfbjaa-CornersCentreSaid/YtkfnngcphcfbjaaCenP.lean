/- The centre lies strictly within the least and the greatest X and Y of the corners; of a triangle, First is Twice times the sums. No condition beyond the statement's own. -/
import Derived.Test.YtkfnngcphcfbjaaLawLarger
namespace Go.Proofs.Ytkfnngcphcfbjaa
open Go.RowKit

set_option maxRecDepth 100000 in
set_option maxHeartbeats 2000000 in
theorem between_yes (p q lo hi : Int) (w : World) (h1 : lo * q < p) (h2 : p < hi * q) (hl : -200 ≤ lo ∧ lo ≤ 200) (hh : -200 ≤ hi ∧ hi ≤ 200) (hq : 0 < q ∧ q ≤ 240000000) :
    Calls Try.prog 31 #[.agg #[.int .i64 p, .int .i64 q], .int .i64 lo, .int .i64 hi] w fun e w' => e = .returned (.bool true) ∧ Below w.heap.size w w' := by
  have m1 := mul_bd (a := lo) (b := q) (x := 200) (y := 240000000) (by omega) (by omega) (by omega) (by omega)
  have m2 := mul_bd (a := hi) (b := q) (x := 200) (y := 240000000) (by omega) (by omega) (by omega) (by omega)
  have hw1 : IntKind.i64.wrap (lo * q) = lo * q := IntWalk.i64_in _ (by omega)
  have hw2 : IntKind.i64.wrap (hi * q) = hi * q := IntWalk.i64_in _ (by omega)
  have g1 : q < 1099511627776 := by omega
  clear m1 m2 hq hl hh
  go_enter Try.func31, Try.ntmps31
  go_wp2_with fail
  go_returns
  exact ⟨rfl, by (repeat' (first | (with_reducible exact Below.refl _ _) | (with_reducible assumption) | (with_reducible refine Below.alloc ?_ ?_ _) | (with_reducible refine below_drewN ?_ _) | (with_reducible refine Below.drew ?_) | (with_reducible refine Below.setCell ?_ ?_ _) | go_size))⟩
namespace Geo
def sumX (ps : List Pt) : Nat → Int
  | 0 => 0
  | k + 1 => sumX ps k + (ptAt ps k).1
def sumY (ps : List Pt) : Nat → Int
  | 0 => 0
  | k + 1 => sumY ps k + (ptAt ps k).2
theorem sum_bd {ps : List Pt} (h : ∀ k, k < ps.length → ptB (ptAt ps k) = true) : ∀ k : Nat, k ≤ ps.length → (-(200 * (k : Int)) ≤ sumX ps k ∧ sumX ps k ≤ 200 * k) ∧ (-(200 * (k : Int)) ≤ sumY ps k ∧ sumY ps k ≤ 200 * k)
  | 0, _ => by simp [sumX, sumY]
  | k + 1, hk => by
    have := sum_bd h k (by omega)
    have hp := h k (by omega)
    unfold ptB inB at hp
    simp at hp
    simp only [sumX, sumY]
    omega
theorem tri_first {ps : List Pt} (h : ps.length = 3) : tot fxV ps = tot fanV ps * sumX ps ps.length ∧ tot fyV ps = tot fanV ps * sumY ps ps.length := by
  match ps, h with
  | [a, b, c], _ =>
    have e : sidesL [a, b, c] = [(a, b), (b, c), (c, a)] := by unfold sidesL; simp [List.range, List.range.loop]
    have s1 : sumX [a, b, c] 3 = a.1 + b.1 + c.1 := by simp [sumX, ptAt]
    have s2 : sumY [a, b, c] 3 = a.2 + b.2 + c.2 := by simp [sumY, ptAt]
    show tot fxV [a, b, c] = tot fanV [a, b, c] * sumX [a, b, c] 3 ∧ tot fyV [a, b, c] = tot fanV [a, b, c] * sumY [a, b, c] 3
    rw [s1, s2]
    unfold tot
    rw [e]
    simp only [List.map_cons, List.map_nil, List.sum_cons, List.sum_nil]
    unfold fxV fyV fanV turn
    constructor <;> grind
end Geo
end Go.Proofs.Ytkfnngcphcfbjaa
