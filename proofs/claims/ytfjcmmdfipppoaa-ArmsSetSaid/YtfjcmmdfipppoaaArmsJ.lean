/- Contracts of the specification's nearest setting. -/
import Derived.Test.YtfjcmmdfipppoaaArmsI
namespace Go.Proofs.Ytfjcmmdfipppoaa
open Go.RowKit

namespace Arm
/-- The first of lo, lo + 1, .. at which f is least, of k numbers (lo if there are none). -/
def bst (f : Int → Int) (lo : Int) : Nat → Int
  | 0 => lo
  | k + 1 => if f (lo + k) < f (bst f lo k) then lo + k else bst f lo k
theorem bst_in (f : Int → Int) (lo : Int) (k : Nat) : lo ≤ bst f lo k ∧ (1 ≤ k → bst f lo k ≤ lo + k - 1) ∧ bst f lo k ≤ lo + k := by
  induction k with
  | zero => simp [bst]
  | succ k ih =>
    unfold bst
    split <;> omega
theorem bst_lt {f : Int → Int} {lo x : Int} {k : Nat} (h : bst f lo k = x) (h2 : f (lo + k) < f x) : bst f lo (k + 1) = lo + k := by rw [bst, h, if_pos h2]
theorem bst_ge {f : Int → Int} {lo x : Int} {k : Nat} (h : bst f lo k = x) (h2 : ¬ f (lo + k) < f x) : bst f lo (k + 1) = x := by rw [bst, h, if_neg h2]
def far (u v r s a b sc : Int) (n : Int) : Int := ((n * (u * r) * b * sc * sc - a * (v * s)).natAbs : Int)
end Arm

theorem val_i {k : IntKind} {a b : Int} (h : a = b) : Value.int k a = Value.int k b := by rw [h]
/-- What the loop's region reads, in any world behind its calls. -/
theorem set_keep {w0 W w' : World} {g : Nat} {u v r s lo hi a b : Int}
    (hS : Below w0.heap.size w0 W ∧ W.cell? ⟨g, 0, none⟩ = some (.int .i64 u) ∧ W.cell? ⟨g, 1, none⟩ = some (.int .i64 v) ∧ W.cell? ⟨g, 2, none⟩ = some (.int .i64 r) ∧ W.cell? ⟨g, 3, none⟩ = some (.int .i64 s) ∧
      W.cell? ⟨g, 4, none⟩ = some (.int .i64 lo) ∧ W.cell? ⟨g, 5, none⟩ = some (.int .i64 hi) ∧ W.cell? ⟨g + 1, 0, none⟩ = some (.int .i64 a) ∧ W.cell? ⟨g + 1, 1, none⟩ = some (.int .i64 b))
    (hg : g + 1 < w0.heap.size) (hb : Below W.heap.size W w') :
    Below w0.heap.size w0 w' ∧ w'.cell? ⟨g, 0, none⟩ = some (.int .i64 u) ∧ w'.cell? ⟨g, 1, none⟩ = some (.int .i64 v) ∧ w'.cell? ⟨g, 2, none⟩ = some (.int .i64 r) ∧ w'.cell? ⟨g, 3, none⟩ = some (.int .i64 s) ∧
      w'.cell? ⟨g, 4, none⟩ = some (.int .i64 lo) ∧ w'.cell? ⟨g, 5, none⟩ = some (.int .i64 hi) ∧ w'.cell? ⟨g + 1, 0, none⟩ = some (.int .i64 a) ∧ w'.cell? ⟨g + 1, 1, none⟩ = some (.int .i64 b) := by
  obtain ⟨h, h0, h1, h2, h3, h4, h5, h6, h7⟩ := hS
  have hz := h.size
  have c0 : g < W.heap.size := by omega
  have c1 : g + 1 < W.heap.size := by omega
  exact ⟨h.trans (hb.mono hz), (hb.cell c0).trans h0, (hb.cell c0).trans h1, (hb.cell c0).trans h2, (hb.cell c0).trans h3, (hb.cell c0).trans h4, (hb.cell c0).trans h5, (hb.cell c1).trans h6, (hb.cell c1).trans h7⟩

set_option maxHeartbeats 1000000 in
theorem refset_any (u v r s lo hi sc a b : Int) (w : World) (h1 : Arm.armP u v r s lo hi) (h2 : Arm.ok a b) (h3 : 1 ≤ sc ∧ sc ≤ 100) :
    Calls Try.prog 70 #[.agg #[.int .i64 u, .int .i64 v, .int .i64 r, .int .i64 s, .int .i64 lo, .int .i64 hi], .int .i64 sc, .agg #[.int .i64 a, .int .i64 b]] w
      fun e w' => e = .returned (.int .i64 (Arm.bst (Arm.far u v r s a b sc) lo (hi + 1 - lo).toNat)) ∧ Below w.heap.size w w' := by
  have H1 := Lib.hid h1
  have H2 := Lib.hid h2
  have b1 := h1.2.2.1
  have b2 := h1.2.2.2.1
  have b3 := h1.2.2.2.2
  clear h1 h2
  go_enter Try.func70, Try.ntmps70
  go_wp2_with fail
  go_loopw [7, 8] (fun x y wr => ∃ k : Nat, lo + k ≤ hi + 1 ∧ x = .int .i64 (Arm.bst (Arm.far u v r s a b sc) lo k) ∧ y = .int .i64 (lo + k) ∧ Below w.heap.size w wr ∧ w.heap.size + 1 < wr.heap.size ∧
      (wr.cell? ⟨w.heap.size, 0, none⟩ = some (.int .i64 u) ∧ wr.cell? ⟨w.heap.size, 1, none⟩ = some (.int .i64 v) ∧ wr.cell? ⟨w.heap.size, 2, none⟩ = some (.int .i64 r) ∧ wr.cell? ⟨w.heap.size, 3, none⟩ = some (.int .i64 s) ∧
      wr.cell? ⟨w.heap.size, 4, none⟩ = some (.int .i64 lo) ∧ wr.cell? ⟨w.heap.size, 5, none⟩ = some (.int .i64 hi) ∧ wr.cell? ⟨w.heap.size + 1, 0, none⟩ = some (.int .i64 a) ∧ wr.cell? ⟨w.heap.size + 1, 1, none⟩ = some (.int .i64 b))) (fun _ y _ => (hi + 1 - intOf y).toNat)
  case atStart => exact ⟨0, by omega, rfl, by simp, by (repeat' (first | (with_reducible exact Below.refl _ _) | (with_reducible assumption) | (with_reducible refine Below.alloc ?_ ?_ _) | (with_reducible refine below_drewN ?_ _) | (with_reducible refine Below.drew ?_) | (with_reducible refine Below.setCell ?_ ?_ _) | go_size)), by first | omega | (simp; done) | (simp; omega), by go_cell, by go_cell, by go_cell, by go_cell, by go_cell, by go_cell, by go_cell, by go_cell⟩
  case round =>
    obtain ⟨k, hk, rfl, rfl, hB, hz, c0, c1, c2, c3, c4, c5, c6, c7⟩ := hrel
    have hb0 := Arm.bst_in (Arm.far u v r s a b sc) lo k
    generalize hbk : Arm.bst (Arm.far u v r s a b sc) lo k = bk at *
    have HBK := Lib.hid hbk
    clear hbk
    by_cases hlt : lo + k ≤ hi
    · have hbk2 : bk ≤ hi := by omega
      go_wp2_with fail
      go_region_held3 (fun w' => Below wr.heap.size wr w' ∧ w'.cell? ⟨w.heap.size, 0, none⟩ = some (.int .i64 u) ∧ w'.cell? ⟨w.heap.size, 1, none⟩ = some (.int .i64 v) ∧ w'.cell? ⟨w.heap.size, 2, none⟩ = some (.int .i64 r) ∧ w'.cell? ⟨w.heap.size, 3, none⟩ = some (.int .i64 s) ∧
          w'.cell? ⟨w.heap.size, 4, none⟩ = some (.int .i64 lo) ∧ w'.cell? ⟨w.heap.size, 5, none⟩ = some (.int .i64 hi) ∧ w'.cell? ⟨w.heap.size + 1, 0, none⟩ = some (.int .i64 a) ∧ w'.cell? ⟨w.heap.size + 1, 1, none⟩ = some (.int .i64 b))
        (first | exact ⟨Below.refl _ _, c0, c1, c2, c3, c4, c5, c6, c7⟩ | exact ⟨(Below.refl _ _).drew, c0, c1, c2, c3, c4, c5, c6, c7⟩ | assumption)
        (first
          | (go_at_call_of 45 (Value.int IntKind.i64 bk); refine (FarFrom_any u v r s lo hi bk sc a b _ H1.out (by omega) H2.out h3).mono ?_; rintro e w1 ⟨rfl, hb1⟩; have hS := set_keep (by assumption) hz hb1)
          | (go_at_call 45; refine (FarFrom_any u v r s lo hi (lo + k) sc a b _ H1.out (by omega) H2.out h3).mono ?_; rintro e w1 ⟨rfl, hb1⟩; have hS := set_keep (by assumption) hz hb1))
      go_wp2_with fail
      · obtain ⟨q, d0, d1, d2, d3, d4, d5, d6, d7⟩ : Below wr.heap.size wr w1 ∧ _ := by assumption
        have hcmp : ((lo + (k : Int)) * (u * r) * b * sc * sc - a * (v * s)).natAbs < (bk * (u * r) * b * sc * sc - a * (v * s)).natAbs := by assumption
        go_roundw
        case rel => exact ⟨k + 1, by omega, val_i (Arm.bst_lt HBK.out (Int.ofNat_lt.2 hcmp)).symm, by go_num, hB.trans (q.mono hB.size), by have := q.size; omega, d0, d1, d2, d3, d4, d5, d6, d7⟩
        case measure => simp [intOf]; omega
      · obtain ⟨q, d0, d1, d2, d3, d4, d5, d6, d7⟩ : Below wr.heap.size wr w1 ∧ _ := by assumption
        have hcmp : ¬ ((lo + (k : Int)) * (u * r) * b * sc * sc - a * (v * s)).natAbs < (bk * (u * r) * b * sc * sc - a * (v * s)).natAbs := by assumption
        go_roundw
        case rel => exact ⟨k + 1, by omega, val_i (Arm.bst_ge HBK.out (fun e => hcmp (Int.ofNat_lt.1 e))).symm, by go_num, hB.trans (q.mono hB.size), by have := q.size; omega, d0, d1, d2, d3, d4, d5, d6, d7⟩
        case measure => simp [intOf]; omega
    · have ek : (hi + 1 - lo).toNat = k := by omega
      have EK := Lib.hid ek
      clear ek
      go_wp2_with fail
      go_returns
      exact ⟨ret_i (by rw [EK.out]; exact HBK.out.symm), hB⟩
end Go.Proofs.Ytfjcmmdfipppoaa
