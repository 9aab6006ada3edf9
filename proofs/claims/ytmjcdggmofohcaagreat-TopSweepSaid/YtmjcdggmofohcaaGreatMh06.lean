/- Texts of this proof, one behind the other: Meet. Each says its own conditions. -/
import Derived.Test.YtmjcdggmofohcaaGreatMh02
import Derived.Test.YtmjcdggmofohcaaGreatMh04
import Derived.Shelf.Abstract
import Derived.OwnWalkIn
import Derived.TacticsInMore
import Derived.CallsIn
namespace Go.Proofs.YtmjcdggmofohcaaGreat
open Go.RowKit

namespace Geo
def someOn (a b c d : Int × Int) : Bool := onB a b c || (onB a b d || (onB c d a || onB c d b))
def meetB (a b c d : Int × Int) : Bool := someOn a b c d || (decide ((turn a b c).sign * (turn a b d).sign < 0) && decide ((turn c d a).sign * (turn c d b).sign < 0))
end Geo
theorem sign_in (n : Int) : -1 ≤ n.sign ∧ n.sign ≤ 1 := by
  rcases Int.lt_trichotomy n 0 with h | rfl | h
  · rw [Int.sign_eq_neg_one_of_neg h]; omega
  · simp
  · rw [Int.sign_eq_one_of_pos h]; omega
theorem sign_mul {s t : Int} (hs : -1 ≤ s ∧ s ≤ 1) (ht : -1 ≤ t ∧ t ≤ 1) : IntKind.i64.wrap (s * t) = s * t := by
  have := mul_bd (a := s) (b := t) (x := 1) (y := 1) (by omega) (by omega) (by omega) (by omega)
  exact IntWalk.i64_in _ (by omega)

set_option maxRecDepth 100000 in
set_option maxHeartbeats 4000000 in
theorem meet_none (x1 y1 x2 y2 x3 y3 x4 y4 T1 T2 T3 T4 : Int) (w : World)
    (n1 : Hid (∀ W, Calls Tryz.prog 21 #[.agg #[.int .i64 x1, .int .i64 y1], .agg #[.int .i64 x2, .int .i64 y2], .agg #[.int .i64 x3, .int .i64 y3]] W fun e w' => e = .returned (.bool false) ∧ Below W.heap.size W w'))
    (n2 : Hid (∀ W, Calls Tryz.prog 21 #[.agg #[.int .i64 x1, .int .i64 y1], .agg #[.int .i64 x2, .int .i64 y2], .agg #[.int .i64 x4, .int .i64 y4]] W fun e w' => e = .returned (.bool false) ∧ Below W.heap.size W w'))
    (n3 : Hid (∀ W, Calls Tryz.prog 21 #[.agg #[.int .i64 x3, .int .i64 y3], .agg #[.int .i64 x4, .int .i64 y4], .agg #[.int .i64 x1, .int .i64 y1]] W fun e w' => e = .returned (.bool false) ∧ Below W.heap.size W w'))
    (n4 : Hid (∀ W, Calls Tryz.prog 21 #[.agg #[.int .i64 x3, .int .i64 y3], .agg #[.int .i64 x4, .int .i64 y4], .agg #[.int .i64 x2, .int .i64 y2]] W fun e w' => e = .returned (.bool false) ∧ Below W.heap.size W w'))
    (t1 : Hid (∀ W, Calls Tryz.prog 43 #[.agg #[.int .i64 x1, .int .i64 y1], .agg #[.int .i64 x2, .int .i64 y2], .agg #[.int .i64 x3, .int .i64 y3]] W fun e w' => e = .returned (.int .i64 T1) ∧ Below W.heap.size W w'))
    (t2 : Hid (∀ W, Calls Tryz.prog 43 #[.agg #[.int .i64 x1, .int .i64 y1], .agg #[.int .i64 x2, .int .i64 y2], .agg #[.int .i64 x4, .int .i64 y4]] W fun e w' => e = .returned (.int .i64 T2) ∧ Below W.heap.size W w'))
    (t3 : Hid (∀ W, Calls Tryz.prog 43 #[.agg #[.int .i64 x3, .int .i64 y3], .agg #[.int .i64 x4, .int .i64 y4], .agg #[.int .i64 x1, .int .i64 y1]] W fun e w' => e = .returned (.int .i64 T3) ∧ Below W.heap.size W w'))
    (t4 : Hid (∀ W, Calls Tryz.prog 43 #[.agg #[.int .i64 x3, .int .i64 y3], .agg #[.int .i64 x4, .int .i64 y4], .agg #[.int .i64 x2, .int .i64 y2]] W fun e w' => e = .returned (.int .i64 T4) ∧ Below W.heap.size W w'))
    (b1 : -8000000 ≤ T1 ∧ T1 ≤ 8000000) (b2 : -8000000 ≤ T2 ∧ T2 ≤ 8000000) (b3 : -8000000 ≤ T3 ∧ T3 ≤ 8000000) (b4 : -8000000 ≤ T4 ∧ T4 ≤ 8000000) :
    CallsIn Fence.wide 4 Tryz.prog 22 #[.agg #[.int .i64 x1, .int .i64 y1], .agg #[.int .i64 x2, .int .i64 y2], .agg #[.int .i64 x3, .int .i64 y3], .agg #[.int .i64 x4, .int .i64 y4]] w
      fun e w' => e = .returned (.bool ((decide (T1.sign * T2.sign < 0) && decide (T3.sign * T4.sign < 0)))) ∧ Below w.heap.size w w' := by
  have g1 : Hid (∀ W, Calls Tryz.prog 44 #[.int .i64 T1] W fun e w' => e = .returned (.int .i64 T1.sign) ∧ W = w') := fun W => sign_any T1 W (by omega)
  have g2 : Hid (∀ W, Calls Tryz.prog 44 #[.int .i64 T2] W fun e w' => e = .returned (.int .i64 T2.sign) ∧ W = w') := fun W => sign_any T2 W (by omega)
  have g3 : Hid (∀ W, Calls Tryz.prog 44 #[.int .i64 T3] W fun e w' => e = .returned (.int .i64 T3.sign) ∧ W = w') := fun W => sign_any T3 W (by omega)
  have g4 : Hid (∀ W, Calls Tryz.prog 44 #[.int .i64 T4] W fun e w' => e = .returned (.int .i64 T4.sign) ∧ W = w') := fun W => sign_any T4 W (by omega)
  have s1 := sign_in T1
  have s2 := sign_in T2
  have s3 := sign_in T3
  have s4 := sign_in T4
  generalize T1.sign = S1 at *
  generalize T2.sign = S2 at *
  generalize T3.sign = S3 at *
  generalize T4.sign = S4 at *
  have hw1 := sign_mul s1 s2
  have hw2 := sign_mul s3 s4
  clear b1 b2 b3 b4 s1 s2 s3 s4
  refine callsIn_of_wp Tryz.func22 rfl trivial ?_ rfl
  simp only [Tryz.ntmps22, List.size_toArray, List.length_cons, List.length_nil, Nat.reduceAdd, Nat.reduceSub, Array.replicate_succ, Array.replicate_zero, List.push_toArray, List.append_toArray, List.nil_append, List.cons_append]
  gi_wp2
  have hB0 : Below w.heap.size w ((((w.alloc (.cells #[.int .i64 x1, .int .i64 y1] 53)).alloc (.cells #[.int .i64 x2, .int .i64 y2] 53)).alloc (.cells #[.int .i64 x3, .int .i64 y3] 53)).alloc (.cells #[.int .i64 x4, .int .i64 y4] 53)) := by (repeat' (first | (with_reducible exact Below.refl _ _) | (with_reducible assumption) | (with_reducible refine Below.alloc ?_ ?_ _) | (with_reducible refine below_drewN ?_ _) | (with_reducible refine Below.drew ?_) | (with_reducible refine Below.setCell ?_ ?_ _) | go_size))
  have bA := (((BoxS.new w 53 #[.int .i64 x1, .int .i64 y1]).alloc (.cells #[.int .i64 x2, .int .i64 y2] 53)).alloc (.cells #[.int .i64 x3, .int .i64 y3] 53)).alloc (.cells #[.int .i64 x4, .int .i64 y4] 53)
  have bB := ((BoxS.new (w.alloc (.cells #[.int .i64 x1, .int .i64 y1] 53)) 53 #[.int .i64 x2, .int .i64 y2]).alloc (.cells #[.int .i64 x3, .int .i64 y3] 53)).alloc (.cells #[.int .i64 x4, .int .i64 y4] 53)
  have bC := (BoxS.new ((w.alloc (.cells #[.int .i64 x1, .int .i64 y1] 53)).alloc (.cells #[.int .i64 x2, .int .i64 y2] 53)) 53 #[.int .i64 x3, .int .i64 y3]).alloc (.cells #[.int .i64 x4, .int .i64 y4] 53)
  have bD := BoxS.new (((w.alloc (.cells #[.int .i64 x1, .int .i64 y1] 53)).alloc (.cells #[.int .i64 x2, .int .i64 y2] 53)).alloc (.cells #[.int .i64 x3, .int .i64 y3] 53)) 53 #[.int .i64 x4, .int .i64 y4]
  simp only [World.size_alloc] at bB bC bD
  generalize hW : World.alloc _ _ = W0 at *
  clear hW
  have KC : Hid (∀ W', Below W0.heap.size W0 W' → (W'.cell? ⟨w.heap.size, 0, none⟩ = some (.int .i64 x1) ∧ W'.cell? ⟨w.heap.size, 1, none⟩ = some (.int .i64 y1)) ∧ (W'.cell? ⟨w.heap.size + 1, 0, none⟩ = some (.int .i64 x2) ∧ W'.cell? ⟨w.heap.size + 1, 1, none⟩ = some (.int .i64 y2)) ∧ (W'.cell? ⟨w.heap.size + 1 + 1, 0, none⟩ = some (.int .i64 x3) ∧ W'.cell? ⟨w.heap.size + 1 + 1, 1, none⟩ = some (.int .i64 y3)) ∧ (W'.cell? ⟨w.heap.size + 1 + 1 + 1, 0, none⟩ = some (.int .i64 x4) ∧ W'.cell? ⟨w.heap.size + 1 + 1 + 1, 1, none⟩ = some (.int .i64 y4))) :=
    fun W' h => ⟨⟨(bA.below h).cell 0 rfl, (bA.below h).cell 1 rfl⟩, ⟨(bB.below h).cell 0 rfl, (bB.below h).cell 1 rfl⟩, ⟨(bC.below h).cell 0 rfl, (bC.below h).cell 1 rfl⟩, (bD.below h).cell 0 rfl, (bD.below h).cell 1 rfl⟩
  clear bA bB bC bD
  refine ⟨trivial, (callsIn_wide.2 (n1.out _)).mono ?_⟩
  rintro e w1 ⟨rfl, hb1⟩
  have q1 : Below W0.heap.size W0 w1 := hb1
  have kq := KC.out _ q1
  clear hb1
  gi_wp2
  clear kq
  refine ⟨trivial, (callsIn_wide.2 (n2.out _)).mono ?_⟩
  rintro e w2 ⟨rfl, hb2⟩
  have q2 : Below W0.heap.size W0 w2 := (q1.trans (hb2.mono q1.size))
  have kq := KC.out _ q2
  clear hb2
  gi_wp2
  clear kq
  refine ⟨trivial, (callsIn_wide.2 (n3.out _)).mono ?_⟩
  rintro e w3 ⟨rfl, hb3⟩
  have q3 : Below W0.heap.size W0 w3 := (q2.trans (hb3.mono q2.size))
  have kq := KC.out _ q3
  clear hb3
  gi_wp2
  clear kq
  refine ⟨trivial, (callsIn_wide.2 (n4.out _)).mono ?_⟩
  rintro e w4 ⟨rfl, hb4⟩
  have q4 : Below W0.heap.size W0 w4 := (q3.trans (hb4.mono q3.size))
  have kq := KC.out _ q4
  clear hb4
  gi_wp2
  clear kq
  have hmo : Tryz.prog.follows .mixedOrders = true := by kernel_rfl
  have q5 : Below W0.heap.size W0 w4.drew := q4.drew
  by_cases hG : S1 * S2 < 0
  · have hG1 : decide (S1 * S2 < 0) = true := by simpa using hG
    clear hG
    refine wpIn_region_held (fun W' => Below W0.heap.size W0 W') 27 hmo ?_
    refine wpHeldIn_take (i := 0) (v := ?_) (plain_of (by kernel_rfl)) rfl (by kernel_rfl) (fun _ _ _ h => h) (yieldsSoIn_of (by kernel_rfl) ?_ (fun _ => rfl)) q5 ?_; rotate_left; focus (intro wq hw; have kq := KC.out wq hw; clear hw; go_simp; try (with_reducible rfl))
    refine wpHeldIn_take (i := 1) (v := ?_) (plain_of (by kernel_rfl)) rfl (by kernel_rfl) (fun _ _ _ h => h) (yieldsSoIn_of (by kernel_rfl) ?_ (fun _ => rfl)) q5 ?_; rotate_left; focus (intro wq hw; have kq := KC.out wq hw; clear hw; go_simp; try (with_reducible rfl))
    refine wpHeldIn_take (i := 2) (v := ?_) (plain_of (by kernel_rfl)) rfl (by kernel_rfl) (fun _ _ _ h => h) (yieldsSoIn_of (by kernel_rfl) ?_ (fun _ => rfl)) q5 ?_; rotate_left; focus (intro wq hw; have kq := KC.out wq hw; clear hw; go_simp; try (with_reducible rfl))
    refine wpHeldIn_take (i := 5) (v := ?_) (plain_of (by kernel_rfl)) rfl (by kernel_rfl) (fun _ _ _ h => h) (yieldsSoIn_of (by kernel_rfl) ?_ (fun _ => rfl)) q5 ?_; rotate_left; focus (intro wq hw; have kq := KC.out wq hw; clear hw; go_simp; try (with_reducible rfl))
    refine wpHeldIn_take (i := 6) (v := ?_) (plain_of (by kernel_rfl)) rfl (by kernel_rfl) (fun _ _ _ h => h) (yieldsSoIn_of (by kernel_rfl) ?_ (fun _ => rfl)) q5 ?_; rotate_left; focus (intro wq hw; have kq := KC.out wq hw; clear hw; go_simp; try (with_reducible rfl))
    refine wpHeldIn_take (i := 7) (v := ?_) (plain_of (by kernel_rfl)) rfl (by kernel_rfl) (fun _ _ _ h => h) (yieldsSoIn_of (by kernel_rfl) ?_ (fun _ => rfl)) q5 ?_; rotate_left; focus (intro wq hw; have kq := KC.out wq hw; clear hw; go_simp; try (with_reducible rfl))
    refine wpHeldIn_one (i := 3) (by kernel_rfl) (by kernel_rfl) rfl (by kernel_rfl) (fun K' hK' => ?_); go_simp; refine ⟨trivial, (callsIn_wide.2 (t1.out _)).mono ?_⟩; rintro e v1 ⟨rfl, hb⟩
    have q6 : Below W0.heap.size W0 v1 := q5.trans (hb.mono q5.size)
    clear hb
    refine hK' _ _ q6 ?_
    refine wpHeldIn_one (i := 4) (by kernel_rfl) (by kernel_rfl) rfl (by kernel_rfl) (fun K' hK' => ?_)
    go_simp
    refine ⟨trivial, (callsIn_wide.2 (g1.out _)).mono ?_⟩
    rintro e v1 ⟨rfl, rfl⟩
    refine hK' _ _ q6 ?_
    refine wpHeldIn_one (i := 8) (by kernel_rfl) (by kernel_rfl) rfl (by kernel_rfl) (fun K' hK' => ?_); go_simp; refine ⟨trivial, (callsIn_wide.2 (t2.out _)).mono ?_⟩; rintro e v2 ⟨rfl, hb⟩
    have q7 : Below W0.heap.size W0 v2 := q6.trans (hb.mono q6.size)
    clear hb
    refine hK' _ _ q7 ?_
    refine wpHeldIn_one (i := 9) (by kernel_rfl) (by kernel_rfl) rfl (by kernel_rfl) (fun K' hK' => ?_)
    go_simp
    refine ⟨trivial, (callsIn_wide.2 (g2.out _)).mono ?_⟩
    rintro e v2 ⟨rfl, rfl⟩
    refine hK' _ _ q7 ?_
    refine wpHeldIn_take (i := 10) (v := ?_) (plain_of (by kernel_rfl)) rfl (by kernel_rfl) (fun _ _ _ h => h) (yieldsSoIn_of (by kernel_rfl) ?_ (fun _ => rfl)) q7 ?_; rotate_left; focus (intro wq hw; clear hw; go_simp; try (with_reducible rfl))
    refine wpHeldIn_take (i := 11) (v := ?_) (plain_of (by kernel_rfl)) rfl (by kernel_rfl) (fun _ _ _ h => h) (yieldsSoIn_of (by kernel_rfl) ?_ (fun _ => rfl)) q7 ?_; rotate_left; focus (intro wq hw; clear hw; go_simp; try (with_reducible rfl))
    refine wpHeldIn_take (i := 12) (v := ?_) (plain_of (by kernel_rfl)) rfl (by kernel_rfl) (fun _ _ _ h => h) (yieldsSoIn_of (by kernel_rfl) ?_ (fun _ => rfl)) q7 ?_; rotate_left; focus (intro wq hw; clear hw; go_simp; try (with_reducible rfl))
    refine wpHeldIn_take (i := 13) (v := ?_) (plain_of (by kernel_rfl)) rfl (by kernel_rfl) (fun _ _ _ h => h) (yieldsSoIn_of (by kernel_rfl) ?_ (fun _ => rfl)) q7 ?_; rotate_left; focus (intro wq hw; have kq := KC.out wq hw; clear hw; go_simp; try (with_reducible rfl))
    refine wpHeldIn_take (i := 14) (v := ?_) (plain_of (by kernel_rfl)) rfl (by kernel_rfl) (fun _ _ _ h => h) (yieldsSoIn_of (by kernel_rfl) ?_ (fun _ => rfl)) q7 ?_; rotate_left; focus (intro wq hw; have kq := KC.out wq hw; clear hw; go_simp; try (with_reducible rfl))
    refine wpHeldIn_take (i := 15) (v := ?_) (plain_of (by kernel_rfl)) rfl (by kernel_rfl) (fun _ _ _ h => h) (yieldsSoIn_of (by kernel_rfl) ?_ (fun _ => rfl)) q7 ?_; rotate_left; focus (intro wq hw; have kq := KC.out wq hw; clear hw; go_simp; try (with_reducible rfl))
    refine wpHeldIn_take (i := 18) (v := ?_) (plain_of (by kernel_rfl)) rfl (by kernel_rfl) (fun _ _ _ h => h) (yieldsSoIn_of (by kernel_rfl) ?_ (fun _ => rfl)) q7 ?_; rotate_left; focus (intro wq hw; have kq := KC.out wq hw; clear hw; go_simp; try (with_reducible rfl))
    refine wpHeldIn_take (i := 19) (v := ?_) (plain_of (by kernel_rfl)) rfl (by kernel_rfl) (fun _ _ _ h => h) (yieldsSoIn_of (by kernel_rfl) ?_ (fun _ => rfl)) q7 ?_; rotate_left; focus (intro wq hw; have kq := KC.out wq hw; clear hw; go_simp; try (with_reducible rfl))
    refine wpHeldIn_take (i := 20) (v := ?_) (plain_of (by kernel_rfl)) rfl (by kernel_rfl) (fun _ _ _ h => h) (yieldsSoIn_of (by kernel_rfl) ?_ (fun _ => rfl)) q7 ?_; rotate_left; focus (intro wq hw; have kq := KC.out wq hw; clear hw; go_simp; try (with_reducible rfl))
    refine wpHeldIn_one (i := 16) (by kernel_rfl) (by kernel_rfl) rfl (by kernel_rfl) (fun K' hK' => ?_); go_simp; refine ⟨trivial, (callsIn_wide.2 (t3.out _)).mono ?_⟩; rintro e v3 ⟨rfl, hb⟩
    have q8 : Below W0.heap.size W0 v3 := q7.trans (hb.mono q7.size)
    clear hb
    refine hK' _ _ q8 ?_
    refine wpHeldIn_one (i := 17) (by kernel_rfl) (by kernel_rfl) rfl (by kernel_rfl) (fun K' hK' => ?_)
    go_simp
    refine ⟨trivial, (callsIn_wide.2 (g3.out _)).mono ?_⟩
    rintro e v3 ⟨rfl, rfl⟩
    refine hK' _ _ q8 ?_
    refine wpHeldIn_one (i := 21) (by kernel_rfl) (by kernel_rfl) rfl (by kernel_rfl) (fun K' hK' => ?_); go_simp; refine ⟨trivial, (callsIn_wide.2 (t4.out _)).mono ?_⟩; rintro e v4 ⟨rfl, hb⟩
    have q9 : Below W0.heap.size W0 v4 := q8.trans (hb.mono q8.size)
    clear hb
    refine hK' _ _ q9 ?_
    refine wpHeldIn_one (i := 22) (by kernel_rfl) (by kernel_rfl) rfl (by kernel_rfl) (fun K' hK' => ?_)
    go_simp
    refine ⟨trivial, (callsIn_wide.2 (g4.out _)).mono ?_⟩
    rintro e v4 ⟨rfl, rfl⟩
    refine hK' _ _ q9 ?_
    refine wpHeldIn_take (i := 23) (v := ?_) (plain_of (by kernel_rfl)) rfl (by kernel_rfl) (fun _ _ _ h => h) (yieldsSoIn_of (by kernel_rfl) ?_ (fun _ => rfl)) q9 ?_; rotate_left; focus (intro wq hw; clear hw; go_simp; try (with_reducible rfl))
    refine wpHeldIn_take (i := 24) (v := ?_) (plain_of (by kernel_rfl)) rfl (by kernel_rfl) (fun _ _ _ h => h) (yieldsSoIn_of (by kernel_rfl) ?_ (fun _ => rfl)) q9 ?_; rotate_left; focus (intro wq hw; clear hw; go_simp; try (with_reducible rfl))
    refine wpHeldIn_take (i := 25) (v := ?_) (plain_of (by kernel_rfl)) rfl (by kernel_rfl) (fun _ _ _ h => h) (yieldsSoIn_of (by kernel_rfl) ?_ (fun _ => rfl)) q9 ?_; rotate_left; focus (intro wq hw; clear hw; go_simp; try (with_reducible rfl))
    refine wpHeldIn_take (i := 26) (v := ?_) (plain_of (by kernel_rfl)) rfl (by kernel_rfl) (fun _ _ _ h => h) (yieldsSoIn_of (by kernel_rfl) ?_ (fun _ => rfl)) q9 ?_; rotate_left; focus (intro wq hw; clear hw; go_simp; try (with_reducible rfl))
    refine wpHeldIn_done (by kernel_rfl) ?_ _
    gi_wp2
    go_ret
    exact ⟨ret_b (by simp [hG1]), hB0.trans (q9.mono hB0.size)⟩
  · have hG1 : decide (S1 * S2 < 0) = false := by simpa using hG
    clear hG
    refine wpIn_region_held (fun W' => Below W0.heap.size W0 W') 27 hmo ?_
    refine wpHeldIn_take (i := 0) (v := ?_) (plain_of (by kernel_rfl)) rfl (by kernel_rfl) (fun _ _ _ h => h) (yieldsSoIn_of (by kernel_rfl) ?_ (fun _ => rfl)) q5 ?_; rotate_left; focus (intro wq hw; have kq := KC.out wq hw; clear hw; go_simp; try (with_reducible rfl))
    refine wpHeldIn_take (i := 1) (v := ?_) (plain_of (by kernel_rfl)) rfl (by kernel_rfl) (fun _ _ _ h => h) (yieldsSoIn_of (by kernel_rfl) ?_ (fun _ => rfl)) q5 ?_; rotate_left; focus (intro wq hw; have kq := KC.out wq hw; clear hw; go_simp; try (with_reducible rfl))
    refine wpHeldIn_take (i := 2) (v := ?_) (plain_of (by kernel_rfl)) rfl (by kernel_rfl) (fun _ _ _ h => h) (yieldsSoIn_of (by kernel_rfl) ?_ (fun _ => rfl)) q5 ?_; rotate_left; focus (intro wq hw; have kq := KC.out wq hw; clear hw; go_simp; try (with_reducible rfl))
    refine wpHeldIn_take (i := 5) (v := ?_) (plain_of (by kernel_rfl)) rfl (by kernel_rfl) (fun _ _ _ h => h) (yieldsSoIn_of (by kernel_rfl) ?_ (fun _ => rfl)) q5 ?_; rotate_left; focus (intro wq hw; have kq := KC.out wq hw; clear hw; go_simp; try (with_reducible rfl))
    refine wpHeldIn_take (i := 6) (v := ?_) (plain_of (by kernel_rfl)) rfl (by kernel_rfl) (fun _ _ _ h => h) (yieldsSoIn_of (by kernel_rfl) ?_ (fun _ => rfl)) q5 ?_; rotate_left; focus (intro wq hw; have kq := KC.out wq hw; clear hw; go_simp; try (with_reducible rfl))
    refine wpHeldIn_take (i := 7) (v := ?_) (plain_of (by kernel_rfl)) rfl (by kernel_rfl) (fun _ _ _ h => h) (yieldsSoIn_of (by kernel_rfl) ?_ (fun _ => rfl)) q5 ?_; rotate_left; focus (intro wq hw; have kq := KC.out wq hw; clear hw; go_simp; try (with_reducible rfl))
    refine wpHeldIn_one (i := 3) (by kernel_rfl) (by kernel_rfl) rfl (by kernel_rfl) (fun K' hK' => ?_); go_simp; refine ⟨trivial, (callsIn_wide.2 (t1.out _)).mono ?_⟩; rintro e v1 ⟨rfl, hb⟩
    have q6 : Below W0.heap.size W0 v1 := q5.trans (hb.mono q5.size)
    clear hb
    refine hK' _ _ q6 ?_
    refine wpHeldIn_one (i := 4) (by kernel_rfl) (by kernel_rfl) rfl (by kernel_rfl) (fun K' hK' => ?_)
    go_simp
    refine ⟨trivial, (callsIn_wide.2 (g1.out _)).mono ?_⟩
    rintro e v1 ⟨rfl, rfl⟩
    refine hK' _ _ q6 ?_
    refine wpHeldIn_one (i := 8) (by kernel_rfl) (by kernel_rfl) rfl (by kernel_rfl) (fun K' hK' => ?_); go_simp; refine ⟨trivial, (callsIn_wide.2 (t2.out _)).mono ?_⟩; rintro e v2 ⟨rfl, hb⟩
    have q7 : Below W0.heap.size W0 v2 := q6.trans (hb.mono q6.size)
    clear hb
    refine hK' _ _ q7 ?_
    refine wpHeldIn_one (i := 9) (by kernel_rfl) (by kernel_rfl) rfl (by kernel_rfl) (fun K' hK' => ?_)
    go_simp
    refine ⟨trivial, (callsIn_wide.2 (g2.out _)).mono ?_⟩
    rintro e v2 ⟨rfl, rfl⟩
    refine hK' _ _ q7 ?_
    refine wpHeldIn_take (i := 10) (v := ?_) (plain_of (by kernel_rfl)) rfl (by kernel_rfl) (fun _ _ _ h => h) (yieldsSoIn_of (by kernel_rfl) ?_ (fun _ => rfl)) q7 ?_; rotate_left; focus (intro wq hw; clear hw; go_simp; try (with_reducible rfl))
    refine wpHeldIn_take (i := 11) (v := ?_) (plain_of (by kernel_rfl)) rfl (by kernel_rfl) (fun _ _ _ h => h) (yieldsSoIn_of (by kernel_rfl) ?_ (fun _ => rfl)) q7 ?_; rotate_left; focus (intro wq hw; clear hw; go_simp; try (with_reducible rfl))
    refine wpHeldIn_take (i := 12) (v := ?_) (plain_of (by kernel_rfl)) rfl (by kernel_rfl) (fun _ _ _ h => h) (yieldsSoIn_of (by kernel_rfl) ?_ (fun _ => rfl)) q7 ?_; rotate_left; focus (intro wq hw; clear hw; go_simp; try (with_reducible rfl))
    refine wpHeldIn_skip (i := 13) (plain_of (by kernel_rfl)) rfl (by kernel_rfl) (by kernel_rfl) (fun _ => trivial) (by kernel_rfl) (fun _ _ _ h => h) q7 ?_
    refine wpHeldIn_skip (i := 14) (plain_of (by kernel_rfl)) rfl (by kernel_rfl) (by kernel_rfl) (fun _ => trivial) (by kernel_rfl) (fun _ _ _ h => h) q7 ?_
    refine wpHeldIn_skip (i := 15) (plain_of (by kernel_rfl)) rfl (by kernel_rfl) (by kernel_rfl) (fun _ => trivial) (by kernel_rfl) (fun _ _ _ h => h) q7 ?_
    refine wpHeldIn_skip (i := 16) (plain_of (by kernel_rfl)) rfl (by kernel_rfl) (by kernel_rfl) (fun _ => trivial) (by kernel_rfl) (fun _ _ _ h => h) q7 ?_
    refine wpHeldIn_skip (i := 17) (plain_of (by kernel_rfl)) rfl (by kernel_rfl) (by kernel_rfl) (fun _ => trivial) (by kernel_rfl) (fun _ _ _ h => h) q7 ?_
    refine wpHeldIn_skip (i := 18) (plain_of (by kernel_rfl)) rfl (by kernel_rfl) (by kernel_rfl) (fun _ => trivial) (by kernel_rfl) (fun _ _ _ h => h) q7 ?_
    refine wpHeldIn_skip (i := 19) (plain_of (by kernel_rfl)) rfl (by kernel_rfl) (by kernel_rfl) (fun _ => trivial) (by kernel_rfl) (fun _ _ _ h => h) q7 ?_
    refine wpHeldIn_skip (i := 20) (plain_of (by kernel_rfl)) rfl (by kernel_rfl) (by kernel_rfl) (fun _ => trivial) (by kernel_rfl) (fun _ _ _ h => h) q7 ?_
    refine wpHeldIn_skip (i := 21) (plain_of (by kernel_rfl)) rfl (by kernel_rfl) (by kernel_rfl) (fun _ => trivial) (by kernel_rfl) (fun _ _ _ h => h) q7 ?_
    refine wpHeldIn_skip (i := 22) (plain_of (by kernel_rfl)) rfl (by kernel_rfl) (by kernel_rfl) (fun _ => trivial) (by kernel_rfl) (fun _ _ _ h => h) q7 ?_
    refine wpHeldIn_skip (i := 23) (plain_of (by kernel_rfl)) rfl (by kernel_rfl) (by kernel_rfl) (fun _ => trivial) (by kernel_rfl) (fun _ _ _ h => h) q7 ?_
    refine wpHeldIn_skip (i := 24) (plain_of (by kernel_rfl)) rfl (by kernel_rfl) (by kernel_rfl) (fun _ => trivial) (by kernel_rfl) (fun _ _ _ h => h) q7 ?_
    refine wpHeldIn_take (i := 25) (v := ?_) (plain_of (by kernel_rfl)) rfl (by kernel_rfl) (fun _ _ _ h => h) (yieldsSoIn_of (by kernel_rfl) ?_ (fun _ => rfl)) q7 ?_; rotate_left; focus (intro wq hw; clear hw; go_simp; try (with_reducible rfl))
    refine wpHeldIn_take (i := 26) (v := ?_) (plain_of (by kernel_rfl)) rfl (by kernel_rfl) (fun _ _ _ h => h) (yieldsSoIn_of (by kernel_rfl) ?_ (fun _ => rfl)) q7 ?_; rotate_left; focus (intro wq hw; clear hw; go_simp; try (with_reducible rfl))
    refine wpHeldIn_done (by kernel_rfl) ?_ _
    gi_wp2
    go_ret
    exact ⟨ret_b (by simp [hG1]), hB0.trans (q7.mono hB0.size)⟩
set_option maxHeartbeats 4000000 in
theorem meet_some (x1 y1 x2 y2 x3 y3 x4 y4 T1 T2 T3 T4 : Int) (o1 o2 o3 o4 : Bool) (w : World)
    (n1 : Hid (∀ W, Calls Tryz.prog 21 #[.agg #[.int .i64 x1, .int .i64 y1], .agg #[.int .i64 x2, .int .i64 y2], .agg #[.int .i64 x3, .int .i64 y3]] W fun e w' => e = .returned (.bool o1) ∧ Below W.heap.size W w'))
    (n2 : Hid (∀ W, Calls Tryz.prog 21 #[.agg #[.int .i64 x1, .int .i64 y1], .agg #[.int .i64 x2, .int .i64 y2], .agg #[.int .i64 x4, .int .i64 y4]] W fun e w' => e = .returned (.bool o2) ∧ Below W.heap.size W w'))
    (n3 : Hid (∀ W, Calls Tryz.prog 21 #[.agg #[.int .i64 x3, .int .i64 y3], .agg #[.int .i64 x4, .int .i64 y4], .agg #[.int .i64 x1, .int .i64 y1]] W fun e w' => e = .returned (.bool o3) ∧ Below W.heap.size W w'))
    (n4 : Hid (∀ W, Calls Tryz.prog 21 #[.agg #[.int .i64 x3, .int .i64 y3], .agg #[.int .i64 x4, .int .i64 y4], .agg #[.int .i64 x2, .int .i64 y2]] W fun e w' => e = .returned (.bool o4) ∧ Below W.heap.size W w'))
    (ho : (o1 || (o2 || (o3 || o4))) = true) :
    Calls Tryz.prog 22 #[.agg #[.int .i64 x1, .int .i64 y1], .agg #[.int .i64 x2, .int .i64 y2], .agg #[.int .i64 x3, .int .i64 y3], .agg #[.int .i64 x4, .int .i64 y4]] w
      fun e w' => e = .returned (.bool ((o1 || (o2 || (o3 || o4))) || (decide (T1.sign * T2.sign < 0) && decide (T3.sign * T4.sign < 0)))) ∧ Below w.heap.size w w' := by
  cases o1
  · cases o2
    · cases o3
      · cases o4
        · simp at ho
        · go_enter Tryz.func22, Tryz.ntmps22
          go_wp2_with fail
          refine (n1.out _).mono ?_
          rintro e w1 ⟨rfl, hb1⟩
          have hB1 : Below w.heap.size w w1 := Below.trans (by (repeat' (first | (with_reducible exact Below.refl _ _) | (with_reducible assumption) | (with_reducible refine Below.alloc ?_ ?_ _) | (with_reducible refine below_drewN ?_ _) | (with_reducible refine Below.drew ?_) | (with_reducible refine Below.setCell ?_ ?_ _) | go_size))) (hb1.mono (by first | omega | (simp; done) | (simp; omega))); have hz1 := hb1.size; try simp at hz1
          have hl1a : w.heap.size < w1.heap.size := (by omega); have hx1a : w1.cell? ⟨w.heap.size, 0, none⟩ = some (.int .i64 x1) := (by rw [(hb1.cell (by first | omega | (simp; done) | (simp; omega)))]; (repeat (rw [World.cell?_alloc_lt _ _ _ (by first | omega | (simp; done) | (simp; omega))])); go_cell); have hy1a : w1.cell? ⟨w.heap.size, 1, none⟩ = some (.int .i64 y1) := (by rw [(hb1.cell (by first | omega | (simp; done) | (simp; omega)))]; (repeat (rw [World.cell?_alloc_lt _ _ _ (by first | omega | (simp; done) | (simp; omega))])); go_cell)
          have hl1b : w.heap.size + 1 < w1.heap.size := (by omega); have hx1b : w1.cell? ⟨w.heap.size + 1, 0, none⟩ = some (.int .i64 x2) := (by rw [(hb1.cell (by first | omega | (simp; done) | (simp; omega)))]; (repeat (rw [World.cell?_alloc_lt _ _ _ (by first | omega | (simp; done) | (simp; omega))])); go_cell); have hy1b : w1.cell? ⟨w.heap.size + 1, 1, none⟩ = some (.int .i64 y2) := (by rw [(hb1.cell (by first | omega | (simp; done) | (simp; omega)))]; (repeat (rw [World.cell?_alloc_lt _ _ _ (by first | omega | (simp; done) | (simp; omega))])); go_cell)
          have hl1c : w.heap.size + 1 + 1 < w1.heap.size := (by omega); have hx1c : w1.cell? ⟨w.heap.size + 1 + 1, 0, none⟩ = some (.int .i64 x3) := (by rw [(hb1.cell (by first | omega | (simp; done) | (simp; omega)))]; (repeat (rw [World.cell?_alloc_lt _ _ _ (by first | omega | (simp; done) | (simp; omega))])); go_cell); have hy1c : w1.cell? ⟨w.heap.size + 1 + 1, 1, none⟩ = some (.int .i64 y3) := (by rw [(hb1.cell (by first | omega | (simp; done) | (simp; omega)))]; (repeat (rw [World.cell?_alloc_lt _ _ _ (by first | omega | (simp; done) | (simp; omega))])); go_cell)
          have hl1d : w.heap.size + 1 + 1 + 1 < w1.heap.size := (by omega); have hx1d : w1.cell? ⟨w.heap.size + 1 + 1 + 1, 0, none⟩ = some (.int .i64 x4) := (by rw [(hb1.cell (by first | omega | (simp; done) | (simp; omega)))]; (repeat (rw [World.cell?_alloc_lt _ _ _ (by first | omega | (simp; done) | (simp; omega))])); go_cell); have hy1d : w1.cell? ⟨w.heap.size + 1 + 1 + 1, 1, none⟩ = some (.int .i64 y4) := (by rw [(hb1.cell (by first | omega | (simp; done) | (simp; omega)))]; (repeat (rw [World.cell?_alloc_lt _ _ _ (by first | omega | (simp; done) | (simp; omega))])); go_cell)
          go_wp2_with fail
          refine (n2.out _).mono ?_
          rintro e w2 ⟨rfl, hb2⟩
          have hB2 : Below w.heap.size w w2 := Below.trans (by (repeat' (first | (with_reducible exact Below.refl _ _) | (with_reducible assumption) | (with_reducible refine Below.alloc ?_ ?_ _) | (with_reducible refine below_drewN ?_ _) | (with_reducible refine Below.drew ?_) | (with_reducible refine Below.setCell ?_ ?_ _) | go_size))) (hb2.mono (by first | omega | (simp; done) | (simp; omega))); have hz2 := hb2.size; try simp at hz2
          have hl2a : w.heap.size < w2.heap.size := (by omega); have hx2a : w2.cell? ⟨w.heap.size, 0, none⟩ = some (.int .i64 x1) := (by rw [(hb2.cell (by first | omega | (simp; done) | (simp; omega)))]; (repeat (rw [World.cell?_alloc_lt _ _ _ (by first | omega | (simp; done) | (simp; omega))])); go_cell); have hy2a : w2.cell? ⟨w.heap.size, 1, none⟩ = some (.int .i64 y1) := (by rw [(hb2.cell (by first | omega | (simp; done) | (simp; omega)))]; (repeat (rw [World.cell?_alloc_lt _ _ _ (by first | omega | (simp; done) | (simp; omega))])); go_cell)
          have hl2b : w.heap.size + 1 < w2.heap.size := (by omega); have hx2b : w2.cell? ⟨w.heap.size + 1, 0, none⟩ = some (.int .i64 x2) := (by rw [(hb2.cell (by first | omega | (simp; done) | (simp; omega)))]; (repeat (rw [World.cell?_alloc_lt _ _ _ (by first | omega | (simp; done) | (simp; omega))])); go_cell); have hy2b : w2.cell? ⟨w.heap.size + 1, 1, none⟩ = some (.int .i64 y2) := (by rw [(hb2.cell (by first | omega | (simp; done) | (simp; omega)))]; (repeat (rw [World.cell?_alloc_lt _ _ _ (by first | omega | (simp; done) | (simp; omega))])); go_cell)
          have hl2c : w.heap.size + 1 + 1 < w2.heap.size := (by omega); have hx2c : w2.cell? ⟨w.heap.size + 1 + 1, 0, none⟩ = some (.int .i64 x3) := (by rw [(hb2.cell (by first | omega | (simp; done) | (simp; omega)))]; (repeat (rw [World.cell?_alloc_lt _ _ _ (by first | omega | (simp; done) | (simp; omega))])); go_cell); have hy2c : w2.cell? ⟨w.heap.size + 1 + 1, 1, none⟩ = some (.int .i64 y3) := (by rw [(hb2.cell (by first | omega | (simp; done) | (simp; omega)))]; (repeat (rw [World.cell?_alloc_lt _ _ _ (by first | omega | (simp; done) | (simp; omega))])); go_cell)
          have hl2d : w.heap.size + 1 + 1 + 1 < w2.heap.size := (by omega); have hx2d : w2.cell? ⟨w.heap.size + 1 + 1 + 1, 0, none⟩ = some (.int .i64 x4) := (by rw [(hb2.cell (by first | omega | (simp; done) | (simp; omega)))]; (repeat (rw [World.cell?_alloc_lt _ _ _ (by first | omega | (simp; done) | (simp; omega))])); go_cell); have hy2d : w2.cell? ⟨w.heap.size + 1 + 1 + 1, 1, none⟩ = some (.int .i64 y4) := (by rw [(hb2.cell (by first | omega | (simp; done) | (simp; omega)))]; (repeat (rw [World.cell?_alloc_lt _ _ _ (by first | omega | (simp; done) | (simp; omega))])); go_cell)
          go_wp2_with fail
          refine (n3.out _).mono ?_
          rintro e w3 ⟨rfl, hb3⟩
          have hB3 : Below w.heap.size w w3 := Below.trans (by (repeat' (first | (with_reducible exact Below.refl _ _) | (with_reducible assumption) | (with_reducible refine Below.alloc ?_ ?_ _) | (with_reducible refine below_drewN ?_ _) | (with_reducible refine Below.drew ?_) | (with_reducible refine Below.setCell ?_ ?_ _) | go_size))) (hb3.mono (by first | omega | (simp; done) | (simp; omega))); have hz3 := hb3.size; try simp at hz3
          have hl3a : w.heap.size < w3.heap.size := (by omega); have hx3a : w3.cell? ⟨w.heap.size, 0, none⟩ = some (.int .i64 x1) := (by rw [(hb3.cell (by first | omega | (simp; done) | (simp; omega)))]; (repeat (rw [World.cell?_alloc_lt _ _ _ (by first | omega | (simp; done) | (simp; omega))])); go_cell); have hy3a : w3.cell? ⟨w.heap.size, 1, none⟩ = some (.int .i64 y1) := (by rw [(hb3.cell (by first | omega | (simp; done) | (simp; omega)))]; (repeat (rw [World.cell?_alloc_lt _ _ _ (by first | omega | (simp; done) | (simp; omega))])); go_cell)
          have hl3b : w.heap.size + 1 < w3.heap.size := (by omega); have hx3b : w3.cell? ⟨w.heap.size + 1, 0, none⟩ = some (.int .i64 x2) := (by rw [(hb3.cell (by first | omega | (simp; done) | (simp; omega)))]; (repeat (rw [World.cell?_alloc_lt _ _ _ (by first | omega | (simp; done) | (simp; omega))])); go_cell); have hy3b : w3.cell? ⟨w.heap.size + 1, 1, none⟩ = some (.int .i64 y2) := (by rw [(hb3.cell (by first | omega | (simp; done) | (simp; omega)))]; (repeat (rw [World.cell?_alloc_lt _ _ _ (by first | omega | (simp; done) | (simp; omega))])); go_cell)
          have hl3c : w.heap.size + 1 + 1 < w3.heap.size := (by omega); have hx3c : w3.cell? ⟨w.heap.size + 1 + 1, 0, none⟩ = some (.int .i64 x3) := (by rw [(hb3.cell (by first | omega | (simp; done) | (simp; omega)))]; (repeat (rw [World.cell?_alloc_lt _ _ _ (by first | omega | (simp; done) | (simp; omega))])); go_cell); have hy3c : w3.cell? ⟨w.heap.size + 1 + 1, 1, none⟩ = some (.int .i64 y3) := (by rw [(hb3.cell (by first | omega | (simp; done) | (simp; omega)))]; (repeat (rw [World.cell?_alloc_lt _ _ _ (by first | omega | (simp; done) | (simp; omega))])); go_cell)
          have hl3d : w.heap.size + 1 + 1 + 1 < w3.heap.size := (by omega); have hx3d : w3.cell? ⟨w.heap.size + 1 + 1 + 1, 0, none⟩ = some (.int .i64 x4) := (by rw [(hb3.cell (by first | omega | (simp; done) | (simp; omega)))]; (repeat (rw [World.cell?_alloc_lt _ _ _ (by first | omega | (simp; done) | (simp; omega))])); go_cell); have hy3d : w3.cell? ⟨w.heap.size + 1 + 1 + 1, 1, none⟩ = some (.int .i64 y4) := (by rw [(hb3.cell (by first | omega | (simp; done) | (simp; omega)))]; (repeat (rw [World.cell?_alloc_lt _ _ _ (by first | omega | (simp; done) | (simp; omega))])); go_cell)
          go_wp2_with fail
          refine (n4.out _).mono ?_
          rintro e w4 ⟨rfl, hb4⟩
          have hB4 : Below w.heap.size w w4 := Below.trans (by (repeat' (first | (with_reducible exact Below.refl _ _) | (with_reducible assumption) | (with_reducible refine Below.alloc ?_ ?_ _) | (with_reducible refine below_drewN ?_ _) | (with_reducible refine Below.drew ?_) | (with_reducible refine Below.setCell ?_ ?_ _) | go_size))) (hb4.mono (by first | omega | (simp; done) | (simp; omega))); have hz4 := hb4.size; try simp at hz4
          have hl4a : w.heap.size < w4.heap.size := (by omega); have hx4a : w4.cell? ⟨w.heap.size, 0, none⟩ = some (.int .i64 x1) := (by rw [(hb4.cell (by first | omega | (simp; done) | (simp; omega)))]; (repeat (rw [World.cell?_alloc_lt _ _ _ (by first | omega | (simp; done) | (simp; omega))])); go_cell); have hy4a : w4.cell? ⟨w.heap.size, 1, none⟩ = some (.int .i64 y1) := (by rw [(hb4.cell (by first | omega | (simp; done) | (simp; omega)))]; (repeat (rw [World.cell?_alloc_lt _ _ _ (by first | omega | (simp; done) | (simp; omega))])); go_cell)
          have hl4b : w.heap.size + 1 < w4.heap.size := (by omega); have hx4b : w4.cell? ⟨w.heap.size + 1, 0, none⟩ = some (.int .i64 x2) := (by rw [(hb4.cell (by first | omega | (simp; done) | (simp; omega)))]; (repeat (rw [World.cell?_alloc_lt _ _ _ (by first | omega | (simp; done) | (simp; omega))])); go_cell); have hy4b : w4.cell? ⟨w.heap.size + 1, 1, none⟩ = some (.int .i64 y2) := (by rw [(hb4.cell (by first | omega | (simp; done) | (simp; omega)))]; (repeat (rw [World.cell?_alloc_lt _ _ _ (by first | omega | (simp; done) | (simp; omega))])); go_cell)
          have hl4c : w.heap.size + 1 + 1 < w4.heap.size := (by omega); have hx4c : w4.cell? ⟨w.heap.size + 1 + 1, 0, none⟩ = some (.int .i64 x3) := (by rw [(hb4.cell (by first | omega | (simp; done) | (simp; omega)))]; (repeat (rw [World.cell?_alloc_lt _ _ _ (by first | omega | (simp; done) | (simp; omega))])); go_cell); have hy4c : w4.cell? ⟨w.heap.size + 1 + 1, 1, none⟩ = some (.int .i64 y3) := (by rw [(hb4.cell (by first | omega | (simp; done) | (simp; omega)))]; (repeat (rw [World.cell?_alloc_lt _ _ _ (by first | omega | (simp; done) | (simp; omega))])); go_cell)
          have hl4d : w.heap.size + 1 + 1 + 1 < w4.heap.size := (by omega); have hx4d : w4.cell? ⟨w.heap.size + 1 + 1 + 1, 0, none⟩ = some (.int .i64 x4) := (by rw [(hb4.cell (by first | omega | (simp; done) | (simp; omega)))]; (repeat (rw [World.cell?_alloc_lt _ _ _ (by first | omega | (simp; done) | (simp; omega))])); go_cell); have hy4d : w4.cell? ⟨w.heap.size + 1 + 1 + 1, 1, none⟩ = some (.int .i64 y4) := (by rw [(hb4.cell (by first | omega | (simp; done) | (simp; omega)))]; (repeat (rw [World.cell?_alloc_lt _ _ _ (by first | omega | (simp; done) | (simp; omega))])); go_cell)
          go_wp2_with fail
          go_returns
          exact ⟨ret_b (by simp), by (repeat' (first | (with_reducible exact Below.refl _ _) | (with_reducible assumption) | (with_reducible refine Below.alloc ?_ ?_ _) | (with_reducible refine below_drewN ?_ _) | (with_reducible refine Below.drew ?_) | (with_reducible refine Below.setCell ?_ ?_ _) | go_size))⟩
      · go_enter Tryz.func22, Tryz.ntmps22
        go_wp2_with fail
        refine (n1.out _).mono ?_
        rintro e w1 ⟨rfl, hb1⟩
        have hB1 : Below w.heap.size w w1 := Below.trans (by (repeat' (first | (with_reducible exact Below.refl _ _) | (with_reducible assumption) | (with_reducible refine Below.alloc ?_ ?_ _) | (with_reducible refine below_drewN ?_ _) | (with_reducible refine Below.drew ?_) | (with_reducible refine Below.setCell ?_ ?_ _) | go_size))) (hb1.mono (by first | omega | (simp; done) | (simp; omega))); have hz1 := hb1.size; try simp at hz1
        have hl1a : w.heap.size < w1.heap.size := (by omega); have hx1a : w1.cell? ⟨w.heap.size, 0, none⟩ = some (.int .i64 x1) := (by rw [(hb1.cell (by first | omega | (simp; done) | (simp; omega)))]; (repeat (rw [World.cell?_alloc_lt _ _ _ (by first | omega | (simp; done) | (simp; omega))])); go_cell); have hy1a : w1.cell? ⟨w.heap.size, 1, none⟩ = some (.int .i64 y1) := (by rw [(hb1.cell (by first | omega | (simp; done) | (simp; omega)))]; (repeat (rw [World.cell?_alloc_lt _ _ _ (by first | omega | (simp; done) | (simp; omega))])); go_cell)
        have hl1b : w.heap.size + 1 < w1.heap.size := (by omega); have hx1b : w1.cell? ⟨w.heap.size + 1, 0, none⟩ = some (.int .i64 x2) := (by rw [(hb1.cell (by first | omega | (simp; done) | (simp; omega)))]; (repeat (rw [World.cell?_alloc_lt _ _ _ (by first | omega | (simp; done) | (simp; omega))])); go_cell); have hy1b : w1.cell? ⟨w.heap.size + 1, 1, none⟩ = some (.int .i64 y2) := (by rw [(hb1.cell (by first | omega | (simp; done) | (simp; omega)))]; (repeat (rw [World.cell?_alloc_lt _ _ _ (by first | omega | (simp; done) | (simp; omega))])); go_cell)
        have hl1c : w.heap.size + 1 + 1 < w1.heap.size := (by omega); have hx1c : w1.cell? ⟨w.heap.size + 1 + 1, 0, none⟩ = some (.int .i64 x3) := (by rw [(hb1.cell (by first | omega | (simp; done) | (simp; omega)))]; (repeat (rw [World.cell?_alloc_lt _ _ _ (by first | omega | (simp; done) | (simp; omega))])); go_cell); have hy1c : w1.cell? ⟨w.heap.size + 1 + 1, 1, none⟩ = some (.int .i64 y3) := (by rw [(hb1.cell (by first | omega | (simp; done) | (simp; omega)))]; (repeat (rw [World.cell?_alloc_lt _ _ _ (by first | omega | (simp; done) | (simp; omega))])); go_cell)
        have hl1d : w.heap.size + 1 + 1 + 1 < w1.heap.size := (by omega); have hx1d : w1.cell? ⟨w.heap.size + 1 + 1 + 1, 0, none⟩ = some (.int .i64 x4) := (by rw [(hb1.cell (by first | omega | (simp; done) | (simp; omega)))]; (repeat (rw [World.cell?_alloc_lt _ _ _ (by first | omega | (simp; done) | (simp; omega))])); go_cell); have hy1d : w1.cell? ⟨w.heap.size + 1 + 1 + 1, 1, none⟩ = some (.int .i64 y4) := (by rw [(hb1.cell (by first | omega | (simp; done) | (simp; omega)))]; (repeat (rw [World.cell?_alloc_lt _ _ _ (by first | omega | (simp; done) | (simp; omega))])); go_cell)
        go_wp2_with fail
        refine (n2.out _).mono ?_
        rintro e w2 ⟨rfl, hb2⟩
        have hB2 : Below w.heap.size w w2 := Below.trans (by (repeat' (first | (with_reducible exact Below.refl _ _) | (with_reducible assumption) | (with_reducible refine Below.alloc ?_ ?_ _) | (with_reducible refine below_drewN ?_ _) | (with_reducible refine Below.drew ?_) | (with_reducible refine Below.setCell ?_ ?_ _) | go_size))) (hb2.mono (by first | omega | (simp; done) | (simp; omega))); have hz2 := hb2.size; try simp at hz2
        have hl2a : w.heap.size < w2.heap.size := (by omega); have hx2a : w2.cell? ⟨w.heap.size, 0, none⟩ = some (.int .i64 x1) := (by rw [(hb2.cell (by first | omega | (simp; done) | (simp; omega)))]; (repeat (rw [World.cell?_alloc_lt _ _ _ (by first | omega | (simp; done) | (simp; omega))])); go_cell); have hy2a : w2.cell? ⟨w.heap.size, 1, none⟩ = some (.int .i64 y1) := (by rw [(hb2.cell (by first | omega | (simp; done) | (simp; omega)))]; (repeat (rw [World.cell?_alloc_lt _ _ _ (by first | omega | (simp; done) | (simp; omega))])); go_cell)
        have hl2b : w.heap.size + 1 < w2.heap.size := (by omega); have hx2b : w2.cell? ⟨w.heap.size + 1, 0, none⟩ = some (.int .i64 x2) := (by rw [(hb2.cell (by first | omega | (simp; done) | (simp; omega)))]; (repeat (rw [World.cell?_alloc_lt _ _ _ (by first | omega | (simp; done) | (simp; omega))])); go_cell); have hy2b : w2.cell? ⟨w.heap.size + 1, 1, none⟩ = some (.int .i64 y2) := (by rw [(hb2.cell (by first | omega | (simp; done) | (simp; omega)))]; (repeat (rw [World.cell?_alloc_lt _ _ _ (by first | omega | (simp; done) | (simp; omega))])); go_cell)
        have hl2c : w.heap.size + 1 + 1 < w2.heap.size := (by omega); have hx2c : w2.cell? ⟨w.heap.size + 1 + 1, 0, none⟩ = some (.int .i64 x3) := (by rw [(hb2.cell (by first | omega | (simp; done) | (simp; omega)))]; (repeat (rw [World.cell?_alloc_lt _ _ _ (by first | omega | (simp; done) | (simp; omega))])); go_cell); have hy2c : w2.cell? ⟨w.heap.size + 1 + 1, 1, none⟩ = some (.int .i64 y3) := (by rw [(hb2.cell (by first | omega | (simp; done) | (simp; omega)))]; (repeat (rw [World.cell?_alloc_lt _ _ _ (by first | omega | (simp; done) | (simp; omega))])); go_cell)
        have hl2d : w.heap.size + 1 + 1 + 1 < w2.heap.size := (by omega); have hx2d : w2.cell? ⟨w.heap.size + 1 + 1 + 1, 0, none⟩ = some (.int .i64 x4) := (by rw [(hb2.cell (by first | omega | (simp; done) | (simp; omega)))]; (repeat (rw [World.cell?_alloc_lt _ _ _ (by first | omega | (simp; done) | (simp; omega))])); go_cell); have hy2d : w2.cell? ⟨w.heap.size + 1 + 1 + 1, 1, none⟩ = some (.int .i64 y4) := (by rw [(hb2.cell (by first | omega | (simp; done) | (simp; omega)))]; (repeat (rw [World.cell?_alloc_lt _ _ _ (by first | omega | (simp; done) | (simp; omega))])); go_cell)
        go_wp2_with fail
        refine (n3.out _).mono ?_
        rintro e w3 ⟨rfl, hb3⟩
        have hB3 : Below w.heap.size w w3 := Below.trans (by (repeat' (first | (with_reducible exact Below.refl _ _) | (with_reducible assumption) | (with_reducible refine Below.alloc ?_ ?_ _) | (with_reducible refine below_drewN ?_ _) | (with_reducible refine Below.drew ?_) | (with_reducible refine Below.setCell ?_ ?_ _) | go_size))) (hb3.mono (by first | omega | (simp; done) | (simp; omega))); have hz3 := hb3.size; try simp at hz3
        have hl3a : w.heap.size < w3.heap.size := (by omega); have hx3a : w3.cell? ⟨w.heap.size, 0, none⟩ = some (.int .i64 x1) := (by rw [(hb3.cell (by first | omega | (simp; done) | (simp; omega)))]; (repeat (rw [World.cell?_alloc_lt _ _ _ (by first | omega | (simp; done) | (simp; omega))])); go_cell); have hy3a : w3.cell? ⟨w.heap.size, 1, none⟩ = some (.int .i64 y1) := (by rw [(hb3.cell (by first | omega | (simp; done) | (simp; omega)))]; (repeat (rw [World.cell?_alloc_lt _ _ _ (by first | omega | (simp; done) | (simp; omega))])); go_cell)
        have hl3b : w.heap.size + 1 < w3.heap.size := (by omega); have hx3b : w3.cell? ⟨w.heap.size + 1, 0, none⟩ = some (.int .i64 x2) := (by rw [(hb3.cell (by first | omega | (simp; done) | (simp; omega)))]; (repeat (rw [World.cell?_alloc_lt _ _ _ (by first | omega | (simp; done) | (simp; omega))])); go_cell); have hy3b : w3.cell? ⟨w.heap.size + 1, 1, none⟩ = some (.int .i64 y2) := (by rw [(hb3.cell (by first | omega | (simp; done) | (simp; omega)))]; (repeat (rw [World.cell?_alloc_lt _ _ _ (by first | omega | (simp; done) | (simp; omega))])); go_cell)
        have hl3c : w.heap.size + 1 + 1 < w3.heap.size := (by omega); have hx3c : w3.cell? ⟨w.heap.size + 1 + 1, 0, none⟩ = some (.int .i64 x3) := (by rw [(hb3.cell (by first | omega | (simp; done) | (simp; omega)))]; (repeat (rw [World.cell?_alloc_lt _ _ _ (by first | omega | (simp; done) | (simp; omega))])); go_cell); have hy3c : w3.cell? ⟨w.heap.size + 1 + 1, 1, none⟩ = some (.int .i64 y3) := (by rw [(hb3.cell (by first | omega | (simp; done) | (simp; omega)))]; (repeat (rw [World.cell?_alloc_lt _ _ _ (by first | omega | (simp; done) | (simp; omega))])); go_cell)
        have hl3d : w.heap.size + 1 + 1 + 1 < w3.heap.size := (by omega); have hx3d : w3.cell? ⟨w.heap.size + 1 + 1 + 1, 0, none⟩ = some (.int .i64 x4) := (by rw [(hb3.cell (by first | omega | (simp; done) | (simp; omega)))]; (repeat (rw [World.cell?_alloc_lt _ _ _ (by first | omega | (simp; done) | (simp; omega))])); go_cell); have hy3d : w3.cell? ⟨w.heap.size + 1 + 1 + 1, 1, none⟩ = some (.int .i64 y4) := (by rw [(hb3.cell (by first | omega | (simp; done) | (simp; omega)))]; (repeat (rw [World.cell?_alloc_lt _ _ _ (by first | omega | (simp; done) | (simp; omega))])); go_cell)
        go_wp2_with fail
        go_returns
        exact ⟨ret_b (by simp), by (repeat' (first | (with_reducible exact Below.refl _ _) | (with_reducible assumption) | (with_reducible refine Below.alloc ?_ ?_ _) | (with_reducible refine below_drewN ?_ _) | (with_reducible refine Below.drew ?_) | (with_reducible refine Below.setCell ?_ ?_ _) | go_size))⟩
    · go_enter Tryz.func22, Tryz.ntmps22
      go_wp2_with fail
      refine (n1.out _).mono ?_
      rintro e w1 ⟨rfl, hb1⟩
      have hB1 : Below w.heap.size w w1 := Below.trans (by (repeat' (first | (with_reducible exact Below.refl _ _) | (with_reducible assumption) | (with_reducible refine Below.alloc ?_ ?_ _) | (with_reducible refine below_drewN ?_ _) | (with_reducible refine Below.drew ?_) | (with_reducible refine Below.setCell ?_ ?_ _) | go_size))) (hb1.mono (by first | omega | (simp; done) | (simp; omega))); have hz1 := hb1.size; try simp at hz1
      have hl1a : w.heap.size < w1.heap.size := (by omega); have hx1a : w1.cell? ⟨w.heap.size, 0, none⟩ = some (.int .i64 x1) := (by rw [(hb1.cell (by first | omega | (simp; done) | (simp; omega)))]; (repeat (rw [World.cell?_alloc_lt _ _ _ (by first | omega | (simp; done) | (simp; omega))])); go_cell); have hy1a : w1.cell? ⟨w.heap.size, 1, none⟩ = some (.int .i64 y1) := (by rw [(hb1.cell (by first | omega | (simp; done) | (simp; omega)))]; (repeat (rw [World.cell?_alloc_lt _ _ _ (by first | omega | (simp; done) | (simp; omega))])); go_cell)
      have hl1b : w.heap.size + 1 < w1.heap.size := (by omega); have hx1b : w1.cell? ⟨w.heap.size + 1, 0, none⟩ = some (.int .i64 x2) := (by rw [(hb1.cell (by first | omega | (simp; done) | (simp; omega)))]; (repeat (rw [World.cell?_alloc_lt _ _ _ (by first | omega | (simp; done) | (simp; omega))])); go_cell); have hy1b : w1.cell? ⟨w.heap.size + 1, 1, none⟩ = some (.int .i64 y2) := (by rw [(hb1.cell (by first | omega | (simp; done) | (simp; omega)))]; (repeat (rw [World.cell?_alloc_lt _ _ _ (by first | omega | (simp; done) | (simp; omega))])); go_cell)
      have hl1c : w.heap.size + 1 + 1 < w1.heap.size := (by omega); have hx1c : w1.cell? ⟨w.heap.size + 1 + 1, 0, none⟩ = some (.int .i64 x3) := (by rw [(hb1.cell (by first | omega | (simp; done) | (simp; omega)))]; (repeat (rw [World.cell?_alloc_lt _ _ _ (by first | omega | (simp; done) | (simp; omega))])); go_cell); have hy1c : w1.cell? ⟨w.heap.size + 1 + 1, 1, none⟩ = some (.int .i64 y3) := (by rw [(hb1.cell (by first | omega | (simp; done) | (simp; omega)))]; (repeat (rw [World.cell?_alloc_lt _ _ _ (by first | omega | (simp; done) | (simp; omega))])); go_cell)
      have hl1d : w.heap.size + 1 + 1 + 1 < w1.heap.size := (by omega); have hx1d : w1.cell? ⟨w.heap.size + 1 + 1 + 1, 0, none⟩ = some (.int .i64 x4) := (by rw [(hb1.cell (by first | omega | (simp; done) | (simp; omega)))]; (repeat (rw [World.cell?_alloc_lt _ _ _ (by first | omega | (simp; done) | (simp; omega))])); go_cell); have hy1d : w1.cell? ⟨w.heap.size + 1 + 1 + 1, 1, none⟩ = some (.int .i64 y4) := (by rw [(hb1.cell (by first | omega | (simp; done) | (simp; omega)))]; (repeat (rw [World.cell?_alloc_lt _ _ _ (by first | omega | (simp; done) | (simp; omega))])); go_cell)
      go_wp2_with fail
      refine (n2.out _).mono ?_
      rintro e w2 ⟨rfl, hb2⟩
      have hB2 : Below w.heap.size w w2 := Below.trans (by (repeat' (first | (with_reducible exact Below.refl _ _) | (with_reducible assumption) | (with_reducible refine Below.alloc ?_ ?_ _) | (with_reducible refine below_drewN ?_ _) | (with_reducible refine Below.drew ?_) | (with_reducible refine Below.setCell ?_ ?_ _) | go_size))) (hb2.mono (by first | omega | (simp; done) | (simp; omega))); have hz2 := hb2.size; try simp at hz2
      have hl2a : w.heap.size < w2.heap.size := (by omega); have hx2a : w2.cell? ⟨w.heap.size, 0, none⟩ = some (.int .i64 x1) := (by rw [(hb2.cell (by first | omega | (simp; done) | (simp; omega)))]; (repeat (rw [World.cell?_alloc_lt _ _ _ (by first | omega | (simp; done) | (simp; omega))])); go_cell); have hy2a : w2.cell? ⟨w.heap.size, 1, none⟩ = some (.int .i64 y1) := (by rw [(hb2.cell (by first | omega | (simp; done) | (simp; omega)))]; (repeat (rw [World.cell?_alloc_lt _ _ _ (by first | omega | (simp; done) | (simp; omega))])); go_cell)
      have hl2b : w.heap.size + 1 < w2.heap.size := (by omega); have hx2b : w2.cell? ⟨w.heap.size + 1, 0, none⟩ = some (.int .i64 x2) := (by rw [(hb2.cell (by first | omega | (simp; done) | (simp; omega)))]; (repeat (rw [World.cell?_alloc_lt _ _ _ (by first | omega | (simp; done) | (simp; omega))])); go_cell); have hy2b : w2.cell? ⟨w.heap.size + 1, 1, none⟩ = some (.int .i64 y2) := (by rw [(hb2.cell (by first | omega | (simp; done) | (simp; omega)))]; (repeat (rw [World.cell?_alloc_lt _ _ _ (by first | omega | (simp; done) | (simp; omega))])); go_cell)
      have hl2c : w.heap.size + 1 + 1 < w2.heap.size := (by omega); have hx2c : w2.cell? ⟨w.heap.size + 1 + 1, 0, none⟩ = some (.int .i64 x3) := (by rw [(hb2.cell (by first | omega | (simp; done) | (simp; omega)))]; (repeat (rw [World.cell?_alloc_lt _ _ _ (by first | omega | (simp; done) | (simp; omega))])); go_cell); have hy2c : w2.cell? ⟨w.heap.size + 1 + 1, 1, none⟩ = some (.int .i64 y3) := (by rw [(hb2.cell (by first | omega | (simp; done) | (simp; omega)))]; (repeat (rw [World.cell?_alloc_lt _ _ _ (by first | omega | (simp; done) | (simp; omega))])); go_cell)
      have hl2d : w.heap.size + 1 + 1 + 1 < w2.heap.size := (by omega); have hx2d : w2.cell? ⟨w.heap.size + 1 + 1 + 1, 0, none⟩ = some (.int .i64 x4) := (by rw [(hb2.cell (by first | omega | (simp; done) | (simp; omega)))]; (repeat (rw [World.cell?_alloc_lt _ _ _ (by first | omega | (simp; done) | (simp; omega))])); go_cell); have hy2d : w2.cell? ⟨w.heap.size + 1 + 1 + 1, 1, none⟩ = some (.int .i64 y4) := (by rw [(hb2.cell (by first | omega | (simp; done) | (simp; omega)))]; (repeat (rw [World.cell?_alloc_lt _ _ _ (by first | omega | (simp; done) | (simp; omega))])); go_cell)
      go_wp2_with fail
      go_returns
      exact ⟨ret_b (by simp), by (repeat' (first | (with_reducible exact Below.refl _ _) | (with_reducible assumption) | (with_reducible refine Below.alloc ?_ ?_ _) | (with_reducible refine below_drewN ?_ _) | (with_reducible refine Below.drew ?_) | (with_reducible refine Below.setCell ?_ ?_ _) | go_size))⟩
  · go_enter Tryz.func22, Tryz.ntmps22
    go_wp2_with fail
    refine (n1.out _).mono ?_
    rintro e w1 ⟨rfl, hb1⟩
    have hB1 : Below w.heap.size w w1 := Below.trans (by (repeat' (first | (with_reducible exact Below.refl _ _) | (with_reducible assumption) | (with_reducible refine Below.alloc ?_ ?_ _) | (with_reducible refine below_drewN ?_ _) | (with_reducible refine Below.drew ?_) | (with_reducible refine Below.setCell ?_ ?_ _) | go_size))) (hb1.mono (by first | omega | (simp; done) | (simp; omega))); have hz1 := hb1.size; try simp at hz1
    have hl1a : w.heap.size < w1.heap.size := (by omega); have hx1a : w1.cell? ⟨w.heap.size, 0, none⟩ = some (.int .i64 x1) := (by rw [(hb1.cell (by first | omega | (simp; done) | (simp; omega)))]; (repeat (rw [World.cell?_alloc_lt _ _ _ (by first | omega | (simp; done) | (simp; omega))])); go_cell); have hy1a : w1.cell? ⟨w.heap.size, 1, none⟩ = some (.int .i64 y1) := (by rw [(hb1.cell (by first | omega | (simp; done) | (simp; omega)))]; (repeat (rw [World.cell?_alloc_lt _ _ _ (by first | omega | (simp; done) | (simp; omega))])); go_cell)
    have hl1b : w.heap.size + 1 < w1.heap.size := (by omega); have hx1b : w1.cell? ⟨w.heap.size + 1, 0, none⟩ = some (.int .i64 x2) := (by rw [(hb1.cell (by first | omega | (simp; done) | (simp; omega)))]; (repeat (rw [World.cell?_alloc_lt _ _ _ (by first | omega | (simp; done) | (simp; omega))])); go_cell); have hy1b : w1.cell? ⟨w.heap.size + 1, 1, none⟩ = some (.int .i64 y2) := (by rw [(hb1.cell (by first | omega | (simp; done) | (simp; omega)))]; (repeat (rw [World.cell?_alloc_lt _ _ _ (by first | omega | (simp; done) | (simp; omega))])); go_cell)
    have hl1c : w.heap.size + 1 + 1 < w1.heap.size := (by omega); have hx1c : w1.cell? ⟨w.heap.size + 1 + 1, 0, none⟩ = some (.int .i64 x3) := (by rw [(hb1.cell (by first | omega | (simp; done) | (simp; omega)))]; (repeat (rw [World.cell?_alloc_lt _ _ _ (by first | omega | (simp; done) | (simp; omega))])); go_cell); have hy1c : w1.cell? ⟨w.heap.size + 1 + 1, 1, none⟩ = some (.int .i64 y3) := (by rw [(hb1.cell (by first | omega | (simp; done) | (simp; omega)))]; (repeat (rw [World.cell?_alloc_lt _ _ _ (by first | omega | (simp; done) | (simp; omega))])); go_cell)
    have hl1d : w.heap.size + 1 + 1 + 1 < w1.heap.size := (by omega); have hx1d : w1.cell? ⟨w.heap.size + 1 + 1 + 1, 0, none⟩ = some (.int .i64 x4) := (by rw [(hb1.cell (by first | omega | (simp; done) | (simp; omega)))]; (repeat (rw [World.cell?_alloc_lt _ _ _ (by first | omega | (simp; done) | (simp; omega))])); go_cell); have hy1d : w1.cell? ⟨w.heap.size + 1 + 1 + 1, 1, none⟩ = some (.int .i64 y4) := (by rw [(hb1.cell (by first | omega | (simp; done) | (simp; omega)))]; (repeat (rw [World.cell?_alloc_lt _ _ _ (by first | omega | (simp; done) | (simp; omega))])); go_cell)
    go_wp2_with fail
    go_returns
    exact ⟨ret_b (by simp), by (repeat' (first | (with_reducible exact Below.refl _ _) | (with_reducible assumption) | (with_reducible refine Below.alloc ?_ ?_ _) | (with_reducible refine below_drewN ?_ _) | (with_reducible refine Below.drew ?_) | (with_reducible refine Below.setCell ?_ ?_ _) | go_size))⟩


set_option maxHeartbeats 400000 in
theorem meet_any (x1 y1 x2 y2 x3 y3 x4 y4 : Int) (w : World) (h1 : Geo.sm (x1, y1)) (h2 : Geo.sm (x2, y2)) (h3 : Geo.sm (x3, y3)) (h4 : Geo.sm (x4, y4)) :
    Calls Tryz.prog 22 #[.agg #[.int .i64 x1, .int .i64 y1], .agg #[.int .i64 x2, .int .i64 y2], .agg #[.int .i64 x3, .int .i64 y3], .agg #[.int .i64 x4, .int .i64 y4]] w fun e w' => e = .returned (.bool (Geo.meetB (x1, y1) (x2, y2) (x3, y3) (x4, y4))) ∧ Below w.heap.size w w' := by
  have m1 := fun W => On_any x1 y1 x2 y2 x3 y3 W h1 h2 h3
  have m2 := fun W => On_any x1 y1 x2 y2 x4 y4 W h1 h2 h4
  have m3 := fun W => On_any x3 y3 x4 y4 x1 y1 W h3 h4 h1
  have m4 := fun W => On_any x3 y3 x4 y4 x2 y2 W h3 h4 h2
  have r1 := fun W => Turn_any x1 y1 x2 y2 x3 y3 W h1 h2 h3
  have r2 := fun W => Turn_any x1 y1 x2 y2 x4 y4 W h1 h2 h4
  have r3 := fun W => Turn_any x3 y3 x4 y4 x1 y1 W h3 h4 h1
  have r4 := fun W => Turn_any x3 y3 x4 y4 x2 y2 W h3 h4 h2
  have d1 := (Geo.turn_bd h1 h2 h3).2.2
  have d2 := (Geo.turn_bd h1 h2 h4).2.2
  have d3 := (Geo.turn_bd h3 h4 h1).2.2
  have d4 := (Geo.turn_bd h3 h4 h2).2.2
  unfold Geo.meetB Geo.someOn
  cases ho : (Geo.onB (x1, y1) (x2, y2) (x3, y3) || (Geo.onB (x1, y1) (x2, y2) (x4, y4) || (Geo.onB (x3, y3) (x4, y4) (x1, y1) || Geo.onB (x3, y3) (x4, y4) (x2, y2)))) with
  | true =>
    have := meet_some x1 y1 x2 y2 x3 y3 x4 y4 (Geo.turn (x1, y1) (x2, y2) (x3, y3)) (Geo.turn (x1, y1) (x2, y2) (x4, y4)) (Geo.turn (x3, y3) (x4, y4) (x1, y1)) (Geo.turn (x3, y3) (x4, y4) (x2, y2)) _ _ _ _ w m1 m2 m3 m4 ho
    rw [ho] at this
    exact this
  | false =>
    simp only [Bool.or_eq_false_iff] at ho
    obtain ⟨o1, o2, o3, o4⟩ := ho
    rw [o1] at m1
    rw [o2] at m2
    rw [o3] at m3
    rw [o4] at m4
    rw [Bool.false_or]
    exact (callsIn_wide (n := 4)).1 (meet_none x1 y1 x2 y2 x3 y3 x4 y4 _ _ _ _ w m1 m2 m3 m4 r1 r2 r3 r4 d1 d2 d3 d4)
end Go.Proofs.YtmjcdggmofohcaaGreat
