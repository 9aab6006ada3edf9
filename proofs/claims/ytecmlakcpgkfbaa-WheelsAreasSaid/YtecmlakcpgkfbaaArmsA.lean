/- Contracts of the small functions of arms and of its specification: sizes, divisors, validity of ratios. -/
import Derived.Test.YtecmlakcpgkfbaaChecked
import Derived.Test.YtecmlakcpgkfbaaArmsPlain
import Derived.WalkKit
import Derived.WalkSpells
import Derived.WalkLawsBesides
import Derived.Lib.Hide
import Derived.BigQuiet
import Derived.Deep.QuietTactic
namespace Go.Proofs.Ytecmlakcpgkfbaa
open Go.RowKit


theorem withoutSign_any (n : Int) (w : World) (h0 : -9000000000000000000 ≤ n) (h1 : n ≤ 9000000000000000000) :
    Calls Try.prog 103 #[.int .i64 n] w fun e w' => e = .returned (.int .i64 (n.natAbs : Int)) ∧ w = w' := by
  by_cases h : 0 ≤ n
  · go_enter Try.func103, Try.ntmps103
    go_wp2
    go_ret
    exact ⟨ret_i (by omega), rfl⟩
  · go_enter Try.func103, Try.ntmps103
    go_wp2
    go_ret
    exact ⟨ret_i (by omega), rfl⟩

theorem Within1_any (n l h : Int) (w : World) :
    Calls Try.prog 86 #[.int .i64 n, .int .i64 l, .int .i64 h] w fun e w' => e = .returned (.bool (inB n l h)) ∧ w = w' := by
  go_enter Try.func86, Try.ntmps86
  go_wp2
  · have hl : l ≤ n := by assumption
    go_ret
    exact ⟨ret_b (by simp [inB, hl]), rfl⟩
  · have hl : n < l := by assumption
    go_ret
    exact ⟨ret_b (by simp [inB]; omega), rfl⟩
theorem Within_yes {n l h : Int} (hh : l ≤ n ∧ n ≤ h) (w : World) :
    Calls Try.prog 86 #[.int .i64 n, .int .i64 l, .int .i64 h] w fun e w' => e = .returned (.bool true) ∧ w = w' := by
  have := Within1_any n l h w
  rw [inB_true.2 hh] at this; exact this
theorem Within_no {n l h : Int} (hh : ¬ (l ≤ n ∧ n ≤ h)) (w : World) :
    Calls Try.prog 86 #[.int .i64 n, .int .i64 l, .int .i64 h] w fun e w' => e = .returned (.bool false) ∧ w = w' := by
  have := Within1_any n l h w
  rw [inB_false.2 hh] at this; exact this


set_option maxHeartbeats 400000 in
theorem divisor_any (a b : Int) (w : World) (ha : 0 ≤ a) (ha' : a ≤ 9000000000000000000) (hb : 0 ≤ b) (hb' : b ≤ 9000000000000000000) :
    Calls Try.prog 102 #[.int .i64 a, .int .i64 b] w fun e w' => e = .returned (.int .i64 (Int.gcd a b : Int)) ∧ ∃ n, w' = w.drewN n := by
  go_enter Try.func102, Try.ntmps102
  go_wp2
  go_loopw [0, 1] (fun x y wr => ∃ p q : Int, x = .int .i64 p ∧ y = .int .i64 q ∧ 0 ≤ p ∧ p ≤ 9000000000000000000 ∧ 0 ≤ q ∧ q ≤ 9000000000000000000 ∧ Hid (Int.gcd p q = Int.gcd a b) ∧ ∃ n, wr = w.drewN n) (fun _ y _ => (intOf y).toNat)
  case atStart => exact ⟨a, b, rfl, rfl, ha, ha', hb, hb', rfl, 0, rfl⟩
  case round =>
    obtain ⟨p, q, rfl, rfl, hp, hp', hq, hq', hg, n, rfl⟩ := hrel
    by_cases hz : 0 < q
    · have hz' : (q != 0) = true := by simp; omega
      have hz2 : ¬ q = 0 := by omega
      have hm := Int.emod_nonneg p hz2
      have hm' := Int.emod_lt_of_pos p hz
      go_wp2
      go_quiet (fail)
      go_wp2
      go_roundw
      case rel => exact ⟨q, p % q, rfl, rfl, hq, hq', hm, by omega, (Arm.gcd_mod_step p q).trans hg.out, _, World.drewN_drewN _ _ _⟩
      case measure => simp [intOf]; omega
    · have hz' : (q != 0) = false := by simp; omega
      have e : q = 0 := by omega
      go_wp2
      go_ret
      subst e
      refine ⟨ret_i ?_, _, rfl⟩
      rw [← hg.out]
      simp [Int.gcd]; omega

theorem validRatio_any (n d : Int) (w : World) :
    Calls Try.prog 104 #[.agg #[.int .i64 n, .int .i64 d]] w fun e w' => e = .returned (.bool (Arm.okB n d)) ∧ Below w.heap.size w w' := by
  go_enter Try.func104, Try.ntmps104
  go_wp2
  all_goals
    go_ret
    refine ⟨ret_b ?_, (Below.refl _ _).alloc (Nat.le_refl _) _⟩
    rw [Bool.eq_iff_iff, Arm.okB_true]
    simp [Arm.ok]
    try omega

end Go.Proofs.Ytecmlakcpgkfbaa
