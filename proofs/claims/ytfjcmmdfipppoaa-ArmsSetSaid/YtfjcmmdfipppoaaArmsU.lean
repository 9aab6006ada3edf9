/- Plain facts: the specification's first best setting is the near setting. No program is named here beyond the two definitions. -/
import Derived.Test.YtfjcmmdfipppoaaArmsK
import Derived.Test.YtfjcmmdfipppoaaArmsNp
namespace Go.Proofs.Ytfjcmmdfipppoaa
namespace Arm
theorem bst_spec (f : Int → Int) (lo : Int) (k : Nat) (n : Int) (h1 : lo ≤ n) (h2 : n < lo + k) : f (bst f lo k) ≤ f n ∧ (f (bst f lo k) = f n → bst f lo k ≤ n) := by
  induction k with
  | zero => omega
  | succ k ih =>
    have hin := bst_in f lo k
    unfold bst
    by_cases hn : n = lo + k
    · subst hn
      split
      · exact ⟨Int.le_refl _, fun _ => Int.le_refl _⟩
      · exact ⟨by omega, fun _ => hin.2.2⟩
    · have := ih (by omega)
      split
      · exact ⟨by omega, fun e => by omega⟩
      · exact this
theorem far_near (u v r s a b sc n : Int) : far u v r s a b sc n = ((n * scB u r b sc - scT v s a).natAbs : Int) := by
  unfold far scB scT
  have : n * (u * r) * b * sc * sc = n * (b * (u * r) * sc * sc) := by grind
  rw [this]
theorem bst_near {u v r s a b lo hi sc : Int} (hA : armP u v r s lo hi) (hO : ok a b) (ha : 1 ≤ a) (hs : 1 ≤ sc) (hs' : sc ≤ 100) :
    bst (far u v r s a b sc) lo (hi + 1 - lo).toNat = near (scT v s a) (scB u r b sc) lo hi := by
  have q1 := mul_pos_bd hA.1.1.1 hA.1.1.2 hA.2.1.1.1 hA.2.1.1.2
  have q2 := mul_pos_bd hA.1.2.1 hA.1.2.2 hA.2.1.2.1 hA.2.1.2.2
  have q3 := mul_pos_bd ha hO.2.2 q2.1 q2.2
  have q4 := mul_pos_bd hO.1.1 hO.1.2 q1.1 q1.2
  have q5 := mul_pos_bd q4.1 q4.2 hs hs'
  have q6 := mul_pos_bd q5.1 q5.2 hs hs'
  have hl := hA.2.2
  have hT : 0 ≤ scT v s a := by unfold scT; omega
  have hB : 1 ≤ scB u r b sc := by unfold scB; omega
  have hin := bst_in (far u v r s a b sc) lo (hi + 1 - lo).toNat
  have hN := near_in (T := scT v s a) (B := scB u r b sc) (lo := lo) (hi := hi) (by omega)
  have s1 := bst_spec (far u v r s a b sc) lo (hi + 1 - lo).toNat (near (scT v s a) (scB u r b sc) lo hi) (by omega) (by omega)
  have s2 := near_best hT hB hl.1 (n := bst (far u v r s a b sc) lo (hi + 1 - lo).toNat) (lo := lo) (hi := hi) (by omega) (by omega)
  rw [← far_near, ← far_near] at s2
  generalize bst (far u v r s a b sc) lo (hi + 1 - lo).toNat = x at *
  generalize near (scT v s a) (scB u r b sc) lo hi = y at *
  have e : far u v r s a b sc x = far u v r s a b sc y := by omega
  have := s1.2 e
  have := s2.2 e.symm
  omega
theorem rscV_eq (u v r s lo hi a b sc : Int) : rscV u v r s lo hi a b sc (inB sc 1 100) = scV u v r s lo hi a b sc (inB sc 1 100) := by
  unfold rscV scV
  split
  · rename_i h
    obtain ⟨h1, h2, h3, h4⟩ := cE_zero.1 h
    have := inB_true.1 h3
    exact bst_near h1 h2 h4 this.1 this.2
  · rfl
theorem rscV_one (u v r s lo hi a b : Int) : rscV u v r s lo hi a b 1 true = scV u v r s lo hi a b 1 true := by
  have := rscV_eq u v r s lo hi a b 1
  have h : inB 1 1 100 = true := by decide
  rw [h] at this
  exact this
end Arm
end Go.Proofs.Ytfjcmmdfipppoaa
