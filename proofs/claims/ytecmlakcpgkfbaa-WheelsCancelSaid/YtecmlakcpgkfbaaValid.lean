/- A polygon is valid for the program just if it is for the reference. -/
import Derived.Test.YtecmlakcpgkfbaaRefChk
import Derived.Test.YtecmlakcpgkfbaaCheck
namespace Go.Proofs.Ytecmlakcpgkfbaa
namespace Geo
theorem turn_at_b (a b : Pt) : turn a b b = 0 := by unfold turn; rw [Int.mul_comm]; omega
theorem turn_at_a (a b : Pt) : turn a b a = 0 := by unfold turn; simp
theorem next_val {n i : Nat} (h : i < n) : (i + 1) % n = if i + 1 = n then 0 else i + 1 := by
  by_cases e : i + 1 = n
  · rw [if_pos e, e, Nat.mod_self]
  · rw [if_neg e, Nat.mod_eq_of_lt (by omega)]
theorem next_lt {n i : Nat} (h : i < n) : (i + 1) % n < n := Nat.mod_lt _ (by omega)
theorem next_inj {n i k : Nat} (hi : i < n) (hk : k < n) (h : (i + 1) % n = (k + 1) % n) : i = k := by
  rw [next_val hi, next_val hk] at h
  split at h <;> split at h <;> omega
theorem next_ne {n i : Nat} (hn : 2 ≤ n) (hi : i < n) : (i + 1) % n ≠ i := by
  rw [next_val hi]
  split <;> omega
theorem next2_ne {n i : Nat} (hn : 3 ≤ n) (hi : i < n) : ((i + 1) % n + 1) % n ≠ i := by
  rw [next_val (next_lt hi), next_val hi]
  split <;> split <;> omega
theorem ptAt_inj {ps : List Pt} (h : ps.Nodup) {i k : Nat} (hi : i < ps.length) (hk : k < ps.length) (e : ptAt ps i = ptAt ps k) : i = k := by
  rw [ptAt_eq (List.getElem?_eq_getElem hi), ptAt_eq (List.getElem?_eq_getElem hk)] at e
  exact (List.getElem_inj h).1 e
theorem sign_part {s t : Int} : s.sign * t.sign < 0 ↔ (s < 0 ∧ 0 < t) ∨ (0 < s ∧ t < 0) := by
  rcases Int.lt_trichotomy s 0 with h | rfl | h
  · rcases Int.lt_trichotomy t 0 with h2 | rfl | h2
    · rw [Int.sign_eq_neg_one_of_neg h, Int.sign_eq_neg_one_of_neg h2]; omega
    · simp
    · rw [Int.sign_eq_neg_one_of_neg h, Int.sign_eq_one_of_pos h2]; omega
  · simp
  · rcases Int.lt_trichotomy t 0 with h2 | rfl | h2
    · rw [Int.sign_eq_one_of_pos h, Int.sign_eq_neg_one_of_neg h2]; omega
    · simp
    · rw [Int.sign_eq_one_of_pos h, Int.sign_eq_one_of_pos h2]; omega
theorem partB_iff (a b c d : Pt) : partB a b c d = true ↔ (turn a b c < 0 ∧ 0 < turn a b d) ∨ (0 < turn a b c ∧ turn a b d < 0) := by unfold partB; simp
theorem passB_iff (a b p : Pt) : passB a b p = true ↔ p ≠ a ∧ p ≠ b ∧ onB a b p = true := by unfold passB; simp
theorem meetB_iff (a b c d : Pt) : meetB a b c d = true ↔ onB a b c = true ∨ onB a b d = true ∨ onB c d a = true ∨ onB c d b = true ∨ (partB a b c d = true ∧ partB c d a b = true) := by
  unfold meetB someOn
  rw [partB_iff, partB_iff, ← sign_part, ← sign_part]
  simp [or_assoc]
theorem mem_sidesL {ps : List Pt} {s : Pt × Pt} : s ∈ sidesL ps ↔ ∃ i, i < ps.length ∧ s = (ptAt ps i, ptAt ps ((i + 1) % ps.length)) := by
  unfold sidesL
  rw [List.mem_map]
  constructor
  · rintro ⟨i, hi, rfl⟩; exact ⟨i, List.mem_range.1 hi, rfl⟩
  · rintro ⟨i, hi, rfl⟩; exact ⟨i, List.mem_range.2 hi, rfl⟩
/-- No two sides have more in common than a corner, as the program has it. -/
def freeP (ps : List Pt) : Prop := ∀ i k, i < ps.length → k < ps.length → badB (ptAt ps i, ptAt ps ((i + 1) % ps.length)) (ptAt ps k, ptAt ps ((k + 1) % ps.length)) = false
theorem validB_iff (ps : List Pt) : validB ps = true ↔ (3 ≤ ps.length ∧ ps.length ≤ 10) ∧ difP ps ∧ freeP ps := by
  unfold validB
  rw [Bool.and_eq_true, Bool.and_eq_true, Bool.and_eq_true, decide_eq_true_iff, decide_eq_true_iff]
  refine and_congr Iff.rfl (and_congr (by unfold difB; simp) ?_)
  constructor
  · intro h i k hi hk
    cases hb : badB (ptAt ps i, ptAt ps ((i + 1) % ps.length)) (ptAt ps k, ptAt ps ((k + 1) % ps.length)) with
    | false => rfl
    | true =>
      have h1 : ((sidesL ps).any fun s => (sidesL ps).any fun t => badB s t) = true := List.any_eq_true.2 ⟨_, mem_sidesL.2 ⟨i, hi, rfl⟩, List.any_eq_true.2 ⟨_, mem_sidesL.2 ⟨k, hk, rfl⟩, hb⟩⟩
      rw [h1] at h
      cases h
  · intro h
    cases hb : (sidesL ps).any fun s => (sidesL ps).any fun t => badB s t with
    | false => rfl
    | true =>
      obtain ⟨s, hs, h2⟩ := List.any_eq_true.1 hb
      obtain ⟨t, ht, h3⟩ := List.any_eq_true.1 h2
      obtain ⟨i, hi, rfl⟩ := mem_sidesL.1 hs
      obtain ⟨k, hk, rfl⟩ := mem_sidesL.1 ht
      rw [h i k hi hk] at h3
      cases h3
theorem bad_pass {a b c d : Pt} (h : badB (a, b) (c, d) = false) (h1 : c ≠ a) (h2 : c ≠ b) : onB a b c = false := by
  cases ho : onB a b c with
  | false => rfl
  | true =>
    unfold badB at h
    dsimp only at h
    rw [(passB_iff _ _ _).2 ⟨h1, h2, ho⟩] at h
    cases h
theorem bad_part {a b c d : Pt} (h : badB (a, b) (c, d) = false) : ¬ (partB a b c d = true ∧ partB c d a b = true) := by
  rintro ⟨h1, h2⟩
  unfold badB at h
  dsimp only at h
  rw [h1, h2] at h
  simp at h
theorem fine_of_free {ps : List Pt} (hn : 3 ≤ ps.length) (hd : ps.Nodup) (h : freeP ps) : fineP ps ps.length := by
  intro i hi
  have hi1 := next_lt hi
  have hi2 := next_lt hi1
  have n1 := next_ne (by omega) hi
  have n2 := next2_ne hn hi
  have n3 := next_ne (n := ps.length) (by omega) hi1
  have hf : ∀ a b, a < ps.length → b < ps.length → b ≠ a → b ≠ (a + 1) % ps.length → onB (ptAt ps a) (ptAt ps ((a + 1) % ps.length)) (ptAt ps b) = false := fun a b ha hb h1 h2 =>
    bad_pass (h a b ha hb) (fun e => h1 (ptAt_inj hd hb ha e)) (fun e => h2 (ptAt_inj hd hb (next_lt ha) e))
  constructor
  · unfold nearB
    rw [hf i _ hi hi2 n2 n3, hf _ i hi1 hi (fun e => n1 e.symm) (fun e => n2 e.symm)]
    rfl
  · intro k hk
    unfold farB
    cases hx : nextB ps i k with
    | true => rfl
    | false =>
      unfold nextB at hx
      simp only [Bool.or_eq_false_iff, decide_eq_false_iff_not] at hx
      obtain ⟨x1, x2, x3⟩ := hx
      have hk1 := next_lt hk
      have y1 : (k + 1) % ps.length ≠ (i + 1) % ps.length := fun e => x1 (next_inj hk hi e)
      cases hm : meetB (ptAt ps i) (ptAt ps ((i + 1) % ps.length)) (ptAt ps k) (ptAt ps ((k + 1) % ps.length)) with
      | false => rfl
      | true =>
        rw [meetB_iff, hf i k hi hk x1 x2, hf i _ hi hk1 x3 y1, hf k i hk hi (fun e => x1 e.symm) (fun e => x3 e.symm), hf k _ hk hi1 (fun e => x2 e.symm) (fun e => y1 e.symm)] at hm
        simp only [Bool.false_eq_true, false_or] at hm
        exact absurd hm (bad_part (h i k hi hk))
theorem free_of_fine {ps : List Pt} (_hn : 3 ≤ ps.length) (h : fineP ps ps.length) : freeP ps := by
  intro i k hi hk
  have hi1 := next_lt hi
  have hk1 := next_lt hk
  cases hb : badB (ptAt ps i, ptAt ps ((i + 1) % ps.length)) (ptAt ps k, ptAt ps ((k + 1) % ps.length)) with
  | false => rfl
  | true =>
    exfalso
    have hfar : k ≠ i → k ≠ (i + 1) % ps.length → (k + 1) % ps.length ≠ i → meetB (ptAt ps i) (ptAt ps ((i + 1) % ps.length)) (ptAt ps k) (ptAt ps ((k + 1) % ps.length)) = false := fun x1 x2 x3 => by
      have := (h i hi).2 k hk
      unfold farB nextB at this
      rw [decide_eq_false x1, decide_eq_false x2, decide_eq_false x3] at this
      simpa using this
    unfold badB at hb
    rw [Bool.or_eq_true, Bool.and_eq_true] at hb
    rcases hb with hb | ⟨hb1, hb2⟩
    · obtain ⟨p1, p2, p3⟩ := (passB_iff _ _ _).1 hb
      dsimp only at p1 p2 p3
      have x1 : k ≠ i := fun e => p1 (by rw [e])
      have x2 : k ≠ (i + 1) % ps.length := fun e => p2 (by rw [e])
      by_cases x3 : (k + 1) % ps.length = i
      · have := (h k hk).1
        unfold nearB at this
        rw [x3, p3] at this
        simp at this
      · have := hfar x1 x2 x3
        rw [(meetB_iff _ _ _ _).2 (.inl p3)] at this
        cases this
    · dsimp only at hb1 hb2
      have x1 : k ≠ i := fun e => by
        subst e
        rw [partB_iff, turn_at_a, turn_at_b] at hb1
        omega
      have x2 : k ≠ (i + 1) % ps.length := fun e => by
        rw [partB_iff, e, turn_at_b] at hb1
        omega
      have x3 : (k + 1) % ps.length ≠ i := fun e => by
        rw [partB_iff, e, turn_at_a] at hb1
        omega
      have := hfar x1 x2 x3
      rw [(meetB_iff _ _ _ _).2 (.inr (.inr (.inr (.inr ⟨hb1, hb2⟩))))] at this
      cases this
theorem refP_iff (ps : List Pt) : refP ps ↔ validB ps = true := by
  rw [validB_iff]
  constructor
  · rintro ⟨h1, h2, h3⟩; exact ⟨h1, h2, free_of_fine h1.1 h3⟩
  · rintro ⟨h1, h2, h3⟩; exact ⟨h1, h2, fine_of_free h1.1 h2.2 h3⟩
/-- Both sides answer the same. -/
theorem refV_errV (ps : List Pt) : refV ps = errV ps := by
  unfold errV
  by_cases h : refP ps
  · rw [refV_yes h, if_pos ((refP_iff ps).1 h)]
  · rw [refV_no h, if_neg (fun e => h ((refP_iff ps).2 e))]
end Geo
end Go.Proofs.Ytecmlakcpgkfbaa
