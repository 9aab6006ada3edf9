/- Operations of a region that may come in any order, each behind what it waits for: the check looks at closed sets alone. No program in it. -/
import Derived.Test.YtkmacpkjobdffaaAny
namespace Go.Proofs.Ytkmacpkjobdffaa
open Go.RowKit
def closedB (D : List (Nat × Nat)) (L : List Nat) : Bool := D.all fun d => !L.contains d.2 || L.contains d.1
/-- The checks on the order, over sets alone that hold with each operation all that it waits for. -/
def anyD (md : Region.Mode) (ops : Array Oper) (c : Nat) (J : List Nat) (D : List (Nat × Nat)) (pre : Array Bool) : Bool :=
  J.all (fun j => (!pre.getD j true) && match ops[j]? with | some o => o.guard.isNone | none => false) && D.all (fun d => J.contains d.1) &&
  reachedB md ops pre && (subs J).all fun L => !closedB D L || !reachedB md ops (marked pre J L.contains) ||
    (J.all L.contains || ((Region.ready md ops (marked pre J L.contains)).all (fun i => J.contains i && (!(i == c) && D.all fun d => !(d.2 == i) || L.contains d.1)) &&
      !(Region.ready md ops (marked pre J L.contains)).isEmpty))
section
variable {F : Fence} {n : Nat} {P : Program} {ops : Array Oper} {Q : Exit → Act → World → Prop} {md : Region.Mode} {S : World → Prop} {c : Nat}
theorem wpHeldIn_anyD (J : List Nat) (D : List (Nat × Nat)) (I : Act → (Nat → Bool) → Act → World → Prop) {pre done : Array Bool} {a0 : Act} {w0 : World} {fuel f0 : Nat}
    (hf : fuel = J.length + f0) (hJ : J.Nodup) (hchk : anyD md ops c J D pre = true) (hdone : marked pre J (fun _ => true) = done)
    (hpre : marked pre J (fun _ => false) = pre)
    (h0 : I a0 (fun _ => false) a0 w0)
    (hstep : ∀ j o, j ∈ J → ops[j]? = some o → ∀ s a w, I a0 s a w → s j = false → (∀ i, (i, j) ∈ D → s i = true) → ∀ K : Act → World → Prop, (∀ a' w', S w' → I a0 (upd s j) a' w' → K a' w') → Oper.wpIn F n P o a w K Q)
    (hend : ∀ s a w, (∀ j ∈ J, s j = true) → I a0 s a w → wpHeldIn F n P md ops Q S c f0 done a w) :
    wpHeldIn F n P md ops Q S c fuel pre a0 w0 := by
  unfold anyD at hchk
  rw [Bool.and_eq_true, Bool.and_eq_true, Bool.and_eq_true, List.all_eq_true, List.all_eq_true, List.all_eq_true] at hchk
  obtain ⟨⟨⟨hg, hDJ⟩, hrc⟩, hr⟩ := hchk
  have hcon : ∀ (s : Nat → Bool) (k : Nat), (∀ j ∈ J, (J.filter s).contains j = s j) := fun s k j hj => by
    cases h : s j with
    | true => simpa using ⟨hj, h⟩
    | false => simpa using fun _ => h
  have hclo : ∀ s : Nat → Bool, (∀ d ∈ D, s d.2 = true → s d.1 = true) → closedB D (J.filter s) = true := fun s hs => by
    unfold closedB
    rw [List.all_eq_true]
    intro d hd
    cases h : (J.filter s).contains d.2 with
    | false => rfl
    | true =>
      have h2 : d.2 ∈ J.filter s := by simpa using h
      have h1 := hs d hd (List.mem_filter.1 h2).2
      have h3 : d.1 ∈ J := by simpa using hDJ d hd
      have h4 : d.1 ∈ J.filter s := List.mem_filter.2 ⟨h3, h1⟩
      simpa using h4
  have main : ∀ (k : Nat) (s : Nat → Bool) (a : Act) (w : World), (∀ d ∈ D, s d.2 = true → s d.1 = true) → Reached md ops (marked pre J s) → I a0 s a w → (J.filter fun j => !s j).length = k → wpHeldIn F n P md ops Q S c (k + f0) (marked pre J s) a w := by
    intro k
    induction k with
    | zero =>
      intro s a w hcl hre hI hk
      have hall : ∀ j ∈ J, s j = true := fun j hj => by
        cases h : s j with
        | true => rfl
        | false =>
          have : j ∈ J.filter fun j => !s j := List.mem_filter.2 ⟨hj, by simp [h]⟩
          rw [List.length_eq_zero_iff.1 hk] at this
          cases this
      rw [Nat.zero_add, marked_congr (s' := fun _ => true) hall, hdone]
      exact hend s a w hall hI
    | succ k ih =>
      intro s a w hcl hre hI hk
      have hL := hr _ (filter_subs s J)
      have hnall : J.all (J.filter s).contains = false := by
        rw [Bool.eq_false_iff]
        intro hall
        rw [List.all_eq_true] at hall
        have : J.filter (fun j => !s j) = [] := List.filter_eq_nil_iff.2 fun j hj => by
          have := hall j hj
          rw [hcon s 0 j hj] at this
          simp [this]
        rw [this] at hk
        cases hk
      rw [hclo s hcl, marked_congr (s' := s) (hcon s 0), reachedB_of hre, hnall, Bool.not_true, Bool.false_or, Bool.false_or, Bool.false_or, Bool.and_eq_true, List.all_eq_true] at hL
      obtain ⟨hL1, hL2⟩ := hL
      rw [Nat.succ_add]
      refine ⟨fun h0 => ?_, fun i hi => ?_⟩
      · rw [h0] at hL2
        cases hL2
      · have h1 := hL1 i hi
        simp only [Bool.and_eq_true, List.all_eq_true] at h1
        obtain ⟨hiJ, hic, hD⟩ := h1
        have hiJ' : i ∈ J := by simpa using hiJ
        have hic' : i ≠ c := by simpa using hic
        rw [if_neg hic']
        obtain ⟨hl, o, ho, hafter⟩ := mem_ready.1 hi
        have hsz : i < pre.size := by
          have := hg i hiJ'
          rw [Bool.and_eq_true] at this
          by_cases hlt : i < pre.size
          · exact hlt
          · have h2 := this.1
            rw [Array.getD_eq_getD_getElem?, Array.getElem?_eq_none (by omega)] at h2
            simp at h2
        have hsi : s i = false := by
          rw [Array.getD_eq_getD_getElem?, Array.getElem?_eq_getElem (by simpa [marked] using hsz)] at hl
          unfold marked at hl
          rw [Array.getElem_mapIdx] at hl
          simpa [hiJ'] using hl
        have hgo : o.guard = none := by
          have := hg i hiJ'
          rw [Bool.and_eq_true, ho] at this
          simpa using this.2
        have hdep : ∀ d, (d, i) ∈ D → s d = true := fun d hd => by
          have := hD _ hd
          simp only [beq_self_eq_true, Bool.not_true, Bool.false_or] at this
          have hm : d ∈ J.filter s := by simpa using this
          exact (List.mem_filter.1 hm).2
        unfold wpOpIn
        simp only [ho]
        rw [if_pos (show Region.wanted o (yielded ops a.tmps) = true by unfold Region.wanted; rw [hgo])]
        refine hstep i o hiJ' ho s a w hI hsi hdep _ fun a' w' hS' hI' => ⟨hS', ?_⟩
        rw [marked_upd hiJ']
        exact ih _ a' w' (fun d hd hu => by
          unfold upd at hu ⊢
          rw [Bool.or_eq_true] at hu ⊢
          rcases hu with hu | hu
          · have e : d.2 = i := by simpa using hu
            exact .inr (hdep d.1 (by rw [← e]; exact hd))
          · exact .inr (hcl d hd hu)) (by rw [← marked_upd hiJ']; exact hre.step hi) hI' (by have := count_upd hJ hiJ' hsi; omega)
  subst hf
  have := main J.length (fun _ => false) a0 w0 (fun d _ h => (by cases h)) (by rw [hpre]; exact reached_of hrc) h0 (by simp)
  rw [hpre] at this
  exact this
end
end Go.Proofs.Ytkmacpkjobdffaa
