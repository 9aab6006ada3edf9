/- Three operations may come up, inside a fence. -/
import Derived.Test.YtgpmnkdagpcffaaFence
namespace Go.Proofs.Ytgpmnkdagpcffaa

section
variable {F : Fence} {n : Nat} {P : Program} {ops : Array Oper} {Q : Exit → Act → World → Prop} {md : Region.Mode} {S : World → Prop} {c : Nat}
/-- Three may come up. -/
theorem wpHeldIn_three {i j k : Nat} {oi oj ok : Oper} {fuel : Nat} {listed : Array Bool} {a : Act} {w : World} (hr : Region.ready md ops listed = [i, j, k]) (hic : (i == c) = false) (hjc : (j == c) = false) (hkc : (k == c) = false) (hoi : ops[i]? = some oi) (hoj : ops[j]? = some oj) (hok : ops[k]? = some ok)
    (hwi : Region.wanted oi (yielded ops a.tmps) = true) (hwj : Region.wanted oj (yielded ops a.tmps) = true) (hwk : Region.wanted ok (yielded ops a.tmps) = true)
    (h1 : ∀ K' : Act → World → Prop, (∀ a w, S w → wpHeldIn F n P md ops Q S c fuel (listed.setIfInBounds i true) a w → K' a w) → Oper.wpIn F n P oi a w K' Q)
    (h2 : ∀ K' : Act → World → Prop, (∀ a w, S w → wpHeldIn F n P md ops Q S c fuel (listed.setIfInBounds j true) a w → K' a w) → Oper.wpIn F n P oj a w K' Q)
    (h3 : ∀ K' : Act → World → Prop, (∀ a w, S w → wpHeldIn F n P md ops Q S c fuel (listed.setIfInBounds k true) a w → K' a w) → Oper.wpIn F n P ok a w K' Q) : wpHeldIn F n P md ops Q S c (fuel + 1) listed a w :=
  ⟨fun h0 => (by rw [hr] at h0; cases h0), by
    rw [hr]
    intro m hm
    have hm' : m = i ∨ m = j ∨ m = k := by simpa using hm
    rcases hm' with rfl | rfl | rfl
    · rw [if_neg (by simpa using hic)]
      unfold wpOpIn
      rw [hoi]
      simp only [hwi, if_true]
      exact h1 _ (fun a w h1 h2 => ⟨h1, h2⟩)
    · rw [if_neg (by simpa using hjc)]
      unfold wpOpIn
      rw [hoj]
      simp only [hwj, if_true]
      exact h2 _ (fun a w h1 h2 => ⟨h1, h2⟩)
    · rw [if_neg (by simpa using hkc)]
      unfold wpOpIn
      rw [hok]
      simp only [hwk, if_true]
      exact h3 _ (fun a w h1 h2 => ⟨h1, h2⟩)⟩

end
end Go.Proofs.Ytgpmnkdagpcffaa
