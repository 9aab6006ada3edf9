/- Sheets: a sheet that has just one pair of factors. -/
import Derived.Test.YtgpmnkdagpcffaaShOA
import Derived.Test.YtgpmnkdagpcffaaEqual
namespace Go.Proofs.Ytgpmnkdagpcffaa
open Go.RowKit
namespace Sh
theorem ok_mk {s : Sheet} (h : Ok s) : okB s = true := by
  unfold okB headB spanB inB
  have h1 := h.a1
  have h2 := h.a2
  have h3 := h.a3
  have h4 := h.b1
  have h5 := h.b2
  have h6 := h.b3
  have h7 := h.n
  have h8 := h.w1
  have h9 := h.w2
  have h10 := (allTo_iff s.cs s.cs.length).2 h.c
  simp only [Bool.and_eq_true, decide_eq_true_eq]
  exact ⟨⟨⟨⟨⟨⟨h1, h2⟩, h3⟩, ⟨h4, h5⟩, h6⟩, h7⟩, h8, h9⟩, h10⟩
def oneS (s : Sheet) (f : Fa) : Sheet := ⟨f.1, f.1, f.2, f.2, s.cs, s.wr⟩
theorem truth_parts {s : Sheet} {f : Fa} (h : truthB s f = true) : ((s.al ≤ f.1 ∧ f.1 ≤ s.ah) ∧ s.bl ≤ f.2 ∧ f.2 ≤ s.bh) ∧ (wrongN f s.cs : Int) ≤ s.wr := by
  unfold truthB inB at h
  simp only [Bool.and_eq_true, decide_eq_true_eq] at h
  exact h
theorem one_ok {s : Sheet} {f : Fa} (hs : Ok s) (h : truthB s f = true) : Ok (oneS s f) := by
  obtain ⟨⟨⟨h1, h2⟩, h3, h4⟩, h5⟩ := truth_parts h
  have := hs.a1
  have := hs.a3
  have := hs.b1
  have := hs.b3
  exact ⟨by show 900 ≤ f.1; omega, Int.le_refl _, by show f.1 ≤ 1100; omega, by show 900 ≤ f.2; omega, Int.le_refl _, by show f.2 ≤ 1100; omega, hs.n, hs.c, hs.w1, hs.w2⟩
theorem one_fsm {s : Sheet} {f : Fa} (hs : Ok s) (h : truthB s f = true) : fsm f := by
  obtain ⟨⟨⟨h1, h2⟩, h3, h4⟩, h5⟩ := truth_parts h
  have := hs.a1
  have := hs.a3
  have := hs.b1
  have := hs.b3
  unfold fsm
  omega
theorem one_truths {s : Sheet} {f : Fa} (hs : Ok s) (h : truthB s f = true) : truthsL (oneS s f) = [faOf f] := by
  have hf := one_fsm hs h
  have h1 : na (oneS s f) = 1 := by unfold na oneS; dsimp only; omega
  have h2 : nb (oneS s f) = 1 := by unfold nb oneS; dsimp only; omega
  have hc : casesL (oneS s f) = [faOf f] := by
    unfold casesL
    rw [h1, casesTo_succ, h2, rowTo_succ]
    unfold casesTo rowTo oneS
    simp
  unfold truthsL
  rw [hc]
  have ht : trB (oneS s f) (faOf f) = true := by
    unfold trB
    rw [faOf_val hf]
    exact decide_eq_true (truth_parts h).2
  simp [ht]
theorem one_sp {s : Sheet} {f : Fa} (hs : Ok s) (h : truthB s f = true) : spE (oneS s f) = 0 := sp_yes (ok_mk (one_ok hs h)) (by rw [one_truths hs h]; simp)
theorem one_many {s : Sheet} {f : Fa} (hs : Ok s) (h : truthB s f = true) : manyV (oneS s f) = 1 := by unfold manyV; rw [if_pos (one_sp hs h), one_truths hs h]; rfl
theorem one_known {s : Sheet} {f : Fa} (hs : Ok s) (h : truthB s f = true) (b : FaS → Bool) : knownV b (truthsL (oneS s f)) = 1 ∨ knownV b (truthsL (oneS s f)) = 2 := by
  rw [one_truths hs h]
  unfold knownV
  cases e : b (faOf f) <;> simp [e]
theorem one_area {s : Sheet} {f : Fa} (hs : Ok s) (h : truthB s f = true) {t : Int} (ht : -80000000 ≤ t ∧ t ≤ 80000000) :
    let lo := areaLo (oneS s f) t
    let hi := areaHi (oneS s f) t
    (0 ≤ lo ∧ lo ≤ hi ∧ hi < 1073741824 ∧ hi - lo ≤ 1) ∧ lo * (f.1 * f.2) ≤ areaN t ∧ areaN t ≤ hi * (f.1 * f.2) ∧ (810000 ≤ f.1 * f.2 ∧ f.1 * f.2 ≤ 1210000) := by
  have hf := one_fsm hs h
  have hN := areaN_bd ht
  obtain ⟨⟨⟨h1, h2⟩, h3, h4⟩, h5⟩ := truth_parts h
  have q1 := hs.a1
  have q2 := hs.a3
  have q3 := hs.b1
  have q4 := hs.b3
  have hD1 : 810000 ≤ f.1 * f.2 := by
    have : 900 * 900 ≤ f.1 * f.2 := Int.mul_le_mul (by omega) (by omega) (by omega) (by omega)
    omega
  have hD2 : f.1 * f.2 ≤ 1210000 := by
    have : f.1 * f.2 ≤ 1100 * 1100 := Int.mul_le_mul (by omega) (by omega) (by omega) (by omega)
    omega
  have hl : areaLo (oneS s f) t = lowS 9223372036854775807 ((areaN t).tdiv (f.1 * f.2)) := by
    unfold areaLo lowF areaD
    rw [one_truths hs h]
    simp [faOf_val hf]
  have hh : areaHi (oneS s f) t = highS 0 ((areaN t + f.1 * f.2 - 1).tdiv (f.1 * f.2)) := by
    unfold areaHi highF areaD
    rw [one_truths hs h]
    simp [faOf_val hf]
  intro lo hi
  have hlo : lo = lowS 9223372036854775807 ((areaN t).tdiv (f.1 * f.2)) := hl
  have hhi : hi = highS 0 ((areaN t + f.1 * f.2 - 1).tdiv (f.1 * f.2)) := hh
  generalize areaN t = N at *
  generalize f.1 * f.2 = D at *
  clear_value lo hi
  clear hl hh
  rw [Int.tdiv_eq_ediv_of_nonneg (by omega)] at hlo hhi
  have a1 := Int.mul_ediv_add_emod N D
  have a2 := Int.emod_nonneg N (show D ≠ 0 by omega)
  have a3 := Int.emod_lt_of_pos N (show 0 < D by omega)
  have b1 := Int.mul_ediv_add_emod (N + D - 1) D
  have b2 := Int.emod_nonneg (N + D - 1) (show D ≠ 0 by omega)
  have b3 := Int.emod_lt_of_pos (N + D - 1) (show 0 < D by omega)
  generalize N / D = x at *
  generalize (N + D - 1) / D = y at *
  generalize N % D = u at *
  generalize (N + D - 1) % D = v at *
  have hx0 : 0 ≤ x := by
    rcases Int.lt_or_le x 0 with hx | hx
    · have : D * x ≤ D * (-1) := Int.mul_le_mul_of_nonneg_left (by omega) (by omega)
      omega
    · exact hx
  have hx1 : x ≤ 1000000000 := by
    rcases Int.lt_or_le 1000000000 x with hx | hx
    · have : D * 1000000000 ≤ D * x := Int.mul_le_mul_of_nonneg_left (by omega) (by omega)
      omega
    · exact hx
  have hxy : x ≤ y := by
    rcases Int.lt_or_le y x with hx | hx
    · have : D * (y + 1) ≤ D * x := Int.mul_le_mul_of_nonneg_left (by omega) (by omega)
      rw [Int.mul_add] at this
      omega
    · exact hx
  have hyx : y ≤ x + 1 := by
    rcases Int.lt_or_le (x + 1) y with hx | hx
    · have : D * (x + 2) ≤ D * y := Int.mul_le_mul_of_nonneg_left (by omega) (by omega)
      rw [Int.mul_add] at this
      omega
    · exact hx
  have e1 : lo = x := by rw [hlo]; unfold lowS; rw [if_pos (by omega)]
  have e2 : hi = y := by rw [hhi]; unfold highS; split <;> omega
  rw [e1, e2, Int.mul_comm x D, Int.mul_comm y D]
  refine ⟨by omega, by omega, by omega, by omega⟩
end Sh
theorem boxS8 {W : World} {B : Nat} {t : TypeId} {a b c d e f g h : Value} (H : BoxS W B t #[a, b, c, d, e, f, g, h]) : (W.cell? ⟨B, 0, none⟩ = some a ∧ W.cell? ⟨B, 1, none⟩ = some b) ∧ W.cell? ⟨B, 2, none⟩ = some c ∧ W.cell? ⟨B, 3, none⟩ = some d := ⟨⟨H.cell 0 rfl, H.cell 1 rfl⟩, H.cell 2 rfl, H.cell 3 rfl⟩
namespace Sh
theorem area_abs (t : Int) : areaN t = absV t * 1000000 := by unfold areaN dist absV; omega
end Sh
def TruePost (w : World) (e : Ending) (w' : World) : Prop := e = .returned (.bool true) ∧ Below w.heap.size w w'
end Go.Proofs.Ytgpmnkdagpcffaa
