/- Walks: few moves (P5.15), the plain side. -/
import Derived.Test.YtmjcdggmofohcaaWlR
namespace Go.Proofs.Ytmjcdggmofohcaa
namespace Wl
/-- Whether the arm reaches the first points of a walk from a place. -/
def allTo (t : Trk) (ws : List Pt) (p : Int) : Nat → Bool
  | 0 => true
  | k + 1 => allTo t ws p k && decide (p ∈ reachL t (ptAt ws k))
/-- Whether one of the first places reaches all points. -/
def stillTo (t : Trk) (ws : List Pt) : Nat → Bool
  | 0 => false
  | k + 1 => stillTo t ws k || allTo t ws (k : Int) ws.length
theorem allTo_iff {t : Trk} {ws : List Pt} {p : Int} : ∀ n, allTo t ws p n = true ↔ ∀ k, k < n → p ∈ reachL t (ptAt ws k)
  | 0 => by simp [allTo]
  | n + 1 => by
    show (allTo t ws p n && decide (p ∈ reachL t (ptAt ws n))) = true ↔ _
    rw [Bool.and_eq_true, allTo_iff n, decide_eq_true_iff]
    constructor
    · rintro ⟨h1, h2⟩ k hk
      by_cases e : k = n
      · rw [e]; exact h2
      · exact h1 k (by omega)
    · intro h
      exact ⟨fun k hk => h k (by omega), h n (by omega)⟩
theorem stillTo_iff {t : Trk} {ws : List Pt} : ∀ n, stillTo t ws n = true ↔ ∃ k, k < n ∧ allTo t ws (k : Int) ws.length = true
  | 0 => by simp [stillTo]
  | n + 1 => by
    show (stillTo t ws n || allTo t ws (n : Int) ws.length) = true ↔ _
    rw [Bool.or_eq_true, stillTo_iff n]
    constructor
    · rintro (⟨k, hk, h⟩ | h)
      · exact ⟨k, by omega, h⟩
      · exact ⟨n, by omega, h⟩
    · rintro ⟨k, hk, h⟩
      by_cases e : k = n
      · rw [← e]; exact .inr h
      · exact .inl ⟨k, by omega, h⟩
theorem mvTo_nn (es : List Int) : ∀ k, 0 ≤ mvTo es k ∧ mvTo es k ≤ k
  | 0 => by simp [mvTo]
  | k + 1 => by
    have := mvTo_nn es k
    show 0 ≤ mvTo es k + _ ∧ mvTo es k + _ ≤ ((k + 1 : Nat) : Int)
    split <;> omega
theorem mvTo_zero {es : List Int} : ∀ n, mvTo es n = 0 ↔ ∀ k, k < n → esAt es k = esAt es ((k + 1) % es.length)
  | 0 => by simp [mvTo]
  | n + 1 => by
    have h1 := mvTo_nn es n
    show mvTo es n + (if esAt es n = esAt es ((n + 1) % es.length) then 0 else 1) = 0 ↔ _
    constructor
    · intro h k hk
      by_cases e : esAt es n = esAt es ((n + 1) % es.length)
      · rw [if_pos e] at h
        by_cases ek : k = n
        · rw [ek]; exact e
        · exact (mvTo_zero n).1 (by omega) k (by omega)
      · rw [if_neg e] at h
        omega
    · intro h
      rw [if_pos (h n (by omega)), (mvTo_zero n).2 (fun k hk => h k (by omega))]
      rfl
theorem esAt_rep (n : Nat) (p : Int) {k : Nat} (h : k < n) : esAt (List.replicate n p) k = p := by
  unfold esAt
  rw [List.getElem?_replicate, if_pos h]
  rfl
theorem near_self {t : Trk} {p : Int} : nearB t p p = true := by
  unfold nearB stepV
  rw [Bool.and_eq_true, decide_eq_true_iff, decide_eq_true_iff, Int.sub_self]
  split
  · exact ⟨by decide, by decide⟩
  · split
    · exact ⟨by decide, by decide⟩
    · exact ⟨by decide, by decide⟩
theorem still_iff {t : Trk} {ws : List Pt} (h0 : 0 < ws.length) : stillTo t ws t.ps.length = true ↔ ∃ es, elbV t ws es = true ∧ movesV es = 0 := by
  rw [stillTo_iff]
  constructor
  · rintro ⟨k, hk, h⟩
    rw [allTo_iff] at h
    refine ⟨List.replicate ws.length (k : Int), elbV_iff.2 ⟨by simp, fun i hi => ?_, fun i hi => ?_⟩, ?_⟩
    · rw [List.length_replicate] at hi
      rw [fitB_mem, esAt_rep _ _ hi]
      exact h i hi
    · rw [List.length_replicate] at hi ⊢
      rw [esAt_rep _ _ hi, esAt_rep _ _ (Nat.mod_lt _ h0)]
      exact near_self
    · unfold movesV
      rw [mvTo_zero, List.length_replicate]
      intro i hi
      rw [esAt_rep _ _ hi, esAt_rep _ _ (Nat.mod_lt _ h0)]
  · rintro ⟨es, he, hm⟩
    obtain ⟨hl, hf, _⟩ := elbV_iff.1 he
    unfold movesV at hm
    rw [mvTo_zero] at hm
    have hall : ∀ k, k < es.length → esAt es k = esAt es 0 := by
      intro k
      induction k with
      | zero => intro _; rfl
      | succ k ih =>
        intro hk
        rw [← ih (by omega), hm k (by omega), Nat.mod_eq_of_lt hk]
    have hm0 := mem_reachL.1 (fitB_mem.1 (hf 0 (by omega)))
    refine ⟨(esAt es 0).toNat, by omega, (allTo_iff _).2 fun k hk => ?_⟩
    rw [show ((esAt es 0).toNat : Int) = esAt es 0 by omega, ← hall k (by omega)]
    exact fitB_mem.1 (hf k (by omega))
theorem movesV_nn (es : List Int) : 0 ≤ movesV es ∧ movesV es ≤ es.length := mvTo_nn es _
theorem calm_still {t : Trk} {ws : List Pt} (h0 : 0 < ws.length) (hne : elbsL t ws ≠ []) : decide (movesV (calmV (elbsL t ws)) = 0) = stillTo t ws t.ps.length := by
  obtain ⟨hm, hle⟩ := calmV_spec hne
  cases hb : stillTo t ws t.ps.length with
  | true =>
    obtain ⟨es, he, h⟩ := (still_iff h0).1 hb
    have h1 := hle es ((mem_elbsL h0).2 he)
    have h2 := movesV_nn (calmV (elbsL t ws))
    exact decide_eq_true (by omega)
  | false =>
    refine decide_eq_false fun h => ?_
    rw [(still_iff h0).2 ⟨_, (mem_elbsL h0).1 hm, h⟩] at hb
    cases hb
theorem none_still {t : Trk} {ws : List Pt} (h0 : 0 < ws.length) (hne : elbsL t ws = []) : stillTo t ws t.ps.length = false ∧ ∀ es, elbV t ws es = false := by
  have hno : ∀ es, elbV t ws es = false := fun es => by
    cases hb : elbV t ws es with
    | false => rfl
    | true => have := (mem_elbsL h0).2 hb; rw [hne] at this; cases this
  refine ⟨?_, hno⟩
  cases hb : stillTo t ws t.ps.length with
  | false => rfl
  | true =>
    obtain ⟨es, he, _⟩ := (still_iff h0).1 hb
    rw [hno es] at he
    cases he
theorem calm_elb {t : Trk} {ws : List Pt} (h0 : 0 < ws.length) (hne : elbsL t ws ≠ []) : elbV t ws (calmV (elbsL t ws)) = true ∧ ∀ es, elbV t ws es = true → movesV (calmV (elbsL t ws)) ≤ movesV es := by
  obtain ⟨hm, hle⟩ := calmV_spec hne
  exact ⟨(mem_elbsL h0).1 hm, fun es he => hle es ((mem_elbsL h0).2 he)⟩
theorem reachL_len (t : Trk) (a : Pt) : (reachL t a).length ≤ t.ps.length := by
  unfold reachL
  rw [List.length_map]
  refine Nat.le_trans (List.length_filter_le _ _) ?_
  simp
theorem flat_cnt {α β : Type} (f : α → List β) (m : Nat) : ∀ l : List α, (∀ x ∈ l, (f x).length ≤ m) → (l.flatMap f).length ≤ l.length * m
  | [], _ => by simp
  | x :: l, h => by
    rw [List.flatMap_cons, List.length_append, List.length_cons, Nat.succ_mul]
    have h1 := h x List.mem_cons_self
    have h2 := flat_cnt f m l (fun y hy => h y (List.mem_cons_of_mem _ hy))
    omega
theorem goL_cnt {t : Trk} {ws : List Pt} (h5 : t.ps.length ≤ 5) : ∀ (k : Nat) (pl : List Int), (goL t ws k pl).length ≤ 5 ^ k
  | 0, pl => by
    show (if _ then [pl] else []).length ≤ 1
    split <;> simp
  | k + 1, pl => by
    show ((reachL t (ptAt ws pl.length)).flatMap fun p => if 0 < pl.length ∧ nearB t (lastV pl) p = false then [] else goL t ws k (pl ++ [p])).length ≤ 5 ^ (k + 1)
    refine Nat.le_trans (flat_cnt _ (5 ^ k) _ fun p _ => ?_) ?_
    · split
      · simp
      · exact goL_cnt h5 k _
    · rw [Nat.pow_succ, Nat.mul_comm (5 ^ k)]
      exact Nat.mul_le_mul_right _ (Nat.le_trans (reachL_len t _) h5)
theorem insA_len (n : Int) : ∀ l : List Int, (insA n l).length ≤ l.length + 1
  | [] => by simp [insA]
  | x :: l => by
    show (if n < x then n :: x :: l else if n = x then x :: l else x :: insA n l).length ≤ _
    split
    · simp
    · split
      · simp
      · have := insA_len n l
        simp only [List.length_cons]
        omega
theorem foldA_len : ∀ (l a : List Int), (l.foldl (fun a n => insA n a) a).length ≤ a.length + l.length
  | [], a => by simp
  | n :: l, a => by
    rw [List.foldl_cons]
    have h1 := foldA_len l (insA n a)
    have h2 := insA_len n a
    rw [List.length_cons]
    omega
theorem rollsL_len {t : Trk} {ws : List Pt} (h5 : t.ps.length ≤ 5) (hw : ws.length ≤ 5) : (rollsL t ws).length ≤ 10000 := by
  unfold rollsL ascOf
  have h1 := foldA_len ((elbsL t ws).map (sweepV t ws)) []
  rw [List.length_map] at h1
  have h2 : (elbsL t ws).length ≤ 5 ^ ws.length := goL_cnt h5 _ _
  have h3 : 5 ^ ws.length ≤ 5 ^ 5 := Nat.pow_le_pow_right (by decide) hw
  have h4 : (5 : Nat) ^ 5 = 3125 := by decide
  simp only [List.length_nil] at h1
  omega
end Wl
end Go.Proofs.Ytmjcdggmofohcaa
