/- Wheels: one more walk, one walk alone, and walks that tell the same (plain). -/
import Derived.Test.YtecmlakcpgkfbaaTrP
namespace Go.Proofs.Ytecmlakcpgkfbaa
open Go.RowKit
namespace Wh
theorem bound_mem {d : Desk} (h0 : spE d = 0) : (boundV d).1 ∈ areasV d ∧ (boundV d).2 ∈ areasV d ∧ ∀ x ∈ areasV d, (boundV d).1 ≤ x ∧ x ≤ (boundV d).2 := by
  have hp := areas_pos h0
  unfold boundV
  rw [if_pos h0]
  dsimp only
  rw [List.getElem?_eq_getElem hp, List.getElem?_eq_getElem (show (areasV d).length - 1 < (areasV d).length by omega)]
  refine ⟨List.getElem_mem _, List.getElem_mem _, fun x hx => ?_⟩
  obtain ⟨i, hi, rfl⟩ := List.getElem_of_mem hx
  have key := List.pairwise_iff_getElem.1 (areas_sorted d)
  show (areasV d)[0] ≤ (areasV d)[i] ∧ (areasV d)[i] ≤ (areasV d)[(areasV d).length - 1]
  constructor
  · by_cases e : i = 0
    · subst e; exact Int.le_refl _
    · exact Int.le_of_lt (key 0 i (by omega) hi (by omega))
  · by_cases e : i = (areasV d).length - 1
    · subst e; exact Int.le_refl _
    · exact Int.le_of_lt (key i _ hi (by omega) (by omega))
theorem sub_sp {d o : Desk} (ho : okB o = true) (hsub : ∀ t ∈ truthsL d, t ∈ truthsL o) (h0 : spE d = 0) : spE o = 0 := by
  obtain ⟨t, ht⟩ := List.exists_mem_of_ne_nil _ (sp_ok h0).2
  exact sp_mem ho (hsub t ht)
theorem sub_areas {d o : Desk} (ho : okB o = true) (hsub : ∀ t ∈ truthsL d, t ∈ truthsL o) (h0 : spE d = 0) : (∀ x ∈ areasV d, x ∈ areasV o) ∧ (areasV d).length ≤ (areasV o).length := by
  have h1 : ∀ x ∈ areasV d, x ∈ areasV o := fun x hx => by
    obtain ⟨t, ht, e⟩ := (areas_mem h0 x).1 hx
    exact (areas_mem (sub_sp ho hsub h0) x).2 ⟨t, hsub t ht, e⟩
  have hnd : (areasV d).Nodup := (areas_sorted _).imp (fun h => by omega)
  exact ⟨h1, hnd.length_le_of_subset h1⟩
theorem sub_bound {d o : Desk} (ho : okB o = true) (hsub : ∀ t ∈ truthsL d, t ∈ truthsL o) (h0 : spE d = 0) : (boundV o).1 ≤ (boundV d).1 ∧ (boundV d).2 ≤ (boundV o).2 ∧ (boundV d).1 ≤ (boundV d).2 := by
  obtain ⟨m1, m2, m3⟩ := bound_mem h0
  obtain ⟨_, _, n3⟩ := bound_mem (sub_sp ho hsub h0)
  have hs := (sub_areas ho hsub h0).1
  exact ⟨(n3 _ (hs _ m1)).1, (n3 _ (hs _ m2)).2, (m3 _ m1).2⟩
theorem push_many {d : Desk} (hd : okB d = true) {k : Wk} (hp : okB (pushD d k) = true) (h0 : spE (pushD d k) = 0) : manyV (pushD d k) ≤ manyV d := by
  have h1 := sub_sp hd (fun t ht => (truths_push (ok_of hd) (ok_of hp) ht).1) h0
  unfold manyV
  rw [if_pos h0, if_pos h1]
  have e : casesL (pushD d k) = casesL d := rfl
  unfold truthsL
  rw [e, ← List.countP_eq_length_filter, ← List.countP_eq_length_filter]
  have := List.countP_mono_left (l := casesL d) (p := trB (pushD d k)) (q := trB d) (fun x _ hx => by
    unfold trB at hx ⊢
    rw [decide_eq_true_eq] at hx ⊢
    rw [wrong_push] at hx
    have hx' : ((wrongN d x.1 + (if rightB d k x.1 then 0 else 1) : Nat) : Int) ≤ d.wr := hx
    omega)
  omega
/-- A wheel with greater numbers. -/
def moreD (d : Desk) (r s k v g : Int) : Desk := ⟨d.full, d.read + r, d.slip + s, d.skew + k, d.circ, d.glo - g, d.ghi + g, d.wr + v, d.ws⟩
theorem emod_le_self {a n : Int} (h : 0 ≤ a) (hn : 0 < n) : a % n ≤ a := by
  have h1 := Int.emod_add_mul_ediv a n
  have h2 : 0 ≤ a / n := Int.ediv_nonneg h (by omega)
  have h3 := Int.mul_nonneg (show 0 ≤ n by omega) h2
  omega
theorem right_more {d : Desk} (hd : Ok d) {r s : Int} (k v g : Int) (hr : 0 ≤ r) (hs : 0 ≤ s) {q : Wk} {t : Tr} (h : rightB d q t = true) : rightB (moreD d r s k v g) q t = true := by
  have hf := hd.f1
  unfold rightB at h ⊢
  rw [decide_eq_true_eq, modV_eq (by omega)] at h
  rw [decide_eq_true_eq, modV_eq (by show 0 < d.full; omega)]
  show missV d.full (d.read + r) d.circ q t % d.full ≤ d.slip + s + 4 * (d.read + r)
  have e : missV d.full (d.read + r) d.circ q t = missV d.full d.read d.circ q t + 2 * r := by unfold missV; omega
  rw [e]
  unfold looseV at h
  generalize missV d.full d.read d.circ q t = M at *
  have h1 := Int.emod_nonneg M (show d.full ≠ 0 by omega)
  have h2 : (M + 2 * r) % d.full = (M % d.full + 2 * r) % d.full := by rw [Int.emod_add_emod]
  rw [h2]
  have := emod_le_self (a := M % d.full + 2 * r) (n := d.full) (by omega) (by omega)
  omega
theorem wrong_mono {d o : Desk} (hw : o.ws = d.ws) (t : Tr) (h : ∀ k, rightB d k t = true → rightB o k t = true) : ∀ n, wrongTo o t n ≤ wrongTo d t n
  | 0 => Nat.le_refl _
  | n + 1 => by
    have ih := wrong_mono hw t h n
    rw [wrongTo_succ, wrongTo_succ, hw]
    cases h1 : rightB d (wkAt d.ws n) t
    · split <;> simp <;> omega
    · rw [h _ h1]; simp; omega
theorem more_sub {d : Desk} (hd : Ok d) {r s k v g : Int} (hr : 0 ≤ r) (hs : 0 ≤ s) (hk : 0 ≤ k) (hv : 0 ≤ v) (hg : 0 ≤ g) (ho : Ok (moreD d r s k v g)) : ∀ t ∈ truthsL d, t ∈ truthsL (moreD d r s k v g) := by
  intro t ht
  rw [mem_truths hd] at ht
  rw [mem_truths ho]
  have h1 : wrongN (moreD d r s k v g) t.1 ≤ wrongN d t.1 := wrong_mono (d := d) (o := moreD d r s k v g) rfl t.1 (fun q h => right_more hd k v g hr hs h) _
  have h2 := ht.2
  refine ⟨?_, ?_⟩
  · show (d.glo - g ≤ t.1.1 ∧ t.1.1 ≤ d.ghi + g) ∧ (-(d.skew + k) ≤ t.1.2 ∧ t.1.2 ≤ d.skew + k)
    omega
  · show (wrongN (moreD d r s k v g) t.1 : Int) ≤ d.wr + v
    omega
/-- The same wheel, with no walk wrong. -/
def noneD (d : Desk) : Desk := ⟨d.full, d.read, d.slip, d.skew, d.circ, d.glo, d.ghi, 0, d.ws⟩
theorem ok_none {d : Desk} (h : okB d = true) : okB (noneD d) = true := by
  rw [okB_iff] at h ⊢
  refine ⟨?_, h.2⟩
  have h1 := h.1
  unfold whB inB at h1 ⊢
  simp only [Bool.and_eq_true, decide_eq_true_eq] at h1 ⊢
  show ((((((_ ∧ _) ∧ _) ∧ _) ∧ _) ∧ _) ∧ _) ∧ ((0 : Int) ≤ 0 ∧ (0 : Int) ≤ 8)
  exact ⟨h1.1, by omega⟩
theorem ok_sub {d : Desk} (h : okB d = true) {i : Nat} (hi : i < d.ws.length) : okB (subD d i) = true := by
  have h2 := ok_wk h i hi
  have h3 := ok_none h
  rw [okB_iff] at h3 ⊢
  refine ⟨h3.1, ?_⟩
  unfold wksB
  rw [Bool.and_eq_true, decide_eq_true_eq, allTo_iff]
  refine ⟨by show 1 ≤ 8; omega, fun j hj => ?_⟩
  have : j = 0 := by
    have : j < 1 := hj
    omega
  subst this
  exact h2
theorem wrong_zero {d : Desk} {t : Tr} : ∀ {n : Nat}, wrongTo d t n = 0 → ∀ j, j < n → rightB d (wkAt d.ws j) t = true
  | 0, _, j, hj => by omega
  | n + 1, h, j, hj => by
    rw [wrongTo_succ] at h
    by_cases e : j = n
    · subst e
      cases hr : rightB d (wkAt d.ws j) t
      · rw [hr] at h; simp at h
      · rfl
    · exact wrong_zero (n := n) (by omega) j (by omega)
theorem wrong_lt {d : Desk} {t : Tr} {i : Nat} (hr : rightB d (wkAt d.ws i) t = true) : ∀ n, i < n → wrongTo d t n < n
  | 0, h => by omega
  | n + 1, h => by
    rw [wrongTo_succ]
    by_cases e : i = n
    · subst e
      rw [hr]
      have := wrongTo_le d t i
      simp; omega
    · have := wrong_lt hr n (by omega)
      split <;> omega
theorem sub_right {d : Desk} (hok : okB d = true) {i : Nat} (hi : i < d.ws.length) {t : TrS} (ht : t ∈ truthsL (subD d i)) : ((d.glo ≤ t.1.1 ∧ t.1.1 ≤ d.ghi) ∧ (-d.skew ≤ t.1.2 ∧ t.1.2 ≤ d.skew)) ∧ rightB d (wkAt d.ws i) t.1 = true := by
  have h := (mem_truths (ok_of (ok_sub hok hi)) t).1 ht
  refine ⟨h.1, ?_⟩
  have h2 : (wrongN (subD d i) t.1 : Int) ≤ 0 := h.2
  exact wrong_zero (d := subD d i) (n := 1) (by
    have e : wrongN (subD d i) t.1 = wrongTo (subD d i) t.1 1 := rfl
    omega) 0 (by omega)
theorem none_sub {d : Desk} (hok : okB d = true) {i : Nat} (hi : i < d.ws.length) : ∀ t ∈ truthsL (noneD d), t ∈ truthsL (subD d i) := by
  intro t ht
  have h := (mem_truths (ok_of (ok_none hok)) t).1 ht
  refine (mem_truths (ok_of (ok_sub hok hi)) t).2 ⟨h.1, ?_⟩
  have h2 : (wrongN (noneD d) t.1 : Int) ≤ 0 := h.2
  have hr := wrong_zero (d := noneD d) (t := t.1) (n := (noneD d).ws.length) (by
    have e : wrongN (noneD d) t.1 = wrongTo (noneD d) t.1 (noneD d).ws.length := rfl
    omega) i hi
  have e : wrongN (subD d i) t.1 = 0 + (if rightB (subD d i) (wkAt (subD d i).ws 0) t.1 then 0 else 1) := rfl
  have hr2 : rightB (subD d i) (wkAt (subD d i).ws 0) t.1 = true := hr
  rw [e, hr2]
  exact Int.le_refl _
/-- Walks that are right just where other ones are tell the same. -/
structure Same (d o : Desk) : Prop where
  ok : okB o = true
  sp : spE o = spE d
  tr : truthsL o = truthsL d
theorem same_of {d : Desk} (hd : okB d = true) {vs : List Wk} (hl : vs.length = d.ws.length) (hk : ∀ j, j < vs.length → wkB d.full (wkAt vs j) = true) (hw : ∀ t, wrongN ⟨d.full, d.read, d.slip, d.skew, d.circ, d.glo, d.ghi, d.wr, vs⟩ t = wrongN d t) : Same d ⟨d.full, d.read, d.slip, d.skew, d.circ, d.glo, d.ghi, d.wr, vs⟩ := by
  have hok : okB ⟨d.full, d.read, d.slip, d.skew, d.circ, d.glo, d.ghi, d.wr, vs⟩ = true := by
    rw [okB_iff] at hd ⊢
    refine ⟨hd.1, ?_⟩
    have h2 := hd.2
    unfold wksB at h2 ⊢
    rw [Bool.and_eq_true, decide_eq_true_eq, allTo_iff] at h2 ⊢
    dsimp only
    exact ⟨by omega, hk⟩
  have ht : truthsL ⟨d.full, d.read, d.slip, d.skew, d.circ, d.glo, d.ghi, d.wr, vs⟩ = truthsL d := by
    unfold truthsL trB
    have e : casesL ⟨d.full, d.read, d.slip, d.skew, d.circ, d.glo, d.ghi, d.wr, vs⟩ = casesL d := rfl
    rw [e]
    simp only [hw]
  refine ⟨hok, ?_, ht⟩
  unfold spE
  rw [hok, hd, ht, if_pos rfl, if_pos rfl]
theorem Same.areas {d o : Desk} (h : Same d o) : areasV o = areasV d := by unfold areasV; rw [h.sp, h.tr]
theorem Same.skews {d o : Desk} (h : Same d o) : skewsV o = skewsV d := by unfold skewsV; rw [h.sp, h.tr]
theorem Same.many {d o : Desk} (h : Same d o) : manyV o = manyV d := by unfold manyV; rw [h.sp, h.tr]
theorem wrong_same {d o : Desk} {t : Tr} : ∀ n, (∀ j, j < n → rightB o (wkAt o.ws j) t = rightB d (wkAt d.ws j) t) → wrongTo o t n = wrongTo d t n
  | 0, _ => rfl
  | n + 1, h => by rw [wrongTo_succ, wrongTo_succ, wrong_same n (fun j hj => h j (by omega)), h n (by omega)]
/-- Senses and sides exchanged, and both readings. -/
def backW (k : Wk) : Wk := (-k.1, -k.2.1, k.2.2.1, k.2.2.2.2, k.2.2.2.1)
/-- Both readings greater by a number. -/
def laterW (full b : Int) (k : Wk) : Wk := (k.1, k.2.1, k.2.2.1, (k.2.2.2.1 + b) % full, (k.2.2.2.2 + b) % full)
theorem back_right (d : Desk) (k : Wk) (t : Tr) : rightB d (backW k) t = rightB d k t := by
  unfold rightB
  have e : missV d.full d.read d.circ (backW k) t = missV d.full d.read d.circ k t := by
    unfold missV backW
    dsimp only
    grind
  rw [e]
theorem back_ok {full : Int} {k : Wk} (h : wkB full k = true) : wkB full (backW k) = true := by
  unfold wkB inB backW at *
  simp only [Bool.and_eq_true, decide_eq_true_eq, signB_iff] at *
  omega
theorem later_right {d : Desk} (hd : Ok d) (b : Int) {k : Wk} (hk : wkB d.full k = true) (t : Tr) : rightB d (laterW d.full b k) t = rightB d k t := by
  have hf := hd.f1
  unfold rightB
  rw [modV_eq (by omega), modV_eq (by omega)]
  have e1 := Int.emod_add_mul_ediv (k.2.2.2.1 + b) d.full
  have e2 := Int.emod_add_mul_ediv (k.2.2.2.2 + b) d.full
  have hs : k.1 = 1 ∨ k.1 = -1 := by
    unfold wkB at hk
    simp only [Bool.and_eq_true, signB_iff] at hk
    exact hk.1.1.1.1
  have e : missV d.full d.read d.circ (laterW d.full b k) t = missV d.full d.read d.circ k t + d.full * (k.1 * ((k.2.2.2.2 + b) / d.full - (k.2.2.2.1 + b) / d.full)) := by
    unfold missV laterW
    dsimp only
    generalize (k.2.2.2.1 + b) % d.full = p at *
    generalize (k.2.2.2.2 + b) % d.full = q at *
    generalize (k.2.2.2.1 + b) / d.full = y at *
    generalize (k.2.2.2.2 + b) / d.full = z at *
    generalize k.2.1 * t.2 = u at *
    generalize k.2.2.1 * d.circ = v at *
    rcases hs with h | h <;> rw [h] <;> simp only [Int.one_mul, Int.neg_mul, Int.mul_neg, Int.mul_sub] <;> omega
  rw [e, Int.add_mul_emod_self_left]
theorem later_ok {full : Int} (hf : 0 < full) (b : Int) {k : Wk} (h : wkB full k = true) : wkB full (laterW full b k) = true := by
  have h1 := Int.emod_nonneg (k.2.2.2.1 + b) (show full ≠ 0 by omega)
  have h2 := Int.emod_lt_of_pos (k.2.2.2.1 + b) hf
  have h3 := Int.emod_nonneg (k.2.2.2.2 + b) (show full ≠ 0 by omega)
  have h4 := Int.emod_lt_of_pos (k.2.2.2.2 + b) hf
  unfold wkB inB laterW at *
  simp only [Bool.and_eq_true, decide_eq_true_eq, signB_iff] at *
  omega
/-- How many walks are not right, as a count over the list. -/
theorem wrong_count (d : Desk) (t : Tr) : wrongN d t = d.ws.countP (fun k => !rightB d k t) := by
  have key : ∀ n, n ≤ d.ws.length → wrongTo d t n = (d.ws.take n).countP (fun k => !rightB d k t) := by
    intro n
    induction n with
    | zero => intro _; rfl
    | succ n ih =>
      intro hn
      rw [wrongTo_succ, ih (by omega), List.take_succ_eq_append_getElem (by omega), List.countP_append, wkAt_eq (List.getElem?_eq_getElem (show n < d.ws.length by omega))]
      congr 1
      rw [List.countP_singleton]
      cases rightB d d.ws[n] t <;> rfl
  have := key _ (Nat.le_refl _)
  rwa [List.take_length] at this
end Wh
end Go.Proofs.Ytecmlakcpgkfbaa
