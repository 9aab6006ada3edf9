/- Wheels: what a truth is, in plain terms, and how many areas are left at the most. -/
import Derived.Test.YtecmlakcpgkfbaaLawCanc
namespace Go.Proofs.Ytecmlakcpgkfbaa
open Go.RowKit
namespace Wh
theorem cases_iff {d : Desk} (hd : Ok d) (x : TrS) : x ∈ casesL d ↔ (d.glo ≤ x.1.1 ∧ x.1.1 ≤ d.ghi) ∧ (-d.skew ≤ x.1.2 ∧ x.1.2 ≤ d.skew) := by
  refine ⟨of_cases hd, fun h => ?_⟩
  unfold casesL casesTo rowTo
  rw [List.mem_flatMap]
  refine ⟨(x.1.1 - d.glo).toNat, List.mem_range.2 (by unfold na; omega), ?_⟩
  rw [List.mem_map]
  refine ⟨(x.1.2 + d.skew).toNat, List.mem_range.2 (by unfold nb; omega), ?_⟩
  have e : ((d.glo + ((x.1.1 - d.glo).toNat : Int), -d.skew + ((x.1.2 + d.skew).toNat : Int)) : Tr) = x.1 := by
    apply Prod.ext <;> dsimp only <;> omega
  apply Subtype.ext
  rw [e, trOf_val x.2]
theorem mem_truths {d : Desk} (hd : Ok d) (x : TrS) : x ∈ truthsL d ↔ ((d.glo ≤ x.1.1 ∧ x.1.1 ≤ d.ghi) ∧ (-d.skew ≤ x.1.2 ∧ x.1.2 ≤ d.skew)) ∧ (wrongN d x.1 : Int) ≤ d.wr := by
  unfold truthsL trB
  rw [List.mem_filter, cases_iff hd, decide_eq_true_eq]
theorem wkAt_push_old (ws : List Wk) (k : Wk) {j : Nat} (hj : j < ws.length) : wkAt (ws ++ [k]) j = wkAt ws j := by
  unfold wkAt
  rw [List.getElem?_append_left hj]
theorem wkAt_push_new (ws : List Wk) (k : Wk) : wkAt (ws ++ [k]) ws.length = k := by
  unfold wkAt
  rw [List.getElem?_append_right (Nat.le_refl _)]
  simp
def pushD (d : Desk) (k : Wk) : Desk := ⟨d.full, d.read, d.slip, d.skew, d.circ, d.glo, d.ghi, d.wr, d.ws ++ [k]⟩
theorem right_push (d : Desk) (k q : Wk) (t : Tr) : rightB (pushD d k) q t = rightB d q t := rfl
theorem wrongTo_push (d : Desk) (k : Wk) (t : Tr) : ∀ n, n ≤ d.ws.length → wrongTo (pushD d k) t n = wrongTo d t n
  | 0, _ => rfl
  | n + 1, h => by
    rw [wrongTo_succ, wrongTo_succ, wrongTo_push d k t n (by omega), right_push]
    unfold pushD
    dsimp only
    rw [wkAt_push_old _ _ (by omega)]
theorem wrong_push (d : Desk) (k : Wk) (t : Tr) : wrongN (pushD d k) t = wrongN d t + (if rightB d k t then 0 else 1) := by
  have e : (pushD d k).ws.length = d.ws.length + 1 := by unfold pushD; simp
  unfold wrongN
  rw [e, wrongTo_succ, wrongTo_push d k t _ (Nat.le_refl _), right_push]
  unfold pushD
  dsimp only
  rw [wkAt_push_new]
/-- A truth of one more walk is a truth, and if no walk may be wrong, the walk is right in it. -/
theorem truths_push {d : Desk} {k : Wk} (hd : Ok d) (hp : Ok (pushD d k)) {x : TrS} (h : x ∈ truthsL (pushD d k)) : x ∈ truthsL d ∧ (d.wr = 0 → rightB d k x.1 = true) := by
  rw [mem_truths hp] at h
  obtain ⟨h1, h2⟩ := h
  rw [wrong_push] at h2
  have h3 : (((wrongN d x.1 + if rightB d k x.1 then 0 else 1 : Nat)) : Int) ≤ d.wr := h2
  refine ⟨(mem_truths hd x).2 ⟨h1, by omega⟩, fun h0 => ?_⟩
  cases hr : rightB d k x.1
  · rw [hr] at h3; simp at h3; omega
  · rfl
theorem ok_push {d : Desk} (h : okB d = true) (hn : d.ws.length < 8) {k : Wk} (hk : wkB d.full k = true) : okB (pushD d k) = true := by
  rw [okB_iff] at h ⊢
  refine ⟨h.1, ?_⟩
  have h2 := h.2
  unfold wksB at h2 ⊢
  rw [Bool.and_eq_true, decide_eq_true_eq, allTo_iff] at h2 ⊢
  have e : (pushD d k).ws.length = d.ws.length + 1 := by unfold pushD; simp
  rw [e]
  refine ⟨by omega, fun j hj => ?_⟩
  unfold pushD
  dsimp only
  by_cases hjl : j < d.ws.length
  · rw [wkAt_push_old _ _ hjl]; exact h2.2 j hjl
  · have : j = d.ws.length := by omega
    subst this
    rw [wkAt_push_new]; exact hk
theorem sp_or {d : Desk} (hok : okB d = true) : spE d = 0 ∨ spE d = 3 := by
  by_cases e : truthsL d = []
  · exact .inr (sp_none hok e)
  · exact .inl (sp_yes hok e)
theorem sp_mem {d : Desk} (hok : okB d = true) {x : TrS} (h : x ∈ truthsL d) : spE d = 0 := sp_yes hok (fun e => by rw [e] at h; cases h)
/-- The difference of the readings that a kind of walk shows in a truth is j, with some slip and error. -/
def cov (d : Desk) (k1 k2 : Int) (t : Tr) (j : Int) : Prop := ∃ m : Int, 0 ≤ m ∧ m ≤ looseV d ∧ (k1 * t.1 + k2 * t.2 + m) % d.full = j
/-- Areas of truths of a list, each once, all of which show the difference. -/
def areaRow (d : Desk) (k1 k2 : Int) (L : List TrS) (j : Int) (B : List Int) : Prop := B.Pairwise (fun a b => a < b) ∧ ∀ x ∈ B, ∃ t ∈ L, t.1.1 = x ∧ cov d k1 k2 t.1 j
/-- Both lists after some ticks of an area: the count and the last area of each difference. -/
theorem tickTo_get (n : Nat) (hn : 0 < n) (t1 : Int) (j0 : Nat) (s : List Int × List Int) (h1 : s.1.length = n) (h2 : s.2.length = n) (j : Nat) (hj : j < n) : ∀ m,
    ((∃ i, i < m ∧ (j0 + i) % n = j) → (tickTo n t1 j0 s m).2[j]?.getD 0 = t1 + 1 ∧ (tickTo n t1 j0 s m).1[j]?.getD 0 = s.1[j]?.getD 0 + (if s.2[j]?.getD 0 = t1 + 1 then 0 else 1)) ∧
    ((¬ ∃ i, i < m ∧ (j0 + i) % n = j) → (tickTo n t1 j0 s m).2[j]?.getD 0 = s.2[j]?.getD 0 ∧ (tickTo n t1 j0 s m).1[j]?.getD 0 = s.1[j]?.getD 0)
  | 0 => ⟨fun ⟨i, hi, _⟩ => by omega, fun _ => ⟨rfl, rfl⟩⟩
  | m + 1 => by
    obtain ⟨ih1, ih2⟩ := tickTo_get n hn t1 j0 s h1 h2 j hj m
    obtain ⟨l1, l2⟩ := tickTo_len n t1 j0 s m
    have hr := Nat.mod_lt (j0 + m) hn
    show ((_ → (tick t1 (tickTo n t1 j0 s m) ((j0 + m) % n)).2[j]?.getD 0 = _ ∧ (tick t1 (tickTo n t1 j0 s m) ((j0 + m) % n)).1[j]?.getD 0 = _) ∧ (_ → (tick t1 (tickTo n t1 j0 s m) ((j0 + m) % n)).2[j]?.getD 0 = _ ∧ (tick t1 (tickTo n t1 j0 s m) ((j0 + m) % n)).1[j]?.getD 0 = _))
    generalize tickTo n t1 j0 s m = u at *
    generalize hq : (j0 + m) % n = q at *
    by_cases e : q = j
    · subst e
      constructor
      · intro _
        unfold tick
        by_cases hp : ∃ i, i < m ∧ (j0 + i) % n = q
        · obtain ⟨a1, a2⟩ := ih1 hp
          rw [if_pos a1]
          exact ⟨a1, a2⟩
        · obtain ⟨a1, a2⟩ := ih2 hp
          by_cases hs : s.2[q]?.getD 0 = t1 + 1
          · rw [if_pos (a1.trans hs), if_pos hs]
            exact ⟨a1.trans hs, by omega⟩
          · rw [if_neg (by rw [a1]; exact hs), if_neg hs]
            dsimp only
            rw [List.getElem?_set_self (by omega), List.getElem?_set_self (by omega)]
            exact ⟨rfl, by show _ + 1 = _; omega⟩
      · intro h
        exact absurd ⟨m, by omega, hq⟩ h
    · have hk : (tick t1 u q).2[j]?.getD 0 = u.2[j]?.getD 0 ∧ (tick t1 u q).1[j]?.getD 0 = u.1[j]?.getD 0 := by
        unfold tick
        split
        · exact ⟨rfl, rfl⟩
        · dsimp only
          rw [List.getElem?_set_ne e, List.getElem?_set_ne e]
          exact ⟨rfl, rfl⟩
      rw [hk.1, hk.2]
      have hx : (∃ i, i < m + 1 ∧ (j0 + i) % n = j) ↔ ∃ i, i < m ∧ (j0 + i) % n = j := by
        constructor
        · rintro ⟨i, hi, h⟩
          refine ⟨i, ?_, h⟩
          have : i ≠ m := fun e2 => e (by rw [← hq, ← e2]; exact h)
          omega
        · rintro ⟨i, hi, h⟩
          exact ⟨i, by omega, h⟩
      rw [hx]
      exact ⟨ih1, ih2⟩
theorem cov_iff {d : Desk} (hd : Ok d) (k1 k2 : Int) (t : Tr) (j : Nat) : cov d k1 k2 t j ↔ ∃ i : Nat, i < (looseV d + 1).toNat ∧ (diffN d k1 k2 t + i) % d.full.toNat = j := by
  have hf := hd.f1
  have hn : ((d.full.toNat : Nat) : Int) = d.full := by omega
  have hv : ((diffN d k1 k2 t : Nat) : Int) = (k1 * t.1 + k2 * t.2) % d.full := by
    unfold diffN
    rw [modV_eq (by omega)]
    have := Int.emod_nonneg (k1 * t.1 + k2 * t.2) (show d.full ≠ 0 by omega)
    omega
  have key : ∀ i : Nat, (k1 * t.1 + k2 * t.2 + (i : Int)) % d.full = (((diffN d k1 k2 t + i) % d.full.toNat : Nat) : Int) := fun i => by
    rw [Int.natCast_emod, Int.natCast_add, hn, hv, Int.emod_add_emod]
  constructor
  · rintro ⟨m, m1, m2, m3⟩
    obtain ⟨i, rfl⟩ : ∃ i : Nat, m = i := ⟨m.toNat, by omega⟩
    rw [key] at m3
    exact ⟨i, by omega, by omega⟩
  · rintro ⟨i, i1, i2⟩
    refine ⟨i, by omega, by omega, ?_⟩
    rw [key, i2]
/-- What both lists hold after the truths of a list. -/
def wInv (d : Desk) (k1 k2 : Int) (L : List TrS) (s : List Int × List Int) : Prop :=
  ∀ j : Nat, j < d.full.toNat → ∃ B : List Int, (B.Pairwise (fun a b => a < b) ∧ (∀ x, x ∈ B ↔ ∃ t ∈ L, t.1.1 = x ∧ cov d k1 k2 t.1 j)) ∧ (B.length : Int) = s.1[j]?.getD 0 ∧ ((s.2[j]?.getD 0 = 0 ∧ B = []) ∨ s.2[j]?.getD 0 - 1 ∈ B) ∧ ∀ x ∈ B, x + 1 ≤ s.2[j]?.getD 0
theorem wInv_step {d : Desk} (hd : Ok d) (k1 k2 : Int) {L : List TrS} {s : List Int × List Int} (h1 : s.1.length = d.full.toNat) (h2 : s.2.length = d.full.toNat) (h : wInv d k1 k2 L s) (x : TrS) (hx : 0 ≤ x.1.1) (hL : ∀ t ∈ L, t.1.1 ≤ x.1.1) : wInv d k1 k2 (L ++ [x]) (rndS d k1 k2 s x.1) := by
  intro j hj
  have hf := hd.f1
  obtain ⟨B, ⟨b1, b2⟩, b3, b4, b5⟩ := h j hj
  obtain ⟨g1, g2⟩ := tickTo_get d.full.toNat (by omega) x.1.1 (diffN d k1 k2 x.1) s h1 h2 j hj (looseV d + 1).toNat
  rw [← cov_iff hd] at g1 g2
  unfold rndS
  have hle : ∀ y ∈ B, y ≤ x.1.1 := fun y hy => by
    obtain ⟨t, ht, e, _⟩ := (b2 y).1 hy
    rw [← e]; exact hL t ht
  by_cases hc : cov d k1 k2 x.1 j
  · obtain ⟨e2, e1⟩ := g1 hc
    rw [e1, e2]
    have hin : x.1.1 ∈ B ↔ s.2[j]?.getD 0 = x.1.1 + 1 := by
      constructor
      · intro hb
        have := b5 _ hb
        rcases b4 with ⟨_, b4⟩ | b4
        · rw [b4] at hb; cases hb
        · have := hle _ b4; omega
      · intro hb
        rcases b4 with ⟨b4, _⟩ | b4
        · omega
        · rw [hb] at b4
          have e : x.1.1 + 1 - 1 = x.1.1 := by omega
          rwa [e] at b4
    by_cases hs : s.2[j]?.getD 0 = x.1.1 + 1
    · rw [if_pos hs]
      refine ⟨B, ⟨b1, fun y => ?_⟩, by omega, .inr ?_, fun y hy => by have := hle y hy; omega⟩
      · rw [b2]
        constructor
        · rintro ⟨t, ht, e⟩
          exact ⟨t, List.mem_append.2 (.inl ht), e⟩
        · rintro ⟨t, ht, e, e'⟩
          rcases List.mem_append.1 ht with ht | ht
          · exact ⟨t, ht, e, e'⟩
          · rw [List.mem_singleton] at ht
            subst ht
            rw [← e]
            exact (b2 _).1 (hin.2 hs)
      · have e : x.1.1 + 1 - 1 = x.1.1 := by omega
        rw [e]; exact hin.2 hs
    · rw [if_neg hs]
      refine ⟨B ++ [x.1.1], ⟨?_, fun y => ?_⟩, by rw [List.length_append]; simp; omega, .inr ?_, fun y hy => ?_⟩
      · rw [List.pairwise_append]
        refine ⟨b1, List.pairwise_singleton _ _, fun a ha b hb => ?_⟩
        rw [List.mem_singleton] at hb
        subst hb
        have h3 := hle a ha
        have h4 : a ≠ x.1.1 := fun e => hs (hin.1 (e ▸ ha))
        omega
      · rw [List.mem_append, b2, List.mem_singleton]
        constructor
        · rintro (⟨t, ht, e⟩ | e)
          · exact ⟨t, List.mem_append.2 (.inl ht), e⟩
          · exact ⟨x, List.mem_append.2 (.inr (List.mem_singleton.2 rfl)), e.symm, hc⟩
        · rintro ⟨t, ht, e, e'⟩
          rcases List.mem_append.1 ht with ht | ht
          · exact .inl ⟨t, ht, e, e'⟩
          · rw [List.mem_singleton] at ht
            subst ht
            exact .inr e.symm
      · have e : x.1.1 + 1 - 1 = x.1.1 := by omega
        rw [e]
        exact List.mem_append.2 (.inr (List.mem_singleton.2 rfl))
      · rcases List.mem_append.1 hy with hy | hy
        · have := hle y hy; omega
        · rw [List.mem_singleton] at hy; omega
  · obtain ⟨e2, e1⟩ := g2 hc
    rw [e1, e2]
    refine ⟨B, ⟨b1, fun y => ?_⟩, b3, b4, b5⟩
    rw [b2]
    constructor
    · rintro ⟨t, ht, e⟩
      exact ⟨t, List.mem_append.2 (.inl ht), e⟩
    · rintro ⟨t, ht, e, e'⟩
      rcases List.mem_append.1 ht with ht | ht
      · exact ⟨t, ht, e, e'⟩
      · rw [List.mem_singleton] at ht
        subst ht
        exact absurd e' hc
theorem cases_asc {d : Desk} (hd : Ok d) : (casesL d).Pairwise (fun a b => a.1.1 ≤ b.1.1) := by
  have g1 := hd.g1
  have g3 := hd.g3
  have k1 := hd.k1
  have k2 := hd.k2
  have hval : ∀ i j : Nat, i < na d → j < nb d → (trOf (d.glo + (i : Int), -d.skew + (j : Int))).1 = (d.glo + (i : Int), -d.skew + (j : Int)) := fun i j hi hj => by
    unfold na at hi
    unfold nb at hj
    exact trOf_val (by unfold tsm; dsimp only; omega)
  unfold casesL casesTo rowTo
  rw [List.pairwise_flatMap]
  constructor
  · intro i hi
    rw [List.pairwise_map]
    refine List.pairwise_lt_range.imp_of_mem (fun {a b} ha hb _ => ?_)
    rw [hval i a (List.mem_range.1 hi) (List.mem_range.1 ha), hval i b (List.mem_range.1 hi) (List.mem_range.1 hb)]
    exact Int.le_refl _
  · refine List.pairwise_lt_range.imp_of_mem (fun {a b} ha hb hab => ?_)
    intro x hx y hy
    rw [List.mem_map] at hx hy
    obtain ⟨p, hp, rfl⟩ := hx
    obtain ⟨q, hq, rfl⟩ := hy
    rw [hval a p (List.mem_range.1 ha) (List.mem_range.1 hp), hval b q (List.mem_range.1 hb) (List.mem_range.1 hq)]
    dsimp only
    omega
theorem truths_asc {d : Desk} (hd : Ok d) : (truthsL d).Pairwise (fun a b => a.1.1 ≤ b.1.1) := (cases_asc hd).filter _
theorem wInv_all {d : Desk} (hd : Ok d) (k1 k2 : Int) : wInv d k1 k2 (truthsL d) (worstS d k1 k2 (truthsL d)) := by
  have key : ∀ n, n ≤ (truthsL d).length → wInv d k1 k2 ((truthsL d).take n) (worstS d k1 k2 ((truthsL d).take n)) := by
    intro n
    induction n with
    | zero =>
      intro _ j hj
      refine ⟨[], ⟨List.Pairwise.nil, fun x => by simp⟩, ?_, .inl ⟨?_, rfl⟩, fun x hx => by cases hx⟩
      · unfold worstS
        rw [List.take_zero, List.foldl_nil]
        dsimp only
        rw [List.getElem?_replicate]
        split <;> rfl
      · unfold worstS
        rw [List.take_zero, List.foldl_nil]
        dsimp only
        rw [List.getElem?_replicate]
        split <;> rfl
    | succ n ih =>
      intro hn
      have h := ih (by omega)
      rw [List.take_succ_eq_append_getElem (by omega), worstS_snoc]
      obtain ⟨l1, l2⟩ := worstS_len d k1 k2 ((truthsL d).take n)
      refine wInv_step hd k1 k2 l1 l2 h _ ?_ fun t ht => ?_
      · have := (truthsL d)[n].2
        unfold tsm at this
        omega
      · obtain ⟨i, hi, rfl⟩ := List.getElem_of_mem ht
        rw [List.getElem_take]
        have hi' : i < n := by rw [List.length_take] at hi; omega
        exact List.pairwise_iff_getElem.1 (truths_asc hd) i n (by omega) (by omega) hi'
  have := key _ (Nat.le_refl _)
  rwa [List.take_length] at this
theorem maxTo_ge (xs : List Int) : ∀ n j : Nat, j < n → xs[j]?.getD 0 ≤ maxTo xs n
  | 0, j, h => by omega
  | 1, j, h => by
    have : j = 0 := by omega
    subst this
    exact Int.le_refl _
  | n + 2, j, h => by
    show _ ≤ max (maxTo xs (n + 1)) (xs[n + 1]?.getD 0)
    by_cases e : j = n + 1
    · subst e; omega
    · have := maxTo_ge xs (n + 1) j (by omega); omega
theorem maxTo_ex (xs : List Int) : ∀ n : Nat, ∃ j, j < n + 1 ∧ maxTo xs (n + 1) = xs[j]?.getD 0
  | 0 => ⟨0, by omega, rfl⟩
  | n + 1 => by
    obtain ⟨j, hj, e⟩ := maxTo_ex xs n
    have h : maxTo xs (n + 1 + 1) = max (maxTo xs (n + 1)) (xs[n + 1]?.getD 0) := rfl
    by_cases hc : xs[n + 1]?.getD 0 ≤ maxTo xs (n + 1)
    · exact ⟨j, by omega, by omega⟩
    · exact ⟨n + 1, by omega, by omega⟩
theorem worst_ge {d : Desk} (hd : Ok d) (k1 k2 : Int) {j : Int} (j0 : 0 ≤ j) (j1 : j < d.full) {B : List Int} (h : areaRow d k1 k2 (truthsL d) j B) : (B.length : Int) ≤ worstV d k1 k2 := by
  obtain ⟨i, rfl⟩ : ∃ i : Nat, j = i := ⟨j.toNat, by omega⟩
  obtain ⟨B', ⟨_, b2⟩, b3, _, _⟩ := wInv_all hd k1 k2 i (by omega)
  have hn : B.Nodup := h.1.imp (fun h => by omega)
  have hsub : B ⊆ B' := fun x hx => (b2 x).2 (h.2 x hx)
  have h1 := hn.length_le_of_subset hsub
  have h2 := maxTo_ge (worstS d k1 k2 (truthsL d)).1 d.full.toNat i (by omega)
  unfold worstV
  omega
theorem worst_le {d : Desk} (hd : Ok d) (k1 k2 : Int) : ∃ (j : Int) (B : List Int), (0 ≤ j ∧ j < d.full) ∧ areaRow d k1 k2 (truthsL d) j B ∧ (B.length : Int) = worstV d k1 k2 := by
  have hf := hd.f1
  obtain ⟨i, hi, e⟩ := maxTo_ex (worstS d k1 k2 (truthsL d)).1 (d.full.toNat - 1)
  have e2 : d.full.toNat - 1 + 1 = d.full.toNat := by omega
  rw [e2] at hi e
  obtain ⟨B, ⟨b1, b2⟩, b3, _, _⟩ := wInv_all hd k1 k2 i (by omega)
  refine ⟨i, B, by omega, ⟨b1, fun x hx => (b2 x).1 hx⟩, ?_⟩
  unfold worstV
  rw [e]
  exact b3
theorem worst_neg_le {d : Desk} (hd : Ok d) (k1 k2 : Int) : worstV d k1 k2 ≤ worstV d (-k1) (-k2) := by
  have hf := hd.f1
  obtain ⟨j, B, hj, ⟨b1, b2⟩, e⟩ := worst_le hd k1 k2
  rw [← e]
  refine worst_ge hd _ _ (j := (looseV d - j) % d.full) (Int.emod_nonneg _ (by omega)) (Int.emod_lt_of_pos _ (by omega)) ⟨b1, fun x hx => ?_⟩
  obtain ⟨t, ht, e1, m, m1, m2, m3⟩ := b2 x hx
  refine ⟨t, ht, e1, looseV d - m, by omega, by omega, ?_⟩
  have q := Int.emod_add_mul_ediv (k1 * t.1.1 + k2 * t.1.2 + m) d.full
  rw [m3] at q
  have e3 : looseV d - j = (-k1 * t.1.1 + -k2 * t.1.2 + (looseV d - m)) + d.full * ((k1 * t.1.1 + k2 * t.1.2 + m) / d.full) := by
    rw [Int.neg_mul, Int.neg_mul]
    omega
  rw [e3, Int.add_mul_emod_self_left]
theorem worst_neg {d : Desk} (hd : Ok d) (k1 k2 : Int) : worstV d (-k1) (-k2) = worstV d k1 k2 := by
  have h1 := worst_neg_le hd k1 k2
  have h2 := worst_neg_le hd (-k1) (-k2)
  rw [Int.neg_neg, Int.neg_neg] at h2
  omega
theorem worst_pos {d : Desk} (hd : Ok d) (h0 : spE d = 0) (k1 k2 : Int) : 1 ≤ worstV d k1 k2 := by
  have hf := hd.f1
  obtain ⟨t, ht⟩ := List.exists_mem_of_ne_nil _ (sp_ok h0).2
  have hs1 := hd.s1
  have hr1 := hd.r1
  have := worst_ge hd k1 k2 (j := (k1 * t.1.1 + k2 * t.1.2 + 0) % d.full) (Int.emod_nonneg _ (by omega)) (Int.emod_lt_of_pos _ (by omega)) (B := [t.1.1]) ⟨List.pairwise_singleton _ _, fun x hx => by
    rw [List.mem_singleton] at hx
    exact ⟨t, ht, hx.symm, 0, Int.le_refl _, by unfold looseV; omega, rfl⟩⟩
  simpa using this
theorem worst_areas {d : Desk} (hd : Ok d) (h0 : spE d = 0) (k1 k2 : Int) : worstV d k1 k2 ≤ (areasV d).length := by
  obtain ⟨j, B, _, ⟨b1, b2⟩, e⟩ := worst_le hd k1 k2
  have hn : B.Nodup := b1.imp (fun h => by omega)
  have := hn.length_le_of_subset (l₂ := areasV d) (fun x hx => by
    obtain ⟨t, ht, e, _⟩ := b2 x hx
    exact (areas_mem h0 x).2 ⟨t, ht, e⟩)
  omega
theorem nextTo_four (W : Int → Int → Int) : (nextTo W 4).2 = if W 1 (-1) < W 1 1 then (1, -1) else (1, 1) := by
  by_cases h : W 1 (-1) < W 1 1
  · simp [nextTo, nextStep, leftV, putG, nk, kindAt, h]
    try omega
  · simp [nextTo, nextStep, leftV, putG, nk, kindAt, h]
    try omega
theorem next_least {d : Desk} (hd : Ok d) (h0 : spE d = 0) {a b : Int} (ha : a = 1 ∨ a = -1) (hb : b = 1 ∨ b = -1) : worstV d (nextV d).1 (nextV d).2 ≤ worstV d a b := by
  have s1 := worst_neg hd 1 1
  have s2 := worst_neg hd 1 (-1)
  rw [Int.neg_neg] at s2
  unfold nextV
  rw [if_pos h0, nextTo_four]
  split <;> rcases ha with rfl | rfl <;> rcases hb with rfl | rfl <;> dsimp only <;> omega
theorem next_sign (d : Desk) (h0 : spE d = 0) : signB (nextV d).1 = true ∧ signB (nextV d).2 = true := by
  unfold nextV
  rw [if_pos h0, nextTo_four]
  split <;> exact ⟨rfl, rfl⟩
/-- A walk with the pole outside shows just one difference in the truths in which it is right. -/
theorem right_cov {d : Desk} (hd : Ok d) {x : Wk} (hx : wkB d.full x = true) (hi : x.2.2.1 = 0) : ∃ j, (0 ≤ j ∧ j < d.full) ∧ ∀ t, rightB d x t = true → cov d x.1 x.2.1 t j := by
  have hf := hd.f1
  have hr1 := hd.r1
  have hsl := hd.s1
  have hb1 : ∀ z : Int, 0 ≤ z % d.full ∧ z % d.full < d.full := fun z => ⟨Int.emod_nonneg _ (by omega), Int.emod_lt_of_pos _ (by omega)⟩
  unfold wkB at hx
  simp only [Bool.and_eq_true, signB_iff] at hx
  rcases hx.1.1.1.1 with h1 | h1
  · refine ⟨(looseV d + (x.2.2.2.2 - x.2.2.2.1) - 2 * d.read) % d.full, hb1 _, fun t ht => ?_⟩
    unfold rightB at ht
    rw [modV_eq (by omega), decide_eq_true_eq] at ht
    have hm := hb1 (missV d.full d.read d.circ x t)
    refine ⟨looseV d - missV d.full d.read d.circ x t % d.full, by omega, by omega, ?_⟩
    have q := Int.emod_add_mul_ediv (missV d.full d.read d.circ x t) d.full
    have e : x.1 * t.1 + x.2.1 * t.2 + (looseV d - missV d.full d.read d.circ x t % d.full) = (looseV d + (x.2.2.2.2 - x.2.2.2.1) - 2 * d.read) + d.full * (missV d.full d.read d.circ x t / d.full) := by
      generalize hM : missV d.full d.read d.circ x t = M at *
      unfold missV at hM
      rw [h1, hi] at hM
      rw [h1]
      simp only [Int.one_mul, Int.zero_mul, Int.sub_zero] at hM ⊢
      omega
    rw [e, Int.add_mul_emod_self_left]
  · refine ⟨((x.2.2.2.2 - x.2.2.2.1) + 2 * d.read) % d.full, hb1 _, fun t ht => ?_⟩
    unfold rightB at ht
    rw [modV_eq (by omega), decide_eq_true_eq] at ht
    have hm := hb1 (missV d.full d.read d.circ x t)
    refine ⟨missV d.full d.read d.circ x t % d.full, by omega, by omega, ?_⟩
    have q := Int.emod_add_mul_ediv (missV d.full d.read d.circ x t) d.full
    have e : x.1 * t.1 + x.2.1 * t.2 + missV d.full d.read d.circ x t % d.full = ((x.2.2.2.2 - x.2.2.2.1) + 2 * d.read) + d.full * (-(missV d.full d.read d.circ x t / d.full)) := by
      rw [Int.mul_neg]
      generalize hM : missV d.full d.read d.circ x t = M at *
      unfold missV at hM
      rw [h1, hi] at hM
      rw [h1]
      simp only [Int.neg_mul, Int.one_mul, Int.zero_mul, Int.sub_zero] at hM ⊢
      omega
    rw [e, Int.add_mul_emod_self_left]
/-- P3.15, without the calls. -/
theorem step_plain {d : Desk} (hok : okB d = true) (hn : d.ws.length < 8) {x : Wk} (hx : wkB d.full x = true) (hi : x.2.2.1 = 0) (h0 : d.wr = 0) (hs : spE d = 0) :
    ((areasV (pushD d x)).length : Int) ≤ worstV d x.1 x.2.1 ∧ (∀ y ∈ areasV (pushD d x), y ∈ areasV d) ∧ (areasV (pushD d x)).length ≤ (areasV d).length := by
  have hd := ok_of hok
  have hok2 := ok_push hok hn hx
  have hd2 := ok_of hok2
  by_cases hs2 : spE (pushD d x) = 0
  · obtain ⟨j, hj, hc⟩ := right_cov hd hx hi
    have hsub : ∀ y ∈ areasV (pushD d x), y ∈ areasV d := fun y hy => by
      obtain ⟨t, ht, e⟩ := (areas_mem hs2 y).1 hy
      exact (areas_mem hs y).2 ⟨t, (truths_push hd hd2 ht).1, e⟩
    have hnd : (areasV (pushD d x)).Nodup := (areas_sorted _).imp (fun h => by omega)
    refine ⟨worst_ge hd _ _ hj.1 hj.2 ⟨areas_sorted _, fun y hy => ?_⟩, hsub, hnd.length_le_of_subset hsub⟩
    obtain ⟨t, ht, e⟩ := (areas_mem hs2 y).1 hy
    have := truths_push hd hd2 ht
    exact ⟨t, this.1, e, hc _ (this.2 h0)⟩
  · have e : areasV (pushD d x) = [] := by unfold areasV; rw [if_neg hs2]
    rw [e]
    have := worst_pos hd hs x.1 x.2.1
    exact ⟨by simp; omega, fun y hy => (by cases hy), by simp⟩
end Wh
end Go.Proofs.Ytecmlakcpgkfbaa
