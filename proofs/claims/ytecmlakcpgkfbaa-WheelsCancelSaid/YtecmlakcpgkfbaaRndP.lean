/- Wheels: plain facts on what a wheel that reads rightly tells of a polygon, by both sides of the pole. -/
import Derived.Test.YtecmlakcpgkfbaaWhP
import Derived.Test.YtecmlakcpgkfbaaArea
import Derived.Test.YtecmlakcpgkfbaaPts
namespace Go.Proofs.Ytecmlakcpgkfbaa
open Go.RowKit Go.Shelf Go.Maps Go.Sort
namespace Wh
/-- A map's keys are numbers. -/
def IntK (D : DataW Empty) : Prop := ∃ es, D = .map es ∧ ∀ p ∈ es, ∃ x, p.1 = .int .i64 x
theorem intK_put {D : DataW Empty} (h : IntK D) (x : Int) (d : DataW Empty) : IntK (D.put (.int .i64 x) d) := by
  obtain ⟨es, rfl, hp⟩ := h
  refine ⟨_, rfl, fun p hp' => ?_⟩
  have := (WideShapes.insert_perm (Lit.int .i64 x, d) _).mem_iff.1 hp'
  rcases List.mem_cons.1 this with rfl | hm
  · exact ⟨x, rfl⟩
  · exact hp p (List.mem_filter.1 hm).1
theorem intK_map (f0 : Tr → Int) (L : List TrS) : IntK (mapD (H := Empty) f0 L) := by
  have key : ∀ (L : List TrS) (D : DataW Empty), IntK D → IntK (L.foldl (fun D x => D.put (.int .i64 (f0 x.1)) (.lit (.bool true))) D) := by
    intro L
    induction L with
    | nil => exact fun D h => h
    | cons x l ih => exact fun D h => ih _ (intK_put h _ _)
  exact key L _ ⟨[], rfl, fun p hp => by cases hp⟩
theorem mapD_set (f0 : Tr → Int) (L : List TrS) : mapD (H := Empty) f0 L = setOf (.lit (.bool true)) (L.map fun x => .int .i64 (f0 x.1)) := by
  unfold mapD setOf
  rw [List.foldl_map]
theorem lits (f0 : Tr → Int) (L : List TrS) : ∀ x ∈ (L.map fun x => Lit.int .i64 (f0 x.1)), WideAt.IsKeyLit x := by
  intro x hx
  rw [List.mem_map] at hx
  obtain ⟨f, _, rfl⟩ := hx
  trivial
/-- The sorted keys are the strictly ascending list of the same members. -/
theorem all_eq (f0 : Tr → Int) (L : List TrS) {R : List Int} (hR : R.Pairwise (fun a b => a < b)) (hm : ∀ x, x ∈ R ↔ ∃ f ∈ L, f0 f.1 = x) : allL f0 L = R := by
  have ht : Tidy (mapD (H := Empty) f0 L) := by rw [mapD_set]; exact tidy_setOf _ _ (lits f0 L)
  obtain ⟨es, he, hk⟩ := intK_map f0 L
  obtain ⟨es2, he2, hp⟩ := ht
  have hes : es2 = es := by rw [he] at he2; injection he2 with h; exact h.symm
  subst hes
  have hnd : R.Nodup := hR.imp (fun h => by omega)
  have hhas : ∀ x, x ∈ R ↔ has (.map es2) (.int .i64 x) = true := by
    intro x
    rw [hm x, ← he, mapD_set]
    unfold setOf
    rw [has_fold _ _ _ _ ⟨[], rfl⟩ (lits f0 L)]
    have h0 : has (DataW.map ([] : List (Lit × DataW Empty))) (.int .i64 x) = false := rfl
    rw [h0, Bool.false_or, List.any_map, List.any_eq_true]
    constructor
    · rintro ⟨f, hf, rfl⟩
      exact ⟨f, hf, by simp [Lit.sameKey]⟩
    · rintro ⟨f, hf, h⟩
      exact ⟨f, hf, by simpa [Lit.sameKey] using h⟩
  have hperm := perm_intKeys hp hk hnd hhas
  have h1 := mergeSort_of_perm_i hperm
  rw [List.mergeSort_of_pairwise (hR.imp (fun h => by simp only [leI, decide_eq_true_eq]; omega))] at h1
  unfold allL
  rw [he]
  exact h1.symm

theorem all_one (f0 : Tr → Int) (L : List TrS) (v : Int) (hne : L ≠ []) (h : ∀ x ∈ L, f0 x.1 = v) : allL f0 L = [v] := by
  refine all_eq f0 L (by simp) fun x => ?_
  rw [List.mem_singleton]
  constructor
  · rintro rfl
    cases hL : L with
    | nil => exact absurd hL hne
    | cons y l => exact ⟨y, List.mem_cons_self, h y (by rw [hL]; exact List.mem_cons_self)⟩
  · rintro ⟨y, hy, rfl⟩
    exact h y hy
theorem mem_cases {d : Desk} (hd : Ok d) {t : Tr} (h1 : d.glo ≤ t.1 ∧ t.1 ≤ d.ghi) (h2 : -d.skew ≤ t.2 ∧ t.2 ≤ d.skew) : ∃ x ∈ casesL d, x.1 = t := by
  have g1 := hd.g1
  have g3 := hd.g3
  have k1 := hd.k1
  have k2 := hd.k2
  have ht : tsm t := by unfold tsm; omega
  refine ⟨trOf t, ?_, trOf_val ht⟩
  unfold casesL casesTo rowTo
  rw [List.mem_flatMap]
  refine ⟨(t.1 - d.glo).toNat, List.mem_range.2 (by unfold na; omega), ?_⟩
  rw [List.mem_map]
  refine ⟨(t.2 + d.skew).toNat, List.mem_range.2 (by unfold nb; omega), ?_⟩
  congr 1
  apply Prod.ext
  · show d.glo + (((t.1 - d.glo).toNat : Nat) : Int) = t.1
    omega
  · show -d.skew + (((t.2 + d.skew).toNat : Nat) : Int) = t.2
    omega
theorem of_cases {d : Desk} (hd : Ok d) {x : TrS} (h : x ∈ casesL d) : (d.glo ≤ x.1.1 ∧ x.1.1 ≤ d.ghi) ∧ (-d.skew ≤ x.1.2 ∧ x.1.2 ≤ d.skew) := by
  have g1 := hd.g1
  have g2 := hd.g2
  have g3 := hd.g3
  have k1 := hd.k1
  have k2 := hd.k2
  unfold casesL casesTo rowTo at h
  rw [List.mem_flatMap] at h
  obtain ⟨i, hi, h⟩ := h
  rw [List.mem_map] at h
  obtain ⟨j, hj, rfl⟩ := h
  have hi := List.mem_range.1 hi
  have hj := List.mem_range.1 hj
  unfold na at hi
  unfold nb at hj
  rw [trOf_val (by unfold tsm; dsimp only; omega)]
  dsimp only
  omega
/-- All areas and skews that can be, if there is just one of both. -/
theorem areas_one {d : Desk} (hok : okB d = true) {t : Tr} (h1 : d.glo ≤ t.1 ∧ t.1 ≤ d.ghi) (h2 : -d.skew ≤ t.2 ∧ t.2 ≤ d.skew) (hin : (wrongN d t : Int) ≤ d.wr)
    (hone : ∀ u : Tr, (d.glo ≤ u.1 ∧ u.1 ≤ d.ghi) → (-d.skew ≤ u.2 ∧ u.2 ≤ d.skew) → (wrongN d u : Int) ≤ d.wr → u = t) : spE d = 0 ∧ areasV d = [t.1] ∧ skewsV d = [t.2] := by
  have hd := ok_of hok
  have hall : ∀ x ∈ truthsL d, x.1 = t := fun x hx => by
    unfold truthsL at hx
    rw [List.mem_filter] at hx
    obtain ⟨c1, c2⟩ := of_cases hd hx.1
    have := hx.2
    unfold trB at this
    exact hone x.1 c1 c2 (of_decide_eq_true this)
  have hne : truthsL d ≠ [] := fun e => by
    obtain ⟨x, hx, hxt⟩ := mem_cases hd h1 h2
    have : x ∈ truthsL d := by
      unfold truthsL
      rw [List.mem_filter]
      refine ⟨hx, ?_⟩
      unfold trB
      rw [decide_eq_true_eq, hxt]
      exact hin
    rw [e] at this
    cases this
  have h0 := sp_yes hok hne
  refine ⟨h0, ?_, ?_⟩
  · unfold areasV
    rw [if_pos h0]
    exact all_one _ _ _ hne fun x hx => by rw [hall x hx]
  · unfold skewsV
    rw [if_pos h0]
    exact all_one _ _ _ hne fun x hx => by rw [hall x hx]
/-- The desk of the law: a wheel that reads rightly and does not slip, and a walk on each side. -/
def rnd (F a k s1 s2 : Int) : Desk := ⟨F, 0, 0, 4, 0, max 0 (a - 10), min 9999 (a + 10), 0, [(1, 1, 0, s1, (s1 + a + k + F).tmod F), (1, -1, 0, s2, (s2 + a - k + F).tmod F)]⟩
theorem rnd_one {F a k s1 s2 : Int} (hF : 60 ≤ F ∧ F ≤ 10000) (ha : 0 ≤ a ∧ a ≤ 9999) (hk : -4 ≤ k ∧ k ≤ 4) (h1 : 0 ≤ s1 ∧ s1 < F) (h2 : 0 ≤ s2 ∧ s2 < F) :
    spE (rnd F a k s1 s2) = 0 ∧ areasV (rnd F a k s1 s2) = [a] ∧ skewsV (rnd F a k s1 s2) = [k] := by
  have e1 : (s1 + a + k + F).tmod F = (s1 + a + k + F) % F := Int.tmod_eq_emod_of_nonneg (by omega)
  have e2 : (s2 + a - k + F).tmod F = (s2 + a - k + F) % F := Int.tmod_eq_emod_of_nonneg (by omega)
  have b1 := Int.emod_nonneg (s1 + a + k + F) (show F ≠ 0 by omega)
  have b2 := Int.emod_lt_of_pos (s1 + a + k + F) (show 0 < F by omega)
  have b3 := Int.emod_nonneg (s2 + a - k + F) (show F ≠ 0 by omega)
  have b4 := Int.emod_lt_of_pos (s2 + a - k + F) (show 0 < F by omega)
  obtain ⟨q1, hq1⟩ : ∃ q, q = (s1 + a + k + F) / F := ⟨_, rfl⟩
  obtain ⟨q2, hq2⟩ : ∃ q, q = (s2 + a - k + F) / F := ⟨_, rfl⟩
  have d1 := Int.emod_add_mul_ediv (s1 + a + k + F) F
  have d2 := Int.emod_add_mul_ediv (s2 + a - k + F) F
  rw [← hq1] at d1
  rw [← hq2] at d2
  obtain ⟨r1, hr1⟩ : ∃ r, r = (s1 + a + k + F) % F := ⟨_, rfl⟩
  obtain ⟨r2, hr2⟩ : ∃ r, r = (s2 + a - k + F) % F := ⟨_, rfl⟩
  rw [← hr1] at b1 b2 d1 e1
  rw [← hr2] at b3 b4 d2 e2
  have hright : ∀ u : Tr, (wrongN (rnd F a k s1 s2) u : Int) ≤ 0 ↔ (F ∣ u.1 + u.2 - a - k) ∧ F ∣ u.1 - u.2 - a + k := fun u => by
    obtain ⟨u1, u2⟩ := u
    have hm : ∀ m : Int, decide (modV m F ≤ 0) = true ↔ F ∣ m := fun m => by
      rw [decide_eq_true_eq, modV_eq (by omega)]
      have := Int.emod_nonneg m (show F ≠ 0 by omega)
      constructor
      · intro h; exact Int.dvd_of_emod_eq_zero (by omega)
      · intro h; rw [Int.emod_eq_zero_of_dvd h]; omega
    have hd1 : F ∣ missV F 0 0 (1, 1, 0, s1, r1) (u1, u2) ↔ F ∣ u1 + u2 - a - k := by
      have e : missV F 0 0 (1, 1, 0, s1, r1) (u1, u2) = (u1 + u2 - a - k) + F * (q1 - 1) := by
        have hF1 : F * (q1 - 1) = F * q1 - F := by rw [Int.mul_sub, Int.mul_one]
        rw [hF1]
        unfold missV
        dsimp only
        omega
      rw [e]
      exact ⟨fun h => (Int.dvd_add_left (Int.dvd_mul_right F _)).1 h, fun h => (Int.dvd_add_left (Int.dvd_mul_right F _)).2 h⟩
    have hd2 : F ∣ missV F 0 0 (1, -1, 0, s2, r2) (u1, u2) ↔ F ∣ u1 - u2 - a + k := by
      have e : missV F 0 0 (1, -1, 0, s2, r2) (u1, u2) = (u1 - u2 - a + k) + F * (q2 - 1) := by
        have hF1 : F * (q2 - 1) = F * q2 - F := by rw [Int.mul_sub, Int.mul_one]
        rw [hF1]
        unfold missV
        dsimp only
        omega
      rw [e]
      exact ⟨fun h => (Int.dvd_add_left (Int.dvd_mul_right F _)).1 h, fun h => (Int.dvd_add_left (Int.dvd_mul_right F _)).2 h⟩
    have hr1' : rightB (rnd F a k s1 s2) (wkAt (rnd F a k s1 s2).ws 0) (u1, u2) = true ↔ F ∣ u1 + u2 - a - k := by
      unfold rnd rightB
      rw [e1, e2]
      exact (hm _).trans hd1
    have hr2' : rightB (rnd F a k s1 s2) (wkAt (rnd F a k s1 s2).ws 1) (u1, u2) = true ↔ F ∣ u1 - u2 - a + k := by
      unfold rnd rightB
      rw [e1, e2]
      exact (hm _).trans hd2
    have hw : wrongN (rnd F a k s1 s2) (u1, u2) = (0 + if rightB (rnd F a k s1 s2) (wkAt (rnd F a k s1 s2).ws 0) (u1, u2) then 0 else 1) + if rightB (rnd F a k s1 s2) (wkAt (rnd F a k s1 s2).ws 1) (u1, u2) then 0 else 1 := rfl
    rw [hw, ← hr1', ← hr2']
    cases rightB (rnd F a k s1 s2) (wkAt (rnd F a k s1 s2).ws 0) (u1, u2) <;> cases rightB (rnd F a k s1 s2) (wkAt (rnd F a k s1 s2).ws 1) (u1, u2) <;> simp
  have hok : okB (rnd F a k s1 s2) = true := by
    unfold okB whB wksB allTo allTo allTo rnd inB wkB wkAt signB inB
    rw [e1, e2]
    simp
    omega
  refine areas_one (t := (a, k)) hok (by unfold rnd; dsimp only; omega) (by unfold rnd; dsimp only; omega) ?_ ?_
  · show _ ≤ (0 : Int)
    rw [hright]
    exact ⟨⟨0, by dsimp only; omega⟩, ⟨0, by dsimp only; omega⟩⟩
  · intro u hu1 hu2 hu3
    obtain ⟨u1, u2⟩ := u
    have hu3' := (hright (u1, u2)).1 hu3
    unfold rnd at hu1 hu2
    dsimp only at hu1 hu2 hu3'
    obtain ⟨⟨c1, hc1⟩, c2, hc2⟩ := hu3'
    have z : ∀ c m : Int, m = F * c → -60 < m → m < 60 → m = 0 := fun c m h l u => by
      by_cases hc : c = 0
      · rw [h, hc, Int.mul_zero]
      · exfalso
        rcases Int.lt_or_gt_of_ne hc with hc | hc
        · have := Int.mul_le_mul_of_nonneg_left (show c ≤ -1 by omega) (show 0 ≤ F by omega)
          omega
        · have := Int.mul_le_mul_of_nonneg_left (show 1 ≤ c by omega) (show 0 ≤ F by omega)
          omega
    have z1 := z c1 _ hc1 (by omega) (by omega)
    have z2 := z c2 _ hc2 (by omega) (by omega)
    rw [Prod.mk.injEq]
    omega
end Wh
namespace Geo
theorem sum_bd (M : Int) (hM : 0 ≤ M) : ∀ L : List Int, (∀ x ∈ L, -M ≤ x ∧ x ≤ M) → -(M * (L.length : Int)) ≤ L.sum ∧ L.sum ≤ M * (L.length : Int)
  | [], _ => by simp
  | x :: l, h => by
    have ih := sum_bd M hM l fun y hy => h y (List.mem_cons_of_mem _ hy)
    have hx := h x List.mem_cons_self
    rw [List.sum_cons, List.length_cons]
    have e : M * ((l.length + 1 : Nat) : Int) = M * (l.length : Int) + M := by rw [Int.natCast_add, Int.mul_add]; simp
    rw [e]
    omega
theorem tot_small {ps : List Pt} (h : validB ps = true) : -1000000 ≤ tot fanV ps ∧ tot fanV ps ≤ 1000000 := by
  obtain ⟨⟨_, hl⟩, hd, _⟩ := (validB_parts ps).1 h
  have hp : ∀ k : Nat, (-200 ≤ (ps[k]?.getD (0, 0)).1 ∧ (ps[k]?.getD (0, 0)).1 ≤ 200) ∧ (-200 ≤ (ps[k]?.getD (0, 0)).2 ∧ (ps[k]?.getD (0, 0)).2 ≤ 200) := fun k => by
    cases hk : ps[k]? with
    | none => simp
    | some p =>
      have := hd.1 p (List.mem_of_getElem? hk)
      unfold ptB inB at this
      simp only [Bool.and_eq_true, decide_eq_true_eq] at this
      exact this
  have hb := sum_bd 80000 (by omega) ((sidesL ps).map fanV) fun x hx => by
    rw [List.mem_map] at hx
    obtain ⟨s, hs, rfl⟩ := hx
    unfold sidesL at hs
    rw [List.mem_map] at hs
    obtain ⟨k, _, rfl⟩ := hs
    have p1 := hp k
    have p2 := hp ((k + 1) % ps.length)
    generalize ps[k]?.getD (0, 0) = a at *
    generalize ps[(k + 1) % ps.length]?.getD (0, 0) = b at *
    obtain ⟨a1, a2⟩ := a
    obtain ⟨b1, b2⟩ := b
    dsimp only at p1 p2
    have e : fanV ((a1, a2), (b1, b2)) = a1 * b2 - a2 * b1 := by unfold fanV turn; grind
    rw [e]
    have m1 := mul_bd (a := a1) (b := b2) (x := 200) (y := 200) (by omega) (by omega) (by omega) (by omega)
    have m2 := mul_bd (a := a2) (b := b1) (x := 200) (y := 200) (by omega) (by omega) (by omega) (by omega)
    omega
  have hlen : ((sidesL ps).map fanV).length = ps.length := by unfold sidesL; simp
  rw [hlen] at hb
  unfold tot
  omega
end Geo
end Go.Proofs.Ytecmlakcpgkfbaa
