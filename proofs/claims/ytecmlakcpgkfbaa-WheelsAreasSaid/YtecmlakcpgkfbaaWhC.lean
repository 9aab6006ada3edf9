/- Wheels: what is in a list of all; the law's own example. -/
import Derived.Test.YtecmlakcpgkfbaaWhP
namespace Go.Proofs.Ytecmlakcpgkfbaa
open Go.RowKit Go.Shelf Go.Maps Go.Sort
namespace Wh
/-- A map's keys are numbers. -/
def IntK (D : DataW Empty) : Prop := ∃ es, D = .map es ∧ ∀ p ∈ es, ∃ x, p.1 = .int .i64 x
theorem intK_put {D : DataW Empty} (h : IntK D) (x : Int) (d : DataW Empty) : IntK (D.put (.int .i64 x) d) := by
  obtain ⟨es, rfl, hp⟩ := h
  refine ⟨_, rfl, fun p hp' => ?_⟩
  have := (WideShapes.insert_perm (Lit.int .i64 x, d) _).mem_iff.1 hp'
  rcases List.mem_cons.1 this with rfl | hm
  · exact ⟨x, rfl⟩
  · exact hp p (List.mem_filter.1 hm).1
theorem intK_map (f0 : Tr → Int) (L : List TrS) : IntK (mapD (H := Empty) f0 L) := by
  have key : ∀ (L : List TrS) (D : DataW Empty), IntK D → IntK (L.foldl (fun D x => D.put (.int .i64 (f0 x.1)) (.lit (.bool true))) D) := by
    intro L
    induction L with
    | nil => exact fun D h => h
    | cons x l ih => exact fun D h => ih _ (intK_put h _ _)
  exact key L _ ⟨[], rfl, fun p hp => by cases hp⟩
theorem mapD_set (f0 : Tr → Int) (L : List TrS) : mapD (H := Empty) f0 L = setOf (.lit (.bool true)) (L.map fun x => .int .i64 (f0 x.1)) := by
  unfold mapD setOf
  rw [List.foldl_map]
theorem lits (f0 : Tr → Int) (L : List TrS) : ∀ x ∈ (L.map fun x => Lit.int .i64 (f0 x.1)), WideAt.IsKeyLit x := by
  intro x hx
  rw [List.mem_map] at hx
  obtain ⟨f, _, rfl⟩ := hx
  trivial
/-- The sorted keys are the strictly ascending list of the same members. -/
theorem all_eq (f0 : Tr → Int) (L : List TrS) {R : List Int} (hR : R.Pairwise (fun a b => a < b)) (hm : ∀ x, x ∈ R ↔ ∃ f ∈ L, f0 f.1 = x) : allL f0 L = R := by
  have ht : Tidy (mapD (H := Empty) f0 L) := by rw [mapD_set]; exact tidy_setOf _ _ (lits f0 L)
  obtain ⟨es, he, hk⟩ := intK_map f0 L
  obtain ⟨es2, he2, hp⟩ := ht
  have hes : es2 = es := by rw [he] at he2; injection he2 with h; exact h.symm
  subst hes
  have hnd : R.Nodup := hR.imp (fun h => by omega)
  have hhas : ∀ x, x ∈ R ↔ has (.map es2) (.int .i64 x) = true := by
    intro x
    rw [hm x, ← he, mapD_set]
    unfold setOf
    rw [has_fold _ _ _ _ ⟨[], rfl⟩ (lits f0 L)]
    have h0 : has (DataW.map ([] : List (Lit × DataW Empty))) (.int .i64 x) = false := rfl
    rw [h0, Bool.false_or, List.any_map, List.any_eq_true]
    constructor
    · rintro ⟨f, hf, rfl⟩
      exact ⟨f, hf, by simp [Lit.sameKey]⟩
    · rintro ⟨f, hf, h⟩
      exact ⟨f, hf, by simpa [Lit.sameKey] using h⟩
  have hperm := perm_intKeys hp hk hnd hhas
  have h1 := mergeSort_of_perm_i hperm
  rw [List.mergeSort_of_pairwise (hR.imp (fun h => by simp only [leI, decide_eq_true_eq]; omega))] at h1
  unfold allL
  rw [he]
  exact h1.symm

theorem all_one (f0 : Tr → Int) (L : List TrS) (v : Int) (hne : L ≠ []) (h : ∀ x ∈ L, f0 x.1 = v) : allL f0 L = [v] := by
  refine all_eq f0 L (by simp) fun x => ?_
  rw [List.mem_singleton]
  constructor
  · rintro rfl
    cases hL : L with
    | nil => exact absurd hL hne
    | cons y l => exact ⟨y, List.mem_cons_self, h y (by rw [hL]; exact List.mem_cons_self)⟩
  · rintro ⟨y, hy, rfl⟩
    exact h y hy
theorem mem_cases {d : Desk} (hd : Ok d) {t : Tr} (h1 : d.glo ≤ t.1 ∧ t.1 ≤ d.ghi) (h2 : -d.skew ≤ t.2 ∧ t.2 ≤ d.skew) : ∃ x ∈ casesL d, x.1 = t := by
  have g1 := hd.g1
  have g3 := hd.g3
  have k1 := hd.k1
  have k2 := hd.k2
  have ht : tsm t := by unfold tsm; omega
  refine ⟨trOf t, ?_, trOf_val ht⟩
  unfold casesL casesTo rowTo
  rw [List.mem_flatMap]
  refine ⟨(t.1 - d.glo).toNat, List.mem_range.2 (by unfold na; omega), ?_⟩
  rw [List.mem_map]
  refine ⟨(t.2 + d.skew).toNat, List.mem_range.2 (by unfold nb; omega), ?_⟩
  congr 1
  apply Prod.ext
  · show d.glo + (((t.1 - d.glo).toNat : Nat) : Int) = t.1
    omega
  · show -d.skew + (((t.2 + d.skew).toNat : Nat) : Int) = t.2
    omega
theorem of_cases {d : Desk} (hd : Ok d) {x : TrS} (h : x ∈ casesL d) : (d.glo ≤ x.1.1 ∧ x.1.1 ≤ d.ghi) ∧ (-d.skew ≤ x.1.2 ∧ x.1.2 ≤ d.skew) := by
  have g1 := hd.g1
  have g2 := hd.g2
  have g3 := hd.g3
  have k1 := hd.k1
  have k2 := hd.k2
  unfold casesL casesTo rowTo at h
  rw [List.mem_flatMap] at h
  obtain ⟨i, hi, h⟩ := h
  rw [List.mem_map] at h
  obtain ⟨j, hj, rfl⟩ := h
  have hi := List.mem_range.1 hi
  have hj := List.mem_range.1 hj
  unfold na at hi
  unfold nb at hj
  rw [trOf_val (by unfold tsm; dsimp only; omega)]
  dsimp only
  omega
/-- All areas and skews that can be, if there is just one of both. -/
theorem areas_one {d : Desk} (hok : okB d = true) {t : Tr} (h1 : d.glo ≤ t.1 ∧ t.1 ≤ d.ghi) (h2 : -d.skew ≤ t.2 ∧ t.2 ≤ d.skew) (hin : (wrongN d t : Int) ≤ d.wr)
    (hone : ∀ u : Tr, (d.glo ≤ u.1 ∧ u.1 ≤ d.ghi) → (-d.skew ≤ u.2 ∧ u.2 ≤ d.skew) → (wrongN d u : Int) ≤ d.wr → u = t) : spE d = 0 ∧ areasV d = [t.1] ∧ skewsV d = [t.2] := by
  have hd := ok_of hok
  have hall : ∀ x ∈ truthsL d, x.1 = t := fun x hx => by
    unfold truthsL at hx
    rw [List.mem_filter] at hx
    obtain ⟨c1, c2⟩ := of_cases hd hx.1
    have := hx.2
    unfold trB at this
    exact hone x.1 c1 c2 (of_decide_eq_true this)
  have hne : truthsL d ≠ [] := fun e => by
    obtain ⟨x, hx, hxt⟩ := mem_cases hd h1 h2
    have : x ∈ truthsL d := by
      unfold truthsL
      rw [List.mem_filter]
      refine ⟨hx, ?_⟩
      unfold trB
      rw [decide_eq_true_eq, hxt]
      exact hin
    rw [e] at this
    cases this
  have h0 := sp_yes hok hne
  refine ⟨h0, ?_, ?_⟩
  · unfold areasV
    rw [if_pos h0]
    exact all_one _ _ _ hne fun x hx => by rw [hall x hx]
  · unfold skewsV
    rw [if_pos h0]
    exact all_one _ _ _ hne fun x hx => by rw [hall x hx]
end Wh
end Go.Proofs.Ytecmlakcpgkfbaa

namespace Go.Proofs.Ytecmlakcpgkfbaa
open Go.RowKit
def exWs : List Wh.Wk := [(1, 1, 0, 10, 62), (1, -1, 0, 62, 16)]
def exD : Wh.Desk := ⟨100, 0, 0, 2, 0, 40, 60, 0, exWs⟩
theorem exD_ok : Wh.okB exD = true := by decide +kernel
theorem exD_ne : Wh.truthsL exD ≠ [] := by decide +kernel
theorem exD_all : ∀ x ∈ Wh.truthsL exD, x.1.1 = 53 := by decide +kernel
theorem exD_sp : Wh.spE exD = 0 := Wh.sp_yes exD_ok exD_ne
theorem exD_areas : Wh.areasV exD = [53] := by
  unfold Wh.areasV
  rw [if_pos exD_sp]
  exact Wh.all_one _ _ _ exD_ne exD_all
set_option maxRecDepth 100000 in
set_option maxHeartbeats 2000000 in
theorem Example3_any (w : World) : Calls Try.prog 48 #[] w fun e w' => ∃ A c, e = .returned (.tuple #[.agg #[.int .i64 100, .int .i64 0, .int .i64 0, .int .i64 2, .int .i64 0, .int .i64 40, .int .i64 60, .int .i64 0], .slice A 2 c]) ∧ Hid (Wks w' w'.heap.size A exWs) ∧ Below w.heap.size w w' := by
  go_enter Try.func48, Try.ntmps48
  go_wp2_with fail
  refine bodyPost_ret (v := .tuple #[.agg #[.int .i64 100, .int .i64 0, .int .i64 0, .int .i64 2, .int .i64 0, .int .i64 40, .int .i64 60, .int .i64 0], .slice (some ⟨w.heap.size + 1, 0, none⟩) 2 2]) (by simp [results, Try.results48, go_sem]) rfl ?_
  have hb : BoxS ((w.alloc (.cells #[.int .i64 100, .int .i64 0, .int .i64 0, .int .i64 2, .int .i64 0, .int .i64 40, .int .i64 60, .int .i64 0] 25)).alloc (.cells #[.int .i64 1, .int .i64 1, .int .i64 0, .int .i64 10, .int .i64 62, .int .i64 1, .int .i64 (-1), .int .i64 0, .int .i64 62, .int .i64 16] 54)) (w.heap.size + 1) 54 #[.int .i64 1, .int .i64 1, .int .i64 0, .int .i64 10, .int .i64 62, .int .i64 1, .int .i64 (-1), .int .i64 0, .int .i64 62, .int .i64 16] := by
    have := BoxS.new (w.alloc (.cells #[.int .i64 100, .int .i64 0, .int .i64 0, .int .i64 2, .int .i64 0, .int .i64 40, .int .i64 60, .int .i64 0] 25)) 54 #[.int .i64 1, .int .i64 1, .int .i64 0, .int .i64 10, .int .i64 62, .int .i64 1, .int .i64 (-1), .int .i64 0, .int .i64 62, .int .i64 16]
    rw [World.size_alloc] at this
    exact this
  refine ⟨some ⟨w.heap.size + 1, 0, none⟩, 2, rfl, fun _ => ⟨w.heap.size + 1, 0, rfl, by simp, fun k hk => ?_⟩, by (repeat' (first | (with_reducible exact Below.refl _ _) | (with_reducible assumption) | (with_reducible refine Below.alloc ?_ ?_ _) | (with_reducible refine Below.drew ?_) | (with_reducible refine Below.setCell ?_ ?_ _) | go_size | (exact (by simp)) | omega))⟩
  rcases k with _ | _ | k
  · exact ⟨hb.cell 0 rfl, hb.cell 1 rfl, hb.cell 2 rfl, hb.cell 3 rfl, hb.cell 4 rfl⟩
  · exact ⟨hb.cell 5 rfl, hb.cell 6 rfl, hb.cell 7 rfl, hb.cell 8 rfl, hb.cell 9 rfl⟩
  · simp [exWs] at hk
    omega
end Go.Proofs.Ytecmlakcpgkfbaa
