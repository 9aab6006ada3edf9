/- Sheets: the reference's pairs of factors, and its truths, as lists. -/
import Derived.Test.YtgpmnkdagpcffaaGreatShY
import Derived.Test.YtgpmnkdagpcffaaGreatShOA
namespace Go.Proofs.YtgpmnkdagpcffaaGreat
open Go.RowKit
namespace Sh
def vals (L : List FaS) : List Fa := L.map (·.1)
theorem vals_append (a b : List FaS) : vals (a ++ b) = vals a ++ vals b := List.map_append
theorem vals_len (a : List FaS) : (vals a).length = a.length := List.length_map _
theorem row_zero (s : Sheet) (i : Nat) : rowTo s i 0 = [] := rfl
theorem pairs_step {s : Sheet} (hs : Ok s) {i j : Nat} (hi : i < na s) (hj : j < nb s) : vals (casesTo s i ++ rowTo s i (j + 1)) = vals (casesTo s i ++ rowTo s i j) ++ [(s.al + (i : Int), s.bl + (j : Int))] := by
  have h1 := hs.a1
  have h2 := hs.a3
  have h3 := hs.b1
  have h4 := hs.b3
  unfold na at hi
  unfold nb at hj
  rw [rowTo_succ, ← List.append_assoc, vals_append]
  congr 1
  show [(faOf (s.al + (i : Int), s.bl + (j : Int))).1] = _
  rw [faOf_val (by unfold fsm; dsimp only; omega)]
theorem pairs_len {s : Sheet} (hs : Ok s) {i j : Nat} (hi : i < na s) (hj : j ≤ nb s) : (vals (casesTo s i ++ rowTo s i j)).length ≤ 40401 := by
  rw [vals_len]
  exact Nat.le_trans (part_pre s hi hj).length_le (casesL_len s hs)
end Sh
theorem pair_info4 : (Tryz.prog.info? 29).map (fun i => (i.zero, i.size, i.bytes)) = some (some (.agg #[.int .i64 0, .int .i64 0]), 2, 16) := by kernel_rfl
theorem own_form2 {w : World} {B : Nat} {e : TypeId} {v : Value} {n : Nat} {xs : List Value} (h : w.ownsRow B e 2 v n xs) : ∃ A c, v = .slice A n c := by
  rcases h.2 with ⟨rfl, rfl⟩ | ⟨g, cap, cur, rfl, _⟩
  · exact ⟨none, 0, rfl⟩
  · exact ⟨some ⟨g, 0, none⟩, cap, rfl⟩
theorem info_partsQ {o : Option TypeInfo} {z : Option Value} {n b : Nat} (h : o.map (fun i => (i.zero, i.size, i.bytes)) = some (z, n, b)) : ∃ i, o = some i ∧ i.zero = z ∧ i.size = n ∧ i.bytes = b := by
  cases o with
  | none => cases h
  | some i => simp at h; exact ⟨i, rfl, h.1, h.2.1, h.2.2⟩
theorem reads_q (w : World) (T : TypeId) (g : Int × Int) : Reads (w.alloc (.cells #[.int .i64 g.1, .int .i64 g.2] T)) (w.heap.size + 1) 2 (some ⟨w.heap.size, 0, none⟩) 1 (flat [g]) := by
  refine ⟨rfl, fun _ => ⟨_, rfl, by simp, fun j u hu => ?_⟩⟩
  match j with
  | 0 =>
    have hu' : u = .int .i64 g.1 := by simpa [flat] using hu.symm
    subst hu'
    show (w.alloc _).cell? ⟨w.heap.size, 0, none⟩ = _
    go_cell
  | 1 =>
    have hu' : u = .int .i64 g.2 := by simpa [flat] using hu.symm
    subst hu'
    show (w.alloc _).cell? ⟨w.heap.size, 1, none⟩ = _
    go_cell
  | j + 2 => simp [flat] at hu
theorem ownq_nil (w : World) (B : Nat) {L : List (Int × Int)} (h : L = []) : w.ownsRow B 29 2 (.slice none 0 0) L.length (flat L) := by subst h; exact ⟨rfl, .inl ⟨rfl, rfl⟩⟩
theorem ownq_below {w w' : World} {B : Nat} {v : Value} {n : Nat} {xs : List Value} (h : w.ownsRow B 29 2 v n xs) (hb : Below w.heap.size w w') : w'.ownsRow B 29 2 v n xs :=
  h.kept (row := none) ⟨hb.os, hb.tape, hb.output, hb.size, fun k hk _ => hb.block k hk⟩ (by cases hv : v.ownBlock <;> simp)
theorem prs_of_own {w : World} {B : Nat} {L : List (Int × Int)} {v : Value} (h : w.ownsRow B 29 2 v L.length (flat L)) : ∃ A c, v = .slice A L.length c ∧ Hid (Prs w w.heap.size A L) := by
  obtain ⟨A, c, rfl⟩ := own_form2 h
  exact ⟨A, c, rfl, Prs.of_reads (Reads.of_own h)⟩
/-- A list of pairs. -/
def PrsPost (L : List (Int × Int)) (w : World) (e : Ending) (w' : World) : Prop := ∃ A c, e = .returned (.slice A L.length c) ∧ Hid (Prs w' w'.heap.size A L) ∧ Below w.heap.size w w'
def PrsEPost (L : List (Int × Int)) (x : Int) (w : World) (e : Ending) (w' : World) : Prop := ∃ A c, e = .returned (.tuple #[.slice A L.length c, .int .i64 x]) ∧ Hid (Prs w' w'.heap.size A L) ∧ Below w.heap.size w w'

end Go.Proofs.YtgpmnkdagpcffaaGreat

namespace Go.Proofs.YtgpmnkdagpcffaaGreat
open Go.RowKit
namespace Sh
theorem cases_in {s : Sheet} (hs : Ok s) {f : FaS} (h : f ∈ casesL s) : (s.al ≤ f.1.1 ∧ f.1.1 ≤ s.ah) ∧ s.bl ≤ f.1.2 ∧ f.1.2 ≤ s.bh := by
  have h1 := hs.a1
  have h2 := hs.a3
  have h3 := hs.b1
  have h4 := hs.b3
  unfold casesL casesTo rowTo na nb at h
  rw [List.mem_flatMap] at h
  obtain ⟨i, hi, h⟩ := h
  rw [List.mem_map] at h
  obtain ⟨j, hj, rfl⟩ := h
  rw [List.mem_range] at hi hj
  rw [faOf_val (by unfold fsm; dsimp only; omega)]
  dsimp only
  omega
theorem truth_tr {s : Sheet} (hs : Ok s) {f : FaS} (h : f ∈ casesL s) : truthB s f.1 = trB s f := by
  obtain ⟨⟨h1, h2⟩, h3, h4⟩ := cases_in hs h
  unfold truthB trB inB
  simp [h1, h2, h3, h4]
/-- The truths among the first cases. -/
def fltTo (s : Sheet) (k : Nat) : List Fa := vals (((casesL s).take k).filter (trB s))
theorem flt_all (s : Sheet) : fltTo s (casesL s).length = vals (truthsL s) := by unfold fltTo truthsL; rw [List.take_length]
theorem flt_step {s : Sheet} (hs : Ok s) {k : Nat} (hk : k < (casesL s).length) :
    (truthB s (Geo.ptAt (vals (casesL s)) k) = true → fltTo s (k + 1) = fltTo s k ++ [Geo.ptAt (vals (casesL s)) k]) ∧ (truthB s (Geo.ptAt (vals (casesL s)) k) = false → fltTo s (k + 1) = fltTo s k) := by
  have e : Geo.ptAt (vals (casesL s)) k = ((casesL s)[k]).1 := by unfold Geo.ptAt vals; rw [List.getElem?_map, List.getElem?_eq_getElem hk]; rfl
  have hm : (casesL s)[k] ∈ casesL s := List.getElem_mem hk
  rw [e, truth_tr hs hm]
  unfold fltTo
  rw [List.take_succ_eq_append_getElem hk, List.filter_append, vals_append]
  constructor
  · intro h
    congr 1
    simp [h, vals]
  · intro h
    simp [h, vals]
theorem flt_len {s : Sheet} (hs : Ok s) (k : Nat) : (fltTo s k).length ≤ 40401 := by
  unfold fltTo
  rw [vals_len]
  refine Nat.le_trans (List.length_filter_le _ _) (Nat.le_trans ?_ (casesL_len s hs))
  rw [List.length_take]
  omega
def knE (s : Sheet) (e : Int) (b : Bool) : Int := if okB s then (if e = 0 then (if b then (if truthsL s = [] then 3 else 0) else 1) else e) else 40
def knL (s : Sheet) (e : Int) (b : Bool) : List Fa := if knE s e b = 0 then vals (truthsL s) else []
theorem knE_sp (s : Sheet) : knE s 0 true = spE s := by unfold knE spE; simp
theorem kn_of {s : Sheet} {e x : Int} {b : Bool} (h : knE s e b = x) (hx : x ≠ 0) : knL s e b = [] := by unfold knL; rw [h, if_neg hx]
end Sh

end Go.Proofs.YtgpmnkdagpcffaaGreat

namespace Go.Proofs.YtgpmnkdagpcffaaGreat
open Go.RowKit
namespace Sh
def knR (some many : Int) : Int := if some = many then 1 else if some = 0 then 2 else 3
def cntTo (tb : Nat → Bool) : Nat → Nat
  | 0 => 0
  | k + 1 => cntTo tb k + (if tb k then 1 else 0)
theorem cnt_succ (tb : Nat → Bool) (k : Nat) : cntTo tb (k + 1) = cntTo tb k + (if tb k then 1 else 0) := rfl
theorem cnt_le (tb : Nat → Bool) : ∀ k, cntTo tb k ≤ k
  | 0 => Nat.le_refl _
  | k + 1 => by have := cnt_le tb k; rw [cnt_succ]; split <;> omega
theorem cnt_all (tb : Nat → Bool) : ∀ k, cntTo tb k = k ↔ ∀ j, j < k → tb j = true
  | 0 => by simp [cntTo]
  | k + 1 => by
    have h := cnt_all tb k
    have h2 := cnt_le tb k
    rw [cnt_succ]
    constructor
    · intro e j hj
      cases hb : tb k with
      | false => rw [hb] at e; simp at e; omega
      | true =>
        rw [hb, if_pos rfl] at e
        by_cases hjk : j = k
        · rw [hjk]; exact hb
        · exact h.1 (by omega) j (by omega)
    · intro e
      rw [e k (by omega), if_pos rfl, h.2 (fun j hj => e j (by omega))]
theorem cnt_zero (tb : Nat → Bool) : ∀ k, cntTo tb k = 0 ↔ ∀ j, j < k → tb j = false
  | 0 => by simp [cntTo]
  | k + 1 => by
    have h := cnt_zero tb k
    rw [cnt_succ]
    constructor
    · intro e j hj
      cases hb : tb k with
      | true => rw [hb, if_pos rfl] at e; omega
      | false =>
        by_cases hjk : j = k
        · rw [hjk]; exact hb
        · exact h.1 (by omega) j (by omega)
    · intro e
      rw [e k (by omega), h.2 (fun j hj => e j (by omega))]
      rfl
theorem vals_at {L : List FaS} {k : Nat} (hk : k < L.length) : Geo.ptAt (vals L) k = (L[k]).1 := by unfold Geo.ptAt vals; rw [List.getElem?_map, List.getElem?_eq_getElem hk]; rfl
/-- Counting tells what is known. -/
theorem known_cnt (bq : Fa → Bool) (L : List FaS) (hne : L ≠ []) : knR (cntTo (fun k => bq (Geo.ptAt (vals L) k)) L.length) L.length = knownV (fun f => bq f.1) L := by
  have hlen : 0 < L.length := List.length_pos_iff.2 hne
  have hA : cntTo (fun k => bq (Geo.ptAt (vals L) k)) L.length = L.length ↔ L.all (fun f => bq f.1) = true := by
    rw [cnt_all, List.all_eq_true]
    constructor
    · intro h x hx
      obtain ⟨j, hj, rfl⟩ := List.getElem_of_mem hx
      have := h j hj
      rw [vals_at hj] at this
      exact this
    · intro h j hj
      rw [vals_at hj]
      exact h _ (List.getElem_mem hj)
  have hZ : cntTo (fun k => bq (Geo.ptAt (vals L) k)) L.length = 0 ↔ L.any (fun f => bq f.1) = false := by
    rw [cnt_zero, List.any_eq_false]
    constructor
    · intro h x hx
      obtain ⟨j, hj, rfl⟩ := List.getElem_of_mem hx
      have := h j hj
      rw [vals_at hj] at this
      simp [this]
    · intro h j hj
      rw [vals_at hj]
      have := h _ (List.getElem_mem hj)
      simpa using this
  unfold knR knownV
  generalize cntTo (fun k => bq (Geo.ptAt (vals L) k)) L.length = m at *
  by_cases h1 : L.all (fun f => bq f.1) = true
  · rw [if_pos h1, if_pos (by have := hA.2 h1; omega)]
  · rw [if_neg h1, if_neg (by have h3 : ¬ m = L.length := fun e => h1 (hA.1 e); omega)]
    by_cases h2 : L.any (fun f => bq f.1) = true
    · rw [if_pos h2, if_neg (by intro e; have := hZ.1 (by omega); rw [h2] at this; cases this)]
    · rw [if_neg h2, if_pos (by have := hZ.2 (by simpa using h2); omega)]
def alQ (p : Fa) : Bool := decide (p.1 = p.2)
def agQ (t d o : Int) (p : Fa) : Bool := decide (dist (areaN t) (d * (p.1 * p.2)) ≤ o * (p.1 * p.2))
def alikeV (s : Sheet) : Int := if spE s = 0 then knownV alikeB (truthsL s) else 0
def agE (s : Sheet) (ps : List Geo.Pt) (d o : Int) : Int := knE s (Geo.errV ps) (deedB d o)
def agV (s : Sheet) (ps : List Geo.Pt) (d o : Int) : Int := if agE s ps d o = 0 then knownV (agreeB (Geo.tot Geo.fanV ps) d o) (truthsL s) else 0
theorem kn_ok {s : Sheet} {e : Int} {b : Bool} (h : knE s e b = 0) (_he : e = 0 ∨ e = 20) : okB s = true ∧ e = 0 ∧ b = true ∧ truthsL s ≠ [] ∧ spE s = 0 := by
  unfold knE at h
  cases hok : okB s with
  | false => rw [hok] at h; cases h
  | true =>
    rw [hok, if_pos rfl] at h
    by_cases h0 : e = 0
    · rw [if_pos h0] at h
      cases b with
      | false => cases h
      | true =>
        rw [if_pos rfl] at h
        by_cases h1 : truthsL s = []
        · rw [if_pos h1] at h; cases h
        · exact ⟨rfl, h0, rfl, h1, sp_yes hok h1⟩
    · rw [if_neg h0] at h; exact absurd h h0
theorem err_two (ps : List Geo.Pt) : Geo.errV ps = 0 ∨ Geo.errV ps = 20 := by unfold Geo.errV; split <;> simp
theorem err_zero {ps : List Geo.Pt} (h : Geo.errV ps = 0) : Geo.validB ps = true := by
  cases hv : Geo.validB ps with
  | true => rfl
  | false => rw [Geo.errV_no hv] at h; cases h
theorem fa_sm (f : FaS) : 1 ≤ f.1.1 * f.1.2 ∧ f.1.1 * f.1.2 ≤ 4000000 := areaD_bd f
end Sh

set_option maxRecDepth 100000 in
set_option maxHeartbeats 2000000 in
theorem Agree4_any (t d o : Int) (f : Sh.FaS) (w : World) (ht : -80000000 ≤ t ∧ t ≤ 80000000) (hd : 0 ≤ d ∧ d ≤ 999999) (ho : 0 ≤ o ∧ o ≤ 999999) :
    Calls Tryz.prog 23 #[.int .i64 t, .int .i64 d, .int .i64 o, .agg #[.int .i64 f.1.1, .int .i64 f.1.2]] w fun e w' => e = .returned (.bool (Sh.agQ t d o f.1)) ∧ Below w.heap.size w w' := by
  have hD := Sh.fa_sm f
  have HR : Hid (Sh.agQ t d o f.1 = decide (Sh.dist (Sh.areaN t) (d * (f.1.1 * f.1.2)) ≤ o * (f.1.1 * f.1.2))) := rfl
  generalize Sh.agQ t d o f.1 = R at *
  obtain ⟨⟨f1, f2⟩, hf⟩ := f
  dsimp only at *
  obtain ⟨D, hDD⟩ : ∃ D, D = f1 * f2 := ⟨_, rfl⟩
  rw [← hDD] at hD HR
  have hw1 : IntKind.i64.wrap (f1 * f2) = D := by rw [← hDD]; exact IntWalk.i64_in _ (by omega)
  have m1 := mul_bd (a := d) (b := D) (x := 999999) (y := 4000000) (by omega) (by omega) (by omega) (by omega)
  have m2 := mul_bd (a := o) (b := D) (x := 999999) (y := 4000000) (by omega) (by omega) (by omega) (by omega)
  obtain ⟨X, hX⟩ : ∃ X, X = d * D := ⟨_, rfl⟩
  obtain ⟨Y, hY⟩ : ∃ Y, Y = o * D := ⟨_, rfl⟩
  rw [← hX] at m1 HR
  rw [← hY] at m2 HR
  have hw2 : IntKind.i64.wrap (d * D) = X := by rw [← hX]; exact IntWalk.i64_in _ (by omega)
  have hw3 : IntKind.i64.wrap (o * D) = Y := by rw [← hY]; exact IntWalk.i64_in _ (by omega)
  have HA1 : Hid (∀ W, Calls Tryz.prog 57 #[.int .i64 t] W fun e w' => e = .returned (.int .i64 (Sh.absV t)) ∧ w' = W) := fun W => absR_any t W (by omega)
  have hat : 0 ≤ Sh.absV t ∧ Sh.absV t ≤ 80000000 := by unfold Sh.absV; omega
  have hw4 : IntKind.i64.wrap (Sh.absV t * 1000000) = Sh.absV t * 1000000 := IntWalk.i64_in _ (by omega)
  have hw5 : IntKind.i64.wrap (Sh.absV t * 1000000 - X) = Sh.absV t * 1000000 - X := IntWalk.i64_in _ (by omega)
  have HA2 : Hid (∀ W, Calls Tryz.prog 57 #[.int .i64 (Sh.absV t * 1000000 - X)] W fun e w' => e = .returned (.int .i64 (Sh.absV (Sh.absV t * 1000000 - X))) ∧ w' = W) := fun W => absR_any _ W (by omega)
  have HR2 : Hid (R = decide (Sh.absV (Sh.absV t * 1000000 - X) ≤ Y)) := by
    have e : Sh.dist (Sh.areaN t) X = Sh.absV (Sh.absV t * 1000000 - X) := by rw [Sh.area_abs]; unfold Sh.dist; show max _ _ = max _ _; congr 1; omega
    rw [← e]
    exact HR.out
  generalize Sh.absV (Sh.absV t * 1000000 - X) = Z at *
  generalize Sh.absV t = U at *
  clear hX hY hDD m1 m2 hat hD ht hd ho hf HR
  go_enter Tryz.func23, Tryz.ntmps23
  go_wp2_with fail
  have hB0 : Below w.heap.size w (w.alloc (.cells #[.int .i64 f1, .int .i64 f2] 29)) := by (repeat' (first | (with_reducible exact Below.refl _ _) | (with_reducible assumption) | (with_reducible refine Below.alloc ?_ ?_ _) | (with_reducible refine Below.drew ?_) | (with_reducible refine Below.setCell ?_ ?_ _) | go_size | (exact (by simp)) | omega))
  refine (HA1.out _).mono ?_
  rintro e1 w1 ⟨rfl, rfl⟩
  go_wp2_with fail
  refine (HA2.out _).mono ?_
  rintro e2 w2 ⟨rfl, rfl⟩
  go_wp2_with fail
  go_returns
  exact ⟨by rw [HR2.out]; rfl, hB0⟩

end Go.Proofs.YtgpmnkdagpcffaaGreat
