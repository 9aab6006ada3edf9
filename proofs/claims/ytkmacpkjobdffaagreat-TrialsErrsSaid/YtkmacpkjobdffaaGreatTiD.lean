/- Trials: a map of truths that the call makes, asked for a truth: 'seen[c]', 'seen[c] = true'. -/
import Derived.Test.YtkmacpkjobdffaaGreatTiC
import Derived.Test.YtkmacpkjobdffaaGreatFrame
import Derived.Maps.OwnOps
import Derived.Maps.Views
import Derived.DeepKeys4
import Derived.DeepKeys3
namespace Go.Proofs.YtkmacpkjobdffaaGreat
open Go.RowKit Go.Maps
open Go.WideMaps (KeyLaw)
open Go

theorem rowT : (93 : TypeId) < Tryz.prog.types.size := of_decide_eq_true (by kernel_rfl)
theorem cellsT : Tryz.prog.cellsOf 93 = 2 := by kernel_rfl
theorem cellsInt : Tryz.prog.cellsOf 3 = 1 := by kernel_rfl
theorem deepT : Tryz.prog.keyType 93 = true := by kernel_rfl
theorem wideT : (match Tryz.prog.underlying 93 with | some (.array _ _) | some (.struct _) => true | _ => false) = true := by kernel_rfl
set_option maxRecDepth 100000 in
theorem lawT : KeyLaw Tryz.prog 93 := deep_law_laid laid (m := 3) (by omega) rowT (by kernel_rfl) wideT
theorem keyedT : Keyed Tryz.prog 93 := Keyed.of_law lawT
namespace Ti
def gsm (x : Gk) : Prop := (-50 ≤ x.1 ∧ x.1 ≤ 50) ∧ (-20 ≤ x.2 ∧ x.2 ≤ 20)
end Ti
/-- What a truth reads as among a map's keys. -/
def tLit (p : Int × Int) : Lit := .string (keyBytes [.int .i64 p.1, .int .i64 p.2])
theorem wf_sm {n : Int} (h : -1000 ≤ n ∧ n ≤ 1000) : (Lit.int .i64 n).wf = true := WalkArith.wf_i64 ⟨by omega, by omega⟩
set_option maxRecDepth 100000 in
theorem keyOf_t {x y : Int} (h : Ti.gsm (x, y)) : keyOf Tryz.prog 93 (.agg #[.int .i64 x, .int .i64 y]) = some (tLit (x, y)) := by
  obtain ⟨h1, h2⟩ := h
  dsimp only at h1 h2
  have hx := wf_sm (n := x) (by omega)
  have hy := wf_sm (n := y) (by omega)
  obtain ⟨d, hd⟩ : ∃ d, Tryz.prog.types.size = d + 1 := ⟨Tryz.prog.types.size - 1, (Nat.succ_pred_eq_of_pos (Nat.lt_of_le_of_lt (Nat.zero_le _) rowT)).symm⟩
  have hf : (Value.agg #[.int .i64 x, .int .i64 y]).formed Tryz.prog 93 = true := by
    simp [Value.formed, Tryz.underlying93, cellsT]
  unfold keyOf
  rw [Tryz.underlying93]
  simp only [deepT, hf, Bool.and_self, if_true]
  rw [hd]
  simp [Program.keyLits, Tryz.underlying93, Tryz.underlying3, cellsT, cellsInt, Value.cells, hx, hy, tLit]

set_option maxRecDepth 100000 in
theorem tLit_inj {p q : Int × Int} (hp : Ti.gsm p) (hq : Ti.gsm q) (h : tLit p = tLit q) : p = q := by
  obtain ⟨x, y⟩ := p
  obtain ⟨x', y'⟩ := q
  have a := keyOf_t hp
  have b := keyOf_t hq
  rw [← h] at b
  have e := keyedT.inj a b
  simp at e
  simp [e.1, e.2]
theorem isKey_t (p : Int × Int) : WideAt.IsKeyLit (tLit p) := by trivial
set_option maxRecDepth 100000 in
theorem plainBool_inv {H : Type} {v : Value} {z : DataW H × List MemPlace} (h : plainElem Tryz.prog 4 v = some z) : ∃ x, v = .bool x ∧ z = (.lit (.bool x), []) := by
  unfold plainElem at h
  rw [Tryz.underlying4] at h
  cases v <;> simp at h
  exact ⟨_, rfl, h.symm⟩
theorem zeroBool (w : World) : (zeroValue 4).run Tryz.prog w = .ok (.bool false) w := by kernel_rfl
/-- Block b is a map of points, true at just those of a list. -/
def SeenT (w : World) (b : Nat) (l : List (Int × Int)) : Prop :=
  ∃ D : DataW Unit, w.ownsMap Tryz.prog 93 (plainElem Tryz.prog 4) b l.length D ∧ IsMap D ∧ ∀ p : Int × Int, Ti.gsm p → D.atKey (tLit p) (.lit (.bool false)) = .lit (.bool (decide (p ∈ l)))
theorem SeenT.made (w : World) : SeenT (w.alloc (.map #[] 0)) w.heap.size [] :=
  ⟨.map [], World.ownsMap_made _ _ _ _, isMap_empty, fun p _ => by simp [DataW.atKey]⟩
theorem SeenT.kept {w w' : World} {row : Option Nat} {b : Nat} {l : List (Int × Int)} (h : SeenT w b l) (hg : w.grownBy w' row) (hne : some b ≠ row) : SeenT w' b l := by
  obtain ⟨D, h1, h2, h3⟩ := h
  exact ⟨D, h1.kept hg hne, h2, h3⟩
theorem SeenT.lt {w : World} {b : Nat} {l : List (Int × Int)} (h : SeenT w b l) : b < w.heap.size := by
  obtain ⟨D, h1, _⟩ := h
  exact h1.lt
theorem SeenT.below {w w' : World} {b : Nat} {l : List (Int × Int)} (h : SeenT w b l) (hb : Below w.heap.size w w') : SeenT w' b l :=
  h.kept (row := none) ⟨hb.os, hb.tape, hb.output, hb.size, fun k hk _ => hb.block k hk⟩ (by simp)
set_option maxRecDepth 100000 in
/-- 'seen[c]'. -/
theorem SeenT.look {w : World} {b : Nat} {l : List (Int × Int)} (h : SeenT w b l) {x y : Int} (hp : Ti.gsm (x, y)) :
    (Instr.lookup 125 (.map (some b)) (.agg #[.int .i64 x, .int .i64 y]) false).run Tryz.prog w = .ok (.bool (decide ((x, y) ∈ l))) w := by
  obtain ⟨D, h1, h2, h3⟩ := h
  obtain ⟨v, ps, hrun, hv⟩ := h1.lookup keyedT Tryz.underlying125 (zeroBool w) (plainElem_bool Tryz.underlying4 false) (keyOf_t hp)
  obtain ⟨c, rfl, hc⟩ := plainBool_inv hv
  rw [h3 _ hp] at hc
  simp only [Prod.mk.injEq] at hc
  have : decide ((x, y) ∈ l) = c := by
    have := hc.1
    injection this with this
    injection this
  rw [hrun, this]
set_option maxRecDepth 100000 in
/-- 'seen[c] = true'. -/
theorem SeenT.put {w : World} {b : Nat} {l : List (Int × Int)} (h : SeenT w b l) {x y : Int} (hp : Ti.gsm (x, y)) (hl : l.length < 100000) :
    ∃ w', (Instr.mapUpdate 125 (.map (some b)) (.agg #[.int .i64 x, .int .i64 y]) (.bool true)).run Tryz.prog w = .ok () w' ∧ SeenT w' b (l ++ [(x, y)]) ∧ w.grownBy w' (some b) := by
  obtain ⟨D, h1, h2, h3⟩ := h
  obtain ⟨w', hrun, hown, hgr⟩ := h1.update keyedT Tryz.underlying125 (by simp only [maxLen]; omega) (keyOf_t hp) (plainElem_bool Tryz.underlying4 true)
  refine ⟨w', hrun, ⟨_, by simpa using hown, h2.put _ _, fun p hps => ?_⟩, hgr⟩
  by_cases e : p = (x, y)
  · subst e
    rw [atKey_put_same h2 (isKey_t _)]
    simp
  · rw [atKey_put_other (fun e' => e (tLit_inj hps hp e')), h3 p hps]
    simp [e]
end Go.Proofs.YtkmacpkjobdffaaGreat

namespace Go.Proofs.YtkmacpkjobdffaaGreat
open Go.RowKit Go.Shelf Go.Maps Go.Sort
namespace Wh
/-- A map's keys are numbers. -/
def IntK (D : DataW Empty) : Prop := ∃ es, D = .map es ∧ ∀ p ∈ es, ∃ x, p.1 = .int .i64 x
theorem intK_put {D : DataW Empty} (h : IntK D) (x : Int) (d : DataW Empty) : IntK (D.put (.int .i64 x) d) := by
  obtain ⟨es, rfl, hp⟩ := h
  refine ⟨_, rfl, fun p hp' => ?_⟩
  have := (WideShapes.insert_perm (Lit.int .i64 x, d) _).mem_iff.1 hp'
  rcases List.mem_cons.1 this with rfl | hm
  · exact ⟨x, rfl⟩
  · exact hp p (List.mem_filter.1 hm).1
theorem intK_map (f0 : Tr → Int) (L : List TrS) : IntK (mapD (H := Empty) f0 L) := by
  have key : ∀ (L : List TrS) (D : DataW Empty), IntK D → IntK (L.foldl (fun D x => D.put (.int .i64 (f0 x.1)) (.lit (.bool true))) D) := by
    intro L
    induction L with
    | nil => exact fun D h => h
    | cons x l ih => exact fun D h => ih _ (intK_put h _ _)
  exact key L _ ⟨[], rfl, fun p hp => by cases hp⟩
theorem mapD_set (f0 : Tr → Int) (L : List TrS) : mapD (H := Empty) f0 L = setOf (.lit (.bool true)) (L.map fun x => .int .i64 (f0 x.1)) := by
  unfold mapD setOf
  rw [List.foldl_map]
theorem lits (f0 : Tr → Int) (L : List TrS) : ∀ x ∈ (L.map fun x => Lit.int .i64 (f0 x.1)), WideAt.IsKeyLit x := by
  intro x hx
  rw [List.mem_map] at hx
  obtain ⟨f, _, rfl⟩ := hx
  trivial
/-- The sorted keys are the strictly ascending list of the same members. -/
theorem all_eq (f0 : Tr → Int) (L : List TrS) {R : List Int} (hR : R.Pairwise (fun a b => a < b)) (hm : ∀ x, x ∈ R ↔ ∃ f ∈ L, f0 f.1 = x) : allL f0 L = R := by
  have ht : Tidy (mapD (H := Empty) f0 L) := by rw [mapD_set]; exact tidy_setOf _ _ (lits f0 L)
  obtain ⟨es, he, hk⟩ := intK_map f0 L
  obtain ⟨es2, he2, hp⟩ := ht
  have hes : es2 = es := by rw [he] at he2; injection he2 with h; exact h.symm
  subst hes
  have hnd : R.Nodup := hR.imp (fun h => by omega)
  have hhas : ∀ x, x ∈ R ↔ has (.map es2) (.int .i64 x) = true := by
    intro x
    rw [hm x, ← he, mapD_set]
    unfold setOf
    rw [has_fold _ _ _ _ ⟨[], rfl⟩ (lits f0 L)]
    have h0 : has (DataW.map ([] : List (Lit × DataW Empty))) (.int .i64 x) = false := rfl
    rw [h0, Bool.false_or, List.any_map, List.any_eq_true]
    constructor
    · rintro ⟨f, hf, rfl⟩
      exact ⟨f, hf, by simp [Lit.sameKey]⟩
    · rintro ⟨f, hf, h⟩
      exact ⟨f, hf, by simpa [Lit.sameKey] using h⟩
  have hperm := perm_intKeys hp hk hnd hhas
  have h1 := mergeSort_of_perm_i hperm
  rw [List.mergeSort_of_pairwise (hR.imp (fun h => by simp only [leI, decide_eq_true_eq]; omega))] at h1
  unfold allL
  rw [he]
  exact h1.symm

end Wh

namespace Ti
/-- The skews of a wheel's truths, ascending: all that some truth has. -/
def skF (d : Wh.Desk) : List Int := if Wh.spE d = 0 then ((List.range 41).map fun i : Nat => (i : Int) - 20).filter (fun s => decide (∃ f ∈ Wh.truthsL d, f.1.2 = s)) else []
theorem asc41 : ((List.range 41).map fun i : Nat => (i : Int) - 20).Pairwise (fun a b => a < b) := by
  rw [List.pairwise_map]
  exact List.pairwise_lt_range.imp (fun h => by omega)
theorem skews_eq (d : Wh.Desk) : Wh.skewsV d = skF d := by
  unfold Wh.skewsV skF
  by_cases h : Wh.spE d = 0
  · rw [if_pos h, if_pos h]
    refine Wh.all_eq _ _ (asc41.filter _) fun x => ?_
    rw [List.mem_filter, decide_eq_true_eq]
    constructor
    · exact fun h => h.2
    · rintro ⟨f, hf, rfl⟩
      refine ⟨?_, f, hf, rfl⟩
      have := f.2
      unfold Wh.tsm at this
      rw [List.mem_map]
      exact ⟨(f.1.2 + 20).toNat, List.mem_range.2 (by omega), by omega⟩
  · rw [if_neg h, if_neg h]
theorem skews_len (d : Wh.Desk) : (Wh.skewsV d).length ≤ 41 := by
  rw [skews_eq]
  unfold skF
  split
  · refine Nat.le_trans (List.length_filter_le _ _) ?_
    simp
  · simp
theorem skews_bd {d : Wh.Desk} {s : Int} (h : s ∈ Wh.skewsV d) : -20 ≤ s ∧ s ≤ 20 := by
  rw [skews_eq] at h
  unfold skF at h
  split at h
  · rw [List.mem_filter, List.mem_map] at h
    obtain ⟨⟨i, hi, rfl⟩, -⟩ := h
    rw [List.mem_range] at hi
    omega
  · cases h
theorem skews_asc (d : Wh.Desk) : (Wh.skewsV d).Pairwise (fun a b => a < b) := by
  rw [skews_eq]
  unfold skF
  split
  · exact asc41.filter _
  · exact List.Pairwise.nil
/-- What a test alone allows with the i-th gain. -/
def skAt (t : Tri) (x : Tst) (i : Nat) : List Int := Wh.skewsV (dsk t (seenV (-t.gain + (i : Int)) x.1) x.2)
def putRow (t : Tri) (x : Tst) (i j : Nat) : List Gk := ((skAt t x i).take j).map fun s => (-t.gain + (i : Int), s)
def putsTo (t : Tri) (x : Tst) (k : Nat) : List Gk := (List.range k).flatMap fun i => putRow t x i (skAt t x i).length
def puts (t : Tri) (x : Tst) : List Gk := putsTo t x (nG t)
theorem putsTo_succ (t : Tri) (x : Tst) (k : Nat) : putsTo t x (k + 1) = putsTo t x k ++ putRow t x k (skAt t x k).length := by
  unfold putsTo
  rw [List.range_succ, List.flatMap_append]
  simp
theorem putRow_succ (t : Tri) (x : Tst) (i j : Nat) {s : Int} (h : (skAt t x i)[j]? = some s) : putRow t x i (j + 1) = putRow t x i j ++ [(-t.gain + (i : Int), s)] := by
  unfold putRow
  rw [List.take_add_one, h, List.map_append]
  rfl
theorem putRow_len (t : Tri) (x : Tst) (i j : Nat) : (putRow t x i j).length ≤ 41 := by
  unfold putRow
  rw [List.length_map, List.length_take]
  have := skews_len (dsk t (seenV (-t.gain + (i : Int)) x.1) x.2)
  unfold skAt
  omega
theorem putsTo_len (t : Tri) (x : Tst) : ∀ k, (putsTo t x k).length ≤ k * 41
  | 0 => by simp [putsTo]
  | k + 1 => by
    rw [putsTo_succ, List.length_append]
    have := putsTo_len t x k
    have := putRow_len t x k (skAt t x k).length
    omega
theorem mem_puts {t : Tri} {x : Tst} (hg : 0 ≤ t.gain) {y : Gk} (h1 : -t.gain ≤ y.1) (h2 : y.1 ≤ t.gain) : y ∈ puts t x ↔ y.2 ∈ Wh.skewsV (dsk t (seenV y.1 x.1) x.2) := by
  obtain ⟨g, s⟩ := y
  dsimp only at *
  unfold puts putsTo
  rw [List.mem_flatMap]
  constructor
  · rintro ⟨i, hi, hm⟩
    unfold putRow at hm
    rw [List.take_length, List.mem_map] at hm
    obtain ⟨s', hs, e⟩ := hm
    injection e with e1 e2
    subst e2
    unfold skAt at hs
    rw [e1] at hs
    exact hs
  · intro h
    refine ⟨(g + t.gain).toNat, List.mem_range.2 (by unfold nG; omega), ?_⟩
    have e : -t.gain + (((g + t.gain).toNat : Nat) : Int) = g := by omega
    unfold putRow skAt
    rw [e, List.take_length, List.mem_map]
    exact ⟨s, h, rfl⟩
end Ti
end Go.Proofs.YtkmacpkjobdffaaGreat
