/- A map of points that the call makes, asked for a point: 'seen[c]', 'seen[c] = true'. -/
import Derived.Test.YtmjcdggmofohcaaGeo
import Derived.Test.YtmjcdggmofohcaaFrame
import Derived.Maps.OwnOps
import Derived.Maps.Views
import Derived.DeepKeys4
import Derived.DeepKeys3
namespace Go.Proofs.Ytmjcdggmofohcaa
open Go.RowKit Go.Maps
open Go.WideMaps (KeyLaw)
open Go

theorem rowPt : (28 : TypeId) < Try.prog.types.size := of_decide_eq_true (by kernel_rfl)
theorem cellsPt : Try.prog.cellsOf 28 = 2 := by kernel_rfl
theorem cellsInt : Try.prog.cellsOf 3 = 1 := by kernel_rfl
theorem deepPt : Try.prog.keyType 28 = true := by kernel_rfl
theorem widePt : (match Try.prog.underlying 28 with | some (.array _ _) | some (.struct _) => true | _ => false) = true := by kernel_rfl
set_option maxRecDepth 100000 in
theorem lawPt : KeyLaw Try.prog 28 := deep_law_laid laid (m := 3) (by omega) rowPt (by kernel_rfl) widePt
theorem keyedPt : Keyed Try.prog 28 := Keyed.of_law lawPt
/-- What a point reads as among a map's keys. -/
def ptLit (p : Int × Int) : Lit := .string (keyBytes [.int .i64 p.1, .int .i64 p.2])
theorem wf_sm {n : Int} (h : -1000 ≤ n ∧ n ≤ 1000) : (Lit.int .i64 n).wf = true := WalkArith.wf_i64 ⟨by omega, by omega⟩
set_option maxRecDepth 100000 in
theorem keyOf_pt {x y : Int} (h : Geo.sm (x, y)) : keyOf Try.prog 28 (.agg #[.int .i64 x, .int .i64 y]) = some (ptLit (x, y)) := by
  have hx := wf_sm h.1
  have hy := wf_sm h.2
  dsimp only at hx hy
  obtain ⟨d, hd⟩ : ∃ d, Try.prog.types.size = d + 1 := ⟨Try.prog.types.size - 1, (Nat.succ_pred_eq_of_pos (Nat.lt_of_le_of_lt (Nat.zero_le _) rowPt)).symm⟩
  have hf : (Value.agg #[.int .i64 x, .int .i64 y]).formed Try.prog 28 = true := by
    simp [Value.formed, Try.underlying28, cellsPt]
  unfold keyOf
  rw [Try.underlying28]
  simp only [deepPt, hf, Bool.and_self, if_true]
  rw [hd]
  simp [Program.keyLits, Try.underlying28, Try.underlying3, cellsPt, cellsInt, Value.cells, hx, hy, ptLit]

set_option maxRecDepth 100000 in
theorem ptLit_inj {p q : Int × Int} (hp : Geo.sm p) (hq : Geo.sm q) (h : ptLit p = ptLit q) : p = q := by
  obtain ⟨x, y⟩ := p
  obtain ⟨x', y'⟩ := q
  have a := keyOf_pt hp
  have b := keyOf_pt hq
  rw [← h] at b
  have e := keyedPt.inj a b
  simp at e
  simp [e.1, e.2]
theorem isKey_pt (p : Int × Int) : WideAt.IsKeyLit (ptLit p) := by trivial
set_option maxRecDepth 100000 in
theorem plainBool_inv {H : Type} {v : Value} {z : DataW H × List MemPlace} (h : plainElem Try.prog 4 v = some z) : ∃ x, v = .bool x ∧ z = (.lit (.bool x), []) := by
  unfold plainElem at h
  rw [Try.underlying4] at h
  cases v <;> simp at h
  exact ⟨_, rfl, h.symm⟩
theorem zeroBool (w : World) : (zeroValue 4).run Try.prog w = .ok (.bool false) w := by kernel_rfl
/-- Block b is a map of points, true at just those of a list. -/
def Seen (w : World) (b : Nat) (l : List (Int × Int)) : Prop :=
  ∃ D : DataW Unit, w.ownsMap Try.prog 28 (plainElem Try.prog 4) b l.length D ∧ IsMap D ∧ ∀ p : Int × Int, Geo.sm p → D.atKey (ptLit p) (.lit (.bool false)) = .lit (.bool (decide (p ∈ l)))
theorem Seen.made (w : World) : Seen (w.alloc (.map #[] 0)) w.heap.size [] :=
  ⟨.map [], World.ownsMap_made _ _ _ _, isMap_empty, fun p _ => by simp [DataW.atKey]⟩
theorem Seen.kept {w w' : World} {row : Option Nat} {b : Nat} {l : List (Int × Int)} (h : Seen w b l) (hg : w.grownBy w' row) (hne : some b ≠ row) : Seen w' b l := by
  obtain ⟨D, h1, h2, h3⟩ := h
  exact ⟨D, h1.kept hg hne, h2, h3⟩
theorem Seen.lt {w : World} {b : Nat} {l : List (Int × Int)} (h : Seen w b l) : b < w.heap.size := by
  obtain ⟨D, h1, _⟩ := h
  exact h1.lt
theorem Seen.below {w w' : World} {b : Nat} {l : List (Int × Int)} (h : Seen w b l) (hb : Below w.heap.size w w') : Seen w' b l :=
  h.kept (row := none) ⟨hb.os, hb.tape, hb.output, hb.size, fun k hk _ => hb.block k hk⟩ (by simp)
set_option maxRecDepth 100000 in
/-- 'seen[c]'. -/
theorem Seen.look {w : World} {b : Nat} {l : List (Int × Int)} (h : Seen w b l) {x y : Int} (hp : Geo.sm (x, y)) :
    (Instr.lookup 116 (.map (some b)) (.agg #[.int .i64 x, .int .i64 y]) false).run Try.prog w = .ok (.bool (decide ((x, y) ∈ l))) w := by
  obtain ⟨D, h1, h2, h3⟩ := h
  obtain ⟨v, ps, hrun, hv⟩ := h1.lookup keyedPt Try.underlying116 (zeroBool w) (plainElem_bool Try.underlying4 false) (keyOf_pt hp)
  obtain ⟨c, rfl, hc⟩ := plainBool_inv hv
  rw [h3 _ hp] at hc
  simp only [Prod.mk.injEq] at hc
  have : decide ((x, y) ∈ l) = c := by
    have := hc.1
    injection this with this
    injection this
  rw [hrun, this]
set_option maxRecDepth 100000 in
/-- 'seen[c] = true'. -/
theorem Seen.put {w : World} {b : Nat} {l : List (Int × Int)} (h : Seen w b l) {x y : Int} (hp : Geo.sm (x, y)) (hl : l.length < 1000) :
    ∃ w', (Instr.mapUpdate 116 (.map (some b)) (.agg #[.int .i64 x, .int .i64 y]) (.bool true)).run Try.prog w = .ok () w' ∧ Seen w' b (l ++ [(x, y)]) ∧ w.grownBy w' (some b) := by
  obtain ⟨D, h1, h2, h3⟩ := h
  obtain ⟨w', hrun, hown, hgr⟩ := h1.update keyedPt Try.underlying116 (by simp only [maxLen]; omega) (keyOf_pt hp) (plainElem_bool Try.underlying4 true)
  refine ⟨w', hrun, ⟨_, by simpa using hown, h2.put _ _, fun p hps => ?_⟩, hgr⟩
  by_cases e : p = (x, y)
  · subst e
    rw [atKey_put_same h2 (isKey_pt _)]
    simp
  · rw [atKey_put_other (fun e' => e (ptLit_inj hps hp e')), h3 p hps]
    simp [e]
end Go.Proofs.Ytmjcdggmofohcaa
