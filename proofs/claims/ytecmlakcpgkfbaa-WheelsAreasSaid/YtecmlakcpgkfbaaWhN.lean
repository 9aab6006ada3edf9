/- Wheels: which walk leaves the fewest areas: a map of kinds that the call makes. -/
import Derived.Test.YtecmlakcpgkfbaaWhM
import Derived.Test.YtecmlakcpgkfbaaFrame
import Derived.Maps.OwnSet
import Derived.Maps.OwnOps
import Derived.Maps.Views
import Derived.DeepKeys4
import Derived.DeepKeys3
namespace Go.Proofs.Ytecmlakcpgkfbaa
open Go.RowKit Go.Maps
open Go.WideMaps (KeyLaw)
open Go
theorem rowKd : (95 : TypeId) < Try.prog.types.size := of_decide_eq_true (by kernel_rfl)
theorem cellsKd : Try.prog.cellsOf 95 = 2 := by kernel_rfl
theorem cellsIntK : Try.prog.cellsOf 3 = 1 := by kernel_rfl
theorem deepKd : Try.prog.keyType 95 = true := by kernel_rfl
theorem wideKd : (match Try.prog.underlying 95 with | some (.array _ _) | some (.struct _) => true | _ => false) = true := by kernel_rfl
set_option maxRecDepth 100000 in
theorem lawKd : KeyLaw Try.prog 95 := deep_law_laid laid (m := 3) (by omega) rowKd (by kernel_rfl) wideKd
theorem keyedKd : Keyed Try.prog 95 := Keyed.of_law lawKd
/-- What a kind reads as among a map's keys. -/
def kdLit (p : Int × Int) : Lit := .string (keyBytes [.int .i64 p.1, .int .i64 p.2])
def sgn (p : Int × Int) : Prop := (p.1 = 1 ∨ p.1 = -1) ∧ (p.2 = 1 ∨ p.2 = -1)
theorem wf_sg {n : Int} (h : n = 1 ∨ n = -1) : (Lit.int .i64 n).wf = true := WalkArith.wf_i64 ⟨by omega, by omega⟩
set_option maxRecDepth 100000 in
theorem keyOf_kd {x y : Int} (h : sgn (x, y)) : keyOf Try.prog 95 (.agg #[.int .i64 x, .int .i64 y]) = some (kdLit (x, y)) := by
  have hx := wf_sg h.1
  have hy := wf_sg h.2
  dsimp only at hx hy
  obtain ⟨d, hd⟩ : ∃ d, Try.prog.types.size = d + 1 := ⟨Try.prog.types.size - 1, (Nat.succ_pred_eq_of_pos (Nat.lt_of_le_of_lt (Nat.zero_le _) rowKd)).symm⟩
  have hf : (Value.agg #[.int .i64 x, .int .i64 y]).formed Try.prog 95 = true := by
    simp [Value.formed, Try.underlying95, cellsKd]
  unfold keyOf
  rw [Try.underlying95]
  simp only [deepKd, hf, Bool.and_self, if_true]
  rw [hd]
  have e2 : List.range 2 = [0, 1] := rfl
  simp [Program.keyLits, Try.underlying95, Try.underlying3, cellsKd, cellsIntK, Value.cells, hx, hy, kdLit, e2]
set_option maxRecDepth 100000 in
theorem kdLit_inj {p q : Int × Int} (hp : sgn p) (hq : sgn q) (h : kdLit p = kdLit q) : p = q := by
  obtain ⟨x, y⟩ := p
  obtain ⟨x', y'⟩ := q
  have a := keyOf_kd hp
  have b := keyOf_kd hq
  rw [← h] at b
  have e := keyedKd.inj a b
  simp at e
  simp [e.1, e.2]
theorem isKey_kd (p : Int × Int) : WideAt.IsKeyLit (kdLit p) := by trivial
theorem zeroInt (w : World) : (zeroValue 3).run Try.prog w = .ok (.int .i64 0) w := by kernel_rfl
/-- Block b is a map of kinds that answers as g. -/
def Kmap (w : World) (b n : Nat) (g : Int × Int → Option Int) : Prop :=
  ∃ D : DataW Unit, w.ownsMap Try.prog 95 (plainElem Try.prog 3) b n D ∧ IsMap D ∧ ∀ p : Int × Int, sgn p → has D (kdLit p) = (g p).isSome ∧ D.atKey (kdLit p) (.lit (.int .i64 0)) = .lit (.int .i64 ((g p).getD 0))
theorem Kmap.made (w : World) : Kmap (w.alloc (.map #[] 0)) w.heap.size 0 (fun _ => none) :=
  ⟨.map [], World.ownsMap_made _ _ _ _, isMap_empty, fun p _ => ⟨rfl, by simp [DataW.atKey]⟩⟩
theorem Kmap.kept {w w' : World} {row : Option Nat} {b n : Nat} {g : Int × Int → Option Int} (h : Kmap w b n g) (hg : w.grownBy w' row) (hne : some b ≠ row) : Kmap w' b n g := by
  obtain ⟨D, h1, h2, h3⟩ := h
  exact ⟨D, h1.kept hg hne, h2, h3⟩
theorem Kmap.lt {w : World} {b n : Nat} {g : Int × Int → Option Int} (h : Kmap w b n g) : b < w.heap.size := by
  obtain ⟨D, h1, _⟩ := h
  exact h1.lt
theorem Kmap.below {w w' : World} {b n : Nat} {g : Int × Int → Option Int} (h : Kmap w b n g) (hb : Below w.heap.size w w') : Kmap w' b n g :=
  h.kept (row := none) ⟨hb.os, hb.tape, hb.output, hb.size, fun k hk _ => hb.block k hk⟩ (by simp)
set_option maxRecDepth 100000 in
theorem Kmap.look {w : World} {b n : Nat} {g : Int × Int → Option Int} (h : Kmap w b n g) {x y : Int} (hp : sgn (x, y)) :
    (Instr.lookup 97 (.map (some b)) (.agg #[.int .i64 x, .int .i64 y]) false).run Try.prog w = .ok (.int .i64 ((g (x, y)).getD 0)) w := by
  obtain ⟨D, h1, h2, h3⟩ := h
  obtain ⟨c, hrun, hat, _⟩ := h1.lookup_int keyedKd Try.underlying97 Try.underlying3 (zeroInt w) (keyOf_kd hp)
  rw [(h3 _ hp).2] at hat
  have : (g (x, y)).getD 0 = c := by
    injection hat with hat
    injection hat
  rw [hrun, this]
set_option maxRecDepth 100000 in
theorem Kmap.look_ok {w : World} {b n : Nat} {g : Int × Int → Option Int} (h : Kmap w b n g) {x y : Int} (hp : sgn (x, y)) :
    (Instr.lookup 97 (.map (some b)) (.agg #[.int .i64 x, .int .i64 y]) true).run Try.prog w = .ok (.tuple #[.int .i64 ((g (x, y)).getD 0), .bool (g (x, y)).isSome]) w := by
  obtain ⟨D, h1, h2, h3⟩ := h
  have hw0 : (Lit.int .i64 0).wf = true := by decide
  obtain ⟨v, ps, hrun, hv⟩ := h1.look_ok keyedKd Try.underlying97 (zeroInt w) (plainElem_int Try.underlying3 hw0) (keyOf_kd hp)
  obtain ⟨c, rfl, hc, _⟩ := plainElem_int_inv Try.underlying3 hv
  rw [(h3 _ hp).2] at hc
  rw [(h3 _ hp).1] at hrun
  have : (g (x, y)).getD 0 = c := by
    simp only [Prod.mk.injEq] at hc
    have := hc.1
    injection this with this
    injection this
  rw [hrun, this]
def putG (g : Int × Int → Option Int) (k : Int × Int) (v : Int) (p : Int × Int) : Option Int := if p = k then some v else g p
set_option maxRecDepth 100000 in
theorem Kmap.put {w : World} {b n : Nat} {g : Int × Int → Option Int} (h : Kmap w b n g) {x y : Int} (hp : sgn (x, y)) (hn : n < 1000) {v : Int} (hv : -1000000000 ≤ v ∧ v ≤ 1000000000) :
    ∃ w', (Instr.mapUpdate 97 (.map (some b)) (.agg #[.int .i64 x, .int .i64 y]) (.int .i64 v)).run Try.prog w = .ok () w' ∧ Kmap w' b (n + 1) (putG g (x, y) v) ∧ w.grownBy w' (some b) := by
  obtain ⟨D, h1, h2, h3⟩ := h
  obtain ⟨w', hrun, hown, hgr⟩ := h1.update keyedKd Try.underlying97 (by simp only [maxLen]; omega) (keyOf_kd hp) (plainElem_int Try.underlying3 (WalkArith.wf_i64 ⟨by omega, by omega⟩ : (Lit.int .i64 v).wf = true))
  refine ⟨w', hrun, ⟨_, hown, h2.put _ _, fun p hps => ?_⟩, hgr⟩
  unfold putG
  by_cases e : p = (x, y)
  · subst e
    rw [if_pos rfl, atKey_put_same h2 (isKey_kd _), has_put_same h2 (isKey_kd _)]
    exact ⟨rfl, rfl⟩
  · rw [if_neg e, atKey_put_other (fun e' => e (kdLit_inj hps hp e')), has_put_other (fun e' => e (kdLit_inj hps hp e'))]
    exact h3 p hps
end Go.Proofs.Ytecmlakcpgkfbaa
