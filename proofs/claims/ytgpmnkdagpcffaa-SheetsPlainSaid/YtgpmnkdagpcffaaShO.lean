/- Sheets: the map of all factors of a direction, laid by a loop over all truths. -/
import Derived.Test.YtgpmnkdagpcffaaShM
import Derived.Maps.OwnIn
namespace Go.Proofs.Ytgpmnkdagpcffaa
open Go.RowKit Go.Shelf Go.Maps
attribute [local go_sem] Oper.semAt_some
theorem wpIn_mapUpdate_at {H : Type} {F : Fence} {nF : Nat} {P : Program} (w : World) {o : Oper} {a : Act} {K' : Act → World → Prop} {Q : Exit → Act → World → Prop} (m x v : Operand) (t : TypeId) (hop : o.op = Op.mapUpdate t m x v)
    (k e : TypeId) (K : Keyed P k) (ht : P.underlying t = some (.map k e)) (R : Value → Option (DataW H × List MemPlace)) (b n : Nat) (D : DataW H)
    (hm : a.eval m = .map (some b)) (hown : w.ownsMap P k R b n D) (hn : n < maxLen) (key val : Value) (kl : Lit) (hx : a.eval x = key) (hv : a.eval v = val) (hkey : keyOf P k key = some kl)
    (d : DataW H) (ps : List MemPlace) (hval : R val = some (d, ps))
    (hK : ∀ w', w'.ownsMap P k R b (n + 1) (D.put kl d) → w.grownBy w' (some b) → K' (a.put o.dst undef) w') : o.wpIn F nF P a w K' Q := by
  obtain ⟨w', hrun, r1, r2⟩ := hown.update K ht hn hkey hval
  unfold Oper.wpIn
  refine ⟨by simp [Oper.about, hop], ?_⟩
  rw [Oper.semAt_plain F _ _ (by rw [hop]; intro c hc'; cases hc')]
  simp [execOp, hop, hm, hx, hv, hrun, Result.andThen]
  exact hK w' r1 r2
theorem wf_small {x : Int} (h : -1000000 ≤ x ∧ x ≤ 1000000) : (Lit.int .i64 x).wf = true := by
  exact WalkArith.wf_i64 (by omega)
namespace Sh
/-- The map that reads the factors of a direction. -/
def mapD {H : Type} (way : Int) (L : List FaS) : DataW H := L.foldl (fun D x => D.put (.int .i64 (ofV x.1 way)) (.lit (.bool true))) (.map [])
theorem mapD_snoc {H : Type} (way : Int) (L : List FaS) (x : FaS) : mapD (H := H) way (L ++ [x]) = (mapD way L).put (.int .i64 (ofV x.1 way)) (.lit (.bool true)) := by unfold mapD; rw [List.foldl_append]; rfl
theorem ofV_bd (x : FaS) (way : Int) : -1000000 ≤ ofV x.1 way ∧ ofV x.1 way ≤ 1000000 := by
  obtain ⟨f, h1, h2⟩ := x
  unfold ofV
  dsimp only
  split <;> omega
end Sh
end Go.Proofs.Ytgpmnkdagpcffaa
