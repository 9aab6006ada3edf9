/- A store of a whole struct, without opening its cells. No program is named here. -/
import Derived.Test.YtkfnngcphcfbjaaFence3
import Derived.Test.YtkfnngcphcfbjaaLoops
import Derived.Laws.Tables
import Derived.Deep.MidRow
namespace Go.Proofs.Ytkfnngcphcfbjaa
open Go.RowKit
theorem BoxS.setRow {w : World} {B : Nat} {t : TypeId} {old cells : Array Value} (h : BoxS w B t old) : BoxS (w.setRow B cells) B t cells := setRow_heap w B old cells t (0, 0) h
theorem BoxS.setRow_other {w : World} {B B' : Nat} {t : TypeId} {vs cells : Array Value} (h : BoxS w B t vs) (hne : B ≠ B') : BoxS (w.setRow B' cells) B t vs := (Go.setRow_other w B' B cells hne).trans h
theorem below_setRow {B k : Nat} {a w : World} (h : Below k a w) (hB : k ≤ B) (cells : Array Value) : Below k a (w.setRow B cells) :=
  ⟨h.os, h.tape, h.output, by rw [setRow_size]; exact h.size, fun j hj => by rw [Go.setRow_other w B j cells (by omega)]; exact h.block j hj⟩
section
variable {F : Fence} {n : Nat} {P : Program} {w : World}
theorem wpIn_store_row {o : Oper} {a : Act} {K : Act → World → Prop} {Q : Exit → Act → World → Prop} (hsem : ∀ ρ, o.semAt F.round ρ = execOp ρ o) (ty : TypeId) (x y : Operand)
    (ho : o.op = .store ty x y) (B : Nat) (t : TypeId) (old cells : Array Value) (hx : a.eval x = .pointer (some ⟨B, 0, none⟩)) (hy : a.eval y = .agg cells) (hg : BoxS w B t old) (hs : old.size = cells.size)
    (hi : (P.info? ty).map (·.size) = some cells.size) (h1 : cells.all (·.oneCell') = true) (h : K (a.put o.dst undef) (w.setRow B cells)) : o.wpIn F n P a w K Q := by
  have hrun := run_storeVar_row (P := P) w B t ty old cells hg hi hs h1
  unfold Oper.wpIn
  refine ⟨fun f hf => ?_, ?_⟩
  · unfold Oper.about at hf
    rw [ho] at hf
    simp at hf
  · rw [hsem]
    unfold execOp
    simp only [ho, hx, hy, Instr.storeAt, Instr.sureAddr, Sem.run_bind, Sem.run_pure, Result.andThen_ok, hrun]
    exact h
end
end Go.Proofs.Ytkfnngcphcfbjaa
