/- Boxes of structs, and what a call leaves that lay: for loops over the sides of a polygon. -/
import Derived.RangeFuncNested
import Derived.RangeFuncLeaves
import Derived.Shelf.Abstract
import Derived.WalkKit
import Derived.Test.YtkmacpkjobdffaaGreatBase
namespace Go.Proofs.YtkmacpkjobdffaaGreat
open Go.RowKit

theorem heap_below {W W' : World} (h : Below W.heap.size W W') {k : Nat} {o : Obj} (hk : W.heap[k]? = some o) : W'.heap[k]? = some o :=
  (h.block k (Array.getElem?_eq_some_iff.1 hk).1).trans hk
theorem keepsFrom_below {W W' : World} (B : Nat) (h : Below W.heap.size W W') : KeepsFrom B W W' := ⟨h.size, fun _ _ _ hk _ => heap_below h hk⟩
theorem boxed_below {W W' : World} {B : Nat} {t : TypeId} {v : Value} (hv : Boxed W B t v) (h : Below W.heap.size W W') : Boxed W' B t v := heap_below h hv
theorem below_of_le {B : Nat} {W W' : World} (h : Below W.heap.size W W') (hB : B ≤ W.heap.size) : Below B W W' := h.mono hB

/-- Block B holds a struct's cells. -/
def BoxS (W : World) (B : Nat) (t : TypeId) (vs : Array Value) : Prop := W.heap[B]? = some (.cells vs t (0, 0))
theorem BoxS.lt {W : World} {B : Nat} {t : TypeId} {vs : Array Value} (h : BoxS W B t vs) : B < W.heap.size := (Array.getElem?_eq_some_iff.1 h).1
theorem BoxS.cell {W : World} {B : Nat} {t : TypeId} {vs : Array Value} (h : BoxS W B t vs) (i : Nat) {v : Value} (hi : vs[i]? = some v) : W.cell? ⟨B, i, none⟩ = some v := by simp [World.cell?, show W.heap[B]? = _ from h, hi]
theorem BoxS.frozen {W : World} {B : Nat} {t : TypeId} {vs : Array Value} (h : BoxS W B t vs) (i : Nat) : W.frozen? ⟨B, i, none⟩ = false := by simp [World.frozen?, show W.heap[B]? = _ from h]
theorem boxS4 {W : World} {B : Nat} {t : TypeId} {a b c d : Value} (h : BoxS W B t #[a, b, c, d]) : W.cell? ⟨B, 0, none⟩ = some a ∧ W.cell? ⟨B, 1, none⟩ = some b ∧ W.cell? ⟨B, 2, none⟩ = some c ∧ W.cell? ⟨B, 3, none⟩ = some d := ⟨h.cell 0 rfl, h.cell 1 rfl, h.cell 2 rfl, h.cell 3 rfl⟩
theorem boxS2 {W : World} {B : Nat} {t : TypeId} {a b : Value} (h : BoxS W B t #[a, b]) : W.cell? ⟨B, 0, none⟩ = some a ∧ W.cell? ⟨B, 1, none⟩ = some b := ⟨h.cell 0 rfl, h.cell 1 rfl⟩
theorem BoxS.new (W : World) (t : TypeId) (vs : Array Value) : BoxS (W.alloc (.cells vs t)) W.heap.size t vs := World.alloc_heap_new W _
theorem BoxS.kept {W W' : World} {row : Option Nat} {B : Nat} {t : TypeId} {vs : Array Value} (h : BoxS W B t vs) (hg : W.grownBy W' row) (hne : some B ≠ row) : BoxS W' B t vs := (hg.block B h.lt hne).trans h
theorem BoxS.alloc {W : World} {B : Nat} {t : TypeId} {vs : Array Value} (h : BoxS W B t vs) (o : Obj) : BoxS (W.alloc o) B t vs := h.kept (World.grownBy_alloc W o none) (by simp)
theorem BoxS.below {W W' : World} {B : Nat} {t : TypeId} {vs : Array Value} (hv : BoxS W B t vs) (h : Below W.heap.size W W') : BoxS W' B t vs := heap_below h hv
theorem BoxS.drew {W : World} {B : Nat} {t : TypeId} {vs : Array Value} (h : BoxS W B t vs) : BoxS W.drew B t vs := h
theorem BoxS.other {W : World} {B B' : Nat} {t : TypeId} {vs : Array Value} (h : BoxS W B t vs) (hne : B ≠ B') (u : Value) : BoxS (W.setCell ⟨B', 0, none⟩ u) B t vs := h.kept (grownBy_setCell' W B' u) (fun e => hne (by cases e; rfl))
theorem boxS_own {β : Type} (B : Nat) (t : TypeId) (f : β → Array Value) : Own (fun s W => BoxS W B t (f s)) := fun s X Y row hs hg hrow =>
  hs.kept hg (fun e' => by obtain ⟨o, ho, hc⟩ := hrow B e'.symm; rw [show X.heap[B]? = _ from hs] at ho; cases ho; cases hc)
theorem boxed_drew {W : World} {B : Nat} {t : TypeId} {v : Value} (h : Boxed W B t v) : Boxed W.drew B t v := h
end Go.Proofs.YtkmacpkjobdffaaGreat
