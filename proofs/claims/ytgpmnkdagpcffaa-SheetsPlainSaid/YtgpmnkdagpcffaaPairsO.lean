/- An argument that is a slice of structs of two numbers, opened. No program is named here. -/
import Derived.Test.YtgpmnkdagpcffaaPairs
import Derived.Deep.SlicePairs
import Derived.WideShapes
import Derived.OpenShut
import Derived.Lib.SmallJoins
namespace Go.Proofs.Ytgpmnkdagpcffaa
open Go.ChangeShapes Go.WideShapes Go.RowKit Go.Deep
def numOfV : Value → Int
  | .int _ n => n
  | _ => 0
theorem cell_lt {w : World} {a : Addr} {v : Value} (h : w.cell? a = some v) : a.block < w.heap.size := by
  rcases Nat.lt_or_ge a.block w.heap.size with hl | hl
  · exact hl
  · unfold World.cell? at h
    rw [Array.getElem?_eq_none hl] at h
    simp at h
section
variable {H : Type} {enc : TypeId × Value → H} {P : Program} {w : World} {base : Nat} {spare : Nat → Bool} {held : Bool} {r : Reach} {b0 : Nat}
theorem open_prs {t e : TypeId} {f0 f1 : Field} {v : Value} {d : DataW H} {p : List MemPlace} (ht : P.underlying t = some (.slice e)) (he : P.underlying e = some (.struct #[f0, f1]))
    (ce : P.cellsOf e = 2) (o0 : f0.offset = 0) (o1 : f1.offset = 1) (c0 : P.cellsOf f0.type = 1) (c1 : P.cellsOf f1.type = 1)
    (h0 : P.underlying f0.type = some (.int .i64)) (h1 : P.underlying f1.type = some (.int .i64))
    (hv : Value.okWide P w r b0 t v) (h : DataW.Trod enc P w base spare held t v d p) :
    ∃ (A : Option Addr) (c : Nat) (gs : List (Int × Int)), v = .slice A gs.length c ∧ Prs w w.heap.size A gs ∧ gs.length ≤ maxLen := by
  obtain ⟨A, len, cap, rfl⟩ := okWide_slice ht hv
  obtain ⟨fuel, hf⟩ := h
  rcases open_slice_pairs ht he ce o0 o1 c0 c1 hf with ⟨hc, _⟩ | ⟨a, len', cap', m, n, V0, V1, D0, D1, P0, P1, hc, _, hl, hm, hmm, _, hx⟩
  · simp [Value.cells] at hc
    obtain ⟨rfl, rfl, rfl⟩ := hc
    exact ⟨none, 0, [], rfl, fun h => by simp at h, by simp⟩
  · simp [Value.cells] at hc
    obtain ⟨rfl, rfl, rfl⟩ := hc
    have hlm : len ≤ m := by rw [hmm]; split <;> omega
    refine ⟨some a, cap, (List.range len).map (fun i => (numOfV (V0 i), numOfV (V1 i))), by simp, fun hn => ?_, by simp; omega⟩
    have hn' : 0 < len := by simpa using hn
    have hc0 := (hx 0 (by omega)).1
    have hs := World.cell?_spot hc0
    have hlt := cell_lt hc0
    obtain ⟨b, off, spot⟩ := a
    have hs' : spot = none := by simpa [Addr.add] using hs
    subst hs'
    have hadd : ∀ j, (⟨b, off, none⟩ : Addr).add j = ⟨b, off + j, none⟩ := fun j => by
      unfold Addr.add
      by_cases h0 : j = 0 <;> simp [h0]
    refine ⟨b, off, rfl, by simpa [hadd] using hlt, fun k g hg => ?_⟩
    have hk : k < len := by
      have := (List.getElem?_eq_some_iff.1 hg).1
      simpa using this
    have hg' : g = (numOfV (V0 k), numOfV (V1 k)) := by
      rw [List.getElem?_map, List.getElem?_range hk] at hg
      simpa using hg.symm
    subst hg'
    obtain ⟨x0, x1, x2, x3⟩ := hx k (by omega)
    rw [hadd] at x0 x1
    obtain ⟨i0, e0, _, _⟩ := DataW.trod_int h0 x2
    obtain ⟨i1, e1, _, _⟩ := DataW.trod_int h1 x3
    have e0' : V0 k = .int .i64 i0 := by simpa [c0] using e0
    have e1' : V1 k = .int .i64 i1 := by simpa [c1] using e1
    rw [← Nat.add_assoc] at x1
    rw [x0, x1, e0', e1']
    exact ⟨rfl, rfl⟩
end
end Go.Proofs.Ytgpmnkdagpcffaa
