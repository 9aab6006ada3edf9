/- Walks: structs of rows of numbers among a law's arguments, opened. -/
import Derived.Test.YtmjcdggmofohcaaOp5
namespace Go.Proofs.Ytmjcdggmofohcaa
open Go.ChangeShapes Go.WideShapes Go.ChangeAt Go.RowKit Go.Joins Go.Deep
section
variable {H : Type} {enc : TypeId × Value → H} {w : World} {base : Nat} {spare : Nat → Bool} {held : Bool} {r : Reach} {b0 : Nat} {v : Value} {d : DataW H} {p : List MemPlace}
set_option maxRecDepth 100000 in
theorem open_Ints5 (hv : Value.okWide Try.prog w r b0 35 v) (h : DataW.Trod enc Try.prog w base spare held 35 v d p) :
    ∃ (A : Option Addr) (c : Nat) (cs : List Int), v = .slice A cs.length c ∧ (0 < cs.length → Ints w w.heap.size (.slice A cs.length c) cs) ∧ cs.length ≤ maxLen := by
  obtain ⟨A, len, cap, rfl⟩ := okWide_slice Try.underlying35 hv
  obtain ⟨fuel, hf⟩ := h
  exact trod_ints5 hf
set_option maxRecDepth 100000 in
theorem open_Two5 (hv : Value.okWide Try.prog w r b0 48 v) (h : DataW.Trod enc Try.prog w base spare held 48 v d p) :
    ∃ (A : Option Addr) (c : Nat) (es : List Int) (B : Option Addr) (e : Nat) (fs : List Int), v = .agg #[.slice A es.length c, .slice B fs.length e] ∧ (0 < es.length → Ints w w.heap.size (.slice A es.length c) es) ∧ (0 < fs.length → Ints w w.heap.size (.slice B fs.length e) fs) ∧ es.length ≤ maxLen ∧ fs.length ≤ maxLen := by
  obtain ⟨cs, rfl, hsz⟩ := okWide_struct Try.underlying48 hv
  obtain ⟨l⟩ := cs
  match l, hsz.trans (by kernel_rfl : Try.prog.cellsOf 48 = 2) with
  | [c0, c1], _ =>
    obtain ⟨fuel, hf⟩ := h
    obtain ⟨xs, n, _, hx, _, hlen, hg⟩ := DataW.trod_struct Try.underlying48 hf
    match xs, hlen with
    | [y0, y1], _ =>
      have g0 := hg 0 _ rfl
      have g1 := hg 1 _ rfl
      simp [Value.cells, cells_ints5] at g0 g1
      obtain ⟨A, c, es, rfl, h1, h2⟩ := trod_ints5 g0
      obtain ⟨B, e, fs, rfl, h3, h4⟩ := trod_ints5 g1
      exact ⟨A, c, es, B, e, fs, rfl, h1, h3, h2, h4⟩
end
end Go.Proofs.Ytmjcdggmofohcaa
