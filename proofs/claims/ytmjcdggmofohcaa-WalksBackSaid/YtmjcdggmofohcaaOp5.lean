/- Walks: tracks and rows among a law's arguments, opened. -/
import Derived.Test.YtmjcdggmofohcaaWlM
import Derived.Test.YtmjcdggmofohcaaFrame
namespace Go.Proofs.Ytmjcdggmofohcaa
open Go.ChangeShapes Go.WideShapes Go.ChangeAt Go.RowKit Go.Joins Go.Deep
theorem cells_int5 : Try.prog.cellsOf 3 = 1 := by kernel_rfl
theorem cells_span5 : Try.prog.cellsOf 24 = 2 := by kernel_rfl
theorem cells_pt5 : Try.prog.cellsOf 28 = 2 := by kernel_rfl
theorem cells_ints5 : Try.prog.cellsOf 35 = 1 := by kernel_rfl
theorem cells_pts5 : Try.prog.cellsOf 22 = 1 := by kernel_rfl
theorem addr_add (b off n : Nat) : (⟨b, off, none⟩ : Addr).add n = ⟨b, off + n, none⟩ := by unfold Addr.add; split <;> simp_all
section
variable {H : Type} {enc : TypeId × Value → H} {w : World} {base : Nat} {spare : Nat → Bool} {held : Bool} {r : Reach} {b0 : Nat} {v : Value} {d : DataW H} {p : List MemPlace}
set_option maxRecDepth 100000 in
theorem trod_span_cells {n : Nat} {c0 c1 : Value} {x : DataW H × List MemPlace} (h : DataW.trod enc Try.prog w base spare held n 24 [c0, c1] = some x) : ∃ a b : Int, c0 = .int .i64 a ∧ c1 = .int .i64 b := by
  obtain ⟨y0, y1, m, hx, _, h0, h1⟩ := trod_struct2 Try.underlying24 h
  obtain ⟨a, e0, rfl, wa⟩ := DataW.trod_int Try.underlying3 (by simpa using h0)
  obtain ⟨b, e1, rfl, wb⟩ := DataW.trod_int Try.underlying3 (by simpa using h1)
  rw [cells_int5] at e0 e1
  exact ⟨a, b, by simpa using e0, by simpa using e1⟩
set_option maxRecDepth 100000 in
theorem trod_pts5 {n : Nat} {c0 : Value} {x : DataW H × List MemPlace} (h : DataW.trod enc Try.prog w base spare held n 22 [c0] = some x) :
    ∃ (A : Option Addr) (c : Nat) (cs : List (Int × Int)), c0 = .slice A cs.length c ∧ Prs w w.heap.size A cs ∧ cs.length ≤ maxLen := by
  rcases open_slice Try.underlying22 h with ⟨e, _⟩ | ⟨a, len, cap, m, n, D, Pl, e, hb, hl, hm, hmm, _, hx⟩
  · obtain rfl : c0 = .slice none 0 0 := by simpa using e
    exact ⟨none, 0, [], rfl, fun h => by simp at h, by simp⟩
  · obtain rfl : c0 = .slice (some a) len cap := by simpa using e
    have hlm : len ≤ m := by rw [hmm]; split <;> omega
    have each : ∀ i, i < m → ∃ q : Int × Int, w.cell? (a.add (i * 2)) = some (.int .i64 q.1) ∧ w.cell? (a.add (i * 2 + 1)) = some (.int .i64 q.2) := by
      intro i hi
      obtain ⟨cs', h1, h2⟩ := hx i hi
      rw [cells_pt5] at h1
      obtain ⟨_, hlen, hcell⟩ := World.cells?_some h1
      match cs', hlen with
      | [v0, v1], _ =>
        obtain ⟨y0, y1, m', hx', _, g0, g1⟩ := trod_struct2 Try.underlying28 h2
        obtain ⟨a0, e0', _, _⟩ := DataW.trod_int Try.underlying3 (by simpa using g0)
        obtain ⟨a1, e1', _, _⟩ := DataW.trod_int Try.underlying3 (by simpa using g1)
        rw [cells_int5] at e0' e1'
        obtain rfl : v0 = .int .i64 a0 := by simpa using e0'
        obtain rfl : v1 = .int .i64 a1 := by simpa using e1'
        have e0 := hcell 0 (by omega)
        have e1 := hcell 1 (by omega)
        rw [Go.Deep.add_add] at e0 e1
        exact ⟨(a0, a1), by simpa using e0, by simpa using e1⟩
    obtain ⟨q, hq⟩ := choose_lt each
    refine ⟨some a, cap, (List.range len).map q, by simp, fun hn => ?_, by simp; omega⟩
    have hn' : 0 < len := by simpa using hn
    have hc0 := (hq 0 (by omega)).1
    have hs := World.cell?_spot hc0
    have hlt := cell_lt hc0
    obtain ⟨b, off, spot⟩ := a
    have hs' : spot = none := by simpa [Addr.add] using hs
    subst hs'
    refine ⟨b, off, rfl, by simpa [addr_add] using hlt, fun k g hk => ?_⟩
    have hkl : k < len := by have := (List.getElem?_eq_some_iff.1 hk).1; simpa using this
    rw [List.getElem?_map, List.getElem?_range hkl] at hk
    obtain rfl : q k = g := by simpa using hk
    obtain ⟨x0, x1⟩ := hq k (by omega)
    rw [addr_add] at x0 x1
    exact ⟨x0, x1⟩
set_option maxRecDepth 100000 in
theorem trod_ints5 {n : Nat} {c0 : Value} {x : DataW H × List MemPlace} (h : DataW.trod enc Try.prog w base spare held n 35 [c0] = some x) :
    ∃ (A : Option Addr) (c : Nat) (cs : List Int), c0 = .slice A cs.length c ∧ (0 < cs.length → Ints w w.heap.size (.slice A cs.length c) cs) ∧ cs.length ≤ maxLen := by
  rcases open_slice Try.underlying35 h with ⟨e, _⟩ | ⟨a, len, cap, m, n, D, Pl, e, hb, hl, hm, hmm, _, hx⟩
  · obtain rfl : c0 = .slice none 0 0 := by simpa using e
    exact ⟨none, 0, [], rfl, fun _ => .inl ⟨rfl, rfl⟩, by simp⟩
  · obtain rfl : c0 = .slice (some a) len cap := by simpa using e
    have hlm : len ≤ m := by rw [hmm]; split <;> omega
    have each : ∀ i, i < m → ∃ q : Int, w.cell? (a.add i) = some (.int .i64 q) := by
      intro i hi
      obtain ⟨cs', h1, h2⟩ := hx i hi
      rw [cells_int5] at h1
      obtain ⟨_, hlen, hcell⟩ := World.cells?_some h1
      match cs', hlen with
      | [v0], _ =>
        obtain ⟨a0, e0', _, _⟩ := DataW.trod_int Try.underlying3 h2
        obtain rfl : v0 = .int .i64 a0 := by simpa using e0'
        have e0 := hcell 0 (by omega)
        rw [Go.Deep.add_add] at e0
        exact ⟨a0, by simpa using e0⟩
    obtain ⟨q, hq⟩ := choose_lt each
    refine ⟨some a, cap, (List.range len).map q, by simp, fun hn => ?_, by simp; omega⟩
    have hn' : 0 < len := by simpa using hn
    have hc0 := hq 0 (by omega)
    have hs := World.cell?_spot hc0
    have hlt := cell_lt hc0
    obtain ⟨b, off, spot⟩ := a
    have hs' : spot = none := by simpa [Addr.add] using hs
    subst hs'
    refine .inr ⟨b, off, cap, by simp, by simpa [addr_add] using hlt, fun k g hk => ?_⟩
    have hkl : k < len := by have := (List.getElem?_eq_some_iff.1 hk).1; simpa using this
    rw [List.getElem?_map, List.getElem?_range hkl] at hk
    obtain rfl : q k = g := by simpa using hk
    have x0 := hq k (by omega)
    rw [addr_add] at x0
    exact x0
set_option maxRecDepth 100000 in
theorem open_Track (hv : Value.okWide Try.prog w r b0 26 v) (h : DataW.Trod enc Try.prog w base spare held 26 v d p) :
    ∃ (t : Wl.Trk) (A : Option Addr) (c : Nat), v = .agg (trV t A c) ∧ Prs w w.heap.size A t.ps ∧ t.ps.length ≤ maxLen := by
  obtain ⟨cs, rfl, hsz⟩ := okWide_struct Try.underlying26 hv
  obtain ⟨l⟩ := cs
  match l, hsz.trans (by kernel_rfl : Try.prog.cellsOf 26 = 4) with
  | [c0, c1, c2, c3], _ =>
    obtain ⟨fuel, hf⟩ := h
    obtain ⟨xs, n, _, hx, _, hlen, hg⟩ := DataW.trod_struct Try.underlying26 hf
    match xs, hlen with
    | [y0, y1, y2], _ =>
      have g0 := hg 0 _ rfl
      have g1 := hg 1 _ rfl
      have g2 := hg 2 _ rfl
      simp [Value.cells, cells_int5, cells_span5, cells_pts5] at g0 g1 g2
      obtain ⟨A, c, l, rfl, hC, hl⟩ := trod_pts5 g0
      obtain ⟨cl, e1, rfl, _⟩ := DataW.trod_int Try.underlying3 g1
      obtain ⟨lo, hi, rfl, rfl⟩ := trod_span_cells g2
      simp at e1
      subst e1
      exact ⟨⟨l, cl, lo, hi⟩, A, c, rfl, hC, hl⟩
end
end Go.Proofs.Ytmjcdggmofohcaa
