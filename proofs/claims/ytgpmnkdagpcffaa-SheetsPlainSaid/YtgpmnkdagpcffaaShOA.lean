/- Sheets among a law's arguments, opened: the value written out, the controls as a list. -/
import Derived.Test.YtgpmnkdagpcffaaShY
import Derived.Test.YtgpmnkdagpcffaaFrame
namespace Go.Proofs.Ytgpmnkdagpcffaa
open Go.ChangeShapes Go.WideShapes Go.ChangeAt Go.RowKit Go.Joins Go.Deep
theorem cells_int4 : Try.prog.cellsOf 3 = 1 := by kernel_rfl
theorem cells_span4 : Try.prog.cellsOf 23 = 2 := by kernel_rfl
theorem cells_ctl4 : Try.prog.cellsOf 29 = 4 := by kernel_rfl
theorem cells_ctls4 : Try.prog.cellsOf 24 = 1 := by kernel_rfl
section
variable {H : Type} {enc : TypeId × Value → H} {w : World} {base : Nat} {spare : Nat → Bool} {held : Bool} {r : Reach} {b0 : Nat} {v : Value} {d : DataW H} {p : List MemPlace}
set_option maxRecDepth 100000 in
theorem trod_span_cells {n : Nat} {c0 c1 : Value} {x : DataW H × List MemPlace} (h : DataW.trod enc Try.prog w base spare held n 23 [c0, c1] = some x) : ∃ a b : Int, c0 = .int .i64 a ∧ c1 = .int .i64 b := by
  obtain ⟨y0, y1, m, hx, _, h0, h1⟩ := trod_struct2 Try.underlying23 h
  obtain ⟨a, e0, rfl, wa⟩ := DataW.trod_int Try.underlying3 (by simpa using h0)
  obtain ⟨b, e1, rfl, wb⟩ := DataW.trod_int Try.underlying3 (by simpa using h1)
  rw [cells_int4] at e0 e1
  exact ⟨a, b, by simpa using e0, by simpa using e1⟩
set_option maxRecDepth 100000 in
theorem trod_ctl_cells {n : Nat} {c0 c1 c2 c3 : Value} {x : DataW H × List MemPlace} (h : DataW.trod enc Try.prog w base spare held n 29 [c0, c1, c2, c3] = some x) : ∃ q : Sh.Ct, c0 = .int .i64 q.1 ∧ c1 = .int .i64 q.2.1 ∧ c2 = .int .i64 q.2.2.1 ∧ c3 = .int .i64 q.2.2.2 := by
  obtain ⟨xs, n, _, hx, _, hlen, hg⟩ := DataW.trod_struct Try.underlying29 h
  match xs, hlen with
  | [y0, y1, y2, y3], _ =>
    have g0 := hg 0 _ rfl
    have g1 := hg 1 _ rfl
    have g2 := hg 2 _ rfl
    have g3 := hg 3 _ rfl
    simp [cells_int4] at g0 g1 g2 g3
    obtain ⟨a, e0, _, _⟩ := DataW.trod_int Try.underlying3 g0
    obtain ⟨b, e1, _, _⟩ := DataW.trod_int Try.underlying3 g1
    obtain ⟨c, e2, _, _⟩ := DataW.trod_int Try.underlying3 g2
    obtain ⟨d, e3, _, _⟩ := DataW.trod_int Try.underlying3 g3
    simp at e0 e1 e2 e3
    exact ⟨(a, b, c, d), e0, e1, e2, e3⟩
set_option maxRecDepth 100000 in
theorem trod_ctls {n : Nat} {c0 : Value} {x : DataW H × List MemPlace} (h : DataW.trod enc Try.prog w base spare held n 24 [c0] = some x) :
    ∃ (A : Option Addr) (c : Nat) (cs : List Sh.Ct), c0 = .slice A cs.length c ∧ Cts w w.heap.size A cs ∧ cs.length ≤ maxLen := by
  rcases open_slice Try.underlying24 h with ⟨e, _⟩ | ⟨a, len, cap, m, n, D, Pl, e, hb, hl, hm, hmm, _, hx⟩
  · obtain rfl : c0 = .slice none 0 0 := by simpa using e
    exact ⟨none, 0, [], rfl, fun h => by simp at h, by simp⟩
  · obtain rfl : c0 = .slice (some a) len cap := by simpa using e
    have hlm : len ≤ m := by rw [hmm]; split <;> omega
    have each : ∀ i, i < m → ∃ q : Sh.Ct, w.cell? (a.add (i * 4)) = some (.int .i64 q.1) ∧ w.cell? (a.add (i * 4 + 1)) = some (.int .i64 q.2.1) ∧ w.cell? (a.add (i * 4 + 2)) = some (.int .i64 q.2.2.1) ∧ w.cell? (a.add (i * 4 + 3)) = some (.int .i64 q.2.2.2) := by
      intro i hi
      obtain ⟨cs', h1, h2⟩ := hx i hi
      rw [cells_ctl4] at h1
      obtain ⟨_, hlen, hcell⟩ := World.cells?_some h1
      match cs', hlen with
      | [v0, v1, v2, v3], _ =>
        obtain ⟨q, rfl, rfl, rfl, rfl⟩ := trod_ctl_cells h2
        have e0 := hcell 0 (by omega)
        have e1 := hcell 1 (by omega)
        have e2 := hcell 2 (by omega)
        have e3 := hcell 3 (by omega)
        rw [Go.Deep.add_add] at e0 e1 e2 e3
        exact ⟨q, by simpa using e0, by simpa using e1, by simpa using e2, by simpa using e3⟩
    obtain ⟨q, hq⟩ := choose_lt each
    refine ⟨some a, cap, (List.range len).map q, by simp, fun hn => ?_, by simp; omega⟩
    have hn' : 0 < len := by simpa using hn
    have hc0 := (hq 0 (by omega)).1
    have hs := World.cell?_spot hc0
    have hlt := cell_lt hc0
    obtain ⟨b, off, spot⟩ := a
    have hs' : spot = none := by simpa [Addr.add] using hs
    subst hs'
    refine ⟨b, off, rfl, by simpa [addr_add] using hlt, fun k hk => ?_⟩
    have hkl : k < len := by simpa using hk
    have hg : Sh.ctAt ((List.range len).map q) k = q k := by
      unfold Sh.ctAt
      rw [List.getElem?_map, List.getElem?_range hkl]
      rfl
    rw [hg]
    obtain ⟨x0, x1, x2, x3⟩ := hq k (by omega)
    rw [addr_add] at x0 x1 x2 x3
    exact ⟨x0, x1, x2, x3⟩
set_option maxRecDepth 100000 in
theorem open_Sheet (hv : Value.okWide Try.prog w r b0 26 v) (h : DataW.Trod enc Try.prog w base spare held 26 v d p) :
    ∃ (s : Sheet) (A : Option Addr) (c : Nat), v = .agg (shV s A c) ∧ Cts w w.heap.size A s.cs ∧ s.cs.length ≤ maxLen := by
  obtain ⟨cs, rfl, hsz⟩ := okWide_struct Try.underlying26 hv
  obtain ⟨l⟩ := cs
  match l, hsz.trans (by kernel_rfl : Try.prog.cellsOf 26 = 6) with
  | [c0, c1, c2, c3, c4, c5], _ =>
    obtain ⟨fuel, hf⟩ := h
    obtain ⟨xs, n, _, hx, _, hlen, hg⟩ := DataW.trod_struct Try.underlying26 hf
    match xs, hlen with
    | [y0, y1, y2, y3], _ =>
      have g0 := hg 0 _ rfl
      have g1 := hg 1 _ rfl
      have g2 := hg 2 _ rfl
      have g3 := hg 3 _ rfl
      simp [Value.cells, cells_int4, cells_span4, cells_ctls4] at g0 g1 g2 g3
      obtain ⟨al, ah, rfl, rfl⟩ := trod_span_cells g0
      obtain ⟨bl, bh, rfl, rfl⟩ := trod_span_cells g1
      obtain ⟨A, c, l, rfl, hC, hl⟩ := trod_ctls g2
      obtain ⟨wr, e3, rfl, _⟩ := DataW.trod_int Try.underlying3 g3
      simp at e3
      subst e3
      exact ⟨⟨al, ah, bl, bh, l, wr⟩, A, c, rfl, hC, hl⟩
end
end Go.Proofs.Ytgpmnkdagpcffaa
