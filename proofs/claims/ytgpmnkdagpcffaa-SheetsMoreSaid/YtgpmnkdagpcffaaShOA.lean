/- Sheets among a law's arguments, opened: the value written out, the controls as a list. -/
import Derived.Test.YtgpmnkdagpcffaaShY
import Derived.Test.YtgpmnkdagpcffaaFrame
import Derived.Test.YtgpmnkdagpcffaaEqual
namespace Go.Proofs.Ytgpmnkdagpcffaa
open Go.ChangeShapes Go.WideShapes Go.ChangeAt Go.RowKit Go.Joins Go.Deep
theorem cells_int4 : Try.prog.cellsOf 3 = 1 := by kernel_rfl
theorem cells_span4 : Try.prog.cellsOf 23 = 2 := by kernel_rfl
theorem cells_ctl4 : Try.prog.cellsOf 29 = 4 := by kernel_rfl
theorem cells_ctls4 : Try.prog.cellsOf 24 = 1 := by kernel_rfl
section
variable {H : Type} {enc : TypeId × Value → H} {w : World} {base : Nat} {spare : Nat → Bool} {held : Bool} {r : Reach} {b0 : Nat} {v : Value} {d : DataW H} {p : List MemPlace}
set_option maxRecDepth 100000 in
theorem trod_span_cells {n : Nat} {c0 c1 : Value} {x : DataW H × List MemPlace} (h : DataW.trod enc Try.prog w base spare held n 23 [c0, c1] = some x) : ∃ a b : Int, c0 = .int .i64 a ∧ c1 = .int .i64 b := by
  obtain ⟨y0, y1, m, hx, _, h0, h1⟩ := trod_struct2 Try.underlying23 h
  obtain ⟨a, e0, rfl, wa⟩ := DataW.trod_int Try.underlying3 (by simpa using h0)
  obtain ⟨b, e1, rfl, wb⟩ := DataW.trod_int Try.underlying3 (by simpa using h1)
  rw [cells_int4] at e0 e1
  exact ⟨a, b, by simpa using e0, by simpa using e1⟩
set_option maxRecDepth 100000 in
theorem trod_ctl_cells {n : Nat} {c0 c1 c2 c3 : Value} {x : DataW H × List MemPlace} (h : DataW.trod enc Try.prog w base spare held n 29 [c0, c1, c2, c3] = some x) : ∃ q : Sh.Ct, c0 = .int .i64 q.1 ∧ c1 = .int .i64 q.2.1 ∧ c2 = .int .i64 q.2.2.1 ∧ c3 = .int .i64 q.2.2.2 := by
  obtain ⟨xs, n, _, hx, _, hlen, hg⟩ := DataW.trod_struct Try.underlying29 h
  match xs, hlen with
  | [y0, y1, y2, y3], _ =>
    have g0 := hg 0 _ rfl
    have g1 := hg 1 _ rfl
    have g2 := hg 2 _ rfl
    have g3 := hg 3 _ rfl
    simp [cells_int4] at g0 g1 g2 g3
    obtain ⟨a, e0, _, _⟩ := DataW.trod_int Try.underlying3 g0
    obtain ⟨b, e1, _, _⟩ := DataW.trod_int Try.underlying3 g1
    obtain ⟨c, e2, _, _⟩ := DataW.trod_int Try.underlying3 g2
    obtain ⟨d, e3, _, _⟩ := DataW.trod_int Try.underlying3 g3
    simp at e0 e1 e2 e3
    exact ⟨(a, b, c, d), e0, e1, e2, e3⟩
set_option maxRecDepth 100000 in
theorem trod_ctls {n : Nat} {c0 : Value} {x : DataW H × List MemPlace} (h : DataW.trod enc Try.prog w base spare held n 24 [c0] = some x) :
    ∃ (A : Option Addr) (c : Nat) (cs : List Sh.Ct), c0 = .slice A cs.length c ∧ Cts w w.heap.size A cs ∧ cs.length ≤ maxLen := by
  rcases open_slice Try.underlying24 h with ⟨e, _⟩ | ⟨a, len, cap, m, n, D, Pl, e, hb, hl, hm, hmm, _, hx⟩
  · obtain rfl : c0 = .slice none 0 0 := by simpa using e
    exact ⟨none, 0, [], rfl, fun h => by simp at h, by simp⟩
  · obtain rfl : c0 = .slice (some a) len cap := by simpa using e
    have hlm : len ≤ m := by rw [hmm]; split <;> omega
    have each : ∀ i, i < m → ∃ q : Sh.Ct, w.cell? (a.add (i * 4)) = some (.int .i64 q.1) ∧ w.cell? (a.add (i * 4 + 1)) = some (.int .i64 q.2.1) ∧ w.cell? (a.add (i * 4 + 2)) = some (.int .i64 q.2.2.1) ∧ w.cell? (a.add (i * 4 + 3)) = some (.int .i64 q.2.2.2) := by
      intro i hi
      obtain ⟨cs', h1, h2⟩ := hx i hi
      rw [cells_ctl4] at h1
      obtain ⟨_, hlen, hcell⟩ := World.cells?_some h1
      match cs', hlen with
      | [v0, v1, v2, v3], _ =>
        obtain ⟨q, rfl, rfl, rfl, rfl⟩ := trod_ctl_cells h2
        have e0 := hcell 0 (by omega)
        have e1 := hcell 1 (by omega)
        have e2 := hcell 2 (by omega)
        have e3 := hcell 3 (by omega)
        rw [Go.Deep.add_add] at e0 e1 e2 e3
        exact ⟨q, by simpa using e0, by simpa using e1, by simpa using e2, by simpa using e3⟩
    obtain ⟨q, hq⟩ := choose_lt each
    refine ⟨some a, cap, (List.range len).map q, by simp, fun hn => ?_, by simp; omega⟩
    have hn' : 0 < len := by simpa using hn
    have hc0 := (hq 0 (by omega)).1
    have hs := World.cell?_spot hc0
    have hlt := cell_lt hc0
    obtain ⟨b, off, spot⟩ := a
    have hs' : spot = none := by simpa [Addr.add] using hs
    subst hs'
    refine ⟨b, off, rfl, by simpa [addr_add] using hlt, fun k hk => ?_⟩
    have hkl : k < len := by simpa using hk
    have hg : Sh.ctAt ((List.range len).map q) k = q k := by
      unfold Sh.ctAt
      rw [List.getElem?_map, List.getElem?_range hkl]
      rfl
    rw [hg]
    obtain ⟨x0, x1, x2, x3⟩ := hq k (by omega)
    rw [addr_add] at x0 x1 x2 x3
    exact ⟨x0, x1, x2, x3⟩
set_option maxRecDepth 100000 in
theorem open_Sheet (hv : Value.okWide Try.prog w r b0 26 v) (h : DataW.Trod enc Try.prog w base spare held 26 v d p) :
    ∃ (s : Sheet) (A : Option Addr) (c : Nat), v = .agg (shV s A c) ∧ Cts w w.heap.size A s.cs ∧ s.cs.length ≤ maxLen := by
  obtain ⟨cs, rfl, hsz⟩ := okWide_struct Try.underlying26 hv
  obtain ⟨l⟩ := cs
  match l, hsz.trans (by kernel_rfl : Try.prog.cellsOf 26 = 6) with
  | [c0, c1, c2, c3, c4, c5], _ =>
    obtain ⟨fuel, hf⟩ := h
    obtain ⟨xs, n, _, hx, _, hlen, hg⟩ := DataW.trod_struct Try.underlying26 hf
    match xs, hlen with
    | [y0, y1, y2, y3], _ =>
      have g0 := hg 0 _ rfl
      have g1 := hg 1 _ rfl
      have g2 := hg 2 _ rfl
      have g3 := hg 3 _ rfl
      simp [Value.cells, cells_int4, cells_span4, cells_ctls4] at g0 g1 g2 g3
      obtain ⟨al, ah, rfl, rfl⟩ := trod_span_cells g0
      obtain ⟨bl, bh, rfl, rfl⟩ := trod_span_cells g1
      obtain ⟨A, c, l, rfl, hC, hl⟩ := trod_ctls g2
      obtain ⟨wr, e3, rfl, _⟩ := DataW.trod_int Try.underlying3 g3
      simp at e3
      subst e3
      exact ⟨⟨al, ah, bl, bh, l, wr⟩, A, c, rfl, hC, hl⟩
end
end Go.Proofs.Ytgpmnkdagpcffaa

namespace Go.Proofs.Ytgpmnkdagpcffaa
open Go.RowKit
namespace Sh
theorem ok_mk {s : Sheet} (h : Ok s) : okB s = true := by
  unfold okB headB spanB inB
  have h1 := h.a1
  have h2 := h.a2
  have h3 := h.a3
  have h4 := h.b1
  have h5 := h.b2
  have h6 := h.b3
  have h7 := h.n
  have h8 := h.w1
  have h9 := h.w2
  have h10 := (allTo_iff s.cs s.cs.length).2 h.c
  simp only [Bool.and_eq_true, decide_eq_true_eq]
  exact ⟨⟨⟨⟨⟨⟨h1, h2⟩, h3⟩, ⟨h4, h5⟩, h6⟩, h7⟩, h8, h9⟩, h10⟩
def oneS (s : Sheet) (f : Fa) : Sheet := ⟨f.1, f.1, f.2, f.2, s.cs, s.wr⟩
theorem truth_parts {s : Sheet} {f : Fa} (h : truthB s f = true) : ((s.al ≤ f.1 ∧ f.1 ≤ s.ah) ∧ s.bl ≤ f.2 ∧ f.2 ≤ s.bh) ∧ (wrongN f s.cs : Int) ≤ s.wr := by
  unfold truthB inB at h
  simp only [Bool.and_eq_true, decide_eq_true_eq] at h
  exact h
theorem one_ok {s : Sheet} {f : Fa} (hs : Ok s) (h : truthB s f = true) : Ok (oneS s f) := by
  obtain ⟨⟨⟨h1, h2⟩, h3, h4⟩, h5⟩ := truth_parts h
  have := hs.a1
  have := hs.a3
  have := hs.b1
  have := hs.b3
  exact ⟨by show 900 ≤ f.1; omega, Int.le_refl _, by show f.1 ≤ 1100; omega, by show 900 ≤ f.2; omega, Int.le_refl _, by show f.2 ≤ 1100; omega, hs.n, hs.c, hs.w1, hs.w2⟩
theorem one_fsm {s : Sheet} {f : Fa} (hs : Ok s) (h : truthB s f = true) : fsm f := by
  obtain ⟨⟨⟨h1, h2⟩, h3, h4⟩, h5⟩ := truth_parts h
  have := hs.a1
  have := hs.a3
  have := hs.b1
  have := hs.b3
  unfold fsm
  omega
theorem one_truths {s : Sheet} {f : Fa} (hs : Ok s) (h : truthB s f = true) : truthsL (oneS s f) = [faOf f] := by
  have hf := one_fsm hs h
  have h1 : na (oneS s f) = 1 := by unfold na oneS; dsimp only; omega
  have h2 : nb (oneS s f) = 1 := by unfold nb oneS; dsimp only; omega
  have hc : casesL (oneS s f) = [faOf f] := by
    unfold casesL
    rw [h1, casesTo_succ, h2, rowTo_succ]
    unfold casesTo rowTo oneS
    simp
  unfold truthsL
  rw [hc]
  have ht : trB (oneS s f) (faOf f) = true := by
    unfold trB
    rw [faOf_val hf]
    exact decide_eq_true (truth_parts h).2
  simp [ht]
theorem one_sp {s : Sheet} {f : Fa} (hs : Ok s) (h : truthB s f = true) : spE (oneS s f) = 0 := sp_yes (ok_mk (one_ok hs h)) (by rw [one_truths hs h]; simp)
theorem one_many {s : Sheet} {f : Fa} (hs : Ok s) (h : truthB s f = true) : manyV (oneS s f) = 1 := by unfold manyV; rw [if_pos (one_sp hs h), one_truths hs h]; rfl
theorem one_known {s : Sheet} {f : Fa} (hs : Ok s) (h : truthB s f = true) (b : FaS → Bool) : knownV b (truthsL (oneS s f)) = 1 ∨ knownV b (truthsL (oneS s f)) = 2 := by
  rw [one_truths hs h]
  unfold knownV
  cases e : b (faOf f) <;> simp [e]
theorem one_area {s : Sheet} {f : Fa} (hs : Ok s) (h : truthB s f = true) {t : Int} (ht : -80000000 ≤ t ∧ t ≤ 80000000) :
    let lo := areaLo (oneS s f) t
    let hi := areaHi (oneS s f) t
    (0 ≤ lo ∧ lo ≤ hi ∧ hi < 1073741824 ∧ hi - lo ≤ 1) ∧ lo * (f.1 * f.2) ≤ areaN t ∧ areaN t ≤ hi * (f.1 * f.2) ∧ (810000 ≤ f.1 * f.2 ∧ f.1 * f.2 ≤ 1210000) := by
  have hf := one_fsm hs h
  have hN := areaN_bd ht
  obtain ⟨⟨⟨h1, h2⟩, h3, h4⟩, h5⟩ := truth_parts h
  have q1 := hs.a1
  have q2 := hs.a3
  have q3 := hs.b1
  have q4 := hs.b3
  have hD1 : 810000 ≤ f.1 * f.2 := by
    have : 900 * 900 ≤ f.1 * f.2 := Int.mul_le_mul (by omega) (by omega) (by omega) (by omega)
    omega
  have hD2 : f.1 * f.2 ≤ 1210000 := by
    have : f.1 * f.2 ≤ 1100 * 1100 := Int.mul_le_mul (by omega) (by omega) (by omega) (by omega)
    omega
  have hl : areaLo (oneS s f) t = lowS 9223372036854775807 ((areaN t).tdiv (f.1 * f.2)) := by
    unfold areaLo lowF areaD
    rw [one_truths hs h]
    simp [faOf_val hf]
  have hh : areaHi (oneS s f) t = highS 0 ((areaN t + f.1 * f.2 - 1).tdiv (f.1 * f.2)) := by
    unfold areaHi highF areaD
    rw [one_truths hs h]
    simp [faOf_val hf]
  intro lo hi
  have hlo : lo = lowS 9223372036854775807 ((areaN t).tdiv (f.1 * f.2)) := hl
  have hhi : hi = highS 0 ((areaN t + f.1 * f.2 - 1).tdiv (f.1 * f.2)) := hh
  generalize areaN t = N at *
  generalize f.1 * f.2 = D at *
  clear_value lo hi
  clear hl hh
  rw [Int.tdiv_eq_ediv_of_nonneg (by omega)] at hlo hhi
  have a1 := Int.mul_ediv_add_emod N D
  have a2 := Int.emod_nonneg N (show D ≠ 0 by omega)
  have a3 := Int.emod_lt_of_pos N (show 0 < D by omega)
  have b1 := Int.mul_ediv_add_emod (N + D - 1) D
  have b2 := Int.emod_nonneg (N + D - 1) (show D ≠ 0 by omega)
  have b3 := Int.emod_lt_of_pos (N + D - 1) (show 0 < D by omega)
  generalize N / D = x at *
  generalize (N + D - 1) / D = y at *
  generalize N % D = u at *
  generalize (N + D - 1) % D = v at *
  have hx0 : 0 ≤ x := by
    rcases Int.lt_or_le x 0 with hx | hx
    · have : D * x ≤ D * (-1) := Int.mul_le_mul_of_nonneg_left (by omega) (by omega)
      omega
    · exact hx
  have hx1 : x ≤ 1000000000 := by
    rcases Int.lt_or_le 1000000000 x with hx | hx
    · have : D * 1000000000 ≤ D * x := Int.mul_le_mul_of_nonneg_left (by omega) (by omega)
      omega
    · exact hx
  have hxy : x ≤ y := by
    rcases Int.lt_or_le y x with hx | hx
    · have : D * (y + 1) ≤ D * x := Int.mul_le_mul_of_nonneg_left (by omega) (by omega)
      rw [Int.mul_add] at this
      omega
    · exact hx
  have hyx : y ≤ x + 1 := by
    rcases Int.lt_or_le (x + 1) y with hx | hx
    · have : D * (x + 2) ≤ D * y := Int.mul_le_mul_of_nonneg_left (by omega) (by omega)
      rw [Int.mul_add] at this
      omega
    · exact hx
  have e1 : lo = x := by rw [hlo]; unfold lowS; rw [if_pos (by omega)]
  have e2 : hi = y := by rw [hhi]; unfold highS; split <;> omega
  rw [e1, e2, Int.mul_comm x D, Int.mul_comm y D]
  refine ⟨by omega, by omega, by omega, by omega⟩
end Sh
theorem boxS8 {W : World} {B : Nat} {t : TypeId} {a b c d e f g h : Value} (H : BoxS W B t #[a, b, c, d, e, f, g, h]) : (W.cell? ⟨B, 0, none⟩ = some a ∧ W.cell? ⟨B, 1, none⟩ = some b) ∧ W.cell? ⟨B, 2, none⟩ = some c ∧ W.cell? ⟨B, 3, none⟩ = some d := ⟨⟨H.cell 0 rfl, H.cell 1 rfl⟩, H.cell 2 rfl, H.cell 3 rfl⟩
namespace Sh
theorem area_abs (t : Int) : areaN t = absV t * 1000000 := by unfold areaN dist absV; omega
end Sh
def TruePost (w : World) (e : Ending) (w' : World) : Prop := e = .returned (.bool true) ∧ Below w.heap.size w w'
end Go.Proofs.Ytgpmnkdagpcffaa
